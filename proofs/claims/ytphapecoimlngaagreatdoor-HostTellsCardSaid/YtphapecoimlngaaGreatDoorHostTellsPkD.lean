/-
  What the law HostTells leans on, and its walk (4 of 18).
-/
import Derived.Lib.Strings
import Derived.Test.YtphapecoimlngaaGreatDoorHostTellsPkC
import Derived.Test.YtphapecoimlngaaGreatDoorHostTellsPkA
namespace Go.Proofs.YtphapecoimlngaaGreatDoor
set_option maxRecDepth 100000
set_option maxHeartbeats 16000000
section
open Go.RowKit
def badL : List UInt8 := [34, 35, 37, 47, 58, 60, 62, 63, 64, 91, 92, 93, 94, 96, 123, 124, 125]
def zhE (c : UInt8) : Bool := decide (33 ≤ c.toNat ∧ c.toNat ≤ 126) && !hasB badL c
def zaT (l : List UInt8) : List (List UInt8) := (zaE l).take (zgE (zaE l))
def zgH (l : List UInt8) : Nat := if l.getLast? = some 46 then l.length - 1 else l.length
def zfQ (w : List UInt8) : Bool := decide (1 ≤ w.length ∧ w.length ≤ 63)
def zgO (w : List UInt8) : Bool := Lib.hasPrefix w [120, 110, 45, 45]
def zfC (l : List UInt8) : Bool := decide (zgH l ≤ 253) && (zaT l).all zfQ
def zgA (l : List UInt8) : Bool := l.all zhE
def zdY (l : List UInt8) : Bool := l.all fun c => decide (c.toNat < 128)
def ztE (l : List UInt8) : Int := if (zfC l && zgA l) = false then 6 else if (zaT l).any zgO = true then 7 else 0
def ziE (l : List UInt8) : Int := if zdY l = false then 7 else ztE (zbO l)
def zbS (l : List UInt8) : List UInt8 × Int := if ziE l = 0 then (zbO l, 0) else ([], ziE l)
def znT (n m : List UInt8) : Bool := decide ((zaT m).length < (zaT n).length) && (zaT m).any (fun w => !w.isEmpty) && (zaT n).drop ((zaT n).length - (zaT m).length) == zaT m
theorem zyC (r : List UInt8) (c : UInt8) : Lib.hasSuffix r [c] = decide (r.getLast? = some c) := by
 rw [Bool.eq_iff_iff, decide_eq_true_iff]
 unfold Lib.hasSuffix
 rw [List.isSuffixOf_iff_suffix, List.getLast?_eq_some_iff]
 exact ⟨fun ⟨t, h⟩ => ⟨t, h.symm⟩, fun ⟨t, h⟩ => ⟨t, h.symm⟩⟩
theorem zlE (r : List UInt8) (c : UInt8) : Lib.trimSuffix r [c] = if r.getLast? = some c then r.dropLast else r := by
 unfold Lib.trimSuffix
 rw [zyC]
 simp [List.dropLast_eq_take]
theorem z4W (l : List UInt8) : (Lib.trimSuffix l [46]).length = zgH l := by
 rw [zlE]
 unfold zgH
 split <;> simp
theorem zsS (p : UInt8 → Bool) (h : ∀ n : Fin 256, p (UInt8.ofNat n.val) = true) (c : UInt8) : p c = true := by
 have := h ⟨c.toNat, c.toNat_lt⟩
 rwa [show UInt8.ofNat c.toNat = c from by simp] at this
theorem ybT (c : UInt8) : lowC (lowC c) = lowC c := by simpa using zsS (fun c => lowC (lowC c) == lowC c) (by decide +kernel) c
theorem z4F (c : UInt8) (h : c.toNat < 128) : (lowC c).toNat < 128 := by
 have := zsS (fun c => !decide (c.toNat < 128) || decide ((lowC c).toNat < 128)) (by decide +kernel) c
 simpa [h] using this
theorem zvN (c : UInt8) (h : zhE c = true) : c.toNat < 128 ∧ c.toNat ≠ 37 ∧ c.toNat ≠ 91 := by
 have := zsS (fun c => !zhE c || (decide (c.toNat < 128) && (decide (c.toNat ≠ 37) && decide (c.toNat ≠ 91)))) (by decide +kernel) c
 simpa [h] using this
theorem zkM (a b : List UInt8) : zbO (a ++ b) = zbO a ++ zbO b := by simp [zbO]
theorem znP (l : List UInt8) : zbO (zbO l) = zbO l := by simp [zbO, ybT]
theorem zmM {l : List UInt8} : zdY l = true ↔ ∀ c ∈ l, c.toNat < 128 := by simp [zdY]
theorem zuV {l : List UInt8} (h : zdY l = true) : zdY (zbO l) = true := by
 rw [zmM] at *
 intro c hc
 obtain ⟨d, hd, rfl⟩ := List.mem_map.1 hc
 exact z4F d (h d hd)
/-- what is a name: its text in small letters, and that is one -/
structure zcS (n : List UInt8) : Prop where
 low : zbO n = n
 size : zgH n ≤ 253
 lab : ∀ w ∈ zaT n, 1 ≤ w.length ∧ w.length ≤ 63
 sign : ∀ c ∈ n, zhE c = true
 code : ∀ w ∈ zaT n, zgO w = false
theorem zyB {l : List UInt8} (hl : zbO l = l) : ztE l = 0 ↔ zcS l := by
 unfold ztE zfC zgA
 constructor
 ·intro h
  split at h
  ·cases h
  ·rename_i h1
   split at h
   ·cases h
   ·rename_i h2
    simp [zfQ] at h1 h2
    exact ⟨hl, h1.1, fun w hw => h1.2.1 w hw, h1.2.2, h2⟩
 ·intro h
  rw [if_neg, if_neg]
  ·simpa using h.code
  ·have h1 : (zaT l).all zfQ = true := List.all_eq_true.2 fun w hw => decide_eq_true (h.lab w hw)
   have h2 : l.all zhE = true := List.all_eq_true.2 h.sign
   rw [h1, h2, decide_eq_true h.size]
   simp
theorem zcS.plain {n : List UInt8} (h : zcS n) : zdY n = true := zmM.2 fun c hc => (zvN c (h.sign c hc)).1
theorem z4M {l : List UInt8} (hp : zdY l = true) (h : zcS (zbO l)) : ziE l = 0 := by
 unfold ziE
 rw [if_neg (by simp [hp]), (zyB (znP l)).2 h]
theorem z4C {l : List UInt8} (h : ziE l = 0) : zdY l = true ∧ zcS (zbO l) := by
 unfold ziE at h
 cases hp : zdY l with
 | false => rw [hp] at h; cases h
 | true => rw [hp] at h; exact ⟨rfl, (zyB (znP l)).1 h⟩
theorem z1W {l n : List UInt8} (hp : zdY l = true) (e : zbO l = n) (h : zcS n) : zbS l = (n, 0) := by
 subst e
 unfold zbS
 rw [if_pos (z4M hp h)]
theorem zcS.canon {n : List UInt8} (h : zcS n) : zbS n = (n, 0) := z1W h.plain h.low h
theorem zsO {l : List UInt8} (h : (zbS l).2 = 0) : zbS l = (zbO l, 0) ∧ zcS (zbO l) := by
 unfold zbS at *
 split at h
 ·rename_i h0
  rw [if_pos h0]
  exact ⟨rfl, (z4C h0).2⟩
 ·rename_i h0
  exact absurd h h0
theorem zyY {l : List UInt8} (h : (zbS l).2 = 0) : zcS (zbS l).1 := by
 have := zsO h
 rw [this.1]
 exact this.2
theorem z1V {l : List UInt8} (h : (zbS l).2 ≠ 0) : (zbS l).1 = [] := by
 unfold zbS at *
 split
 ·rename_i h0; rw [if_pos h0] at h; exact absurd rfl h
 ·rfl
theorem zoH {l n : List UInt8} {e : Int} (h : zbS l = (n, e)) : n.length ≤ l.length := by
 by_cases h0 : e = 0
 ·have := (zsO (l := l) (by rw [h]; exact h0)).1
  rw [h] at this
  injection this with h1 _
  rw [h1, zjM]
  exact Nat.le_refl _
 ·have := z1V (l := l) (by rw [h]; exact h0)
  rw [h] at this
  rw [show n = [] from this]
  exact Nat.zero_le _
theorem z8U (l : List UInt8) : (zbS l).2 = 0 ∨ (zbS l).2 = 6 ∨ (zbS l).2 = 7 := by
 unfold zbS ziE ztE
 repeat' split
 all_goals simp_all
theorem zjD (l : List UInt8) : 0 < (zaE l).length := by simp [zaE, splitB]
theorem z6A {ps : List (List UInt8)} (h : 0 < ps.length) : 0 < zgE ps := by unfold zgE; split <;> omega
theorem zzK (l : List UInt8) : 0 < (zaT l).length := by
 unfold zaT
 rw [List.length_take]
 have := zjD l
 have := z6A this
 omega
theorem zwW (a b : List UInt8) : zaE (a ++ [46] ++ b) = zaE a ++ zaE b := by
 have e : spl (hasB [46]) (a ++ [46] ++ b) = (zaE a ++ (spl (hasB [46]) b).1, (spl (hasB [46]) b).2) := by
  rw [zjZ, z0W, zmB]
  rfl
 show (spl (hasB [46]) (a ++ [46] ++ b)).1 ++ [(spl (hasB [46]) (a ++ [46] ++ b)).2] = _
 rw [e]
 simp [zaE, splitB]
theorem zrE (xs ys : List (List UInt8)) (h : 0 < ys.length) (h1 : ys ≠ [[]]) : zgE (xs ++ ys) = xs.length + zgE ys := by
 have hd : (xs ++ ys).getD ((xs ++ ys).length - 1) [] = ys.getD (ys.length - 1) [] := by
  simp only [List.getD, List.length_append]
  rw [List.getElem?_append_right (by omega), show xs.length + ys.length - 1 - xs.length = ys.length - 1 from by omega]
 unfold zgE
 rw [hd, List.length_append]
 match ys, h with
 | [y], _ =>
  have hy : y ≠ [] := fun e => h1 (by rw [e])
  rw [if_neg (fun h => hy h.2), if_neg (fun h => hy h.2)]
 | y :: z :: ys, _ =>
  simp only [List.length_cons]
  by_cases e : (y :: z :: ys).getD (ys.length + 1 + 1 - 1) [] = []
  ·rw [if_pos ⟨by omega, e⟩, if_pos ⟨by omega, e⟩]; omega
  ·rw [if_neg (fun h => e h.2), if_neg (fun h => e h.2)]
theorem zmJ (a b : List UInt8) (h : zaE b ≠ [[]]) : zaT (a ++ [46] ++ b) = zaE a ++ zaT b := by
 unfold zaT
 rw [zwW, zrE _ _ (zjD b) h, List.take_append, List.take_of_length_le (by omega), show (zaE a).length + zgE (zaE b) - (zaE a).length = zgE (zaE b) from by omega]
theorem zcS.ne {n : List UInt8} (h : zcS n) : zaE n ≠ [[]] := fun e => by
 have := (h.lab [] (by unfold zaT; rw [e]; decide)).1
 simp at this
theorem zvM {a : List UInt8} (hn : a ≠ []) (h : a.getLast hn ≠ 46) : zaT a = zaE a := by
 unfold zaT
 have := zdU (spl (hasB [46]) a).1.length (zaE a) (by rw [znM]; simp) (.inr (by rw [znM, z3V]; exact z8K a hn h))
 rw [this, List.take_of_length_le (by rw [znM]; simp)]
theorem ybA (p : UInt8 → Bool) : ∀ (l : List UInt8) (st : List (List UInt8) × List UInt8) (P : UInt8 → Prop), (∀ c ∈ l, P c) → (∀ w ∈ st.1, ∀ c ∈ w, P c ∧ p c = false) → (∀ c ∈ st.2, P c ∧ p c = false) →
  (∀ w ∈ (l.foldl (zaW p) st).1, ∀ c ∈ w, P c ∧ p c = false) ∧ ∀ c ∈ (l.foldl (zaW p) st).2, P c ∧ p c = false := by
 intro l
 induction l with
 | nil => intro st P _ h1 h2; exact ⟨h1, h2⟩
 | cons d l ih =>
  intro st P h0 h1 h2
  rw [List.foldl_cons]
  refine ih _ P (fun c hc => h0 c (by simp [hc])) ?_ ?_
  ·unfold zaW
   split
   ·intro w hw
    rcases List.mem_append.1 hw with h | h
    ·exact h1 w h
    ·rw [List.mem_singleton.1 h]; exact h2
   ·exact h1
  ·unfold zaW
   split
   ·intro c hc; cases hc
   ·rename_i hp
    intro c hc
    rcases List.mem_append.1 hc with h | h
    ·exact h2 c h
    ·rw [List.mem_singleton.1 h]; exact ⟨h0 d (by simp), by simpa using hp⟩
theorem z8R {l w : List UInt8} (h : w ∈ zaE l) : ∀ c ∈ w, c ∈ l ∧ hasB [46] c = false := by
 have k := ybA (hasB [46]) l ([], []) (· ∈ l) (fun _ h => h) (by simp) (by simp)
 rcases List.mem_append.1 h with h | h
 ·exact k.1 w h
 ·rw [List.mem_singleton.1 h]; exact k.2
theorem z0L {l w : List UInt8} (h : w ∈ zaT l) : w ∈ zaE l := List.mem_of_mem_take h
theorem zpR (l : List UInt8) : l.length ≤ zgH l + 1 := by unfold zgH; split <;> omega
theorem z3D {l : List UInt8} (h : zfC l = true) : l.length ≤ 254 := by
 unfold zfC at h
 have := of_decide_eq_true (Bool.and_eq_true_iff.1 h).1
 have := zpR l
 omega
theorem zjU (l : List UInt8) : zgH l ≤ l.length := by unfold zgH; split <;> omega
/-- a label of a name is a name -/
theorem zcS.label {n w : List UInt8} (h : zcS n) (hw : w ∈ zaT n) : zcS w := by
 have hin := z8R (z0L hw)
 have hd : zaE w = [w] := zkB w fun c hc => (hin c hc).2
 have hl : zaT w = [w] := by
  unfold zaT
  rw [hd, zdU 0 [w] rfl (.inl rfl)]
  rfl
 obtain ⟨h1, h2⟩ := h.lab w hw
 refine ⟨?_, Nat.le_trans (zjU w) (by omega), ?_, fun c hc => h.sign c (hin c hc).1, ?_⟩
 ·have key : ∀ l : List UInt8, zbO l = l → ∀ c ∈ l, lowC c = c := by
   intro l
   induction l with
   | nil => intro _ c hc; cases hc
   | cons d l ih =>
    intro he c hc
    have he' : lowC d :: zbO l = d :: l := he
    injection he' with e1 e2
    rcases List.mem_cons.1 hc with rfl | h
    ·exact e1
    ·exact ih e2 c h
  have hk := key n h.low
  unfold zbO
  conv => rhs; rw [← List.map_id w]
  exact List.map_congr_left fun c hc => hk c (hin c hc).1
 ·rw [hl]; intro v hv; rw [List.mem_singleton.1 hv]; exact ⟨h1, h2⟩
 ·rw [hl]; intro v hv; rw [List.mem_singleton.1 hv]; exact h.code w hw
theorem z1A {xs : List (List UInt8)} {x n : List UInt8} (hn : zcS n) (hx : zaT x = xs ++ zaT n) (h0 : 0 < xs.length) : znT x n = true := by
 unfold znT
 have h1 : (zaT n).any (fun w => !w.isEmpty) = true := by
  have hp := zzK n
  match e : zaT n, hp with
  | w :: ws, _ =>
   have := (hn.lab w (by rw [e]; simp)).1
   cases w with
   | nil => simp at this
   | cons c w => simp
 rw [h1, hx, List.length_append, decide_eq_true (by omega), show xs.length + (zaT n).length - (zaT n).length = xs.length from by omega, List.drop_left]
 simp
theorem zsR {n m : List UInt8} (h : (zaT n).length ≤ (zaT m).length) : znT n m = false := by
 unfold znT
 rw [decide_eq_false (by omega)]
 rfl
theorem zcS.join {a b : List UInt8} (ha : zcS a) (hb : zcS b) (hl : a.length + b.length ≤ 250) (hn : a ≠ []) (hd : a.getLast hn ≠ 46) : zcS (a ++ [46] ++ b) ∧ zaT (a ++ [46] ++ b) = zaT a ++ zaT b := by
 have e : zaT (a ++ [46] ++ b) = zaT a ++ zaT b := by rw [zmJ a b hb.ne, zvM hn hd]
 refine ⟨⟨?_, Nat.le_trans (zjU _) (by simp; omega), ?_, ?_, ?_⟩, e⟩
 ·rw [zkM, zkM, ha.low, hb.low]; rfl
 ·rw [e]; intro w hw
  rcases List.mem_append.1 hw with h | h
  ·exact ha.lab w h
  ·exact hb.lab w h
 ·intro c hc
  rcases List.mem_append.1 hc with h | h
  ·rcases List.mem_append.1 h with h | h
   ·exact ha.sign c h
   ·rw [List.mem_singleton.1 h]; decide
  ·exact hb.sign c h
 ·rw [e]; intro w hw
  rcases List.mem_append.1 hw with h | h
  ·exact ha.code w h
  ·exact hb.code w h
/-- what stands below a name, with a label more ahead -/
theorem zcS.more {a n : List UInt8} (hn : zcS n) : znT (a ++ [46] ++ n) n = true ∧ znT n (a ++ [46] ++ n) = false ∧ znT n n = false := by
 have e := zmJ a n hn.ne
 exact ⟨z1A hn e (zjD a), zsR (by rw [e, List.length_append]; omega), zsR (Nat.le_refl _)⟩
end

section
open Go.RowKit
/-- texts that lie in a row from the beginning of block g on -/
def Seen (w : World) (g : Nat) (ps : List (List UInt8)) : Prop := g < w.heap.size ∧ ∀ j, j < ps.length → w.cell? ⟨g, j, none⟩ = some (.string ⟨(ps.getD j []).toArray⟩)
theorem Seen.keep {w w' : World} {g : Nat} {ps : List (List UInt8)} (h : Seen w g ps) (hb : Below w.heap.size w w') : Seen w' g ps := ⟨Nat.lt_of_lt_of_le h.1 hb.size, fun j hj => (hb.cell (p := ⟨g, j, none⟩) h.1).trans (h.2 j hj)⟩
def zwJ (w : World) (ps : List (List UInt8)) (e : Ending) (w' : World) : Prop := ∃ g c, e = .returned (.slice (some ⟨g, 0, none⟩) ps.length c) ∧ ps.length ≤ c ∧ Seen w' g ps ∧ Below w.heap.size w w'
theorem zdT {w w' : World} {ps qs : List (List UInt8)} {g c n k : Nat} (hq : ps.take k = qs) (hk : k ≤ ps.length) (hn : n = k) (hcap : k ≤ c) (hg : g < w'.heap.size) (hc : ∀ j, j < ps.length → w'.cell? ⟨g, j, none⟩ = some (.string ⟨(ps.getD j []).toArray⟩)) (hb : Below w.heap.size w w') : zwJ w qs (.returned (.slice (some ⟨g, 0, none⟩) n c)) w' := by
 subst hq hn
 refine ⟨g, c, by rw [List.length_take, Nat.min_eq_left hk], by rw [List.length_take, Nat.min_eq_left hk]; exact hcap, ⟨hg, fun j hj => ?_⟩, hb⟩
 rw [List.length_take, Nat.min_eq_left hk] at hj
 rw [hc j (by omega)]
 simp [List.getD, hj]
theorem zcF (s : ByteArray) (w : World) : Calls Tryz.prog 14 #[.string s] w fun e w' => e = .returned (.string s) ∧ w = w' := by
 go_enter Tryz.func14, Tryz.ntmps14
 go_wp2
 go_ret
 exact ⟨rfl, rfl⟩
theorem zkL (l : List UInt8) : ∃ L x, (zaE l).length = L + 1 ∧ (zaE l).getD L [] = x ∧ L ≤ l.length ∧ (0 < L ∧ x = [] ∧ zgE (zaE l) = L ∨ (L = 0 ∨ x ≠ []) ∧ zgE (zaE l) = L + 1) := by
 have h0 := zjD l
 have hl := zcR (hasB [46]) l
 obtain ⟨L, hL⟩ : ∃ L, (zaE l).length = L + 1 := ⟨(zaE l).length - 1, by omega⟩
 refine ⟨L, _, hL, rfl, by unfold zaE at hL; omega, ?_⟩
 by_cases h : 0 < L ∧ (zaE l).getD L [] = []
 ·obtain ⟨h1, h2⟩ := h
  refine .inl ⟨h1, h2, ?_⟩
  obtain ⟨n, rfl⟩ : ∃ n, L = n + 1 := ⟨L - 1, by omega⟩
  exact zhM n _ hL h2
 ·have hc : L = 0 ∨ (zaE l).getD L [] ≠ [] := by
   by_cases e : L = 0
   ·exact .inl e
   ·exact .inr fun e2 => h ⟨by omega, e2⟩
  exact .inr ⟨hc, zdU L _ hL hc⟩
theorem zkJ (l : List UInt8) : (zaT l).length ≤ l.length + 1 := by
 have h1 := zcR (hasB [46]) l
 unfold zaT zaE
 rw [List.length_take]
 omega
theorem zpB (s : ByteArray) (w : World) (hs : s.size ≤ 1073741824) :
  Calls Tryz.prog 16 #[.string s] w (zwJ w (zaT s.data.toList)) := by
 obtain ⟨L, x, hL, hx, hLl, hc⟩ := zkL s.data.toList
 rw [zaJ] at hLl
 go_enter Tryz.func16, Tryz.ntmps16
 go_wp2_with fail
 refine (zcF s _).mono ?_
 rintro e w' ⟨rfl, rfl⟩
 go_wp2_with fail
 refine (zcX s _ _ hs).mono ?_
 rintro e w1 ⟨v, rfl, hp, hb1⟩
 have hp' : zbZ w.heap.size w1 v (zaE s.data.toList) := hp
 obtain ⟨g, cap, rfl, hcap, hg, hcell⟩ := hp'.form2 (by omega)
 rw [hL] at hcap ⊢
 have hcx := hcell L (by omega)
 rw [hx] at hcx
 have HC := Lib.hid hcell
 have HL := Lib.hid hL
 have HX := Lib.hid hx
 clear hcell hp hp' hL hx
 rcases hc with ⟨h1, rfl, hk⟩ | ⟨rfl | hne, hk⟩
 ·have HK := Lib.hid hk
  obtain ⟨n, rfl⟩ : ∃ n, L = n + 1 := ⟨L - 1, by omega⟩
  clear hk h1
  go_wp2
  go_ret
  exact zdT (k := n + 1) (by unfold zaT; rw [HK.out]) (by rw [HL.out]; omega) (by omega) (by omega) hg HC.out hb1
 ·have HK := Lib.hid hk
  clear hk
  go_wp2
  go_ret
  exact zdT (k := 1) (by unfold zaT; rw [HK.out]) (by rw [HL.out]; omega) (by omega) (by omega) hg HC.out hb1
 ·have HK := Lib.hid hk
  have hxe : x.isEmpty = false := zcD hne
  clear hk hne
  by_cases h0 : L = 0
  ·subst h0
   go_wp2
   go_ret
   exact zdT (k := 1) (by unfold zaT; rw [HK.out]) (by rw [HL.out]; omega) (by omega) (by omega) hg HC.out hb1
  ·obtain ⟨n, rfl⟩ : ∃ n, L = n + 1 := ⟨L - 1, by omega⟩
   go_wp2
   go_ret
   exact zdT (k := n + 2) (by unfold zaT; rw [HK.out]) (by rw [HL.out]; omega) (by omega) (by omega) hg HC.out hb1
end

section
open Go.RowKit
theorem z6U (q : List UInt8) (w : World) : Calls Tryz.prog 41 #[.string ⟨q.toArray⟩] w fun e w' => e = .returned (.bool (zgO q)) ∧ w = w' := by
 go_enter Tryz.func41, Tryz.ntmps41
 go_wp2_with fail
 refine (Tryz.strings_HasPrefix ⟨q.toArray⟩ _ _).mono ?_
 rintro e w' ⟨rfl, rfl⟩
 go_wp2
 go_ret
 exact ⟨rfl, rfl⟩
theorem z3I {p : List UInt8 → Bool} {ps : List (List UInt8)} {k : Nat} {q : List UInt8} (hk : k < ps.length) (hq : ps.getD k [] = q) (h : p q = false) : ps.all p = false := by
 rw [List.all_eq_false]
 refine ⟨q, ?_, by simp [h]⟩
 rw [← hq, List.getD, List.getElem?_eq_getElem hk]
 exact List.getElem_mem hk
theorem z2Y {p : List UInt8 → Bool} {ps : List (List UInt8)} (h : ∀ j, j < ps.length → p (ps.getD j []) = true) : ps.all p = true := by
 rw [List.all_eq_true]
 intro x hx
 obtain ⟨j, hj, rfl⟩ := List.getElem_of_mem hx
 have := h j hj
 rwa [List.getD, List.getElem?_eq_getElem hj] at this
theorem zvF (s : ByteArray) (w : World) (hs : s.size ≤ 9223372036854775807) : Calls Tryz.prog 67 #[.string s, .string ⟨#[46]⟩] w fun e w' => ∃ t : ByteArray, e = .returned (.string t) ∧ t.size = zgH s.data.toList ∧ w = w' := by
 refine (Tryz.strings_TrimSuffix s ⟨#[46]⟩ w (by omega)).mono ?_
 rintro e w' ⟨rfl, rfl⟩
 exact ⟨_, rfl, by rw [zaD]; exact z4W _, rfl⟩
theorem z2Z (s : ByteArray) (w : World) (hs : s.size ≤ 9223372036854775807) :
  Calls Tryz.prog 38 #[.string s] w (zcN w (zfC s.data.toList)) := by
 obtain ⟨ps, hps⟩ : ∃ ps, zaT s.data.toList = ps := ⟨_, rfl⟩
 have HLB := Lib.hid (fun W h => zpB s W h)
 rw [hps] at HLB
 have hlg := zpR s.data.toList
 rw [zaJ] at hlg
 have HS : Hid (zfC s.data.toList = (decide (zgH s.data.toList ≤ 253) && ps.all zfQ)) := by show _ = _; rw [← hps]; rfl
 have hpl : ps.length ≤ s.size + 1 := by rw [← hps]; have := zkJ s.data.toList; rwa [zaJ] at this
 clear hps
 go_enter Tryz.func38, Tryz.ntmps38
 go_wp2_with fail
 refine (zcF s _).mono ?_
 rintro e w' ⟨rfl, rfl⟩
 go_wp2_with fail
 refine (zvF s _ hs).mono ?_
 rintro e w' ⟨t, rfl, ht, rfl⟩
 rw [← ht] at HS hlg
 clear ht
 by_cases hb : 253 < t.size
 ·have hd : decide (253 < (t.size : Int)) = true := decide_eq_true (by omega)
  have HF := Lib.hid (show zfC s.data.toList = false by rw [HS.out, decide_eq_false (by omega)]; rfl)
  go_wp2
  go_ret
  exact zaR HF.out (Below.refl _ _)
 have hd : decide (253 < (t.size : Int)) = false := decide_eq_false (by omega)
 have HF : Hid (zfC s.data.toList = ps.all zfQ) := by show _ = _; rw [HS.out, decide_eq_true (by omega)]; rfl
 have hss : s.size ≤ 254 := by omega
 clear hb HS hlg
 go_wp2_with fail
 refine (HLB.out _ (by omega)).mono ?_
 rintro e w1 ⟨g, c, rfl, -, hseen, hb1⟩
 have HC := Lib.hid hseen.2
 have hg := hseen.1
 clear hseen hd HLB
 go_wp2
 go_loop [13] (fun i => ∃ k : Nat, k ≤ ps.length ∧ i = .int .i64 k ∧ Hid (∀ j, j < k → zfQ (ps.getD j []) = true)) (fun i => ps.length - (intOf i).toNat)
 case atStart => exact ⟨0, Nat.zero_le _, rfl, fun j h => absurd h (Nat.not_lt_zero j)⟩
 case round =>
  obtain ⟨k, hk, rfl, H⟩ := hrel
  by_cases hlt : k < ps.length
  ·have hcl := HC.out k hlt
   obtain ⟨q, hq⟩ : ∃ q, ps.getD k [] = q := ⟨_, rfl⟩
   rw [hq] at hcl
   have HQ := Lib.hid hq
   clear hq
   by_cases h1 : q = []
   ·subst h1
    have HN := Lib.hid (z3I hlt HQ.out (show zfQ [] = false from rfl))
    go_wp2
    go_ret
    exact zaR (HF.out.trans HN.out) hb1
   ·have hqe : q.isEmpty = false := zcD h1
    have hq0 : 0 < q.length := List.length_pos_iff.2 h1
    by_cases h2 : 63 < q.length
    ·have HN := Lib.hid (z3I hlt HQ.out (show zfQ q = false from decide_eq_false (by omega)))
     have hd : decide (63 < (q.length : Int)) = true := decide_eq_true (by omega)
     clear h1
     go_wp2
     go_ret
     exact zaR (HF.out.trans HN.out) hb1
    ·have HY := Lib.hid (show zfQ q = true from decide_eq_true (by omega))
     have hd : decide (63 < (q.length : Int)) = false := decide_eq_false (by omega)
     clear h1
     go_wp2
     go_round
     case rel =>
      refine ⟨k + 1, by omega, by go_num, fun j hj => ?_⟩
      by_cases e : j = k
      ·subst e; rw [HQ.out]; exact HY.out
      ·exact H.out j (by omega)
     case measure => simp [intOf]; omega
  ·have HN := Lib.hid (z2Y (p := zfQ) (ps := ps) fun j hj => H.out j (by omega))
   go_wp2
   go_ret
   exact zaR (HF.out.trans HN.out) hb1
theorem yaR (c : UInt8) (w : World) (hc : c.toNat < 128) : Calls Tryz.prog 68 #[.string ⟨#[34, 35, 37, 47, 58, 60, 62, 63, 64, 91, 92, 93, 94, 96, 123, 124, 125]⟩, .int .i32 (c.toNat : Int)] w fun e w' => e = .returned (.bool (hasB badL c)) ∧ w = w' := by
 refine (Tryz.strings_ContainsRune_ascii _ _ w (by omega) (by omega)).mono ?_
 rintro e w' ⟨rfl, rfl⟩
 rw [zpS]
 refine ⟨?_, rfl⟩
 show Ending.returned (.bool (decide (0 ≤ Lib.indexByte badL c))) = _
 cases h : hasB badL c with
 | true => rw [decide_eq_true ((zhW _ _).1 h)]
 | false => rw [(zhW _ _).2 h]; rfl
theorem zyP {s : ByteArray} {k : Nat} (hk : k < s.size) (h : zhE s[k] = false) : zgA s.data.toList = false := by
 unfold zgA
 rw [List.all_eq_false]
 refine ⟨s[k], ?_, by simp [h]⟩
 show s.data[k] ∈ _
 simp
theorem zuB {s : ByteArray} (h : ∀ k (h : k < s.size), zhE s[k] = true) : zgA s.data.toList = true := by
 unfold zgA
 rw [List.all_eq_true]
 intro x hx
 obtain ⟨j, hj, rfl⟩ := List.getElem_of_mem hx
 exact h j (by simpa using hj)
theorem zzX (s : ByteArray) (k : Nat) (h : k < s.size) (hp : s[k].toNat < 128) : Utf8.decode s k = (s[k].toNat, 1) := by
 have := zyN s k h
 rw [zgM, if_pos (by omega), this]
theorem z2P (s : ByteArray) (w : World) (hp : zdY s.data.toList = true) :
  Calls Tryz.prog 39 #[.string s] w (zcN w (zgA s.data.toList)) := by
 have HP : Hid (∀ k (h : k < s.size), s[k].toNat < 128) := fun k h => zmM.1 hp _ (by show s.data[k] ∈ _; simp)
 clear hp
 go_enter Tryz.func39, Tryz.ntmps39
 go_wp2_with fail
 refine (zcF s _).mono ?_
 rintro e w' ⟨rfl, rfl⟩
 go_wp2
 go_loopw [] (fun wr => ∃ k : Nat, wr.heap[w.heap.size]? = some (.stringIter s k) ∧ Below w.heap.size w wr ∧ k ≤ s.size ∧ Hid (∀ j (h : j < s.size), j < k → zhE s[j] = true)) (fun wr => s.size - wr.iterPos w.heap.size)
 case atStart => exact ⟨0, World.iter_heap w s 0, (Below.refl _ w).alloc (Nat.le_refl _) _, Nat.zero_le _, fun j _ h => absurd h (Nat.not_lt_zero j)⟩
 case round =>
  obtain ⟨k, hit, hbw, hk, H⟩ := hrel
  by_cases hlt : k < s.size
  ·have hnx : ∀ ty, (Instr.next (.pointer (some ⟨w.heap.size, 0, none⟩)) true ty).run Tryz.prog wr = _ := fun ty => Lib.run_next_any_at wr w.heap.size s k ty hit hlt
   have hp := HP.out k hlt
   rw [zzX s k hlt hp] at hnx
   have hit2 := Lib.iterAt_heap wr w.heap.size s k (k + 1) hit
   have hbw2 := Lib.below_iterAt hbw (k := w.heap.size) (Nat.le_refl _) s (k + 1)
   have HWP : Hid (wr.iterPos w.heap.size = k) := by
    show wr.iterPos w.heap.size = k
    simp only [World.iterPos, hit]
   simp only at hnx
   generalize wr.iterAt w.heap.size s (k + 1) = wi at *
   have HBA := Lib.hid (fun W => yaR s[k] W hp)
   have HSC := Lib.hid (show zhE s[k] = (decide (33 ≤ s[k].toNat ∧ s[k].toNat ≤ 126) && !hasB badL s[k]) from rfl)
   have HNO := Lib.hid (fun h => zyP hlt h)
   obtain ⟨c, hc⟩ : ∃ c, s[k].toNat = c := ⟨_, rfl⟩
   generalize hbd : hasB badL s[k] = bd at HBA HSC
   rw [hc] at hp hnx HBA HSC
   clear hbd
   have HC := Lib.hid hc
   clear hc
   by_cases h1 : c < 33
   ·have HF := Lib.hid (HNO.out (by rw [HSC.out, decide_eq_false (by omega)]; rfl))
    have hd : decide ((c : Int) < 33) = true := decide_eq_true (by omega)
    go_wp2
    go_ret
    exact zaR HF.out hbw2
   ·have hd1 : decide ((c : Int) < 33) = false := decide_eq_false (by omega)
    by_cases h2 : 126 < c
    ·have HF := Lib.hid (HNO.out (by rw [HSC.out, decide_eq_false (by omega)]; rfl))
     have hd : decide (126 < (c : Int)) = true := decide_eq_true (by omega)
     go_wp2
     go_ret
     exact zaR HF.out hbw2
    ·have hd2 : decide (126 < (c : Int)) = false := decide_eq_false (by omega)
     cases bd with
     | true =>
      have HF := Lib.hid (HNO.out (by rw [HSC.out]; simp))
      go_wp2_with (go_at_call 68; refine (HBA.out _).mono ?_; rintro e w' ⟨rfl, rfl⟩)
      go_ret
      exact zaR HF.out hbw2
     | false =>
      have HY := Lib.hid (show zhE s[k] = true by rw [HSC.out, decide_eq_true (by omega)]; rfl)
      go_wp2_with (go_at_call 68; refine (HBA.out _).mono ?_; rintro e w' ⟨rfl, rfl⟩)
      go_roundw
      case rel =>
       refine ⟨k + 1, hit2, hbw2, by omega, fun j hj hjk => ?_⟩
       by_cases e : j = k
       ·subst e; exact HY.out
       ·exact H.out j hj (by omega)
      case measure =>
       rw [HWP.out]
       simp only [World.iterPos, hit2]
       omega
  ·have hnx : ∀ ty, (Instr.next (.pointer (some ⟨w.heap.size, 0, none⟩)) true ty).run Tryz.prog wr = _ := fun ty => Lib.run_next_end_at wr w.heap.size s k ty hit hlt
   have HF := Lib.hid (zuB (s := s) fun j hj => H.out j hj (by omega))
   go_wp2
   go_ret
   exact zaR HF.out hbw
end

section
open Go.RowKit
theorem zaN {w x1 x2 : World} (h1 : Below w.heap.size w x1) (h2 : Below x1.heap.size x1 x2) : Below w.heap.size w x2 := h1.trans (h2.mono h1.size)
theorem anyF (f : Nat) (p : List UInt8 → Bool) (hf : ∀ (q : List UInt8) (w : World), Calls Tryz.prog f #[.string ⟨q.toArray⟩] w fun e w' => e = .returned (.bool (p q)) ∧ w = w') (ef : ∀ args w, (callFunc f args).run Tryz.prog w = .ok (.enter f args) w) (g c : Nat) (ps : List (List UInt8)) (w : World) (hs : Seen w g ps) (hl : ps.length ≤ 9223372036854775807) :
  Calls Tryz.prog 40 #[.slice (some ⟨g, 0, none⟩) ps.length c, .func (.func f) #[] #[]] w fun e w' => e = .returned (.bool (ps.any p)) ∧ Below w.heap.size w w' := by
 refine (Tryz.slices_ContainsFunc strC p f #[] ef g 0 ps.length c ps w (fun W x _ => (hf x W).mono fun e w' h => ⟨h.1, 0, by rw [← h.2]; rfl⟩) (Nat.le_refl _) hl (fun j hj => ?_)).mono ?_
 ·rw [Nat.zero_add, hs.2 j hj]
  simp [strC, List.getD, List.getElem?_eq_getElem hj]
 ·rintro e w' ⟨rfl, q, rfl⟩
  rw [List.take_length]
  exact ⟨rfl, zbC (Below.refl _ _) q⟩
theorem codedF (g c : Nat) (ps : List (List UInt8)) (w : World) (hs : Seen w g ps) (hl : ps.length ≤ 9223372036854775807) :
  Calls Tryz.prog 40 #[.slice (some ⟨g, 0, none⟩) ps.length c, .func (.func 41) #[] #[]] w fun e w' => e = .returned (.bool (ps.any zgO)) ∧ Below w.heap.size w w' :=
 anyF _ _ z6U (enters_of Tryz.func41 (by kernel_rfl) rfl) g c ps w hs hl
theorem zxP {l : List UInt8} (h : zdY l = false) : zbS l = ([], 7) := by
 unfold zbS ziE
 rw [if_pos h, if_neg (by decide)]
theorem ziI {l : List UInt8} (hp : zdY l = true) {e : Int} (h : ztE (zbO l) = e) : zbS l = if e = 0 then (zbO l, 0) else ([], e) := by
 have e1 : ziE l = e := by unfold ziE; rw [if_neg (by simp [hp]), h]
 unfold zbS
 rw [e1]
theorem zqT {l : List UInt8} (hp : zdY l = true) (h : (zfC (zbO l) && zgA (zbO l)) = false) : zbS l = ([], 6) := (ziI (e := 6) hp (by unfold ztE; rw [if_pos h])).trans (if_neg (by decide))
theorem zlF {l : List UInt8} (hp : zdY l = true) (h1 : zfC (zbO l) = true) (h2 : zgA (zbO l) = true) {b : Bool} (h3 : (zaT (zbO l)).any zgO = b) : zbS l = if b = true then ([], 7) else (zbO l, 0) := by
 cases b
 ·exact ziI (e := 0) hp (by unfold ztE; rw [if_neg (by simp [h1, h2]), if_neg (by simp [h3])])
 ·exact ziI (e := 7) hp (by unfold ztE; rw [if_neg (by simp [h1, h2]), if_pos h3])
def zvZ (w : World) (x : List UInt8 × Int) (e : Ending) (w' : World) : Prop := e = .returned (.tuple #[.string ⟨x.1.toArray⟩, .int .i64 x.2]) ∧ Below w.heap.size w w'
theorem zcK {w w' : World} {x : List UInt8 × Int} {l : List UInt8} {n : Int} (h : x = (l, n)) (hb : Below w.heap.size w w') : zvZ w x (.returned (.tuple #[.string ⟨l.toArray⟩, .int .i64 n])) w' := by
 subst h; exact ⟨rfl, hb⟩
theorem zhH (s : ByteArray) (w : World) (hs : s.size ≤ 9223372036854775807) :
  Calls Tryz.prog 11 #[.string s] w (zvZ w (zbS s.data.toList)) := by
 cases hp : zdY s.data.toList with
 | false =>
  have HF := Lib.hid (zxP hp)
  go_enter Tryz.func11, Tryz.ntmps11
  go_wp2_with fail
  refine (zuI s _ hs).mono ?_
  rw [show ziD s = false from hp]
  rintro e w' ⟨rfl, rfl⟩
  go_wp2
  go_ret2
  exact zcK HF.out (Below.refl _ _)
 | true =>
  have HP := Lib.hid hp
  obtain ⟨t, ht⟩ : ∃ t, zbO s.data.toList = t := ⟨_, rfl⟩
  have htl : t.length = s.size := by rw [← ht, zjM, zaJ]
  have htp : zdY t = true := by rw [← ht]; exact zuV hp
  have HT := Lib.hid ht
  clear hp
  go_enter Tryz.func11, Tryz.ntmps11
  go_wp2_with fail
  refine (zuI s _ hs).mono ?_
  rw [show ziD s = true from HP.out]
  rintro e w' ⟨rfl, rfl⟩
  go_wp2_with fail
  refine (z3H s _ hs).mono ?_
  rw [ht]
  rintro e w1 ⟨rfl, hb1⟩
  go_wp2_with fail
  refine (z2Z ⟨t.toArray⟩ _ (by rw [zaD]; omega)).mono ?_
  rw [zaG]
  rintro e w2 ⟨rfl, hb2⟩
  have hc2 := zaN hb1 hb2
  clear hb1 hb2 ht
  cases h1 : zfC t with
  | false =>
   have HF := Lib.hid (zqT HP.out (by rw [HT.out, h1]; rfl))
   go_wp2
   go_ret2
   exact zcK HF.out hc2
  | true =>
   have H1 := Lib.hid h1
   have htl4 := z3D h1
   clear h1
   go_wp2_with fail
   refine (z2P ⟨t.toArray⟩ _ (by rw [zaG]; exact htp)).mono ?_
   rw [zaG]
   rintro e w3 ⟨rfl, hb3⟩
   have hc3 := zaN hc2 hb3
   clear hc2 hb3
   cases h2 : zgA t with
   | false =>
    have HF := Lib.hid (zqT HP.out (by rw [HT.out, h2, Bool.and_false]))
    go_wp2
    go_ret2
    exact zcK HF.out hc3
   | true =>
    have H2 := Lib.hid h2
    clear h2
    go_wp2_with fail
    refine (zpB ⟨t.toArray⟩ _ (by rw [zaD]; omega)).mono ?_
    rw [zaG]
    rintro e w4 ⟨g, c, rfl, -, hse, hb4⟩
    have hc4 := zaN hc3 hb4
    clear hc3 hb4
    go_wp2_with fail
    refine (codedF g c _ _ hse (by have := zkJ t; omega)).mono ?_
    rintro e w5 ⟨rfl, hb5⟩
    have hc5 := zaN hc4 hb5
    clear hc4 hb5 hse
    cases h3 : (zaT t).any zgO with
    | false =>
     have HF := Lib.hid (zlF (b := false) HP.out (by rw [HT.out]; exact H1.out) (by rw [HT.out]; exact H2.out) (by rw [HT.out]; exact h3))
     rw [if_neg (by decide), HT.out] at HF
     go_wp2
     go_ret2
     exact zcK HF.out hc5
    | true =>
     have HF := Lib.hid (zlF (b := true) HP.out (by rw [HT.out]; exact H1.out) (by rw [HT.out]; exact H2.out) (by rw [HT.out]; exact h3))
     rw [if_pos rfl] at HF
     go_wp2
     go_ret2
     exact zcK HF.out hc5
/-- is it a name, as it stands -/
def ziF (l : List UInt8) : Bool := decide ((zbS l).2 = 0) && (zbS l).1 == l
theorem zzH (l : List UInt8) : ziF l = true ↔ zcS l := by
 unfold ziF
 constructor
 ·intro h
  simp at h
  have := zyY h.1
  rwa [h.2] at this
 ·intro h
  rw [h.canon]
  simp
theorem zwH (s : ByteArray) (w : World) (hs : s.size ≤ 9223372036854775807) :
  Calls Tryz.prog 13 #[.string s] w (zcN w (ziF s.data.toList)) := by
 obtain ⟨n, er, hc⟩ : ∃ n er, zbS s.data.toList = (n, er) := ⟨_, _, rfl⟩
 have hce := z8U s.data.toList
 have HR := Lib.hid (show ziF s.data.toList = (decide (er = 0) && n == s.data.toList) by unfold ziF; rw [hc])
 rw [hc] at hce
 go_enter Tryz.func13, Tryz.ntmps13
 go_wp2_with fail
 refine (zhH s _ hs).mono ?_
 rw [hc]
 rintro e w1 ⟨rfl, hb1⟩
 clear hc
 by_cases h0 : er = 0
 ·subst h0
  clear hce
  cases hq : n == s.toList with
  | true =>
   have HF := Lib.hid (HR.out.trans (show (decide ((0 : Int) = 0) && n == s.data.toList) = true by rw [← Lib.toList_data, hq]; rfl))
   go_wp2_with (go_at_call 14; refine (zcF _ _).mono ?_; rintro e w' ⟨rfl, rfl⟩)
   go_ret
   exact zaR HF.out hb1
  | false =>
   have HF := Lib.hid (HR.out.trans (show (decide ((0 : Int) = 0) && n == s.data.toList) = false by rw [← Lib.toList_data, hq]; rfl))
   go_wp2_with (go_at_call 14; refine (zcF _ _).mono ?_; rintro e w' ⟨rfl, rfl⟩)
   go_ret
   exact zaR HF.out hb1
 ·have HF := Lib.hid (HR.out.trans (show (decide (er = 0) && n == s.data.toList) = false by rw [decide_eq_false h0]; rfl))
  have hd : (er == (0 : Int)) = false := beq_eq_false_iff_ne.2 h0
  clear hce
  go_wp2
  go_ret
  exact zaR HF.out hb1
end

section
open Go.RowKit
def badR : List UInt8 := [35, 47, 58, 60, 62, 63, 64, 91, 93, 94, 124, 37, 123, 125]
theorem z7N (c : UInt8) : zhE c = (decide (33 ≤ c.toNat ∧ c.toNat ≤ 126) && (!hasB badR c && decide (c.toNat ≠ 92 ∧ c.toNat ≠ 34 ∧ c.toNat ≠ 96))) := by
 simpa using zsS (fun c => zhE c == (decide (33 ≤ c.toNat ∧ c.toNat ≤ 126) && (!hasB badR c && decide (c.toNat ≠ 92 ∧ c.toNat ≠ 34 ∧ c.toNat ≠ 96)))) (by decide +kernel) c
theorem ybK (c : UInt8) : (lowC c).toNat < 65 ∨ 90 < (lowC c).toNat := by
 simpa using zsS (fun c => decide ((lowC c).toNat < 65) || decide (90 < (lowC c).toNat)) (by decide +kernel) c
theorem zsB (s : ByteArray) (w : World) (hs : s.size ≤ 1073741824) (hl : ∀ c ∈ s.data.toList, c.toNat < 65 ∨ 90 < c.toNat) :
  Calls Tryz.prog 44 #[.string s] w fun e w' => e = .returned (.bool (zgA s.data.toList)) ∧ w = w' := by
 have HL : Hid (∀ k (h : k < s.size), s[k].toNat < 65 ∨ 90 < s[k].toNat) := fun k h => hl _ (by show s.data[k] ∈ _; simp)
 clear hl
 go_enter Tryz.func44, Tryz.ntmps44
 go_wp2
 go_loop [3] (fun i => ∃ k : Nat, k ≤ s.size ∧ i = .int .i64 k ∧ Hid (∀ j (h : j < s.size), j < k → zhE s[j] = true)) (fun i => s.size - (intOf i).toNat)
 case atStart => exact ⟨0, Nat.zero_le _, rfl, fun j _ h => absurd h (Nat.not_lt_zero j)⟩
 case round =>
  obtain ⟨k, hk, rfl, H⟩ := hrel
  by_cases hlt : k < s.size
  ·have hlow := HL.out k hlt
   have HNO := Lib.hid (fun h => zyP hlt h)
   have HSC := Lib.hid (z7N s[k])
   have HHA : Hid (∀ W, Calls Tryz.prog 71 #[.string ⟨#[35, 47, 58, 60, 62, 63, 64, 91, 93, 94, 124, 37, 123, 125]⟩, .int .u8 (s[k].toNat : Int)] W fun e w' => e = .returned (.bool (hasB badR s[k])) ∧ W = w') := fun W => zwQ ⟨#[35, 47, 58, 60, 62, 63, 64, 91, 93, 94, 124, 37, 123, 125]⟩ s[k] W (by decide)
   generalize hasB badR s[k] = bd at HSC HHA
   obtain ⟨c, hc⟩ : ∃ c, s[k].toNat = c := ⟨_, rfl⟩
   have hc256 : c < 256 := by rw [← hc]; exact s[k].toNat_lt
   rw [hc] at hlow HSC HHA
   by_cases h1 : c < 33
   ·have HF := Lib.hid (HNO.out (by rw [HSC.out, decide_eq_false (by omega)]; rfl))
    clear hlow
    go_wp2
    go_ret
    exact ⟨zaQ HF.out.symm, rfl⟩
   by_cases h2 : 126 < c
   ·have HF := Lib.hid (HNO.out (by rw [HSC.out, decide_eq_false (by omega)]; rfl))
    clear hlow
    go_wp2
    go_ret
    exact ⟨zaQ HF.out.symm, rfl⟩
   have hd1 : decide ((c : Int) < 33) = false := decide_eq_false (by omega)
   have hd2 : decide (126 < (c : Int)) = false := decide_eq_false (by omega)
   have hd3 : decide (65 ≤ (c : Int)) = false ∨ decide (65 ≤ (c : Int)) = true ∧ decide ((c : Int) ≤ 90) = false := by
    by_cases h : c < 65
    ·exact .inl (decide_eq_false (by omega))
    ·exact .inr ⟨decide_eq_true (by omega), decide_eq_false (by omega)⟩
   clear hlow
   rcases hd3 with hd3 | ⟨hd3, hd4⟩
   all_goals
    have hne : ∀ m : Nat, c ≠ m → ((c : Int) == (m : Int)) = false := fun m h => beq_eq_false_iff_ne.2 (by omega)
    have hye : ∀ m : Nat, c = m → ((c : Int) == (m : Int)) = true := fun m h => by rw [h]; simp
    have HR : Hid (decide (33 ≤ c ∧ c ≤ 126) = true) := decide_eq_true (by omega)
    clear h1 h2
    cases bd with
    | true =>
     have HF := Lib.hid (HNO.out (by rw [HSC.out, HR.out]; rfl))
     go_wp2_with (go_at_call 71; refine (HHA.out _).mono ?_; rintro e w' ⟨rfl, rfl⟩)
     go_ret
     exact ⟨zaQ HF.out.symm, rfl⟩
    | false =>
     by_cases h3 : c = 92 ∨ c = 34 ∨ c = 96
     ·have HF := Lib.hid (HNO.out (by rw [HSC.out, HR.out, decide_eq_false (by omega)]; rfl))
      rcases h3 with h | h | h
      ·have e1 : ((c : Int) == 92) = true := hye 92 h
       clear hne hye h
       go_wp2_with (go_at_call 71; refine (HHA.out _).mono ?_; rintro e w' ⟨rfl, rfl⟩)
       go_ret
       exact ⟨zaQ HF.out.symm, rfl⟩
      ·have e1 : ((c : Int) == 92) = false := hne 92 (by omega)
       have e2 : ((c : Int) == 34) = true := hye 34 h
       clear hne hye h
       go_wp2_with (go_at_call 71; refine (HHA.out _).mono ?_; rintro e w' ⟨rfl, rfl⟩)
       go_ret
       exact ⟨zaQ HF.out.symm, rfl⟩
      ·have e1 : ((c : Int) == 92) = false := hne 92 (by omega)
       have e2 : ((c : Int) == 34) = false := hne 34 (by omega)
       have e3 : ((c : Int) == 96) = true := hye 96 h
       clear hne hye h
       go_wp2_with (go_at_call 71; refine (HHA.out _).mono ?_; rintro e w' ⟨rfl, rfl⟩)
       go_ret
       exact ⟨zaQ HF.out.symm, rfl⟩
     ·have HY := Lib.hid (show zhE s[k] = true by rw [HSC.out, HR.out, decide_eq_true (by omega)]; rfl)
      have e1 : ((c : Int) == 92) = false := hne 92 (by omega)
      have e2 : ((c : Int) == 34) = false := hne 34 (by omega)
      have e3 : ((c : Int) == 96) = false := hne 96 (by omega)
      clear hne hye h3
      go_wp2_with (go_at_call 71; refine (HHA.out _).mono ?_; rintro e w' ⟨rfl, rfl⟩)
      go_round
      case rel =>
       refine ⟨k + 1, by omega, by go_num, fun j hj hjk => ?_⟩
       by_cases e : j = k
       ·subst e; exact HY.out
       ·exact H.out j hj (by omega)
      case measure => simp [intOf]; omega
  ·have HF := Lib.hid (zuB (s := s) fun j hj => H.out j hj (by omega))
   go_wp2
   go_ret
   exact ⟨zaQ HF.out.symm, rfl⟩
theorem zuN (s : ByteArray) (w : World) (hs : s.size ≤ 1073741824) :
  Calls Tryz.prog 45 #[.string s] w fun e w' => e = .returned (.int .i64 (zgH s.data.toList)) ∧ w = w' := by
 by_cases h0 : s.size = 0
 ·have HF : Hid (zgH s.data.toList = 0) := Nat.le_zero.1 (Nat.le_trans (zjU _) (by rw [zaJ]; omega))
  go_enter Tryz.func45, Tryz.ntmps45
  go_wp2
  go_ret
  exact ⟨zcH (by rw [HF.out]; first | rfl | omega), rfl⟩
 ·obtain ⟨n, hn⟩ : ∃ n, s.size = n + 1 := ⟨s.size - 1, by omega⟩
  have hlt : n < s.size := by omega
  have hlast : s.data.toList.getLast? = some s[n] := by rw [List.getLast?_eq_getElem?, zaJ, hn]; exact zlM s n hlt
  obtain ⟨c, hc⟩ : ∃ c, s[n].toNat = c := ⟨_, rfl⟩
  have HLO : Hid (zgH s.data.toList = if c = 46 then n else n + 1) := by
   show zgH _ = _
   unfold zgH
   rw [hlast, zaJ, hn, ← hc]
   by_cases e : s[n] = 46
   ·rw [if_pos (by rw [e]), if_pos (by rw [e]; rfl)]; omega
   ·rw [if_neg (fun h => e (Option.some.inj h)), if_neg (show ¬ s[n].toNat = 46 from fun h => e (UInt8.toNat_inj.1 h))]
  clear hlast h0
  by_cases h : c = 46
  ·have HF := Lib.hid (HLO.out.trans (if_pos h))
   have e1 : ((c : Int) == 46) = true := by rw [h]; rfl
   clear h
   go_enter Tryz.func45, Tryz.ntmps45
   go_wp2
   go_ret
   exact ⟨zcH (by rw [HF.out] <;> omega), rfl⟩
  ·have HF := Lib.hid (HLO.out.trans (if_neg h))
   have e1 : ((c : Int) == 46) = false := beq_eq_false_iff_ne.2 (by omega)
   clear h
   go_enter Tryz.func45, Tryz.ntmps45
   go_wp2
   go_ret
   exact ⟨zcH (by rw [HF.out] <;> omega), rfl⟩
theorem zjO (s : ByteArray) (w : World) (hs : s.size ≤ 1073741824) :
  Calls Tryz.prog 46 #[.string s] w (zwJ w (zaT s.data.toList)) := by
 obtain ⟨L, x, hL, hx, hLl, hc⟩ := zkL s.data.toList
 rw [zaJ] at hLl
 go_enter Tryz.func46, Tryz.ntmps46
 go_wp2_with fail
 refine (zfI s _ _ hs (by decide)).mono ?_
 rintro e w1 ⟨v, rfl, hp, hb1⟩
 have hp' : zbZ w.heap.size w1 v (zaE s.data.toList) := hp
 obtain ⟨g, cap, rfl, hcap, hg, hcell⟩ := hp'.form2 (by omega)
 rw [hL] at hcap ⊢
 have hcx := hcell L (by omega)
 rw [hx] at hcx
 have HC := Lib.hid hcell
 have HL := Lib.hid hL
 have HX := Lib.hid hx
 clear hcell hp hp' hL hx
 rcases hc with ⟨h1, rfl, hk⟩ | ⟨rfl | hne, hk⟩
 ·have HK := Lib.hid hk
  obtain ⟨n, rfl⟩ : ∃ n, L = n + 1 := ⟨L - 1, by omega⟩
  clear hk h1
  go_wp2
  go_ret
  exact zdT (k := n + 1) (by unfold zaT; rw [HK.out]) (by rw [HL.out]; omega) (by omega) (by omega) hg HC.out hb1
 ·have HK := Lib.hid hk
  clear hk
  go_wp2
  go_ret
  exact zdT (k := 1) (by unfold zaT; rw [HK.out]) (by rw [HL.out]; omega) (by omega) (by omega) hg HC.out hb1
 ·have HK := Lib.hid hk
  have hxe : x.isEmpty = false := zcD hne
  clear hk hne
  by_cases h0 : L = 0
  ·subst h0
   go_wp2
   go_ret
   exact zdT (k := 1) (by unfold zaT; rw [HK.out]) (by rw [HL.out]; omega) (by omega) (by omega) hg HC.out hb1
  ·obtain ⟨n, rfl⟩ : ∃ n, L = n + 1 := ⟨L - 1, by omega⟩
   go_wp2
   go_ret
   exact zdT (k := n + 2) (by unfold zaT; rw [HK.out]) (by rw [HL.out]; omega) (by omega) (by omega) hg HC.out hb1
theorem z9I (t : List UInt8) : ∀ c ∈ zbO t, c.toNat < 65 ∨ 90 < c.toNat := fun c hc => by
 obtain ⟨d, _, rfl⟩ := List.mem_map.1 hc
 exact ybK d
theorem zqI {l : List UInt8} (hp : zdY l = true) (h : zgA (zbO l) = false ∨ ¬ zgH (zbO l) ≤ 253 ∨ (zaT (zbO l)).all zfQ = false) : zbS l = ([], 6) := zqT hp (by
 unfold zfC
 rcases h with h | h | h
 ·rw [h, Bool.and_false]
 ·rw [decide_eq_false h]; rfl
 ·rw [h, Bool.and_false]; rfl)
theorem z3O {l : List UInt8} (h1 : zgH l ≤ 253) (h2 : (zaT l).all zfQ = true) : zfC l = true := by unfold zfC; rw [decide_eq_true h1, h2]; rfl
theorem ycR {p : List UInt8 → Bool} {ps : List (List UInt8)} {k : Nat} {q : List UInt8} (hk : k < ps.length) (hq : ps.getD k [] = q) (h : p q = true) : ps.any p = true := by
 rw [List.any_eq_true]
 refine ⟨q, ?_, h⟩
 rw [← hq, List.getD, List.getElem?_eq_getElem hk]
 exact List.getElem_mem hk
theorem any_no {p : List UInt8 → Bool} {ps : List (List UInt8)} (h : ∀ j, j < ps.length → p (ps.getD j []) = false) : ps.any p = false := by
 rw [List.any_eq_false]
 intro x hx
 obtain ⟨j, hj, rfl⟩ := List.getElem_of_mem hx
 have := h j hj
 rw [List.getD, List.getElem?_eq_getElem hj] at this
 simpa using this
theorem zxJ (q : List UInt8) : (((ByteArray.mk q.toArray).extract 0 4).toList == [120, 110, 45, 45]) = (q.take 4 == [120, 110, 45, 45]) := by rw [Lib.extract_toList]; rfl
theorem zzL (q : List UInt8) : zgO q = (decide (4 ≤ q.length) && q.take 4 == [120, 110, 45, 45]) := by
 unfold zgO Lib.hasPrefix
 rw [Bool.eq_iff_iff, List.isPrefixOf_iff_prefix, List.prefix_iff_eq_take]
 simp only [Bool.and_eq_true, decide_eq_true_eq, beq_iff_eq, List.length_cons, List.length_nil]
 constructor
 ·intro h
  refine ⟨?_, h.symm⟩
  have := congrArg List.length h
  simp at this
  omega
 ·intro h; exact h.2.symm
theorem ztS (s : ByteArray) (w : World) (hs : s.size ≤ 1073741824) :
  Calls Tryz.prog 12 #[.string s] w (zvZ w (zbS s.data.toList)) := by
 cases hp : zdY s.data.toList with
 | false =>
  have HF := Lib.hid (zxP hp)
  go_enter Tryz.func12, Tryz.ntmps12
  go_wp2_with fail
  refine (zkP s _ hs).mono ?_
  rw [show ziD s = false from hp]
  rintro e w' ⟨rfl, rfl⟩
  go_wp2
  go_ret2
  exact zcK HF.out (Below.refl _ _)
 | true =>
  have HP := Lib.hid hp
  obtain ⟨t, ht⟩ : ∃ t, zbO s.data.toList = t := ⟨_, rfl⟩
  have htl : t.length = s.size := by rw [← ht, zjM, zaJ]
  have HLW : Hid (∀ c ∈ t, c.toNat < 65 ∨ 90 < c.toNat) := by rw [← ht]; exact z9I _
  have HT := Lib.hid ht
  clear hp
  go_enter Tryz.func12, Tryz.ntmps12
  go_wp2_with fail
  refine (zkP s _ hs).mono ?_
  rw [show ziD s = true from HP.out]
  rintro e w' ⟨rfl, rfl⟩
  go_wp2_with fail
  refine (ztL s _ hs).mono ?_
  rw [ht]
  rintro e w1 ⟨rfl, hb1⟩
  go_wp2_with fail
  refine (zsB ⟨t.toArray⟩ _ (by rw [zaD]; omega) (by rw [zaG]; exact HLW.out)).mono ?_
  rw [zaG]
  rintro e w' ⟨rfl, rfl⟩
  clear ht
  cases h2 : zgA t with
  | false =>
   have HF := Lib.hid (zqI HP.out (.inl (by rw [HT.out]; exact h2)))
   go_wp2
   go_ret2
   exact zcK HF.out hb1
  | true =>
   have H2 := Lib.hid h2
   clear h2
   go_wp2_with fail
   refine (zuN ⟨t.toArray⟩ _ (by rw [zaD]; omega)).mono ?_
   rw [zaG]
   rintro e w' ⟨rfl, rfl⟩
   obtain ⟨n, hn⟩ : ∃ n, zgH t = n := ⟨_, rfl⟩
   have hnl := zjU t
   rw [hn] at hnl ⊢
   by_cases h1 : 253 < n
   ·have HF := Lib.hid (zqI HP.out (.inr (.inl (by rw [HT.out, hn]; omega))))
    have hd : decide (253 < (n : Int)) = true := decide_eq_true (by omega)
    clear hn
    go_wp2
    go_ret2
    exact zcK HF.out hb1
   have hd : decide (253 < (n : Int)) = false := decide_eq_false (by omega)
   have H1 : Hid (zgH t ≤ 253) := by show zgH t ≤ 253; omega
   clear h1 hn hnl
   obtain ⟨ps, hps⟩ : ∃ ps, zaT t = ps := ⟨_, rfl⟩
   have hpl := zkJ t
   rw [hps] at hpl
   have HPS := Lib.hid hps
   go_wp2_with fail
   refine (zjO ⟨t.toArray⟩ _ (by rw [zaD]; omega)).mono ?_
   rw [zaG, hps]
   rintro e w2 ⟨g, c, rfl, -, hse, hb2⟩
   have hc2 := zaN hb1 hb2
   have HC := Lib.hid hse.2
   clear hb1 hb2 hse hps
   go_wp2
   go_loop [24] (fun i => ∃ k : Nat, k ≤ ps.length ∧ i = .int .i64 k ∧ Hid (∀ j, j < k → zfQ (ps.getD j []) = true)) (fun i => ps.length - (intOf i).toNat)
   case atStart => exact ⟨0, Nat.zero_le _, rfl, fun j h => absurd h (Nat.not_lt_zero j)⟩
   case round =>
    obtain ⟨k, hk, rfl, H⟩ := hrel
    by_cases hlt : k < ps.length
    ·have hcl := HC.out k hlt
     obtain ⟨q, hq⟩ : ∃ q, ps.getD k [] = q := ⟨_, rfl⟩
     rw [hq] at hcl
     have HQ := Lib.hid hq
     clear hq
     cases hy : zfQ q with
     | false =>
      have HF := Lib.hid (zqI HP.out (.inr (.inr (by rw [HT.out, HPS.out]; exact z3I hlt HQ.out hy))))
      have hq := of_decide_eq_false hy
      clear hy
      by_cases h1 : q.length < 1
      ·go_wp2
       go_ret2
       exact zcK HF.out hc2
      ·have hd1 : decide ((q.length : Int) < 1) = false := decide_eq_false (by omega)
       have hd2 : decide (63 < (q.length : Int)) = true := decide_eq_true (by omega)
       go_wp2
       go_ret2
       exact zcK HF.out hc2
     | true =>
      have hq := of_decide_eq_true hy
      have HY := Lib.hid hy
      have hd1 : decide ((q.length : Int) < 1) = false := decide_eq_false (by omega)
      have hd2 : decide (63 < (q.length : Int)) = false := decide_eq_false (by omega)
      clear hy hq
      go_wp2
      go_round
      case rel =>
       refine ⟨k + 1, by omega, by go_num, fun j hj => ?_⟩
       by_cases e : j = k
       ·subst e; rw [HQ.out]; exact HY.out
       ·exact H.out j (by omega)
      case measure => simp [intOf]; omega
    ·have HSZ : Hid (zfC t = true) := z3O H1.out (by rw [HPS.out]; exact z2Y fun j hj => H.out j (by omega))
     clear HC
     go_wp2_with fail
     refine (zjO ⟨t.toArray⟩ _ (by rw [zaD]; omega)).mono ?_
     rw [zaG, HPS.out]
     rintro e w3 ⟨g3, c3, rfl, -, hse, hb3⟩
     have hc3 := zaN hc2 hb3
     have HC := Lib.hid hse.2
     clear hc2 hb3 hse
     go_wp2
     go_loop [40] (fun i => ∃ k : Nat, k ≤ ps.length ∧ i = .int .i64 k ∧ Hid (∀ j, j < k → zgO (ps.getD j []) = false)) (fun i => ps.length - (intOf i).toNat)
     case atStart => exact ⟨0, Nat.zero_le _, rfl, fun j h => absurd h (Nat.not_lt_zero j)⟩
     case round =>
      obtain ⟨k, hk, rfl, H⟩ := hrel
      by_cases hlt : k < ps.length
      ·have hcl := HC.out k hlt
       obtain ⟨q, hq⟩ : ∃ q, ps.getD k [] = q := ⟨_, rfl⟩
       rw [hq] at hcl
       have HQ := Lib.hid hq
       have hct := zzL q
       clear hq
       cases hy : zgO q with
       | true =>
        have HF := Lib.hid ((zlF HP.out (by rw [HT.out]; exact HSZ.out) (by rw [HT.out]; exact H2.out) (by rw [HT.out, HPS.out]; exact ycR hlt HQ.out hy)).trans (if_pos rfl))
        rw [hy] at hct
        clear hy
        have h4 := of_decide_eq_true (Bool.and_eq_true_iff.1 hct.symm).1
        have hx := (zxJ q).trans (Bool.and_eq_true_iff.1 hct.symm).2
        have hd : decide (4 ≤ (q.length : Int)) = true := decide_eq_true (by omega)
        clear hct
        go_wp2
        go_ret2
        exact zcK HF.out hc3
       | false =>
        rw [hy] at hct
        have HY := Lib.hid hy
        clear hy
        by_cases h4 : 4 ≤ q.length
        ·have hx : (((ByteArray.mk q.toArray).extract 0 4).toList == [120, 110, 45, 45]) = false := by rw [zxJ]; rw [decide_eq_true h4, Bool.true_and] at hct; exact hct.symm
         have hd : decide (4 ≤ (q.length : Int)) = true := decide_eq_true (by omega)
         clear hct
         go_wp2
         go_round
         case rel =>
          refine ⟨k + 1, by omega, by go_num, fun j hj => ?_⟩
          by_cases e : j = k
          ·subst e; rw [HQ.out]; exact HY.out
          ·exact H.out j (by omega)
         case measure => simp [intOf]; omega
        ·have hd : decide (4 ≤ (q.length : Int)) = false := decide_eq_false (by omega)
         clear hct h4
         go_wp2
         go_round
         case rel =>
          refine ⟨k + 1, by omega, by go_num, fun j hj => ?_⟩
          by_cases e : j = k
          ·subst e; rw [HQ.out]; exact HY.out
          ·exact H.out j (by omega)
         case measure => simp [intOf]; omega
      ·have HF := Lib.hid ((zlF (b := false) HP.out (by rw [HT.out]; exact HSZ.out) (by rw [HT.out]; exact H2.out) (by rw [HT.out, HPS.out]; exact any_no fun j hj => H.out j (by omega))).trans (if_neg (by decide)))
       rw [HT.out] at HF
       go_wp2
       go_ret2
       exact zcK HF.out hc3
end

end Go.Proofs.YtphapecoimlngaaGreatDoor
