/-
  What the law HostReads leans on, and its walk (4 of 18).
-/
import Derived.Lib.Strings
import Derived.Test.YtphapecoimlngaaGreatDoorHostReadsPkC
import Derived.Test.YtphapecoimlngaaGreatDoorHostReadsPkA
namespace Go.Proofs.YtphapecoimlngaaGreatDoor
set_option maxRecDepth 100000
set_option maxHeartbeats 16000000
section
open Go.RowKit
def badL : List UInt8 := [34, 35, 37, 47, 58, 60, 62, 63, 64, 91, 92, 93, 94, 96, 123, 124, 125]
def ziY (c : UInt8) : Bool := decide (33 ≤ c.toNat ∧ c.toNat ≤ 126) && !hasB badL c
def zaT (l : List UInt8) : List (List UInt8) := (zaE l).take (zgU (zaE l))
def zgH (l : List UInt8) : Nat := if l.getLast? = some 46 then l.length - 1 else l.length
def zfN (w : List UInt8) : Bool := decide (1 ≤ w.length ∧ w.length ≤ 63)
def zhZ (w : List UInt8) : Bool := Lib.hasPrefix w [120, 110, 45, 45]
def zfC (l : List UInt8) : Bool := decide (zgH l ≤ 253) && (zaT l).all zfN
def zfX (l : List UInt8) : Bool := l.all ziY
def zeR (l : List UInt8) : Bool := l.all fun c => decide (c.toNat < 128)
def zuS (l : List UInt8) : Int := if (zfC l && zfX l) = false then 6 else if (zaT l).any zhZ = true then 7 else 0
def znJ (l : List UInt8) : Int := if zeR l = false then 7 else zuS (zbT l)
def zcG (l : List UInt8) : List UInt8 × Int := if znJ l = 0 then (zbT l, 0) else ([], znJ l)
def zlR (n m : List UInt8) : Bool := decide ((zaT m).length < (zaT n).length) && (zaT m).any (fun w => !w.isEmpty) && (zaT n).drop ((zaT n).length - (zaT m).length) == zaT m
theorem zxY (r : List UInt8) (c : UInt8) : Lib.hasSuffix r [c] = decide (r.getLast? = some c) := by
 rw [Bool.eq_iff_iff, decide_eq_true_iff]
 unfold Lib.hasSuffix
 rw [List.isSuffixOf_iff_suffix, List.getLast?_eq_some_iff]
 exact ⟨fun ⟨t, h⟩ => ⟨t, h.symm⟩, fun ⟨t, h⟩ => ⟨t, h.symm⟩⟩
theorem zlQ (r : List UInt8) (c : UInt8) : Lib.trimSuffix r [c] = if r.getLast? = some c then r.dropLast else r := by
 unfold Lib.trimSuffix
 rw [zxY]
 simp [List.dropLast_eq_take]
theorem z2V (l : List UInt8) : (Lib.trimSuffix l [46]).length = zgH l := by
 rw [zlQ]
 unfold zgH
 split <;> simp
theorem zrR (p : UInt8 → Bool) (h : ∀ n : Fin 256, p (UInt8.ofNat n.val) = true) (c : UInt8) : p c = true := by
 have := h ⟨c.toNat, c.toNat_lt⟩
 rwa [show UInt8.ofNat c.toNat = c from by simp] at this
theorem z9W (c : UInt8) : lowC (lowC c) = lowC c := by simpa using zrR (fun c => lowC (lowC c) == lowC c) (by decide +kernel) c
theorem z1F (c : UInt8) (h : c.toNat < 128) : (lowC c).toNat < 128 := by
 have := zrR (fun c => !decide (c.toNat < 128) || decide ((lowC c).toNat < 128)) (by decide +kernel) c
 simpa [h] using this
theorem z9U (c : UInt8) (h : ziY c = true) : c.toNat < 128 ∧ c.toNat ≠ 37 ∧ c.toNat ≠ 91 := by
 have := zrR (fun c => !ziY c || (decide (c.toNat < 128) && (decide (c.toNat ≠ 37) && decide (c.toNat ≠ 91)))) (by decide +kernel) c
 simpa [h] using this
theorem zkM (a b : List UInt8) : zbT (a ++ b) = zbT a ++ zbT b := by simp [zbT]
theorem zuA (l : List UInt8) : zbT (zbT l) = zbT l := by simp [zbT, z9W]
theorem zmQ {l : List UInt8} : zeR l = true ↔ ∀ c ∈ l, c.toNat < 128 := by simp [zeR]
theorem zvX {l : List UInt8} (h : zeR l = true) : zeR (zbT l) = true := by
 rw [zmQ] at *
 intro c hc
 obtain ⟨d, hd, rfl⟩ := List.mem_map.1 hc
 exact z1F d (h d hd)
/-- what is a name: its text in small letters, and that is one -/
structure zeC (n : List UInt8) : Prop where
 low : zbT n = n
 size : zgH n ≤ 253
 lab : ∀ w ∈ zaT n, 1 ≤ w.length ∧ w.length ≤ 63
 sign : ∀ c ∈ n, ziY c = true
 code : ∀ w ∈ zaT n, zhZ w = false
theorem z7G {l : List UInt8} (hl : zbT l = l) : zuS l = 0 ↔ zeC l := by
 unfold zuS zfC zfX
 constructor
 ·intro h
  split at h
  ·cases h
  ·rename_i h1
   split at h
   ·cases h
   ·rename_i h2
    simp [zfN] at h1 h2
    exact ⟨hl, h1.1, fun w hw => h1.2.1 w hw, h1.2.2, h2⟩
 ·intro h
  rw [if_neg, if_neg]
  ·simpa using h.code
  ·have h1 : (zaT l).all zfN = true := List.all_eq_true.2 fun w hw => decide_eq_true (h.lab w hw)
   have h2 : l.all ziY = true := List.all_eq_true.2 h.sign
   rw [h1, h2, decide_eq_true h.size]
   simp
theorem zeC.plain {n : List UInt8} (h : zeC n) : zeR n = true := zmQ.2 fun c hc => (z9U c (h.sign c hc)).1
theorem z1G {l : List UInt8} (h : znJ l = 0) : zeR l = true ∧ zeC (zbT l) := by
 unfold znJ at h
 cases hp : zeR l with
 | false => rw [hp] at h; cases h
 | true => rw [hp] at h; exact ⟨rfl, (z7G (zuA l)).1 h⟩
theorem ztB {l : List UInt8} (h : (zcG l).2 = 0) : zcG l = (zbT l, 0) ∧ zeC (zbT l) := by
 unfold zcG at *
 split at h
 ·rename_i h0
  rw [if_pos h0]
  exact ⟨rfl, (z1G h0).2⟩
 ·rename_i h0
  exact absurd h h0
theorem zoR {l : List UInt8} (h : (zcG l).2 = 0) : zeC (zcG l).1 := by
 have := ztB h
 rw [this.1]
 exact this.2
theorem z1E {l : List UInt8} (h : (zcG l).2 ≠ 0) : (zcG l).1 = [] := by
 unfold zcG at *
 split
 ·rename_i h0; rw [if_pos h0] at h; exact absurd rfl h
 ·rfl
theorem zhE (l : List UInt8) : 0 < (zaE l).length := by simp [zaE, splitB]
theorem zsX {ps : List (List UInt8)} (h : 0 < ps.length) : 0 < zgU ps := by unfold zgU; split <;> omega
theorem zyY (l : List UInt8) : 0 < (zaT l).length := by
 unfold zaT
 rw [List.length_take]
 have := zhE l
 have := zsX this
 omega
theorem zuG (a b : List UInt8) : zaE (a ++ [46] ++ b) = zaE a ++ zaE b := by
 have e : spl (hasB [46]) (a ++ [46] ++ b) = (zaE a ++ (spl (hasB [46]) b).1, (spl (hasB [46]) b).2) := by
  rw [zkF, zyW, z4U]
  rfl
 show (spl (hasB [46]) (a ++ [46] ++ b)).1 ++ [(spl (hasB [46]) (a ++ [46] ++ b)).2] = _
 rw [e]
 simp [zaE, splitB]
theorem zsV (xs ys : List (List UInt8)) (h : 0 < ys.length) (h1 : ys ≠ [[]]) : zgU (xs ++ ys) = xs.length + zgU ys := by
 have hd : (xs ++ ys).getD ((xs ++ ys).length - 1) [] = ys.getD (ys.length - 1) [] := by
  simp only [List.getD, List.length_append]
  rw [List.getElem?_append_right (by omega), show xs.length + ys.length - 1 - xs.length = ys.length - 1 from by omega]
 unfold zgU
 rw [hd, List.length_append]
 match ys, h with
 | [y], _ =>
  have hy : y ≠ [] := fun e => h1 (by rw [e])
  rw [if_neg (fun h => hy h.2), if_neg (fun h => hy h.2)]
 | y :: z :: ys, _ =>
  simp only [List.length_cons]
  by_cases e : (y :: z :: ys).getD (ys.length + 1 + 1 - 1) [] = []
  ·rw [if_pos ⟨by omega, e⟩, if_pos ⟨by omega, e⟩]; omega
  ·rw [if_neg (fun h => e h.2), if_neg (fun h => e h.2)]
theorem zlS (a b : List UInt8) (h : zaE b ≠ [[]]) : zaT (a ++ [46] ++ b) = zaE a ++ zaT b := by
 unfold zaT
 rw [zuG, zsV _ _ (zhE b) h, List.take_append, List.take_of_length_le (by omega), show (zaE a).length + zgU (zaE b) - (zaE a).length = zgU (zaE b) from by omega]
theorem zeC.ne {n : List UInt8} (h : zeC n) : zaE n ≠ [[]] := fun e => by
 have := (h.lab [] (by unfold zaT; rw [e]; decide)).1
 simp at this
theorem zwL {a : List UInt8} (hn : a ≠ []) (h : a.getLast hn ≠ 46) : zaT a = zaE a := by
 unfold zaT
 have := zdH (spl (hasB [46]) a).1.length (zaE a) (by rw [znQ]; simp) (.inr (by rw [znQ, z2U]; exact z6A a hn h))
 rw [this, List.take_of_length_le (by rw [znQ]; simp)]
theorem z9F (p : UInt8 → Bool) : ∀ (l : List UInt8) (st : List (List UInt8) × List UInt8) (P : UInt8 → Prop), (∀ c ∈ l, P c) → (∀ w ∈ st.1, ∀ c ∈ w, P c ∧ p c = false) → (∀ c ∈ st.2, P c ∧ p c = false) →
  (∀ w ∈ (l.foldl (zaZ p) st).1, ∀ c ∈ w, P c ∧ p c = false) ∧ ∀ c ∈ (l.foldl (zaZ p) st).2, P c ∧ p c = false := by
 intro l
 induction l with
 | nil => intro st P _ h1 h2; exact ⟨h1, h2⟩
 | cons d l ih =>
  intro st P h0 h1 h2
  rw [List.foldl_cons]
  refine ih _ P (fun c hc => h0 c (by simp [hc])) ?_ ?_
  ·unfold zaZ
   split
   ·intro w hw
    rcases List.mem_append.1 hw with h | h
    ·exact h1 w h
    ·rw [List.mem_singleton.1 h]; exact h2
   ·exact h1
  ·unfold zaZ
   split
   ·intro c hc; cases hc
   ·rename_i hp
    intro c hc
    rcases List.mem_append.1 hc with h | h
    ·exact h2 c h
    ·rw [List.mem_singleton.1 h]; exact ⟨h0 d (by simp), by simpa using hp⟩
theorem z7D {l w : List UInt8} (h : w ∈ zaE l) : ∀ c ∈ w, c ∈ l ∧ hasB [46] c = false := by
 have k := z9F (hasB [46]) l ([], []) (· ∈ l) (fun _ h => h) (by simp) (by simp)
 rcases List.mem_append.1 h with h | h
 ·exact k.1 w h
 ·rw [List.mem_singleton.1 h]; exact k.2
theorem zyN {l w : List UInt8} (h : w ∈ zaT l) : w ∈ zaE l := List.mem_of_mem_take h
theorem zxN (l : List UInt8) : l.length ≤ zgH l + 1 := by unfold zgH; split <;> omega
theorem z4B {l : List UInt8} (h : zfC l = true) : l.length ≤ 254 := by
 unfold zfC at h
 have := of_decide_eq_true (Bool.and_eq_true_iff.1 h).1
 have := zxN l
 omega
theorem zlK (l : List UInt8) : zgH l ≤ l.length := by unfold zgH; split <;> omega
/-- a label of a name is a name -/
theorem zeC.label {n w : List UInt8} (h : zeC n) (hw : w ∈ zaT n) : zeC w := by
 have hin := z7D (zyN hw)
 have hd : zaE w = [w] := z0A w fun c hc => (hin c hc).2
 have hl : zaT w = [w] := by
  unfold zaT
  rw [hd, zdH 0 [w] rfl (.inl rfl)]
  rfl
 obtain ⟨h1, h2⟩ := h.lab w hw
 refine ⟨?_, Nat.le_trans (zlK w) (by omega), ?_, fun c hc => h.sign c (hin c hc).1, ?_⟩
 ·have key : ∀ l : List UInt8, zbT l = l → ∀ c ∈ l, lowC c = c := by
   intro l
   induction l with
   | nil => intro _ c hc; cases hc
   | cons d l ih =>
    intro he c hc
    have he' : lowC d :: zbT l = d :: l := he
    injection he' with e1 e2
    rcases List.mem_cons.1 hc with rfl | h
    ·exact e1
    ·exact ih e2 c h
  have hk := key n h.low
  unfold zbT
  conv => rhs; rw [← List.map_id w]
  exact List.map_congr_left fun c hc => hk c (hin c hc).1
 ·rw [hl]; intro v hv; rw [List.mem_singleton.1 hv]; exact ⟨h1, h2⟩
 ·rw [hl]; intro v hv; rw [List.mem_singleton.1 hv]; exact h.code w hw
theorem zyO {xs : List (List UInt8)} {x n : List UInt8} (hn : zeC n) (hx : zaT x = xs ++ zaT n) (h0 : 0 < xs.length) : zlR x n = true := by
 unfold zlR
 have h1 : (zaT n).any (fun w => !w.isEmpty) = true := by
  have hp := zyY n
  match e : zaT n, hp with
  | w :: ws, _ =>
   have := (hn.lab w (by rw [e]; simp)).1
   cases w with
   | nil => simp at this
   | cons c w => simp
 rw [h1, hx, List.length_append, decide_eq_true (by omega), show xs.length + (zaT n).length - (zaT n).length = xs.length from by omega, List.drop_left]
 simp
theorem zrM {n m : List UInt8} (h : (zaT n).length ≤ (zaT m).length) : zlR n m = false := by
 unfold zlR
 rw [decide_eq_false (by omega)]
 rfl
theorem zeC.join {a b : List UInt8} (ha : zeC a) (hb : zeC b) (hl : a.length + b.length ≤ 250) (hn : a ≠ []) (hd : a.getLast hn ≠ 46) : zeC (a ++ [46] ++ b) ∧ zaT (a ++ [46] ++ b) = zaT a ++ zaT b := by
 have e : zaT (a ++ [46] ++ b) = zaT a ++ zaT b := by rw [zlS a b hb.ne, zwL hn hd]
 refine ⟨⟨?_, Nat.le_trans (zlK _) (by simp; omega), ?_, ?_, ?_⟩, e⟩
 ·rw [zkM, zkM, ha.low, hb.low]; rfl
 ·rw [e]; intro w hw
  rcases List.mem_append.1 hw with h | h
  ·exact ha.lab w h
  ·exact hb.lab w h
 ·intro c hc
  rcases List.mem_append.1 hc with h | h
  ·rcases List.mem_append.1 h with h | h
   ·exact ha.sign c h
   ·rw [List.mem_singleton.1 h]; decide
  ·exact hb.sign c h
 ·rw [e]; intro w hw
  rcases List.mem_append.1 hw with h | h
  ·exact ha.code w h
  ·exact hb.code w h
/-- what stands below a name, with a label more ahead -/
theorem zeC.more {a n : List UInt8} (hn : zeC n) : zlR (a ++ [46] ++ n) n = true ∧ zlR n (a ++ [46] ++ n) = false ∧ zlR n n = false := by
 have e := zlS a n hn.ne
 exact ⟨zyO hn e (zhE a), zrM (by rw [e, List.length_append]; omega), zrM (Nat.le_refl _)⟩
end

section
open Go.RowKit
/-- texts that lie in a row from the beginning of block g on -/
def Seen (w : World) (g : Nat) (ps : List (List UInt8)) : Prop := g < w.heap.size ∧ ∀ j, j < ps.length → w.cell? ⟨g, j, none⟩ = some (.string ⟨(ps.getD j []).toArray⟩)
theorem Seen.keep {w w' : World} {g : Nat} {ps : List (List UInt8)} (h : Seen w g ps) (hb : Below w.heap.size w w') : Seen w' g ps := ⟨Nat.lt_of_lt_of_le h.1 hb.size, fun j hj => (hb.cell (p := ⟨g, j, none⟩) h.1).trans (h.2 j hj)⟩
def zuJ (w : World) (ps : List (List UInt8)) (e : Ending) (w' : World) : Prop := ∃ g c, e = .returned (.slice (some ⟨g, 0, none⟩) ps.length c) ∧ ps.length ≤ c ∧ Seen w' g ps ∧ Below w.heap.size w w'
theorem zeA {w w' : World} {ps qs : List (List UInt8)} {g c n k : Nat} (hq : ps.take k = qs) (hk : k ≤ ps.length) (hn : n = k) (hcap : k ≤ c) (hg : g < w'.heap.size) (hc : ∀ j, j < ps.length → w'.cell? ⟨g, j, none⟩ = some (.string ⟨(ps.getD j []).toArray⟩)) (hb : Below w.heap.size w w') : zuJ w qs (.returned (.slice (some ⟨g, 0, none⟩) n c)) w' := by
 subst hq hn
 refine ⟨g, c, by rw [List.length_take, Nat.min_eq_left hk], by rw [List.length_take, Nat.min_eq_left hk]; exact hcap, ⟨hg, fun j hj => ?_⟩, hb⟩
 rw [List.length_take, Nat.min_eq_left hk] at hj
 rw [hc j (by omega)]
 simp [List.getD, hj]
theorem zfZ (s : ByteArray) (w : World) : Calls Tryz.prog 14 #[.string s] w fun e w' => e = .returned (.string s) ∧ w = w' := by
 go_enter Tryz.func14, Tryz.ntmps14
 go_wp2
 go_ret
 exact ⟨rfl, rfl⟩
theorem zkK (l : List UInt8) : ∃ L x, (zaE l).length = L + 1 ∧ (zaE l).getD L [] = x ∧ L ≤ l.length ∧ (0 < L ∧ x = [] ∧ zgU (zaE l) = L ∨ (L = 0 ∨ x ≠ []) ∧ zgU (zaE l) = L + 1) := by
 have h0 := zhE l
 have hl := zcE (hasB [46]) l
 obtain ⟨L, hL⟩ : ∃ L, (zaE l).length = L + 1 := ⟨(zaE l).length - 1, by omega⟩
 refine ⟨L, _, hL, rfl, by unfold zaE at hL; omega, ?_⟩
 by_cases h : 0 < L ∧ (zaE l).getD L [] = []
 ·obtain ⟨h1, h2⟩ := h
  refine .inl ⟨h1, h2, ?_⟩
  obtain ⟨n, rfl⟩ : ∃ n, L = n + 1 := ⟨L - 1, by omega⟩
  exact zeO n _ hL h2
 ·have hc : L = 0 ∨ (zaE l).getD L [] ≠ [] := by
   by_cases e : L = 0
   ·exact .inl e
   ·exact .inr fun e2 => h ⟨by omega, e2⟩
  exact .inr ⟨hc, zdH L _ hL hc⟩
theorem zjW (l : List UInt8) : (zaT l).length ≤ l.length + 1 := by
 have h1 := zcE (hasB [46]) l
 unfold zaT zaE
 rw [List.length_take]
 omega
theorem zoT (s : ByteArray) (w : World) (hs : s.size ≤ 1073741824) :
  Calls Tryz.prog 16 #[.string s] w (zuJ w (zaT s.data.toList)) := by
 obtain ⟨L, x, hL, hx, hLl, hc⟩ := zkK s.data.toList
 rw [zaF] at hLl
 go_enter Tryz.func16, Tryz.ntmps16
 go_wp2_with fail
 refine (zfZ s _).mono ?_
 rintro e w' ⟨rfl, rfl⟩
 go_wp2_with fail
 refine (zdA s _ _ hs).mono ?_
 rintro e w1 ⟨v, rfl, hp, hb1⟩
 have hp' : zbV w.heap.size w1 v (zaE s.data.toList) := hp
 obtain ⟨g, cap, rfl, hcap, hg, hcell⟩ := hp'.form2 (by omega)
 rw [hL] at hcap ⊢
 have hcx := hcell L (by omega)
 rw [hx] at hcx
 have HC := Lib.hid hcell
 have HL := Lib.hid hL
 have HX := Lib.hid hx
 clear hcell hp hp' hL hx
 rcases hc with ⟨h1, rfl, hk⟩ | ⟨rfl | hne, hk⟩
 ·have HK := Lib.hid hk
  obtain ⟨n, rfl⟩ : ∃ n, L = n + 1 := ⟨L - 1, by omega⟩
  clear hk h1
  go_wp2
  go_ret
  exact zeA (k := n + 1) (by unfold zaT; rw [HK.out]) (by rw [HL.out]; omega) (by omega) (by omega) hg HC.out hb1
 ·have HK := Lib.hid hk
  clear hk
  go_wp2
  go_ret
  exact zeA (k := 1) (by unfold zaT; rw [HK.out]) (by rw [HL.out]; omega) (by omega) (by omega) hg HC.out hb1
 ·have HK := Lib.hid hk
  have hxe : x.isEmpty = false := zbY hne
  clear hk hne
  by_cases h0 : L = 0
  ·subst h0
   go_wp2
   go_ret
   exact zeA (k := 1) (by unfold zaT; rw [HK.out]) (by rw [HL.out]; omega) (by omega) (by omega) hg HC.out hb1
  ·obtain ⟨n, rfl⟩ : ∃ n, L = n + 1 := ⟨L - 1, by omega⟩
   go_wp2
   go_ret
   exact zeA (k := n + 2) (by unfold zaT; rw [HK.out]) (by rw [HL.out]; omega) (by omega) (by omega) hg HC.out hb1
end

section
open Go.RowKit
theorem z4R (q : List UInt8) (w : World) : Calls Tryz.prog 41 #[.string ⟨q.toArray⟩] w fun e w' => e = .returned (.bool (zhZ q)) ∧ w = w' := by
 go_enter Tryz.func41, Tryz.ntmps41
 go_wp2_with fail
 refine (Tryz.strings_HasPrefix ⟨q.toArray⟩ _ _).mono ?_
 rintro e w' ⟨rfl, rfl⟩
 go_wp2
 go_ret
 exact ⟨rfl, rfl⟩
theorem z0X {p : List UInt8 → Bool} {ps : List (List UInt8)} {k : Nat} {q : List UInt8} (hk : k < ps.length) (hq : ps.getD k [] = q) (h : p q = false) : ps.all p = false := by
 rw [List.all_eq_false]
 refine ⟨q, ?_, by simp [h]⟩
 rw [← hq, List.getD, List.getElem?_eq_getElem hk]
 exact List.getElem_mem hk
theorem z0R {p : List UInt8 → Bool} {ps : List (List UInt8)} (h : ∀ j, j < ps.length → p (ps.getD j []) = true) : ps.all p = true := by
 rw [List.all_eq_true]
 intro x hx
 obtain ⟨j, hj, rfl⟩ := List.getElem_of_mem hx
 have := h j hj
 rwa [List.getD, List.getElem?_eq_getElem hj] at this
theorem zvP (s : ByteArray) (w : World) (hs : s.size ≤ 140737488355328) : Calls Tryz.prog 67 #[.string s, .string ⟨#[46]⟩] w fun e w' => ∃ t : ByteArray, e = .returned (.string t) ∧ t.size = zgH s.data.toList ∧ w = w' := by
 refine (Tryz.strings_TrimSuffix s ⟨#[46]⟩ w (by omega)).mono ?_
 rintro e w' ⟨rfl, rfl⟩
 exact ⟨_, rfl, by rw [zaB]; exact z2V _, rfl⟩
theorem z1T (s : ByteArray) (w : World) (hs : s.size ≤ 140737488355328) :
  Calls Tryz.prog 38 #[.string s] w (zeS w (zfC s.data.toList)) := by
 obtain ⟨ps, hps⟩ : ∃ ps, zaT s.data.toList = ps := ⟨_, rfl⟩
 have HLB := Lib.hid (fun W h => zoT s W h)
 rw [hps] at HLB
 have hlg := zxN s.data.toList
 rw [zaF] at hlg
 have HS : Hid (zfC s.data.toList = (decide (zgH s.data.toList ≤ 253) && ps.all zfN)) := by show _ = _; rw [← hps]; rfl
 have hpl : ps.length ≤ s.size + 1 := by rw [← hps]; have := zjW s.data.toList; rwa [zaF] at this
 clear hps
 go_enter Tryz.func38, Tryz.ntmps38
 go_wp2_with fail
 refine (zfZ s _).mono ?_
 rintro e w' ⟨rfl, rfl⟩
 go_wp2_with fail
 refine (zvP s _ hs).mono ?_
 rintro e w' ⟨t, rfl, ht, rfl⟩
 rw [← ht] at HS hlg
 clear ht
 by_cases hb : 253 < t.size
 ·have hd : decide (253 < (t.size : Int)) = true := decide_eq_true (by omega)
  have HF := Lib.hid (show zfC s.data.toList = false by rw [HS.out, decide_eq_false (by omega)]; rfl)
  go_wp2
  go_ret
  exact zaY HF.out (Below.refl _ _)
 have hd : decide (253 < (t.size : Int)) = false := decide_eq_false (by omega)
 have HF : Hid (zfC s.data.toList = ps.all zfN) := by show _ = _; rw [HS.out, decide_eq_true (by omega)]; rfl
 have hss : s.size ≤ 254 := by omega
 clear hb HS hlg
 go_wp2_with fail
 refine (HLB.out _ (by omega)).mono ?_
 rintro e w1 ⟨g, c, rfl, -, hseen, hb1⟩
 have HC := Lib.hid hseen.2
 have hg := hseen.1
 clear hseen hd HLB
 go_wp2
 go_loop [13] (fun i => ∃ k : Nat, k ≤ ps.length ∧ i = .int .i64 k ∧ Hid (∀ j, j < k → zfN (ps.getD j []) = true)) (fun i => ps.length - (intOf i).toNat)
 case atStart => exact ⟨0, Nat.zero_le _, rfl, fun j h => absurd h (Nat.not_lt_zero j)⟩
 case round =>
  obtain ⟨k, hk, rfl, H⟩ := hrel
  by_cases hlt : k < ps.length
  ·have hcl := HC.out k hlt
   obtain ⟨q, hq⟩ : ∃ q, ps.getD k [] = q := ⟨_, rfl⟩
   rw [hq] at hcl
   have HQ := Lib.hid hq
   clear hq
   by_cases h1 : q = []
   ·subst h1
    have HN := Lib.hid (z0X hlt HQ.out (show zfN [] = false from rfl))
    go_wp2
    go_ret
    exact zaY (HF.out.trans HN.out) hb1
   ·have hqe : q.isEmpty = false := zbY h1
    have hq0 : 0 < q.length := List.length_pos_iff.2 h1
    by_cases h2 : 63 < q.length
    ·have HN := Lib.hid (z0X hlt HQ.out (show zfN q = false from decide_eq_false (by omega)))
     have hd : decide (63 < (q.length : Int)) = true := decide_eq_true (by omega)
     clear h1
     go_wp2
     go_ret
     exact zaY (HF.out.trans HN.out) hb1
    ·have HY := Lib.hid (show zfN q = true from decide_eq_true (by omega))
     have hd : decide (63 < (q.length : Int)) = false := decide_eq_false (by omega)
     clear h1
     go_wp2
     go_round
     case rel =>
      refine ⟨k + 1, by omega, by go_num, fun j hj => ?_⟩
      by_cases e : j = k
      ·subst e; rw [HQ.out]; exact HY.out
      ·exact H.out j (by omega)
     case measure => simp [intOf]; omega
  ·have HN := Lib.hid (z0R (p := zfN) (ps := ps) fun j hj => H.out j (by omega))
   go_wp2
   go_ret
   exact zaY (HF.out.trans HN.out) hb1
theorem z8Y (c : UInt8) (w : World) (hc : c.toNat < 128) : Calls Tryz.prog 68 #[.string ⟨#[34, 35, 37, 47, 58, 60, 62, 63, 64, 91, 92, 93, 94, 96, 123, 124, 125]⟩, .int .i32 (c.toNat : Int)] w fun e w' => e = .returned (.bool (hasB badL c)) ∧ w = w' := by
 refine (Tryz.strings_ContainsRune_ascii _ _ w (by omega) (by omega)).mono ?_
 rintro e w' ⟨rfl, rfl⟩
 rw [zpL]
 refine ⟨?_, rfl⟩
 show Ending.returned (.bool (decide (0 ≤ Lib.indexByte badL c))) = _
 cases h : hasB badL c with
 | true => rw [decide_eq_true ((zhU _ _).1 h)]
 | false => rw [(zhU _ _).2 h]; rfl
theorem zwR {s : ByteArray} {k : Nat} (hk : k < s.size) (h : ziY s[k] = false) : zfX s.data.toList = false := by
 unfold zfX
 rw [List.all_eq_false]
 refine ⟨s[k], ?_, by simp [h]⟩
 show s.data[k] ∈ _
 simp
theorem zsG {s : ByteArray} (h : ∀ k (h : k < s.size), ziY s[k] = true) : zfX s.data.toList = true := by
 unfold zfX
 rw [List.all_eq_true]
 intro x hx
 obtain ⟨j, hj, rfl⟩ := List.getElem_of_mem hx
 exact h j (by simpa using hj)
theorem zyU (s : ByteArray) (k : Nat) (h : k < s.size) (hp : s[k].toNat < 128) : Utf8.decode s k = (s[k].toNat, 1) := by
 have := zwQ s k h
 rw [zfY, if_pos (by omega), this]
theorem z3V (s : ByteArray) (w : World) (hp : zeR s.data.toList = true) :
  Calls Tryz.prog 39 #[.string s] w (zeS w (zfX s.data.toList)) := by
 have HP : Hid (∀ k (h : k < s.size), s[k].toNat < 128) := fun k h => zmQ.1 hp _ (by show s.data[k] ∈ _; simp)
 clear hp
 go_enter Tryz.func39, Tryz.ntmps39
 go_wp2_with fail
 refine (zfZ s _).mono ?_
 rintro e w' ⟨rfl, rfl⟩
 go_wp2
 go_loopw [] (fun wr => ∃ k : Nat, wr.heap[w.heap.size]? = some (.stringIter s k) ∧ Below w.heap.size w wr ∧ k ≤ s.size ∧ Hid (∀ j (h : j < s.size), j < k → ziY s[j] = true)) (fun wr => s.size - wr.iterPos w.heap.size)
 case atStart => exact ⟨0, World.iter_heap w s 0, (Below.refl _ w).alloc (Nat.le_refl _) _, Nat.zero_le _, fun j _ h => absurd h (Nat.not_lt_zero j)⟩
 case round =>
  obtain ⟨k, hit, hbw, hk, H⟩ := hrel
  by_cases hlt : k < s.size
  ·have hnx : ∀ ty, (Instr.next (.pointer (some ⟨w.heap.size, 0, none⟩)) true ty).run Tryz.prog wr = _ := fun ty => Lib.run_next_any_at wr w.heap.size s k ty hit hlt
   have hp := HP.out k hlt
   rw [zyU s k hlt hp] at hnx
   have hit2 := Lib.iterAt_heap wr w.heap.size s k (k + 1) hit
   have hbw2 := Lib.below_iterAt hbw (k := w.heap.size) (Nat.le_refl _) s (k + 1)
   have HWP : Hid (wr.iterPos w.heap.size = k) := by
    show wr.iterPos w.heap.size = k
    simp only [World.iterPos, hit]
   simp only at hnx
   generalize wr.iterAt w.heap.size s (k + 1) = wi at *
   have HBA := Lib.hid (fun W => z8Y s[k] W hp)
   have HSC := Lib.hid (show ziY s[k] = (decide (33 ≤ s[k].toNat ∧ s[k].toNat ≤ 126) && !hasB badL s[k]) from rfl)
   have HNO := Lib.hid (fun h => zwR hlt h)
   obtain ⟨c, hc⟩ : ∃ c, s[k].toNat = c := ⟨_, rfl⟩
   generalize hbd : hasB badL s[k] = bd at HBA HSC
   rw [hc] at hp hnx HBA HSC
   clear hbd
   have HC := Lib.hid hc
   clear hc
   by_cases h1 : c < 33
   ·have HF := Lib.hid (HNO.out (by rw [HSC.out, decide_eq_false (by omega)]; rfl))
    have hd : decide ((c : Int) < 33) = true := decide_eq_true (by omega)
    go_wp2
    go_ret
    exact zaY HF.out hbw2
   ·have hd1 : decide ((c : Int) < 33) = false := decide_eq_false (by omega)
    by_cases h2 : 126 < c
    ·have HF := Lib.hid (HNO.out (by rw [HSC.out, decide_eq_false (by omega)]; rfl))
     have hd : decide (126 < (c : Int)) = true := decide_eq_true (by omega)
     go_wp2
     go_ret
     exact zaY HF.out hbw2
    ·have hd2 : decide (126 < (c : Int)) = false := decide_eq_false (by omega)
     cases bd with
     | true =>
      have HF := Lib.hid (HNO.out (by rw [HSC.out]; simp))
      go_wp2_with (go_at_call 68; refine (HBA.out _).mono ?_; rintro e w' ⟨rfl, rfl⟩)
      go_ret
      exact zaY HF.out hbw2
     | false =>
      have HY := Lib.hid (show ziY s[k] = true by rw [HSC.out, decide_eq_true (by omega)]; rfl)
      go_wp2_with (go_at_call 68; refine (HBA.out _).mono ?_; rintro e w' ⟨rfl, rfl⟩)
      go_roundw
      case rel =>
       refine ⟨k + 1, hit2, hbw2, by omega, fun j hj hjk => ?_⟩
       by_cases e : j = k
       ·subst e; exact HY.out
       ·exact H.out j hj (by omega)
      case measure =>
       rw [HWP.out]
       simp only [World.iterPos, hit2]
       omega
  ·have hnx : ∀ ty, (Instr.next (.pointer (some ⟨w.heap.size, 0, none⟩)) true ty).run Tryz.prog wr = _ := fun ty => Lib.run_next_end_at wr w.heap.size s k ty hit hlt
   have HF := Lib.hid (zsG (s := s) fun j hj => H.out j hj (by omega))
   go_wp2
   go_ret
   exact zaY HF.out hbw
end

section
open Go.RowKit
theorem zcM {w x1 x2 : World} (h1 : Below w.heap.size w x1) (h2 : Below x1.heap.size x1 x2) : Below w.heap.size w x2 := h1.trans (h2.mono h1.size)
theorem anyF (f : Nat) (p : List UInt8 → Bool) (hf : ∀ (q : List UInt8) (w : World), Calls Tryz.prog f #[.string ⟨q.toArray⟩] w fun e w' => e = .returned (.bool (p q)) ∧ w = w') (ef : ∀ args w, (callFunc f args).run Tryz.prog w = .ok (.enter f args) w) (g c : Nat) (ps : List (List UInt8)) (w : World) (hs : Seen w g ps) (hl : ps.length ≤ 9223372036854775807) :
  Calls Tryz.prog 40 #[.slice (some ⟨g, 0, none⟩) ps.length c, .func (.func f) #[] #[]] w fun e w' => e = .returned (.bool (ps.any p)) ∧ Below w.heap.size w w' := by
 refine (Tryz.slices_ContainsFunc strC p f #[] ef g 0 ps.length c ps w (fun W x _ => (hf x W).mono fun e w' h => ⟨h.1, 0, by rw [← h.2]; rfl⟩) (Nat.le_refl _) hl (fun j hj => ?_)).mono ?_
 ·rw [Nat.zero_add, hs.2 j hj]
  simp [strC, List.getD, List.getElem?_eq_getElem hj]
 ·rintro e w' ⟨rfl, q, rfl⟩
  rw [List.take_length]
  exact ⟨rfl, zbE (Below.refl _ _) q⟩
theorem codedF (g c : Nat) (ps : List (List UInt8)) (w : World) (hs : Seen w g ps) (hl : ps.length ≤ 9223372036854775807) :
  Calls Tryz.prog 40 #[.slice (some ⟨g, 0, none⟩) ps.length c, .func (.func 41) #[] #[]] w fun e w' => e = .returned (.bool (ps.any zhZ)) ∧ Below w.heap.size w w' :=
 anyF _ _ z4R (enters_of Tryz.func41 (by kernel_rfl) rfl) g c ps w hs hl
theorem zxV {l : List UInt8} (h : zeR l = false) : zcG l = ([], 7) := by
 unfold zcG znJ
 rw [if_pos h, if_neg (by decide)]
theorem ziP {l : List UInt8} (hp : zeR l = true) {e : Int} (h : zuS (zbT l) = e) : zcG l = if e = 0 then (zbT l, 0) else ([], e) := by
 have e1 : znJ l = e := by unfold znJ; rw [if_neg (by simp [hp]), h]
 unfold zcG
 rw [e1]
theorem zpR {l : List UInt8} (hp : zeR l = true) (h : (zfC (zbT l) && zfX (zbT l)) = false) : zcG l = ([], 6) := (ziP (e := 6) hp (by unfold zuS; rw [if_pos h])).trans (if_neg (by decide))
theorem zlG {l : List UInt8} (hp : zeR l = true) (h1 : zfC (zbT l) = true) (h2 : zfX (zbT l) = true) {b : Bool} (h3 : (zaT (zbT l)).any zhZ = b) : zcG l = if b = true then ([], 7) else (zbT l, 0) := by
 cases b
 ·exact ziP (e := 0) hp (by unfold zuS; rw [if_neg (by simp [h1, h2]), if_neg (by simp [h3])])
 ·exact ziP (e := 7) hp (by unfold zuS; rw [if_neg (by simp [h1, h2]), if_pos h3])
def zvZ (w : World) (x : List UInt8 × Int) (e : Ending) (w' : World) : Prop := e = .returned (.tuple #[.string ⟨x.1.toArray⟩, .int .i64 x.2]) ∧ Below w.heap.size w w'
theorem zcQ {w w' : World} {x : List UInt8 × Int} {l : List UInt8} {n : Int} (h : x = (l, n)) (hb : Below w.heap.size w w') : zvZ w x (.returned (.tuple #[.string ⟨l.toArray⟩, .int .i64 n])) w' := by
 subst h; exact ⟨rfl, hb⟩
theorem zjG (s : ByteArray) (w : World) (hs : s.size ≤ 140737488355328) :
  Calls Tryz.prog 11 #[.string s] w (zvZ w (zcG s.data.toList)) := by
 cases hp : zeR s.data.toList with
 | false =>
  have HF := Lib.hid (zxV hp)
  go_enter Tryz.func11, Tryz.ntmps11
  go_wp2_with fail
  refine (ztE s _ hs).mono ?_
  rw [show ziB s = false from hp]
  rintro e w' ⟨rfl, rfl⟩
  go_wp2
  go_ret2
  exact zcQ HF.out (Below.refl _ _)
 | true =>
  have HP := Lib.hid hp
  obtain ⟨t, ht⟩ : ∃ t, zbT s.data.toList = t := ⟨_, rfl⟩
  have htl : t.length = s.size := by rw [← ht, zjH, zaF]
  have htp : zeR t = true := by rw [← ht]; exact zvX hp
  have HT := Lib.hid ht
  clear hp
  go_enter Tryz.func11, Tryz.ntmps11
  go_wp2_with fail
  refine (ztE s _ hs).mono ?_
  rw [show ziB s = true from HP.out]
  rintro e w' ⟨rfl, rfl⟩
  go_wp2_with fail
  refine (z2X s _ hs).mono ?_
  rw [ht]
  rintro e w1 ⟨rfl, hb1⟩
  go_wp2_with fail
  refine (z1T ⟨t.toArray⟩ _ (by rw [zaB]; omega)).mono ?_
  rw [zaC]
  rintro e w2 ⟨rfl, hb2⟩
  have hc2 := zcM hb1 hb2
  clear hb1 hb2 ht
  cases h1 : zfC t with
  | false =>
   have HF := Lib.hid (zpR HP.out (by rw [HT.out, h1]; rfl))
   go_wp2
   go_ret2
   exact zcQ HF.out hc2
  | true =>
   have H1 := Lib.hid h1
   have htl4 := z4B h1
   clear h1
   go_wp2_with fail
   refine (z3V ⟨t.toArray⟩ _ (by rw [zaC]; exact htp)).mono ?_
   rw [zaC]
   rintro e w3 ⟨rfl, hb3⟩
   have hc3 := zcM hc2 hb3
   clear hc2 hb3
   cases h2 : zfX t with
   | false =>
    have HF := Lib.hid (zpR HP.out (by rw [HT.out, h2, Bool.and_false]))
    go_wp2
    go_ret2
    exact zcQ HF.out hc3
   | true =>
    have H2 := Lib.hid h2
    clear h2
    go_wp2_with fail
    refine (zoT ⟨t.toArray⟩ _ (by rw [zaB]; omega)).mono ?_
    rw [zaC]
    rintro e w4 ⟨g, c, rfl, -, hse, hb4⟩
    have hc4 := zcM hc3 hb4
    clear hc3 hb4
    go_wp2_with fail
    refine (codedF g c _ _ hse (by have := zjW t; omega)).mono ?_
    rintro e w5 ⟨rfl, hb5⟩
    have hc5 := zcM hc4 hb5
    clear hc4 hb5 hse
    cases h3 : (zaT t).any zhZ with
    | false =>
     have HF := Lib.hid (zlG (b := false) HP.out (by rw [HT.out]; exact H1.out) (by rw [HT.out]; exact H2.out) (by rw [HT.out]; exact h3))
     rw [if_neg (by decide), HT.out] at HF
     go_wp2
     go_ret2
     exact zcQ HF.out hc5
    | true =>
     have HF := Lib.hid (zlG (b := true) HP.out (by rw [HT.out]; exact H1.out) (by rw [HT.out]; exact H2.out) (by rw [HT.out]; exact h3))
     rw [if_pos rfl] at HF
     go_wp2
     go_ret2
     exact zcQ HF.out hc5
end

section
open Go.RowKit
def badR : List UInt8 := [35, 47, 58, 60, 62, 63, 64, 91, 93, 94, 124, 37, 123, 125]
theorem z7M (c : UInt8) : ziY c = (decide (33 ≤ c.toNat ∧ c.toNat ≤ 126) && (!hasB badR c && decide (c.toNat ≠ 92 ∧ c.toNat ≠ 34 ∧ c.toNat ≠ 96))) := by
 simpa using zrR (fun c => ziY c == (decide (33 ≤ c.toNat ∧ c.toNat ≤ 126) && (!hasB badR c && decide (c.toNat ≠ 92 ∧ c.toNat ≠ 34 ∧ c.toNat ≠ 96)))) (by decide +kernel) c
theorem z8N (c : UInt8) : (lowC c).toNat < 65 ∨ 90 < (lowC c).toNat := by
 simpa using zrR (fun c => decide ((lowC c).toNat < 65) || decide (90 < (lowC c).toNat)) (by decide +kernel) c
theorem zrN (s : ByteArray) (w : World) (hs : s.size ≤ 1073741824) (hl : ∀ c ∈ s.data.toList, c.toNat < 65 ∨ 90 < c.toNat) :
  Calls Tryz.prog 44 #[.string s] w fun e w' => e = .returned (.bool (zfX s.data.toList)) ∧ w = w' := by
 have HL : Hid (∀ k (h : k < s.size), s[k].toNat < 65 ∨ 90 < s[k].toNat) := fun k h => hl _ (by show s.data[k] ∈ _; simp)
 clear hl
 go_enter Tryz.func44, Tryz.ntmps44
 go_wp2
 go_loop [3] (fun i => ∃ k : Nat, k ≤ s.size ∧ i = .int .i64 k ∧ Hid (∀ j (h : j < s.size), j < k → ziY s[j] = true)) (fun i => s.size - (intOf i).toNat)
 case atStart => exact ⟨0, Nat.zero_le _, rfl, fun j _ h => absurd h (Nat.not_lt_zero j)⟩
 case round =>
  obtain ⟨k, hk, rfl, H⟩ := hrel
  by_cases hlt : k < s.size
  ·have hlow := HL.out k hlt
   have HNO := Lib.hid (fun h => zwR hlt h)
   have HSC := Lib.hid (z7M s[k])
   have HHA : Hid (∀ W, Calls Tryz.prog 71 #[.string ⟨#[35, 47, 58, 60, 62, 63, 64, 91, 93, 94, 124, 37, 123, 125]⟩, .int .u8 (s[k].toNat : Int)] W fun e w' => e = .returned (.bool (hasB badR s[k])) ∧ W = w') := fun W => zvM ⟨#[35, 47, 58, 60, 62, 63, 64, 91, 93, 94, 124, 37, 123, 125]⟩ s[k] W (by decide)
   generalize hasB badR s[k] = bd at HSC HHA
   obtain ⟨c, hc⟩ : ∃ c, s[k].toNat = c := ⟨_, rfl⟩
   have hc256 : c < 256 := by rw [← hc]; exact s[k].toNat_lt
   rw [hc] at hlow HSC HHA
   by_cases h1 : c < 33
   ·have HF := Lib.hid (HNO.out (by rw [HSC.out, decide_eq_false (by omega)]; rfl))
    clear hlow
    go_wp2
    go_ret
    exact ⟨zaS HF.out.symm, rfl⟩
   by_cases h2 : 126 < c
   ·have HF := Lib.hid (HNO.out (by rw [HSC.out, decide_eq_false (by omega)]; rfl))
    clear hlow
    go_wp2
    go_ret
    exact ⟨zaS HF.out.symm, rfl⟩
   have hd1 : decide ((c : Int) < 33) = false := decide_eq_false (by omega)
   have hd2 : decide (126 < (c : Int)) = false := decide_eq_false (by omega)
   have hd3 : decide (65 ≤ (c : Int)) = false ∨ decide (65 ≤ (c : Int)) = true ∧ decide ((c : Int) ≤ 90) = false := by
    by_cases h : c < 65
    ·exact .inl (decide_eq_false (by omega))
    ·exact .inr ⟨decide_eq_true (by omega), decide_eq_false (by omega)⟩
   clear hlow
   rcases hd3 with hd3 | ⟨hd3, hd4⟩
   all_goals
    have hne : ∀ m : Nat, c ≠ m → ((c : Int) == (m : Int)) = false := fun m h => beq_eq_false_iff_ne.2 (by omega)
    have hye : ∀ m : Nat, c = m → ((c : Int) == (m : Int)) = true := fun m h => by rw [h]; simp
    have HR : Hid (decide (33 ≤ c ∧ c ≤ 126) = true) := decide_eq_true (by omega)
    clear h1 h2
    cases bd with
    | true =>
     have HF := Lib.hid (HNO.out (by rw [HSC.out, HR.out]; rfl))
     go_wp2_with (go_at_call 71; refine (HHA.out _).mono ?_; rintro e w' ⟨rfl, rfl⟩)
     go_ret
     exact ⟨zaS HF.out.symm, rfl⟩
    | false =>
     by_cases h3 : c = 92 ∨ c = 34 ∨ c = 96
     ·have HF := Lib.hid (HNO.out (by rw [HSC.out, HR.out, decide_eq_false (by omega)]; rfl))
      rcases h3 with h | h | h
      ·have e1 : ((c : Int) == 92) = true := hye 92 h
       clear hne hye h
       go_wp2_with (go_at_call 71; refine (HHA.out _).mono ?_; rintro e w' ⟨rfl, rfl⟩)
       go_ret
       exact ⟨zaS HF.out.symm, rfl⟩
      ·have e1 : ((c : Int) == 92) = false := hne 92 (by omega)
       have e2 : ((c : Int) == 34) = true := hye 34 h
       clear hne hye h
       go_wp2_with (go_at_call 71; refine (HHA.out _).mono ?_; rintro e w' ⟨rfl, rfl⟩)
       go_ret
       exact ⟨zaS HF.out.symm, rfl⟩
      ·have e1 : ((c : Int) == 92) = false := hne 92 (by omega)
       have e2 : ((c : Int) == 34) = false := hne 34 (by omega)
       have e3 : ((c : Int) == 96) = true := hye 96 h
       clear hne hye h
       go_wp2_with (go_at_call 71; refine (HHA.out _).mono ?_; rintro e w' ⟨rfl, rfl⟩)
       go_ret
       exact ⟨zaS HF.out.symm, rfl⟩
     ·have HY := Lib.hid (show ziY s[k] = true by rw [HSC.out, HR.out, decide_eq_true (by omega)]; rfl)
      have e1 : ((c : Int) == 92) = false := hne 92 (by omega)
      have e2 : ((c : Int) == 34) = false := hne 34 (by omega)
      have e3 : ((c : Int) == 96) = false := hne 96 (by omega)
      clear hne hye h3
      go_wp2_with (go_at_call 71; refine (HHA.out _).mono ?_; rintro e w' ⟨rfl, rfl⟩)
      go_round
      case rel =>
       refine ⟨k + 1, by omega, by go_num, fun j hj hjk => ?_⟩
       by_cases e : j = k
       ·subst e; exact HY.out
       ·exact H.out j hj (by omega)
      case measure => simp [intOf]; omega
  ·have HF := Lib.hid (zsG (s := s) fun j hj => H.out j hj (by omega))
   go_wp2
   go_ret
   exact ⟨zaS HF.out.symm, rfl⟩
theorem zuO (s : ByteArray) (w : World) (hs : s.size ≤ 1073741824) :
  Calls Tryz.prog 45 #[.string s] w fun e w' => e = .returned (.int .i64 (zgH s.data.toList)) ∧ w = w' := by
 by_cases h0 : s.size = 0
 ·have HF : Hid (zgH s.data.toList = 0) := Nat.le_zero.1 (Nat.le_trans (zlK _) (by rw [zaF]; omega))
  go_enter Tryz.func45, Tryz.ntmps45
  go_wp2
  go_ret
  exact ⟨zcB (by rw [HF.out]; first | rfl | omega), rfl⟩
 ·obtain ⟨n, hn⟩ : ∃ n, s.size = n + 1 := ⟨s.size - 1, by omega⟩
  have hlt : n < s.size := by omega
  have hlast : s.data.toList.getLast? = some s[n] := by rw [List.getLast?_eq_getElem?, zaF, hn]; exact zeM s n hlt
  obtain ⟨c, hc⟩ : ∃ c, s[n].toNat = c := ⟨_, rfl⟩
  have HLO : Hid (zgH s.data.toList = if c = 46 then n else n + 1) := by
   show zgH _ = _
   unfold zgH
   rw [hlast, zaF, hn, ← hc]
   by_cases e : s[n] = 46
   ·rw [if_pos (by rw [e]), if_pos (by rw [e]; rfl)]; omega
   ·rw [if_neg (fun h => e (Option.some.inj h)), if_neg (show ¬ s[n].toNat = 46 from fun h => e (UInt8.toNat_inj.1 h))]
  clear hlast h0
  by_cases h : c = 46
  ·have HF := Lib.hid (HLO.out.trans (if_pos h))
   have e1 : ((c : Int) == 46) = true := by rw [h]; rfl
   clear h
   go_enter Tryz.func45, Tryz.ntmps45
   go_wp2
   go_ret
   exact ⟨zcB (by rw [HF.out] <;> omega), rfl⟩
  ·have HF := Lib.hid (HLO.out.trans (if_neg h))
   have e1 : ((c : Int) == 46) = false := beq_eq_false_iff_ne.2 (by omega)
   clear h
   go_enter Tryz.func45, Tryz.ntmps45
   go_wp2
   go_ret
   exact ⟨zcB (by rw [HF.out] <;> omega), rfl⟩
theorem ziZ (s : ByteArray) (w : World) (hs : s.size ≤ 1073741824) :
  Calls Tryz.prog 46 #[.string s] w (zuJ w (zaT s.data.toList)) := by
 obtain ⟨L, x, hL, hx, hLl, hc⟩ := zkK s.data.toList
 rw [zaF] at hLl
 go_enter Tryz.func46, Tryz.ntmps46
 go_wp2_with fail
 refine (zcA s _ _ hs (by decide)).mono ?_
 rintro e w1 ⟨v, rfl, hp, hb1⟩
 have hp' : zbV w.heap.size w1 v (zaE s.data.toList) := hp
 obtain ⟨g, cap, rfl, hcap, hg, hcell⟩ := hp'.form2 (by omega)
 rw [hL] at hcap ⊢
 have hcx := hcell L (by omega)
 rw [hx] at hcx
 have HC := Lib.hid hcell
 have HL := Lib.hid hL
 have HX := Lib.hid hx
 clear hcell hp hp' hL hx
 rcases hc with ⟨h1, rfl, hk⟩ | ⟨rfl | hne, hk⟩
 ·have HK := Lib.hid hk
  obtain ⟨n, rfl⟩ : ∃ n, L = n + 1 := ⟨L - 1, by omega⟩
  clear hk h1
  go_wp2
  go_ret
  exact zeA (k := n + 1) (by unfold zaT; rw [HK.out]) (by rw [HL.out]; omega) (by omega) (by omega) hg HC.out hb1
 ·have HK := Lib.hid hk
  clear hk
  go_wp2
  go_ret
  exact zeA (k := 1) (by unfold zaT; rw [HK.out]) (by rw [HL.out]; omega) (by omega) (by omega) hg HC.out hb1
 ·have HK := Lib.hid hk
  have hxe : x.isEmpty = false := zbY hne
  clear hk hne
  by_cases h0 : L = 0
  ·subst h0
   go_wp2
   go_ret
   exact zeA (k := 1) (by unfold zaT; rw [HK.out]) (by rw [HL.out]; omega) (by omega) (by omega) hg HC.out hb1
  ·obtain ⟨n, rfl⟩ : ∃ n, L = n + 1 := ⟨L - 1, by omega⟩
   go_wp2
   go_ret
   exact zeA (k := n + 2) (by unfold zaT; rw [HK.out]) (by rw [HL.out]; omega) (by omega) (by omega) hg HC.out hb1
theorem z6U (t : List UInt8) : ∀ c ∈ zbT t, c.toNat < 65 ∨ 90 < c.toNat := fun c hc => by
 obtain ⟨d, _, rfl⟩ := List.mem_map.1 hc
 exact z8N d
theorem zqO {l : List UInt8} (hp : zeR l = true) (h : zfX (zbT l) = false ∨ ¬ zgH (zbT l) ≤ 253 ∨ (zaT (zbT l)).all zfN = false) : zcG l = ([], 6) := zpR hp (by
 unfold zfC
 rcases h with h | h | h
 ·rw [h, Bool.and_false]
 ·rw [decide_eq_false h]; rfl
 ·rw [h, Bool.and_false]; rfl)
theorem z3O {l : List UInt8} (h1 : zgH l ≤ 253) (h2 : (zaT l).all zfN = true) : zfC l = true := by unfold zfC; rw [decide_eq_true h1, h2]; rfl
theorem z8D {p : List UInt8 → Bool} {ps : List (List UInt8)} {k : Nat} {q : List UInt8} (hk : k < ps.length) (hq : ps.getD k [] = q) (h : p q = true) : ps.any p = true := by
 rw [List.any_eq_true]
 refine ⟨q, ?_, h⟩
 rw [← hq, List.getD, List.getElem?_eq_getElem hk]
 exact List.getElem_mem hk
theorem any_no {p : List UInt8 → Bool} {ps : List (List UInt8)} (h : ∀ j, j < ps.length → p (ps.getD j []) = false) : ps.any p = false := by
 rw [List.any_eq_false]
 intro x hx
 obtain ⟨j, hj, rfl⟩ := List.getElem_of_mem hx
 have := h j hj
 rw [List.getD, List.getElem?_eq_getElem hj] at this
 simpa using this
theorem zxM (q : List UInt8) : (((ByteArray.mk q.toArray).extract 0 4).toList == [120, 110, 45, 45]) = (q.take 4 == [120, 110, 45, 45]) := by rw [Lib.extract_toList]; rfl
theorem zzM (q : List UInt8) : zhZ q = (decide (4 ≤ q.length) && q.take 4 == [120, 110, 45, 45]) := by
 unfold zhZ Lib.hasPrefix
 rw [Bool.eq_iff_iff, List.isPrefixOf_iff_prefix, List.prefix_iff_eq_take]
 simp only [Bool.and_eq_true, decide_eq_true_eq, beq_iff_eq, List.length_cons, List.length_nil]
 constructor
 ·intro h
  refine ⟨?_, h.symm⟩
  have := congrArg List.length h
  simp at this
  omega
 ·intro h; exact h.2.symm
theorem zkV (s : ByteArray) (w : World) (hs : s.size ≤ 1073741824) :
  Calls Tryz.prog 12 #[.string s] w (zvZ w (zcG s.data.toList)) := by
 cases hp : zeR s.data.toList with
 | false =>
  have HF := Lib.hid (zxV hp)
  go_enter Tryz.func12, Tryz.ntmps12
  go_wp2_with fail
  refine (zkO s _ hs).mono ?_
  rw [show ziB s = false from hp]
  rintro e w' ⟨rfl, rfl⟩
  go_wp2
  go_ret2
  exact zcQ HF.out (Below.refl _ _)
 | true =>
  have HP := Lib.hid hp
  obtain ⟨t, ht⟩ : ∃ t, zbT s.data.toList = t := ⟨_, rfl⟩
  have htl : t.length = s.size := by rw [← ht, zjH, zaF]
  have HLW : Hid (∀ c ∈ t, c.toNat < 65 ∨ 90 < c.toNat) := by rw [← ht]; exact z6U _
  have HT := Lib.hid ht
  clear hp
  go_enter Tryz.func12, Tryz.ntmps12
  go_wp2_with fail
  refine (zkO s _ hs).mono ?_
  rw [show ziB s = true from HP.out]
  rintro e w' ⟨rfl, rfl⟩
  go_wp2_with fail
  refine (zrW s _ hs).mono ?_
  rw [ht]
  rintro e w1 ⟨rfl, hb1⟩
  go_wp2_with fail
  refine (zrN ⟨t.toArray⟩ _ (by rw [zaB]; omega) (by rw [zaC]; exact HLW.out)).mono ?_
  rw [zaC]
  rintro e w' ⟨rfl, rfl⟩
  clear ht
  cases h2 : zfX t with
  | false =>
   have HF := Lib.hid (zqO HP.out (.inl (by rw [HT.out]; exact h2)))
   go_wp2
   go_ret2
   exact zcQ HF.out hb1
  | true =>
   have H2 := Lib.hid h2
   clear h2
   go_wp2_with fail
   refine (zuO ⟨t.toArray⟩ _ (by rw [zaB]; omega)).mono ?_
   rw [zaC]
   rintro e w' ⟨rfl, rfl⟩
   obtain ⟨n, hn⟩ : ∃ n, zgH t = n := ⟨_, rfl⟩
   have hnl := zlK t
   rw [hn] at hnl ⊢
   by_cases h1 : 253 < n
   ·have HF := Lib.hid (zqO HP.out (.inr (.inl (by rw [HT.out, hn]; omega))))
    have hd : decide (253 < (n : Int)) = true := decide_eq_true (by omega)
    clear hn
    go_wp2
    go_ret2
    exact zcQ HF.out hb1
   have hd : decide (253 < (n : Int)) = false := decide_eq_false (by omega)
   have H1 : Hid (zgH t ≤ 253) := by show zgH t ≤ 253; omega
   clear h1 hn hnl
   obtain ⟨ps, hps⟩ : ∃ ps, zaT t = ps := ⟨_, rfl⟩
   have hpl := zjW t
   rw [hps] at hpl
   have HPS := Lib.hid hps
   go_wp2_with fail
   refine (ziZ ⟨t.toArray⟩ _ (by rw [zaB]; omega)).mono ?_
   rw [zaC, hps]
   rintro e w2 ⟨g, c, rfl, -, hse, hb2⟩
   have hc2 := zcM hb1 hb2
   have HC := Lib.hid hse.2
   clear hb1 hb2 hse hps
   go_wp2
   go_loop [24] (fun i => ∃ k : Nat, k ≤ ps.length ∧ i = .int .i64 k ∧ Hid (∀ j, j < k → zfN (ps.getD j []) = true)) (fun i => ps.length - (intOf i).toNat)
   case atStart => exact ⟨0, Nat.zero_le _, rfl, fun j h => absurd h (Nat.not_lt_zero j)⟩
   case round =>
    obtain ⟨k, hk, rfl, H⟩ := hrel
    by_cases hlt : k < ps.length
    ·have hcl := HC.out k hlt
     obtain ⟨q, hq⟩ : ∃ q, ps.getD k [] = q := ⟨_, rfl⟩
     rw [hq] at hcl
     have HQ := Lib.hid hq
     clear hq
     cases hy : zfN q with
     | false =>
      have HF := Lib.hid (zqO HP.out (.inr (.inr (by rw [HT.out, HPS.out]; exact z0X hlt HQ.out hy))))
      have hq := of_decide_eq_false hy
      clear hy
      by_cases h1 : q.length < 1
      ·go_wp2
       go_ret2
       exact zcQ HF.out hc2
      ·have hd1 : decide ((q.length : Int) < 1) = false := decide_eq_false (by omega)
       have hd2 : decide (63 < (q.length : Int)) = true := decide_eq_true (by omega)
       go_wp2
       go_ret2
       exact zcQ HF.out hc2
     | true =>
      have hq := of_decide_eq_true hy
      have HY := Lib.hid hy
      have hd1 : decide ((q.length : Int) < 1) = false := decide_eq_false (by omega)
      have hd2 : decide (63 < (q.length : Int)) = false := decide_eq_false (by omega)
      clear hy hq
      go_wp2
      go_round
      case rel =>
       refine ⟨k + 1, by omega, by go_num, fun j hj => ?_⟩
       by_cases e : j = k
       ·subst e; rw [HQ.out]; exact HY.out
       ·exact H.out j (by omega)
      case measure => simp [intOf]; omega
    ·have HSZ : Hid (zfC t = true) := z3O H1.out (by rw [HPS.out]; exact z0R fun j hj => H.out j (by omega))
     clear HC
     go_wp2_with fail
     refine (ziZ ⟨t.toArray⟩ _ (by rw [zaB]; omega)).mono ?_
     rw [zaC, HPS.out]
     rintro e w3 ⟨g3, c3, rfl, -, hse, hb3⟩
     have hc3 := zcM hc2 hb3
     have HC := Lib.hid hse.2
     clear hc2 hb3 hse
     go_wp2
     go_loop [40] (fun i => ∃ k : Nat, k ≤ ps.length ∧ i = .int .i64 k ∧ Hid (∀ j, j < k → zhZ (ps.getD j []) = false)) (fun i => ps.length - (intOf i).toNat)
     case atStart => exact ⟨0, Nat.zero_le _, rfl, fun j h => absurd h (Nat.not_lt_zero j)⟩
     case round =>
      obtain ⟨k, hk, rfl, H⟩ := hrel
      by_cases hlt : k < ps.length
      ·have hcl := HC.out k hlt
       obtain ⟨q, hq⟩ : ∃ q, ps.getD k [] = q := ⟨_, rfl⟩
       rw [hq] at hcl
       have HQ := Lib.hid hq
       have hct := zzM q
       clear hq
       cases hy : zhZ q with
       | true =>
        have HF := Lib.hid ((zlG HP.out (by rw [HT.out]; exact HSZ.out) (by rw [HT.out]; exact H2.out) (by rw [HT.out, HPS.out]; exact z8D hlt HQ.out hy)).trans (if_pos rfl))
        rw [hy] at hct
        clear hy
        have h4 := of_decide_eq_true (Bool.and_eq_true_iff.1 hct.symm).1
        have hx := (zxM q).trans (Bool.and_eq_true_iff.1 hct.symm).2
        have hd : decide (4 ≤ (q.length : Int)) = true := decide_eq_true (by omega)
        clear hct
        go_wp2
        go_ret2
        exact zcQ HF.out hc3
       | false =>
        rw [hy] at hct
        have HY := Lib.hid hy
        clear hy
        by_cases h4 : 4 ≤ q.length
        ·have hx : (((ByteArray.mk q.toArray).extract 0 4).toList == [120, 110, 45, 45]) = false := by rw [zxM]; rw [decide_eq_true h4, Bool.true_and] at hct; exact hct.symm
         have hd : decide (4 ≤ (q.length : Int)) = true := decide_eq_true (by omega)
         clear hct
         go_wp2
         go_round
         case rel =>
          refine ⟨k + 1, by omega, by go_num, fun j hj => ?_⟩
          by_cases e : j = k
          ·subst e; rw [HQ.out]; exact HY.out
          ·exact H.out j (by omega)
         case measure => simp [intOf]; omega
        ·have hd : decide (4 ≤ (q.length : Int)) = false := decide_eq_false (by omega)
         clear hct h4
         go_wp2
         go_round
         case rel =>
          refine ⟨k + 1, by omega, by go_num, fun j hj => ?_⟩
          by_cases e : j = k
          ·subst e; rw [HQ.out]; exact HY.out
          ·exact H.out j (by omega)
         case measure => simp [intOf]; omega
      ·have HF := Lib.hid ((zlG (b := false) HP.out (by rw [HT.out]; exact HSZ.out) (by rw [HT.out]; exact H2.out) (by rw [HT.out, HPS.out]; exact any_no fun j hj => H.out j (by omega))).trans (if_neg (by decide)))
       rw [HT.out] at HF
       go_wp2
       go_ret2
       exact zcQ HF.out hc3
end

end Go.Proofs.YtphapecoimlngaaGreatDoor
