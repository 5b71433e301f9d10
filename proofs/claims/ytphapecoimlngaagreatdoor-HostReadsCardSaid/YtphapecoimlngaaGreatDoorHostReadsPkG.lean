/-
  What the law HostReads leans on, and its walk (7 of 18).
-/
import Derived.Test.YtphapecoimlngaaGreatDoorHostReadsPkD
import Derived.Test.YtphapecoimlngaaGreatDoorHostReadsPkF
namespace Go.Proofs.YtphapecoimlngaaGreatDoor
set_option maxRecDepth 100000
set_option maxHeartbeats 16000000
section
open Go.RowKit
/-- none, a name, an address -/
inductive HZ where
 | none
 | name (l : List UInt8)
 | addr (a : AZ)
def HZ.Ok : HZ → Prop
 | .none => False
 | .name l => zeC l ∧ zeF l = false
 | .addr a => a.Ok
def zhB (r : List UInt8) : HZ × Int := if r.getLast? = some 93 ∧ (sixZ r.dropLast).2 = true then (.addr (.six (sixZ r.dropLast).1.1 (sixZ r.dropLast).1.2), 0) else (.none, 6)
def zfW (c : List UInt8 × Int) : HZ × Int := if c.2 ≠ 0 then (.none, c.2) else if zeF c.1 = true then (if (zdE c.1).2 = true then (.addr (.four (zdE c.1).1), 0) else (.none, 6)) else (.name c.1, 0)
def zgC : List UInt8 → HZ × Int
 | [] => zfW (zcG (decB []))
 | c :: r => if c = 91 then zhB r else zfW (zcG (decB (c :: r)))
def z2N (n i : Nat) : Int := if i = n then 1 else 256 ^ (4 - i)
theorem zzI (n : Nat) (h1 : 1 ≤ n) (h4 : n ≤ 4) : ∀ (ps : List (List UInt8)) (i : Nat) (A : Int), i + ps.length ≤ n → 0 ≤ A → A + z2N n i ≤ 4294967296 → 0 ≤ (goF n i A ps).1 ∧ (goF n i A ps).1 ≤ 4294967295 := by
 intro ps
 induction ps with
 | nil =>
  intro i A _ h0 hA
  have : 1 ≤ z2N n i := by
   unfold z2N
   split
   ·omega
   ·exact Int.pow_pos (by decide)
  exact ⟨h0, by show A ≤ _; omega⟩
 | cons p ps ih =>
  intro i A hi h0 hA
  rw [show goF n i A (p :: ps) = if (zaX p).2 = true ∧ (zaX p).1 < limZ n i then goF n (i + 1) (A + (zaX p).1 * wtZ n i) ps else (0, false) from rfl]
  split
  ·rename_i h
   have hb := zaN p
   have hx := h.2
   generalize (zaX p).1 = x at *
   simp only [List.length_cons] at hi
   refine ih (i + 1) _ (by omega) ?_ ?_
   ·have : 0 ≤ wtZ n i := by unfold wtZ; split <;> first | decide | exact Int.le_of_lt (Int.pow_pos (by decide))
    have := Int.mul_nonneg hb.1 this
    omega
   ·clear ih h
    rcases (show n = 1 ∨ n = 2 ∨ n = 3 ∨ n = 4 from by omega) with rfl | rfl | rfl | rfl <;>
     rcases (show i = 0 ∨ i = 1 ∨ i = 2 ∨ i = 3 from by omega) with rfl | rfl | rfl | rfl <;>
     first
     | omega
     | (simp [limZ, wtZ, z2N] at *; omega)
  ·exact ⟨Int.le_refl _, by decide⟩
theorem zkX (l : List UInt8) : 0 ≤ (zdE l).1 ∧ (zdE l).1 ≤ 4294967295 := by
 unfold zdE z5I
 split
 ·exact ⟨Int.le_refl _, by decide⟩
 ·rename_i h
  have hp := zsX (zhE l)
  refine zzI _ hp (by omega) _ 0 0 ?_ (Int.le_refl _) ?_
  ·rw [List.length_take]; omega
  ·unfold z2N
   rw [if_neg (by omega)]
   decide
theorem zgE (c : UInt8) (r : List UInt8) : zgC (c :: r) = if c = 91 then zhB r else zfW (zcG (decB (c :: r))) := rfl
theorem z2P {l : List UInt8} (h : Lib.hasPrefix l [91] = true) : zgC l = zhB (l.drop 1) := by
 cases l with
 | nil => cases h
 | cons c r =>
  rw [zgE, if_pos]
  ·rfl
  ·have : (91 == c) = true := by simpa [Lib.hasPrefix] using h
   exact (eq_of_beq this).symm
theorem z0Y {l : List UInt8} (h : Lib.hasPrefix l [91] = false) : zgC l = zfW (zcG (decB l)) := by
 cases l with
 | nil => rfl
 | cons c r =>
  rw [zgE, if_neg]
  rintro rfl
  simp [Lib.hasPrefix] at h
theorem zwV (l : List UInt8) : (decB l).length ≤ l.length := by
 have key : ∀ (f : Nat) (l : List UInt8), (decL f l).length ≤ l.length := by
  intro f
  induction f with
  | zero => intro l; exact Nat.zero_le _
  | succ f ih =>
   intro l
   cases l with
   | nil => exact Nat.le_refl _
   | cons c r =>
    simp only [decL]
    split
    ·have := ih (r.drop 2)
     rw [List.length_drop] at this
     simp only [List.length_cons]
     omega
    ·have := ih r
     simp only [List.length_cons]
     omega
 exact key _ l
theorem zwT {c : List UInt8 × Int} (hc : c.2 = 0 → zeC c.1) (h : (zfW c).2 = 0) : (zfW c).1.Ok := by
 unfold zfW at *
 split at h
 ·rename_i h0; exact absurd h h0
 ·rename_i h0
  rw [if_neg h0]
  split at h
  ·rename_i h1
   rw [if_pos h1]
   split at h
   ·rename_i h2; rw [if_pos h2]; exact zkX _
   ·cases h
  ·rename_i h1
   rw [if_neg h1]
   exact ⟨hc (by simpa using h0), by simpa using h1⟩
theorem z6J {r : List UInt8} (h : (zhB r).2 = 0) : (zhB r).1.Ok := by
 unfold zhB at *
 split at h
 ·rename_i h0; rw [if_pos h0]; exact z2F _
 ·cases h
theorem z5S {l : List UInt8} (h : (zgC l).2 = 0) : (zgC l).1.Ok := by
 cases l with
 | nil => exact zwT zoR h
 | cons c r =>
  rw [zgE] at *
  split at h
  ·rename_i h0; rw [if_pos h0]; exact z6J h
  ·rename_i h0; rw [if_neg h0]; exact zwT zoR h
theorem zwX {c : List UInt8 × Int} (h : (zfW c).2 ≠ 0) : (zfW c).1 = .none := by
 unfold zfW at *
 repeat' split at h
 all_goals simp_all
theorem zxK {l : List UInt8} (h : (zgC l).2 ≠ 0) : (zgC l).1 = .none := by
 cases l with
 | nil => exact zwX h
 | cons c r =>
  rw [zgE] at *
  split at h
  ·rename_i h0
   rw [if_pos h0]
   unfold zhB at *
   split at h
   ·exact absurd rfl h
   ·rename_i h1; rw [if_neg h1]
  ·rename_i h0; rw [if_neg h0]; exact zwX h
end

section
open Go.RowKit
def HZ.val : HZ → Value
 | .none => .nilIface
 | .name l => .iface 23 (.string ⟨l.toArray⟩)
 | .addr a => a.val
def zuT (w : World) (x : HZ × Int) (e : Ending) (w' : World) : Prop := e = .returned (.tuple #[x.1.val, .int .i64 x.2]) ∧ Below w.heap.size w w'
theorem zeI {w w' : World} {x : HZ × Int} {h : HZ} {n : Int} {v : Value} (e : x = (h, n)) (hv : v = h.val) (hb : Below w.heap.size w w') : zuT w x (.returned (.tuple #[v, .int .i64 n])) w' := by
 subst e hv; exact ⟨rfl, hb⟩
theorem zlJ {r : List UInt8} (h : ¬ r.getLast? = some 93 ∨ (sixZ (Lib.trimSuffix r [93])).2 = false) : zhB r = (.none, 6) := by
 unfold zhB
 rw [if_neg]
 rintro ⟨h1, h2⟩
 rw [zlQ, if_pos h1] at h
 rcases h with h | h
 ·exact h h1
 ·rw [h2] at h; cases h
theorem ztV {r : List UInt8} {hi lo : Int} (h1 : r.getLast? = some 93) (h2 : sixZ (Lib.trimSuffix r [93]) = ((hi, lo), true)) : zhB r = (.addr (.six hi lo), 0) := by
 unfold zhB
 rw [zlQ, if_pos h1] at h2
 rw [if_pos ⟨h1, by rw [h2]⟩, h2]
theorem ztZ (r : List UInt8) (w : World) (hr : r.length ≤ 1073741824) (hmax : MaxVar w) :
  Calls Tryz.prog 53 #[.string ⟨r.toArray⟩] w (zuT w (zhB r)) := by
 have HX := Lib.hid hmax
 clear hmax
 have hsl := zxY r 93
 have htl : (Lib.trimSuffix r [93]).length ≤ r.length := by rw [zlQ]; split <;> simp
 obtain ⟨t, ht⟩ : ∃ t, Lib.trimSuffix r [93] = t := ⟨_, rfl⟩
 obtain ⟨hi, lo, b, hz⟩ : ∃ hi lo b, sixZ t = ((hi, lo), b) := ⟨_, _, _, rfl⟩
 have HC : Hid (∀ W, Calls Tryz.prog 75 #[.string ⟨r.toArray⟩, .string ⟨#[93]⟩] W fun e w' => e = .returned (.tuple #[.string ⟨t.toArray⟩, .bool (decide (r.getLast? = some 93))]) ∧ W = w') := fun W => (Tryz.strings_CutSuffix ⟨r.toArray⟩ ⟨#[93]⟩ W (by rw [zaB]; omega)).mono (fun e w' h => ⟨by rw [h.1, ← ht, ← hsl], h.2.symm⟩)
 rw [ht] at htl
 go_enter Tryz.func53, Tryz.ntmps53
 go_wp2_with fail
 refine (HC.out _).mono ?_
 rintro e w' ⟨rfl, rfl⟩
 go_wp2_with fail
 refine (zhP ⟨t.toArray⟩ _ (by rw [zaB]; omega) HX.out).mono ?_
 rw [zaC, hz]
 rintro e w1 ⟨rfl, hb1⟩
 clear HC
 by_cases hl : r.getLast? = some 93
 ·have hd : decide (r.getLast? = some 93) = true := decide_eq_true hl
  cases b with
  | true =>
   have HF := Lib.hid (ztV hl (by rw [ht]; exact hz))
   clear hl hsl hz ht
   rw [hd]
   go_wp2
   go_ret2
   exact zeI HF.out rfl (hb1.alloc hb1.size _)
  | false =>
   have HF := Lib.hid (zlJ (r := r) (.inr (by rw [ht, hz])))
   clear hl hsl hz ht
   rw [hd]
   go_wp2
   go_ret2
   exact zeI HF.out rfl (hb1.alloc hb1.size _)
 ·have hd : decide (r.getLast? = some 93) = false := decide_eq_false hl
  have HF := Lib.hid (zlJ (r := r) (.inl hl))
  clear hl hsl hz ht
  rw [hd]
  go_wp2
  go_ret2
  exact zeI HF.out rfl (hb1.alloc hb1.size _)
theorem z4V {c : List UInt8 × Int} (h : c.2 ≠ 0) : zfW c = (.none, c.2) := if_pos h
theorem z1H {n : List UInt8} (h : zeF n = false) : zfW (n, 0) = (.name n, 0) := by unfold zfW; rw [if_neg (by simp), if_neg (by simp [h])]
theorem zmM {n : List UInt8} {x : Int} {b : Bool} (h : zeF n = true) (hx : zdE n = (x, b)) : zfW (n, 0) = if b = true then (.addr (.four x), 0) else (.none, 6) := by unfold zfW; rw [if_neg (by simp), if_pos h, hx]
theorem zpG {l n : List UInt8} {e : Int} (h : zcG l = (n, e)) : n.length ≤ l.length := by
 by_cases h0 : e = 0
 ·have := (ztB (l := l) (by rw [h]; exact h0)).1
  rw [h] at this
  injection this with h1 _
  rw [h1, zjH]
  exact Nat.le_refl _
 ·have := z1E (l := l) (by rw [h]; exact h0)
  rw [h] at this
  rw [show n = [] from this]
  exact Nat.zero_le _
theorem zeD (s : ByteArray) (w : World) (hs : s.size ≤ 1073741824) (hmax : MaxVar w) :
  Calls Tryz.prog 18 #[.string s] w (zuT w (zgC s.data.toList)) := by
 have HX := Lib.hid hmax
 clear hmax
 obtain ⟨b, hb⟩ : ∃ b, Lib.hasPrefix s.data.toList [91] = b := ⟨_, rfl⟩
 obtain ⟨r, hr⟩ : ∃ r, Lib.trimPrefix s.data.toList [91] = r := ⟨_, rfl⟩
 have HC : Hid (∀ W, Calls Tryz.prog 52 #[.string s, .string ⟨#[91]⟩] W fun e w' => e = .returned (.tuple #[.string ⟨r.toArray⟩, .bool b]) ∧ W = w') := fun W => (Tryz.strings_CutPrefix s ⟨#[91]⟩ W).mono (fun e w' h => ⟨by rw [h.1, ← hr, ← hb], h.2.symm⟩)
 cases b with
 | true =>
  have hrd : r = s.data.toList.drop 1 := by rw [← hr]; unfold Lib.trimPrefix; rw [if_pos hb]; rfl
  have hrl : r.length ≤ s.size := by rw [hrd, List.length_drop, zaF]; omega
  have HF := Lib.hid ((z2P hb).trans (by rw [hrd] : _ = zhB r))
  clear hr hb hrd
  go_enter Tryz.func18, Tryz.ntmps18
  go_wp2_with fail
  refine (HC.out _).mono ?_
  rintro e w' ⟨rfl, rfl⟩
  go_wp2_with fail
  refine (ztZ r _ (by omega) HX.out).mono ?_
  rw [← HF.out]
  rintro e w1 ⟨rfl, hb1⟩
  go_wp2
  go_ret2
  exact ⟨rfl, hb1⟩
 | false =>
  have HF := Lib.hid (z0Y hb)
  have hdl := zwV s.data.toList
  rw [zaF] at hdl
  obtain ⟨d, hd⟩ : ∃ d, decB s.data.toList = d := ⟨_, rfl⟩
  have HD : Hid (∀ W, Calls Tryz.prog 54 #[.string s] W fun e w' => e = .returned (.string ⟨d.toArray⟩) ∧ Below W.heap.size W w') := fun W => by have := zoS s W hs; rwa [hd] at this
  rw [hd] at HF hdl
  obtain ⟨n, er, hc⟩ : ∃ n er, zcG d = (n, er) := ⟨_, _, rfl⟩
  have hnl := zpG hc
  have HK : Hid (∀ W, Calls Tryz.prog 11 #[.string ⟨d.toArray⟩] W fun e w' => e = .returned (.tuple #[.string ⟨n.toArray⟩, .int .i64 er]) ∧ Below W.heap.size W w') := fun W => by have := zjG ⟨d.toArray⟩ W (by rw [zaB]; omega); rwa [zaC, hc] at this
  rw [hc] at HF
  clear hr hb hd hc
  go_enter Tryz.func18, Tryz.ntmps18
  go_wp2_with fail
  refine (HC.out _).mono ?_
  rintro e w' ⟨rfl, rfl⟩
  go_wp2_with fail
  refine (HD.out _).mono ?_
  rintro e w1 ⟨rfl, hb1⟩
  go_wp2_with fail
  refine (HK.out _).mono ?_
  rintro e w2 ⟨rfl, hb2⟩
  have hc2 := zcM hb1 hb2
  clear hb1 hb2 HD HK HC
  by_cases h0 : er = 0
  ·subst h0
   go_wp2_with fail
   refine (zfZ _ _).mono ?_
   rintro e w' ⟨rfl, rfl⟩
   go_wp2_with fail
   refine (zxG ⟨n.toArray⟩ _ (by rw [zaB]; omega)).mono ?_
   rw [zaC]
   rintro e w3 ⟨rfl, hb3⟩
   have hc3 := zcM hc2 hb3
   clear hc2 hb3
   cases he : zeF n with
   | false =>
    have HF2 := Lib.hid (HF.out.trans (z1H he))
    clear he
    go_wp2
    go_ret2
    exact zeI HF2.out rfl hc3
   | true =>
    obtain ⟨x, b, hx⟩ : ∃ x b, zdE n = (x, b) := ⟨_, _, rfl⟩
    have HF2 := Lib.hid (HF.out.trans (zmM he hx))
    clear he
    go_wp2_with fail
    refine (zfZ _ _).mono ?_
    rintro e w' ⟨rfl, rfl⟩
    go_wp2_with fail
    refine (zhT ⟨n.toArray⟩ _ (by rw [zaB]; omega)).mono ?_
    rw [zaC, hx]
    rintro e w4 ⟨rfl, hb4⟩
    have hc4 := zcM hc3 hb4
    clear hc3 hb4 hx
    cases b with
    | true =>
     go_wp2
     go_ret2
     exact zeI (HF2.out.trans (if_pos trivial)) rfl hc4
    | false =>
     go_wp2
     go_ret2
     exact zeI (HF2.out.trans (if_neg (by decide))) rfl hc4
  ·have HF2 := Lib.hid (HF.out.trans (z4V h0))
   have hd0 : (er != (0 : Int)) = true := by rw [bne_iff_ne]; exact h0
   clear h0
   go_wp2
   go_ret2
   exact zeI HF2.out rfl hc2
end

section
open Go.RowKit
theorem hsNN (v : Value) (w : World) : (Instr.typeAssert (.iface 23 v) 37 23 true).run Tryz.prog w = .ok (.tuple #[v, .bool true]) w := by kernel_rfl
theorem hs4N (v : Value) (w : World) : (Instr.typeAssert (.iface 70 v) 37 23 true).run Tryz.prog w = .ok (.tuple #[.string ⟨#[]⟩, .bool false]) w := by kernel_rfl
theorem hs6N (v : Value) (w : World) : (Instr.typeAssert (.iface 73 v) 37 23 true).run Tryz.prog w = .ok (.tuple #[.string ⟨#[]⟩, .bool false]) w := by kernel_rfl
theorem hs0N (w : World) : (Instr.typeAssert .nilIface 37 23 true).run Tryz.prog w = .ok (.tuple #[.string ⟨#[]⟩, .bool false]) w := by kernel_rfl
/-- the address that a host is, if it is one -/
def HZ.ad : HZ → Option AZ
 | .addr a => some a
 | _ => Option.none
def HZ.small : HZ → Prop
 | .name l => l.length ≤ 1073741824
 | _ => True
end

section
open Go.RowKit
/-- a host as the document's: its kind, its name, its address -/
def refH : HZ → Array Value
 | .none => #[.int .i64 0, .string ⟨#[]⟩, .bool false, .int .u64 0, .int .u64 0]
 | .name l => #[.int .i64 1, .string ⟨l.toArray⟩, .bool false, .int .u64 0, .int .u64 0]
 | .addr a => #[.int .i64 2, .string ⟨#[]⟩, .bool (refA (some a)).1, .int .u64 (refA (some a)).2.1, .int .u64 (refA (some a)).2.2]
def zgM (w : World) (x : HZ × Int) (e : Ending) (w' : World) : Prop := e = .returned (.tuple #[.agg (refH x.1), .int .i64 x.2]) ∧ Below w.heap.size w w'
theorem zeH {w w' : World} {x : HZ × Int} {h : HZ} {n : Int} {v : Array Value} (e : x = (h, n)) (hv : v = refH h) (hb : Below w.heap.size w w') : zgM w x (.returned (.tuple #[.agg v, .int .i64 n])) w' := by
 subst e hv; exact ⟨rfl, hb⟩
theorem zkQ {x : World} {g : Nat} {a b c d e : Value} {t : TypeId} (h : x.heap[g]? = some (.cells #[a, b, c, d, e] t (0, 0))) : x.cell? ⟨g, 0, none⟩ = some a ∧ x.cell? ⟨g, 1, none⟩ = some b ∧ x.cell? ⟨g, 2, none⟩ = some c ∧ x.cell? ⟨g, 3, none⟩ = some d ∧ x.cell? ⟨g, 4, none⟩ = some e ∧ ∀ i, x.frozen? ⟨g, i, none⟩ = false := by
 refine ⟨?_, ?_, ?_, ?_, ?_, zbD h⟩ <;> rw [cell_of_row x _ _ _ _ _ h] <;> rfl
theorem zdZ {w x : World} {g : Nat} (h : Below w.heap.size w x) (hg : w.heap.size ≤ g) (a b c d e : Value) : Below w.heap.size w (((((x.setCell ⟨g, 0, none⟩ a).setCell ⟨g, 1, none⟩ b).setCell ⟨g, 2, none⟩ c).setCell ⟨g, 3, none⟩ d).setCell ⟨g, 4, none⟩ e) :=
 ((((h.setCell (p := ⟨g, 0, none⟩) hg _).setCell (p := ⟨g, 1, none⟩) hg _).setCell (p := ⟨g, 2, none⟩) hg _).setCell (p := ⟨g, 3, none⟩) hg _).setCell (p := ⟨g, 4, none⟩) hg _
theorem z8I : decB [] = [] := rfl
theorem z3H : zcG [] = ([], 6) := by decide +kernel
theorem zlD (w : World) :
  Calls Tryz.prog 19 #[.string ⟨#[]⟩] w (zgM w (.none, 6)) := by
 have HB := Lib.hid (heap_alloc_new w (.cells #[.int .i64 0, .string ⟨#[]⟩, .bool false, .int .u64 0, .int .u64 0] 44))
 have hb : Below w.heap.size w (w.alloc (.cells #[.int .i64 0, .string ⟨#[]⟩, .bool false, .int .u64 0, .int .u64 0] 44)) := (Below.refl _ w).alloc (Nat.le_refl _) _
 have hg : w.heap.size < (w.alloc (.cells #[.int .i64 0, .string ⟨#[]⟩, .bool false, .int .u64 0, .int .u64 0] 44)).heap.size := by simp
 go_enter Tryz.func19, Tryz.ntmps19
 go_wp2_with fail
 generalize w.alloc (.cells #[.int .i64 0, .string ⟨#[]⟩, .bool false, .int .u64 0, .int .u64 0] 44) = x0 at *
 refine (zjD ⟨#[]⟩ _ (by decide)).mono ?_
 rw [show (ByteArray.mk #[]).data.toList = [] from rfl, z8I]
 rintro e x1 ⟨rfl, hb1⟩
 go_wp2_with fail
 refine (zkV ⟨#[]⟩ _ (by decide)).mono ?_
 rw [show (ByteArray.mk #[]).data.toList = [] from rfl, z3H]
 rintro e x2 ⟨rfl, hb2⟩
 have hc := zcM hb1 hb2
 have hc2 : Below w.heap.size w x2 := hb.trans (hc.mono hb.size)
 have HB2 : Hid (x2.heap[w.heap.size]? = some (.cells #[.int .i64 0, .string ⟨#[]⟩, .bool false, .int .u64 0, .int .u64 0] 44 (0, 0))) := (hc.block w.heap.size hg).trans HB.out
 clear hb1 hb2 hc hb HB hg
 obtain ⟨k0, k1, k2, k3, k4, kf⟩ := zkQ HB2.out
 go_wp2
 exact bodyPost_ret (v := .tuple #[.agg (refH .none), .int .i64 6]) (by simp [results, Tryz.results19, go_sem, k0, k1, k2, k3, k4, refH]) rfl ⟨rfl, zdZ hc2 (Nat.le_refl _) _ _ _ _ _⟩
theorem zkI (s : ByteArray) (w : World) (hs : s.size ≤ 1073741824) (h0 : 0 < s.size) (c : Nat) (hc : (s[0]'h0).toNat = c) (h91 : c ≠ 91) :
  Calls Tryz.prog 19 #[.string s] w (zgM w (zfW (zcG (decB s.data.toList)))) := by
 have e91 : ((c : Int) == 91) = false := beq_eq_false_iff_ne.2 (by omega)
 have hd0 : decide (0 < (s.size : Int)) = true := decide_eq_true (by omega)
 have hdl := zwV s.data.toList
 rw [zaF] at hdl
 obtain ⟨d, hd⟩ : ∃ d, decB s.data.toList = d := ⟨_, rfl⟩
 have HD : Hid (∀ W, Calls Tryz.prog 58 #[.string s] W fun e w' => e = .returned (.string ⟨d.toArray⟩) ∧ Below W.heap.size W w') := fun W => by have := zjD s W hs; rwa [hd] at this
 rw [hd] at hdl ⊢
 obtain ⟨n, er, hk⟩ : ∃ n er, zcG d = (n, er) := ⟨_, _, rfl⟩
 have hnl := zpG hk
 have HK : Hid (∀ W, Calls Tryz.prog 12 #[.string ⟨d.toArray⟩] W fun e w' => e = .returned (.tuple #[.string ⟨n.toArray⟩, .int .i64 er]) ∧ Below W.heap.size W w') := fun W => by have := zkV ⟨d.toArray⟩ W (by rw [zaB]; omega); rwa [zaC, hk] at this
 rw [hk]
 clear hd hk h91
 have HB := Lib.hid (heap_alloc_new w (.cells #[.int .i64 0, .string ⟨#[]⟩, .bool false, .int .u64 0, .int .u64 0] 44))
 have hb : Below w.heap.size w (w.alloc (.cells #[.int .i64 0, .string ⟨#[]⟩, .bool false, .int .u64 0, .int .u64 0] 44)) := (Below.refl _ w).alloc (Nat.le_refl _) _
 have hg : w.heap.size < (w.alloc (.cells #[.int .i64 0, .string ⟨#[]⟩, .bool false, .int .u64 0, .int .u64 0] 44)).heap.size := by simp
 go_enter Tryz.func19, Tryz.ntmps19
 go_wp2_with fail
 generalize w.alloc (.cells #[.int .i64 0, .string ⟨#[]⟩, .bool false, .int .u64 0, .int .u64 0] 44) = x0 at *
 refine (HD.out _).mono ?_
 rintro e x1 ⟨rfl, hb1⟩
 go_wp2_with fail
 refine (HK.out _).mono ?_
 rintro e x2 ⟨rfl, hb2⟩
 have hc2 := zcM hb1 hb2
 clear hb1 hb2 HD HK hd0 e91
 by_cases h0 : er = 0
 ·subst h0
  go_wp2_with fail
  refine (zwG ⟨n.toArray⟩ _ (by rw [zaB]; omega)).mono ?_
  rw [zaC]
  rintro e x3 ⟨rfl, hb3⟩
  have hc3 := zcM hc2 hb3
  clear hc2 hb3
  cases he : zeF n with
  | false =>
   have HF := Lib.hid (z1H he)
   clear he
   have hcw := hb.trans (hc3.mono hb.size)
   obtain ⟨k0, k1, k2, k3, k4, kf⟩ := zkQ ((hc3.block w.heap.size hg).trans HB.out)
   clear hc3 hb HB hg
   go_wp2
   exact bodyPost_ret (v := .tuple #[.agg (refH (.name n)), .int .i64 0]) (by simp [results, Tryz.results19, go_sem, k0, k1, k2, k3, k4, refH]) rfl (zeH HF.out rfl (zdZ hcw (Nat.le_refl _) _ _ _ _ _))
  | true =>
   obtain ⟨x, b, hx⟩ : ∃ x b, zdE n = (x, b) := ⟨_, _, rfl⟩
   have hxb := zkX n
   rw [hx] at hxb
   have HF2 := Lib.hid (zmM he hx)
   clear he
   go_wp2_with fail
   refine (zpX ⟨n.toArray⟩ _ (by rw [zaB]; omega)).mono ?_
   rw [zaC, hx]
   rintro e x4 ⟨rfl, hb4⟩
   have hc4 := zcM hc3 hb4
   clear hc3 hb4 hx
   cases b with
   | true =>
    have HF : Hid (zfW (n, 0) = (.addr (.four x), 0)) := HF2.out.trans (if_pos rfl)
    clear HF2
    go_wp2_with fail
    refine (zmV x _ hxb.1 hxb.2).mono ?_
    rintro e x5 ⟨rfl, hb5⟩
    have hc5 := zcM hc4 hb5
    clear hc4 hb5
    have hcw := hb.trans (hc5.mono hb.size)
    obtain ⟨k0, k1, k2, k3, k4, kf⟩ := zkQ ((hc5.block w.heap.size hg).trans HB.out)
    clear hc5 hb HB hg
    go_wp2
    exact bodyPost_ret (v := .tuple #[.agg (refH (.addr (.four x))), .int .i64 0]) (by simp [results, Tryz.results19, go_sem, k0, k1, k2, k3, k4, refH, refA]) rfl (zeH HF.out rfl (zdZ hcw (Nat.le_refl _) _ _ _ _ _))
   | false =>
    have HF : Hid (zfW (n, 0) = (.none, 6)) := HF2.out.trans (if_neg (by decide))
    clear HF2
    have hcw := hb.trans (hc4.mono hb.size)
    obtain ⟨k0, k1, k2, k3, k4, kf⟩ := zkQ ((hc4.block w.heap.size hg).trans HB.out)
    clear hc4 hb HB hg
    go_wp2
    exact bodyPost_ret (v := .tuple #[.agg (refH (.none)), .int .i64 6]) (by simp [results, Tryz.results19, go_sem, k0, k1, k2, k3, k4, refH]) rfl (zeH HF.out rfl (zdZ hcw (Nat.le_refl _) _ _ _ _ _))
 ·have HF := Lib.hid (z4V (c := (n, er)) h0)
  have hd0 : (er != (0 : Int)) = true := by rw [bne_iff_ne]; exact h0
  clear h0
  have hcw := hb.trans (hc2.mono hb.size)
  obtain ⟨k0, k1, k2, k3, k4, kf⟩ := zkQ ((hc2.block w.heap.size hg).trans HB.out)
  clear hc2 hb HB hg
  go_wp2
  exact bodyPost_ret (v := .tuple #[.agg (refH (.none)), .int .i64 er]) (by simp [results, Tryz.results19, go_sem, k0, k1, k2, k3, k4, refH]) rfl (zeH HF.out rfl (zdZ hcw (Nat.le_refl _) _ _ _ _ _))
theorem zyP (s : ByteArray) (r : List UInt8) (n : Nat) (hl : s.data.toList = 91 :: r) (hn : s.size = n + 2) : (∃ h : n + 1 < s.size, r.getLast? = some (s[n + 1]'h)) ∧ s.extract 1 (n + 1) = ⟨r.dropLast.toArray⟩ := by
 have hr : r.length = n + 1 := by have := zaF s; rw [hl, List.length_cons] at this; omega
 have h : n + 1 < s.size := by omega
 refine ⟨⟨h, ?_⟩, ?_⟩
 ·have hb := zeM s (n + 1) h
  rw [hl, List.getElem?_cons_succ] at hb
  rw [List.getLast?_eq_getElem?, hr]
  exact hb
 ·refine zdX s 1 (n + 1) _ ?_
  rw [hl, List.drop_one, List.tail_cons, List.dropLast_eq_take, hr]
end

section
open Go.RowKit
theorem hs4A (v : Value) (w : World) : (Instr.typeAssert (.iface 70 v) 37 50 true).run Tryz.prog w = .ok (.tuple #[.iface 70 v, .bool true]) w := by kernel_rfl
theorem hs6A (v : Value) (w : World) : (Instr.typeAssert (.iface 73 v) 37 50 true).run Tryz.prog w = .ok (.tuple #[.iface 73 v, .bool true]) w := by kernel_rfl
theorem hs0A (w : World) : (Instr.typeAssert .nilIface 37 50 true).run Tryz.prog w = .ok (.tuple #[.nilIface, .bool false]) w := by kernel_rfl
def HZ.In : HZ → Prop
 | .addr a => a.Ok
 | _ => True
theorem HZ.Ok.inn {h : HZ} (ho : h.Ok) : h.In := by
 match h, ho with
 | .name _, _ => trivial
 | .addr _, ho => exact ho
def zwO (w : World) (v : Array Value) (e : Ending) (w' : World) : Prop := e = .returned (.agg v) ∧ Below w.heap.size w w'
theorem zsD (w : World) : Calls Tryz.prog 20 #[.nilIface] w (zwO w (refH .none)) := by
 have h1 := hs0N
 have h2 := hs0A
 have hb : Below w.heap.size w (w.alloc (.cells #[.int .i64 0, .string ⟨#[]⟩, .bool false, .int .u64 0, .int .u64 0] 44)) := (Below.refl _ w).alloc (Nat.le_refl _) _
 go_enter Tryz.func20, Tryz.ntmps20
 go_wp2
 exact bodyPost_ret (v := .agg (refH .none)) (by simp [results, Tryz.results20, go_sem, refH]) rfl ⟨rfl, by first | exact hb | exact (Below.refl _ _).alloc (Nat.le_refl _) _⟩
theorem zqZ (l : List UInt8) (w : World) : Calls Tryz.prog 20 #[.iface 23 (.string ⟨l.toArray⟩)] w (zwO w (refH (.name l))) := by
 have h1 := hsNN
 have hb : Below w.heap.size w (w.alloc (.cells #[.int .i64 0, .string ⟨#[]⟩, .bool false, .int .u64 0, .int .u64 0] 44)) := (Below.refl _ w).alloc (Nat.le_refl _) _
 go_enter Tryz.func20, Tryz.ntmps20
 go_wp2
 exact bodyPost_ret (v := .agg (refH (.name l))) (by simp [results, Tryz.results20, go_sem, refH]) rfl ⟨rfl, by first | exact hb | exact (Below.refl _ _).alloc (Nat.le_refl _) _⟩
theorem zrB (a : AZ) (w : World) (ha : a.Ok) : Calls Tryz.prog 20 #[a.val] w (zwO w (refH (.addr a))) := by
 have h1 : ∀ W, (Instr.typeAssert a.val 37 23 true).run Tryz.prog W = .ok (.tuple #[.string ⟨#[]⟩, .bool false]) W := by cases a; exact hs4N _; exact hs6N _
 have h2 : ∀ W, (Instr.typeAssert a.val 37 50 true).run Tryz.prog W = .ok (.tuple #[a.val, .bool true]) W := by cases a; exact hs4A _; exact hs6A _
 have HO := Lib.hid (fun W => z2A (some a) W (fun b h => by rw [← Option.some.inj h]; exact ha))
 have HB := Lib.hid (heap_alloc_new w (.cells #[.int .i64 0, .string ⟨#[]⟩, .bool false, .int .u64 0, .int .u64 0] 44))
 have hb : Below w.heap.size w (w.alloc (.cells #[.int .i64 0, .string ⟨#[]⟩, .bool false, .int .u64 0, .int .u64 0] 44)) := (Below.refl _ w).alloc (Nat.le_refl _) _
 have hg : w.heap.size < (w.alloc (.cells #[.int .i64 0, .string ⟨#[]⟩, .bool false, .int .u64 0, .int .u64 0] 44)).heap.size := by simp
 simp only [optV, refV] at HO
 generalize a.val = av at *
 go_enter Tryz.func20, Tryz.ntmps20
 go_wp2_with fail
 generalize w.alloc (.cells #[.int .i64 0, .string ⟨#[]⟩, .bool false, .int .u64 0, .int .u64 0] 44) = x0 at *
 refine (HO.out _).mono ?_
 rintro e x1 ⟨rfl, hb1⟩
 have hcw := hb.trans (hb1.mono hb.size)
 obtain ⟨k0, k1, k2, k3, k4, kf⟩ := zkQ ((hb1.block w.heap.size hg).trans HB.out)
 clear hb1 hb HB hg HO h1 h2
 go_wp2
 exact bodyPost_ret (v := .agg (refH (.addr a))) (by simp [results, Tryz.results20, go_sem, k0, k1, k2, k3, k4, refH]) rfl ⟨rfl, zdZ hcw (Nat.le_refl _) _ _ _ _ _⟩
theorem zwF (h : HZ) (w : World) (ho : h.In) : Calls Tryz.prog 20 #[h.val] w (zwO w (refH h)) := by
 match h, ho with
 | .none, _ => exact zsD w
 | .name l, _ => exact zqZ l w
 | .addr a, ha => exact zrB a w ha
theorem z7J (l : List UInt8) : (zgC l).1.In := by
 by_cases h : (zgC l).2 = 0
 ·exact (z5S h).inn
 ·rw [zxK h]; trivial
end

section
open Go.RowKit
theorem zkH (s : ByteArray) (w : World) (n : Nat) (hn : s.size = n + 2) (hs : s.size ≤ 1073741824) (h0 : 0 < s.size) (hc : (s[0]'h0).toNat = 91) (hlt : n + 1 < s.size) (c2 : Nat) (hc2 : (s[n + 1]'hlt).toNat = c2) (h93 : c2 ≠ 93) :
  Calls Tryz.prog 19 #[.string s] w (zgM w (.none, 6)) := by
 have hd0 : decide (0 < (s.size : Int)) = true := decide_eq_true (by omega)
 have hd1 : decide ((s.size : Int) < 2) = false := decide_eq_false (by omega)
 have e93 : ((c2 : Int) != 93) = true := by rw [bne_iff_ne]; omega
 have hb : Below w.heap.size w (w.alloc (.cells #[.int .i64 0, .string ⟨#[]⟩, .bool false, .int .u64 0, .int .u64 0] 44)) := (Below.refl _ w).alloc (Nat.le_refl _) _
 clear h93
 go_enter Tryz.func19, Tryz.ntmps19
 go_wp2
 exact bodyPost_ret (v := .tuple #[.agg (refH .none), .int .i64 6]) (by simp [results, Tryz.results19, go_sem, refH]) rfl ⟨rfl, hb⟩
theorem zlB (s : ByteArray) (w : World) (hn : s.size = 1) (h0 : 0 < s.size) (hc : (s[0]'h0).toNat = 91) :
  Calls Tryz.prog 19 #[.string s] w (zgM w (.none, 6)) := by
 have hd0 : decide (0 < (s.size : Int)) = true := decide_eq_true (by omega)
 have hd1 : decide ((s.size : Int) < 2) = true := decide_eq_true (by omega)
 have hb : Below w.heap.size w (w.alloc (.cells #[.int .i64 0, .string ⟨#[]⟩, .bool false, .int .u64 0, .int .u64 0] 44)) := (Below.refl _ w).alloc (Nat.le_refl _) _
 clear hn
 go_enter Tryz.func19, Tryz.ntmps19
 go_wp2
 exact bodyPost_ret (v := .tuple #[.agg (refH .none), .int .i64 6]) (by simp [results, Tryz.results19, go_sem, refH]) rfl ⟨rfl, hb⟩
/-- what stands between the brackets -/
def ztF (t : List UInt8) : HZ × Int := if (sixZ t).2 = true then (.addr (.six (sixZ t).1.1 (sixZ t).1.2), 0) else (.none, 6)
theorem zjQ (s : ByteArray) (w : World) (n : Nat) (hn : s.size = n + 2) (hs : s.size ≤ 1073741824) (h0 : 0 < s.size) (hc : (s[0]'h0).toNat = 91) (hlt : n + 1 < s.size) (hc2 : (s[n + 1]'hlt).toNat = 93) (t : List UInt8) (hex : s.extract 1 (n + 1) = ⟨t.toArray⟩) (ht : t.length ≤ s.size) :
  Calls Tryz.prog 19 #[.string s] w (zgM w (ztF t)) := by
 have hd0 : decide (0 < (s.size : Int)) = true := decide_eq_true (by omega)
 have hd1 : decide ((s.size : Int) < 2) = false := decide_eq_false (by omega)
 have hsl := fun W : World => zrJ (P := Tryz.prog) W 9 s (1 : Int) ((n : Int) + 2 - 1) 1 (n + 1) (by omega) (by omega) (by omega) (by omega) Tryz.underlying9
 rw [hex] at hsl
 clear hex
 obtain ⟨hi, lo, b, hz⟩ : ∃ hi lo b, sixZ t = ((hi, lo), b) := ⟨_, _, _, rfl⟩
 have HZ := Lib.hid (fun W => zpU ⟨t.toArray⟩ W (by rw [zaB]; omega))
 rw [zaC, hz] at HZ
 have HB := Lib.hid (heap_alloc_new w (.cells #[.int .i64 0, .string ⟨#[]⟩, .bool false, .int .u64 0, .int .u64 0] 44))
 have hb : Below w.heap.size w (w.alloc (.cells #[.int .i64 0, .string ⟨#[]⟩, .bool false, .int .u64 0, .int .u64 0] 44)) := (Below.refl _ w).alloc (Nat.le_refl _) _
 have hg : w.heap.size < (w.alloc (.cells #[.int .i64 0, .string ⟨#[]⟩, .bool false, .int .u64 0, .int .u64 0] 44)).heap.size := by simp
 have HF : Hid (ztF t = if b = true then (.addr (.six hi lo), 0) else (.none, 6)) := by show ztF t = _; unfold ztF; rw [hz]
 clear hz
 go_enter Tryz.func19, Tryz.ntmps19
 go_wp2_with fail
 generalize w.alloc (.cells #[.int .i64 0, .string ⟨#[]⟩, .bool false, .int .u64 0, .int .u64 0] 44) = x0 at *
 refine (HZ.out _).mono ?_
 rintro e x1 ⟨rfl, hb1⟩
 have hcw := hb.trans (hb1.mono hb.size)
 obtain ⟨k0, k1, k2, k3, k4, kf⟩ := zkQ ((hb1.block w.heap.size hg).trans HB.out)
 clear hb1 hb HB hg hsl HZ hc hc2 hd0 hd1 hn hs hlt
 cases b with
 | true =>
  have HF2 : Hid (ztF t = (.addr (.six hi lo), 0)) := HF.out.trans (if_pos rfl)
  clear HF
  go_wp2
  exact bodyPost_ret (v := .tuple #[.agg (refH (.addr (.six hi lo))), .int .i64 0]) (by simp [results, Tryz.results19, go_sem, k0, k1, k2, k3, k4, refH, refA]) rfl (zeH HF2.out rfl (zdZ hcw (Nat.le_refl _) _ _ _ _ _))
 | false =>
  have HF2 : Hid (ztF t = (.none, 6)) := HF.out.trans (if_neg (by decide))
  clear HF
  go_wp2
  exact bodyPost_ret (v := .tuple #[.agg (refH .none), .int .i64 6]) (by simp [results, Tryz.results19, go_sem, k0, k1, k2, k3, k4, refH]) rfl (zeH HF2.out rfl (zdZ hcw (Nat.le_refl _) _ _ _ _ _))
theorem zlC (s : ByteArray) (w : World) (hs : s.size ≤ 1073741824) :
  Calls Tryz.prog 19 #[.string s] w (zgM w (zgC s.data.toList)) := by
 match hl : s.data.toList with
 | [] =>
  obtain rfl : s = ⟨#[]⟩ := by
   apply ByteArray.ext
   apply Array.ext'
   rw [hl]
  exact zlD w
 | c :: r =>
  have hsz := zaF s
  rw [hl, List.length_cons] at hsz
  have h0 : 0 < s.size := by omega
  have hc : s[0]'h0 = c := by have hb := zeM s 0 h0; rw [hl] at hb; exact (Option.some.inj hb).symm
  rw [zgE]
  by_cases h91 : c = 91
  ·rw [if_pos h91]
   subst h91
   by_cases h1 : s.size < 2
   ·have hr : r = [] := List.eq_nil_of_length_eq_zero (by omega)
    rw [show zhB r = (.none, 6) by rw [hr]; exact zlJ (.inl (by simp))]
    exact zlB s w (by omega) h0 (by rw [hc]; rfl)
   ·obtain ⟨n, hn⟩ : ∃ n, s.size = n + 2 := ⟨s.size - 2, by omega⟩
    obtain ⟨⟨hlt, hlast⟩, hex⟩ := zyP s r n hl hn
    by_cases h93 : s[n + 1] = 93
    ·rw [show zhB r = ztF r.dropLast by unfold zhB ztF; rw [hlast, h93]; simp]
     exact zjQ s w n hn hs h0 (by rw [hc]; rfl) hlt (by rw [h93]; rfl) _ hex (by rw [List.length_dropLast]; omega)
    ·rw [show zhB r = (.none, 6) from zlJ (.inl (by rw [hlast]; exact fun e => h93 (Option.some.inj e)))]
     exact zkH s w n hn hs h0 (by rw [hc]; rfl) hlt _ rfl (fun e => h93 (UInt8.toNat_inj.1 e))
  ·rw [if_neg h91, ← hl]
   exact zkI s w hs h0 _ rfl (fun e => h91 (by rw [← hc]; exact UInt8.toNat_inj.1 e))
end

end Go.Proofs.YtphapecoimlngaaGreatDoor
