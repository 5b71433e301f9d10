/-
  What the law HostOnce leans on, and its walk (7 of 18).
-/
import Derived.Test.YtphapecoimlngaaGreatDoorHostOncePkD
import Derived.Test.YtphapecoimlngaaGreatDoorHostOncePkF
namespace Go.Proofs.YtphapecoimlngaaGreatDoor
set_option maxRecDepth 100000
set_option maxHeartbeats 16000000
section
open Go.RowKit
/-- none, a name, an address -/
inductive HZ where
 | none
 | name (l : List UInt8)
 | addr (a : AZ)
def HZ.Ok : HZ → Prop
 | .none => False
 | .name l => zcF l ∧ zeV l = false
 | .addr a => a.Ok
def zgC (r : List UInt8) : HZ × Int := if r.getLast? = some 93 ∧ (sixZ r.dropLast).2 = true then (.addr (.six (sixZ r.dropLast).1.1 (sixZ r.dropLast).1.2), 0) else (.none, 6)
def zeK (c : List UInt8 × Int) : HZ × Int := if c.2 ≠ 0 then (.none, c.2) else if zeV c.1 = true then (if (zdH c.1).2 = true then (.addr (.four (zdH c.1).1), 0) else (.none, 6)) else (.name c.1, 0)
def zfJ : List UInt8 → HZ × Int
 | [] => zeK (zbM (decB []))
 | c :: r => if c = 91 then zgC r else zeK (zbM (decB (c :: r)))
def zkM : HZ → List UInt8
 | .none => []
 | .name l => l
 | .addr (.four n) => txtZ n
 | .addr (.six hi lo) => [91] ++ zdE hi lo ++ [93]
def z1Z (n i : Nat) : Int := if i = n then 1 else 256 ^ (4 - i)
theorem zvV (n : Nat) (h1 : 1 ≤ n) (h4 : n ≤ 4) : ∀ (ps : List (List UInt8)) (i : Nat) (A : Int), i + ps.length ≤ n → 0 ≤ A → A + z1Z n i ≤ 4294967296 → 0 ≤ (goF n i A ps).1 ∧ (goF n i A ps).1 ≤ 4294967295 := by
 intro ps
 induction ps with
 | nil =>
  intro i A _ h0 hA
  have : 1 ≤ z1Z n i := by
   unfold z1Z
   split
   ·omega
   ·exact Int.pow_pos (by decide)
  exact ⟨h0, by show A ≤ _; omega⟩
 | cons p ps ih =>
  intro i A hi h0 hA
  rw [show goF n i A (p :: ps) = if (zbL p).2 = true ∧ (zbL p).1 < limZ n i then goF n (i + 1) (A + (zbL p).1 * wtZ n i) ps else (0, false) from rfl]
  split
  ·rename_i h
   have hb := zbC p
   have hx := h.2
   generalize (zbL p).1 = x at *
   simp only [List.length_cons] at hi
   refine ih (i + 1) _ (by omega) ?_ ?_
   ·have : 0 ≤ wtZ n i := by unfold wtZ; split <;> first | decide | exact Int.le_of_lt (Int.pow_pos (by decide))
    have := Int.mul_nonneg hb.1 this
    omega
   ·clear ih h
    rcases (show n = 1 ∨ n = 2 ∨ n = 3 ∨ n = 4 from by omega) with rfl | rfl | rfl | rfl <;>
     rcases (show i = 0 ∨ i = 1 ∨ i = 2 ∨ i = 3 from by omega) with rfl | rfl | rfl | rfl <;>
     first
     | omega
     | (simp [limZ, wtZ, z1Z] at *; omega)
  ·exact ⟨Int.le_refl _, by decide⟩
theorem zpD (l : List UInt8) : 0 ≤ (zdH l).1 ∧ (zdH l).1 ≤ 4294967295 := by
 unfold zdH zyU
 split
 ·exact ⟨Int.le_refl _, by decide⟩
 ·rename_i h
  have hp := zpL (zgL l)
  refine zvV _ hp (by omega) _ 0 0 ?_ (Int.le_refl _) ?_
  ·rw [List.length_take]; omega
  ·unfold z1Z
   rw [if_neg (by omega)]
   decide
theorem z1J (c : UInt8) (rest : List UInt8) (f : Nat) (h : c.toNat ≠ 37) : decL (f + 1) (c :: rest) = c :: decL f rest := by
 have e : zfC (c :: rest) = none := by
  unfold zfC
  split
  ·rename_i h1
   injection h1 with h1 _
   subst h1
   rw [if_neg fun h2 => h h2.1]
  ·rfl
 simp only [decL, e]
theorem z8J {l : List UInt8} (h : ∀ c ∈ l, c.toNat ≠ 37) : decB l = l := by
 have key : ∀ (l : List UInt8) (f : Nat), l.length ≤ f → (∀ c ∈ l, c.toNat ≠ 37) → decL f l = l := by
  intro l
  induction l with
  | nil => intro f _ _; cases f <;> rfl
  | cons c l ih =>
   intro f hf h
   cases f with
   | zero => simp at hf
   | succ f => rw [z1J c l f (h c (by simp)), ih f (by simpa using hf) fun d hd => h d (by simp [hd])]
 exact key l _ (Nat.le_refl _) h
theorem zgR (c : UInt8) (r : List UInt8) : zfJ (c :: r) = if c = 91 then zgC r else zeK (zbM (decB (c :: r))) := rfl
theorem zzJ {l : List UInt8} (h : Lib.hasPrefix l [91] = true) : zfJ l = zgC (l.drop 1) := by
 cases l with
 | nil => cases h
 | cons c r =>
  rw [zgR, if_pos]
  ·rfl
  ·have : (91 == c) = true := by simpa [Lib.hasPrefix] using h
   exact (eq_of_beq this).symm
theorem z1E {l : List UInt8} (h : Lib.hasPrefix l [91] = false) : zfJ l = zeK (zbM (decB l)) := by
 cases l with
 | nil => rfl
 | cons c r =>
  rw [zgR, if_neg]
  rintro rfl
  simp [Lib.hasPrefix] at h
theorem z6B (l : List UInt8) : (decB l).length ≤ l.length := by
 have key : ∀ (f : Nat) (l : List UInt8), (decL f l).length ≤ l.length := by
  intro f
  induction f with
  | zero => intro l; exact Nat.zero_le _
  | succ f ih =>
   intro l
   cases l with
   | nil => exact Nat.le_refl _
   | cons c r =>
    simp only [decL]
    split
    ·have := ih (r.drop 2)
     rw [List.length_drop] at this
     simp only [List.length_cons]
     omega
    ·have := ih r
     simp only [List.length_cons]
     omega
 exact key _ l
theorem zzM {l : List UInt8} (h : ∀ c ∈ l, c.toNat ≠ 91) : zfJ l = zeK (zbM (decB l)) := by
 cases l with
 | nil => rfl
 | cons c r =>
  show (if c = 91 then zgC r else _) = _
  rw [if_neg]
  exact fun e => h c (by simp) (by rw [e]; rfl)
theorem zpH {l : List UInt8} (h : zcF l) : zfJ l = zeK (l, 0) := by
 rw [zzM fun c hc => (zsG c (h.sign c hc)).2.2, z8J fun c hc => (zsG c (h.sign c hc)).2.1, h.canon]
theorem zvK {c : List UInt8 × Int} (hc : c.2 = 0 → zcF c.1) (h : (zeK c).2 = 0) : (zeK c).1.Ok := by
 unfold zeK at *
 split at h
 ·rename_i h0; exact absurd h h0
 ·rename_i h0
  rw [if_neg h0]
  split at h
  ·rename_i h1
   rw [if_pos h1]
   split at h
   ·rename_i h2; rw [if_pos h2]; exact zpD _
   ·cases h
  ·rename_i h1
   rw [if_neg h1]
   exact ⟨hc (by simpa using h0), by simpa using h1⟩
theorem z5V {r : List UInt8} (h : (zgC r).2 = 0) : (zgC r).1.Ok := by
 unfold zgC at *
 split at h
 ·rename_i h0; rw [if_pos h0]; exact zyN _
 ·cases h
theorem z4U {l : List UInt8} (h : (zfJ l).2 = 0) : (zfJ l).1.Ok := by
 cases l with
 | nil => exact zvK ziQ h
 | cons c r =>
  rw [zgR] at *
  split at h
  ·rename_i h0; rw [if_pos h0]; exact z5V h
  ·rename_i h0; rw [if_neg h0]; exact zvK ziQ h
theorem zuR {c : List UInt8 × Int} (h : (zeK c).2 ≠ 0) : (zeK c).1 = .none := by
 unfold zeK at *
 repeat' split at h
 all_goals simp_all
theorem z5S {l : List UInt8} (h : (zfJ l).2 ≠ 0) : (zfJ l).1 = .none := by
 cases l with
 | nil => exact zuR h
 | cons c r =>
  rw [zgR] at *
  split at h
  ·rename_i h0
   rw [if_pos h0]
   unfold zgC at *
   split at h
   ·exact absurd rfl h
   ·rename_i h1; rw [if_neg h1]
  ·rename_i h0; rw [if_neg h0]; exact zuR h
/-- the text of an address of four bytes is a name that ends in a number -/
theorem zxU : ∀ u : Fin 256, (dec3 u.val).all (fun c => ziB c && (lowC c == c)) && zlW (dec3 u.val) && !zhY (dec3 u.val) && decide (1 ≤ (dec3 u.val).length) = true := by decide +kernel
theorem zcE (u : Nat) (h : u < 256) : (∀ c ∈ dec3 u, ziB c = true ∧ lowC c = c) ∧ zlW (dec3 u) = true ∧ zhY (dec3 u) = false ∧ 1 ≤ (dec3 u).length := by
 have := zxU ⟨u, h⟩
 simp at this
 exact ⟨this.1.1.1, this.1.1.2, this.1.2, this.2⟩
theorem z3M (a b c d : Nat) (ha : a < 256) (hb : b < 256) (hc : c < 256) (hd : d < 256) : zcF (txt a b c d) ∧ zeV (txt a b c d) = true := by
 have hD := zmQ a b c d ha hb hc hd
 have hl : zaQ (txt a b c d) = [dec3 a, dec3 b, dec3 c, dec3 d] := by
  unfold zaQ
  rw [hD, zdD 3 [dec3 a, dec3 b, dec3 c, dec3 d] rfl (.inr (ztT d hd))]
  rfl
 have hs : ∀ x ∈ txt a b c d, ziB x = true ∧ lowC x = x := by
  have hp : ziB 46 = true ∧ lowC 46 = 46 := by decide
  intro x hx
  unfold txt at hx
  simp only [List.mem_append, List.mem_singleton] at hx
  rcases hx with (h | rfl) | (h | rfl) | (h | rfl) | h
  ·exact (zcE a ha).1 x h
  ·exact hp
  ·exact (zcE b hb).1 x h
  ·exact hp
  ·exact (zcE c hc).1 x h
  ·exact hp
  ·exact (zcE d hd).1 x h
 have hw : ∀ w ∈ zaQ (txt a b c d), (1 ≤ w.length ∧ w.length ≤ 63) ∧ zhY w = false := by
  rw [hl]
  intro w hw
  simp only [List.mem_cons, List.not_mem_nil, or_false] at hw
  rcases hw with rfl | rfl | rfl | rfl
  ·exact ⟨⟨(zcE _ ha).2.2.2, Nat.le_trans (zbS _) (by omega)⟩, (zcE _ ha).2.2.1⟩
  ·exact ⟨⟨(zcE _ hb).2.2.2, Nat.le_trans (zbS _) (by omega)⟩, (zcE _ hb).2.2.1⟩
  ·exact ⟨⟨(zcE _ hc).2.2.2, Nat.le_trans (zbS _) (by omega)⟩, (zcE _ hc).2.2.1⟩
  ·exact ⟨⟨(zcE _ hd).2.2.2, Nat.le_trans (zbS _) (by omega)⟩, (zcE _ hd).2.2.1⟩
 refine ⟨⟨?_, Nat.le_trans (zoX _) ?_, fun w h => (hw w h).1, fun x hx => (hs x hx).1, fun w h => (hw w h).2⟩, ?_⟩
 ·unfold zbQ
  conv => rhs; rw [← List.map_id (txt a b c d)]
  exact List.map_congr_left fun x hx => (hs x hx).2
 ·unfold txt
  have h1 := zbS a
  have h2 := zbS b
  have h3 := zbS c
  have h4 := zbS d
  simp only [List.length_append, List.length_cons, List.length_nil]
  omega
 ·unfold zeV
  rw [hD, zlL 3 (dec3 d) _ rfl rfl (.inr (ztT d hd))]
  exact (zcE d hd).2.1
/-- what is written of a host is read as that host -/
theorem z2R {h : HZ} (ho : h.Ok) : zfJ (zkM h) = (h, 0) := by
 match h, ho with
 | .name l, ho =>
  rw [show zkM (.name l) = l from rfl, zpH ho.1]
  unfold zeK
  rw [if_neg (by simp), if_neg (by simp [ho.2])]
 | .addr (.four n), ho =>
  obtain ⟨k1, k2⟩ := z3M (n / 16777216).toNat (n / 65536 % 256).toNat (n / 256 % 256).toNat (n % 256).toNat (by have := ho.2; have := ho.1; omega) (by omega) (by omega) (by omega)
  rw [show zkM (.addr (.four n)) = txtZ n from rfl, show txtZ n = txt (n / 16777216).toNat (n / 65536 % 256).toNat (n / 256 % 256).toNat (n % 256).toNat from rfl, zpH k1]
  unfold zeK
  rw [if_neg (by simp), if_pos k2, show txt (n / 16777216).toNat (n / 65536 % 256).toNat (n / 256 % 256).toNat (n % 256).toNat = txtZ n from rfl, zzQ n ho.1 ho.2]
  rfl
 | .addr (.six hi lo), ho =>
  show zgC (zdE hi lo ++ [93]) = _
  unfold zgC
  rw [if_pos ⟨by simp, by rw [List.dropLast_concat, zvO ho.1.1 ho.1.2 ho.2.1 ho.2.2]⟩, List.dropLast_concat, zvO ho.1.1 ho.1.2 ho.2.1 ho.2.2]
end

section
open Go.RowKit
def HZ.val : HZ → Value
 | .none => .nilIface
 | .name l => .iface 23 (.string ⟨l.toArray⟩)
 | .addr a => a.val
def zsF (w : World) (x : HZ × Int) (e : Ending) (w' : World) : Prop := e = .returned (.tuple #[x.1.val, .int .i64 x.2]) ∧ Below w.heap.size w w'
theorem zdM {w w' : World} {x : HZ × Int} {h : HZ} {n : Int} {v : Value} (e : x = (h, n)) (hv : v = h.val) (hb : Below w.heap.size w w') : zsF w x (.returned (.tuple #[v, .int .i64 n])) w' := by
 subst e hv; exact ⟨rfl, hb⟩
theorem zvI {r : List UInt8} (h : ¬ r.getLast? = some 93 ∨ (sixZ (Lib.trimSuffix r [93])).2 = false) : zgC r = (.none, 6) := by
 unfold zgC
 rw [if_neg]
 rintro ⟨h1, h2⟩
 rw [zjZ, if_pos h1] at h
 rcases h with h | h
 ·exact h h1
 ·rw [h2] at h; cases h
theorem zrF {r : List UInt8} {hi lo : Int} (h1 : r.getLast? = some 93) (h2 : sixZ (Lib.trimSuffix r [93]) = ((hi, lo), true)) : zgC r = (.addr (.six hi lo), 0) := by
 unfold zgC
 rw [zjZ, if_pos h1] at h2
 rw [if_pos ⟨h1, by rw [h2]⟩, h2]
theorem zqU (r : List UInt8) (w : World) (hr : r.length ≤ 1073741824) (hmax : MaxVar w) :
  Calls Tryz.prog 53 #[.string ⟨r.toArray⟩] w (zsF w (zgC r)) := by
 have HX := Lib.hid hmax
 clear hmax
 have hsl := zvJ r 93
 have htl : (Lib.trimSuffix r [93]).length ≤ r.length := by rw [zjZ]; split <;> simp
 obtain ⟨t, ht⟩ : ∃ t, Lib.trimSuffix r [93] = t := ⟨_, rfl⟩
 obtain ⟨hi, lo, b, hz⟩ : ∃ hi lo b, sixZ t = ((hi, lo), b) := ⟨_, _, _, rfl⟩
 have HC : Hid (∀ W, Calls Tryz.prog 75 #[.string ⟨r.toArray⟩, .string ⟨#[93]⟩] W fun e w' => e = .returned (.tuple #[.string ⟨t.toArray⟩, .bool (decide (r.getLast? = some 93))]) ∧ W = w') := fun W => (Tryz.strings_CutSuffix ⟨r.toArray⟩ ⟨#[93]⟩ W (by rw [zaG]; omega)).mono (fun e w' h => ⟨by rw [h.1, ← ht, ← hsl], h.2.symm⟩)
 rw [ht] at htl
 go_enter Tryz.func53, Tryz.ntmps53
 go_wp2_with fail
 refine (HC.out _).mono ?_
 rintro e w' ⟨rfl, rfl⟩
 go_wp2_with fail
 refine (zgU ⟨t.toArray⟩ _ (by rw [zaG]; omega) HX.out).mono ?_
 rw [zaJ, hz]
 rintro e w1 ⟨rfl, hb1⟩
 clear HC
 by_cases hl : r.getLast? = some 93
 ·have hd : decide (r.getLast? = some 93) = true := decide_eq_true hl
  cases b with
  | true =>
   have HF := Lib.hid (zrF hl (by rw [ht]; exact hz))
   clear hl hsl hz ht
   rw [hd]
   go_wp2
   go_ret2
   exact zdM HF.out rfl (hb1.alloc hb1.size _)
  | false =>
   have HF := Lib.hid (zvI (r := r) (.inr (by rw [ht, hz])))
   clear hl hsl hz ht
   rw [hd]
   go_wp2
   go_ret2
   exact zdM HF.out rfl (hb1.alloc hb1.size _)
 ·have hd : decide (r.getLast? = some 93) = false := decide_eq_false hl
  have HF := Lib.hid (zvI (r := r) (.inl hl))
  clear hl hsl hz ht
  rw [hd]
  go_wp2
  go_ret2
  exact zdM HF.out rfl (hb1.alloc hb1.size _)
theorem z7M {c : List UInt8 × Int} (h : c.2 ≠ 0) : zeK c = (.none, c.2) := if_pos h
theorem z8Q {n : List UInt8} (h : zeV n = false) : zeK (n, 0) = (.name n, 0) := by unfold zeK; rw [if_neg (by simp), if_neg (by simp [h])]
theorem zoL {n : List UInt8} {x : Int} {b : Bool} (h : zeV n = true) (hx : zdH n = (x, b)) : zeK (n, 0) = if b = true then (.addr (.four x), 0) else (.none, 6) := by unfold zeK; rw [if_neg (by simp), if_pos h, hx]
theorem zxF {l n : List UInt8} {e : Int} (h : zbM l = (n, e)) : n.length ≤ l.length := by
 by_cases h0 : e = 0
 ·have := (zpT (l := l) (by rw [h]; exact h0)).1
  rw [h] at this
  injection this with h1 _
  rw [h1, zlE]
  exact Nat.le_refl _
 ·have := z2S (l := l) (by rw [h]; exact h0)
  rw [h] at this
  rw [show n = [] from this]
  exact Nat.zero_le _
theorem zcS (s : ByteArray) (w : World) (hs : s.size ≤ 1073741824) (hmax : MaxVar w) :
  Calls Tryz.prog 18 #[.string s] w (zsF w (zfJ s.data.toList)) := by
 have HX := Lib.hid hmax
 clear hmax
 obtain ⟨b, hb⟩ : ∃ b, Lib.hasPrefix s.data.toList [91] = b := ⟨_, rfl⟩
 obtain ⟨r, hr⟩ : ∃ r, Lib.trimPrefix s.data.toList [91] = r := ⟨_, rfl⟩
 have HC : Hid (∀ W, Calls Tryz.prog 52 #[.string s, .string ⟨#[91]⟩] W fun e w' => e = .returned (.tuple #[.string ⟨r.toArray⟩, .bool b]) ∧ W = w') := fun W => (Tryz.strings_CutPrefix s ⟨#[91]⟩ W).mono (fun e w' h => ⟨by rw [h.1, ← hr, ← hb], h.2.symm⟩)
 cases b with
 | true =>
  have hrd : r = s.data.toList.drop 1 := by rw [← hr]; unfold Lib.trimPrefix; rw [if_pos hb]; rfl
  have hrl : r.length ≤ s.size := by rw [hrd, List.length_drop, zaM]; omega
  have HF := Lib.hid ((zzJ hb).trans (by rw [hrd] : _ = zgC r))
  clear hr hb hrd
  go_enter Tryz.func18, Tryz.ntmps18
  go_wp2_with fail
  refine (HC.out _).mono ?_
  rintro e w' ⟨rfl, rfl⟩
  go_wp2_with fail
  refine (zqU r _ (by omega) HX.out).mono ?_
  rw [← HF.out]
  rintro e w1 ⟨rfl, hb1⟩
  go_wp2
  go_ret2
  exact ⟨rfl, hb1⟩
 | false =>
  have HF := Lib.hid (z1E hb)
  have hdl := z6B s.data.toList
  rw [zaM] at hdl
  obtain ⟨d, hd⟩ : ∃ d, decB s.data.toList = d := ⟨_, rfl⟩
  have HD : Hid (∀ W, Calls Tryz.prog 54 #[.string s] W fun e w' => e = .returned (.string ⟨d.toArray⟩) ∧ Below W.heap.size W w') := fun W => by have := zmJ s W hs; rwa [hd] at this
  rw [hd] at HF hdl
  obtain ⟨n, er, hc⟩ : ∃ n er, zbM d = (n, er) := ⟨_, _, rfl⟩
  have hnl := zxF hc
  have HK : Hid (∀ W, Calls Tryz.prog 11 #[.string ⟨d.toArray⟩] W fun e w' => e = .returned (.tuple #[.string ⟨n.toArray⟩, .int .i64 er]) ∧ Below W.heap.size W w') := fun W => by have := zgO ⟨d.toArray⟩ W (by rw [zaG]; omega); rwa [zaJ, hc] at this
  rw [hc] at HF
  clear hr hb hd hc
  go_enter Tryz.func18, Tryz.ntmps18
  go_wp2_with fail
  refine (HC.out _).mono ?_
  rintro e w' ⟨rfl, rfl⟩
  go_wp2_with fail
  refine (HD.out _).mono ?_
  rintro e w1 ⟨rfl, hb1⟩
  go_wp2_with fail
  refine (HK.out _).mono ?_
  rintro e w2 ⟨rfl, hb2⟩
  have hc2 := zcN hb1 hb2
  clear hb1 hb2 HD HK HC
  by_cases h0 : er = 0
  ·subst h0
   go_wp2_with fail
   refine (zcL _ _).mono ?_
   rintro e w' ⟨rfl, rfl⟩
   go_wp2_with fail
   refine (zoK ⟨n.toArray⟩ _ (by rw [zaG]; omega)).mono ?_
   rw [zaJ]
   rintro e w3 ⟨rfl, hb3⟩
   have hc3 := zcN hc2 hb3
   clear hc2 hb3
   cases he : zeV n with
   | false =>
    have HF2 := Lib.hid (HF.out.trans (z8Q he))
    clear he
    go_wp2
    go_ret2
    exact zdM HF2.out rfl hc3
   | true =>
    obtain ⟨x, b, hx⟩ : ∃ x b, zdH n = (x, b) := ⟨_, _, rfl⟩
    have HF2 := Lib.hid (HF.out.trans (zoL he hx))
    clear he
    go_wp2_with fail
    refine (zcL _ _).mono ?_
    rintro e w' ⟨rfl, rfl⟩
    go_wp2_with fail
    refine (zgT ⟨n.toArray⟩ _ (by rw [zaG]; omega)).mono ?_
    rw [zaJ, hx]
    rintro e w4 ⟨rfl, hb4⟩
    have hc4 := zcN hc3 hb4
    clear hc3 hb4 hx
    cases b with
    | true =>
     go_wp2
     go_ret2
     exact zdM (HF2.out.trans (if_pos trivial)) rfl hc4
    | false =>
     go_wp2
     go_ret2
     exact zdM (HF2.out.trans (if_neg (by decide))) rfl hc4
  ·have HF2 := Lib.hid (HF.out.trans (z7M h0))
   have hd0 : (er != (0 : Int)) = true := by rw [bne_iff_ne]; exact h0
   clear h0
   go_wp2
   go_ret2
   exact zdM HF2.out rfl hc2
end

section
open Go.RowKit
theorem hsNN (v : Value) (w : World) : (Instr.typeAssert (.iface 23 v) 37 23 true).run Tryz.prog w = .ok (.tuple #[v, .bool true]) w := by kernel_rfl
theorem hsN4 (v : Value) (w : World) : (Instr.typeAssert (.iface 23 v) 37 70 true).run Tryz.prog w = .ok (.tuple #[.int .u32 0, .bool false]) w := by kernel_rfl
theorem hsN6 (v : Value) (w : World) : (Instr.typeAssert (.iface 23 v) 37 73 true).run Tryz.prog w = .ok (.tuple #[.agg #[.int .u64 0, .int .u64 0], .bool false]) w := by kernel_rfl
theorem hs4N (v : Value) (w : World) : (Instr.typeAssert (.iface 70 v) 37 23 true).run Tryz.prog w = .ok (.tuple #[.string ⟨#[]⟩, .bool false]) w := by kernel_rfl
theorem hs44 (v : Value) (w : World) : (Instr.typeAssert (.iface 70 v) 37 70 true).run Tryz.prog w = .ok (.tuple #[v, .bool true]) w := by kernel_rfl
theorem hs46 (v : Value) (w : World) : (Instr.typeAssert (.iface 70 v) 37 73 true).run Tryz.prog w = .ok (.tuple #[.agg #[.int .u64 0, .int .u64 0], .bool false]) w := by kernel_rfl
theorem hs6N (v : Value) (w : World) : (Instr.typeAssert (.iface 73 v) 37 23 true).run Tryz.prog w = .ok (.tuple #[.string ⟨#[]⟩, .bool false]) w := by kernel_rfl
theorem hs64 (v : Value) (w : World) : (Instr.typeAssert (.iface 73 v) 37 70 true).run Tryz.prog w = .ok (.tuple #[.int .u32 0, .bool false]) w := by kernel_rfl
theorem hs66 (v : Value) (w : World) : (Instr.typeAssert (.iface 73 v) 37 73 true).run Tryz.prog w = .ok (.tuple #[v, .bool true]) w := by kernel_rfl
theorem hs0N (w : World) : (Instr.typeAssert .nilIface 37 23 true).run Tryz.prog w = .ok (.tuple #[.string ⟨#[]⟩, .bool false]) w := by kernel_rfl
theorem hs04 (w : World) : (Instr.typeAssert .nilIface 37 70 true).run Tryz.prog w = .ok (.tuple #[.int .u32 0, .bool false]) w := by kernel_rfl
theorem hs06 (w : World) : (Instr.typeAssert .nilIface 37 73 true).run Tryz.prog w = .ok (.tuple #[.agg #[.int .u64 0, .int .u64 0], .bool false]) w := by kernel_rfl
/-- the address that a host is, if it is one -/
def HZ.ad : HZ → Option AZ
 | .addr a => some a
 | _ => Option.none
def HZ.nm : HZ → List UInt8
 | .name l => l
 | _ => []
def HZ.isN : HZ → Bool
 | .name _ => true
 | _ => false
theorem zjD (h : HZ) (w : World) :
  Calls Tryz.prog 22 #[h.val] w fun e w' => e = .returned (.tuple #[optV h.ad, .bool h.ad.isSome]) ∧ Below w.heap.size w w' := by
 match h with
 | .none =>
  show Calls _ _ #[.nilIface] _ _
  have h4 := hs04
  have h6 := hs06
  go_enter Tryz.func22, Tryz.ntmps22
  go_wp2
  go_ret2
  exact ⟨rfl, Below.refl _ _⟩
 | .name l =>
  show Calls _ _ #[.iface 23 (.string ⟨l.toArray⟩)] _ _
  have h4 := hsN4
  have h6 := hsN6
  go_enter Tryz.func22, Tryz.ntmps22
  go_wp2
  go_ret2
  exact ⟨rfl, Below.refl _ _⟩
 | .addr (.four n) =>
  show Calls _ _ #[.iface 70 (.int .u32 n)] _ _
  have h4 := hs44
  go_enter Tryz.func22, Tryz.ntmps22
  go_wp2
  go_ret2
  exact ⟨rfl, Below.refl _ _⟩
 | .addr (.six hi lo) =>
  show Calls _ _ #[.iface 73 (.agg #[.int .u64 hi, .int .u64 lo])] _ _
  have h4 := hs64
  have h6 := hs66
  go_enter Tryz.func22, Tryz.ntmps22
  go_wp2
  go_ret2
  exact ⟨rfl, (Below.refl _ _).alloc (Nat.le_refl _) _⟩
theorem zgM (h : HZ) (w : World) :
  Calls Tryz.prog 23 #[h.val] w fun e w' => e = .returned (.tuple #[.string ⟨h.nm.toArray⟩, .bool h.isN]) ∧ w = w' := by
 match h with
 | .none =>
  show Calls _ _ #[.nilIface] _ _
  have h4 := hs0N
  go_enter Tryz.func23, Tryz.ntmps23
  go_wp2
  go_ret2
  exact ⟨rfl, rfl⟩
 | .name l =>
  show Calls _ _ #[.iface 23 (.string ⟨l.toArray⟩)] _ _
  have h4 := hsNN
  go_enter Tryz.func23, Tryz.ntmps23
  go_wp2
  go_ret2
  exact ⟨rfl, rfl⟩
 | .addr (.four n) =>
  show Calls _ _ #[.iface 70 (.int .u32 n)] _ _
  have h4 := hs4N
  go_enter Tryz.func23, Tryz.ntmps23
  go_wp2
  go_ret2
  exact ⟨rfl, rfl⟩
 | .addr (.six hi lo) =>
  show Calls _ _ #[.iface 73 (.agg #[.int .u64 hi, .int .u64 lo])] _ _
  have h4 := hs6N
  go_enter Tryz.func23, Tryz.ntmps23
  go_wp2
  go_ret2
  exact ⟨rfl, rfl⟩
/-- may it be? -/
def z0U : HZ → Bool
 | .none => false
 | .name l => zjA l && !zeV l
 | .addr _ => true
theorem zyO {h : HZ} (ho : h.Ok) : z0U h = true := by
 match h, ho with
 | .name l, ho => exact Bool.and_eq_true_iff.2 ⟨(zwA l).2 ho.1, by rw [ho.2]; rfl⟩
 | .addr a, _ => rfl
def HZ.small : HZ → Prop
 | .name l => l.length ≤ 1073741824
 | _ => True
theorem zoS (h : HZ) (w : World) (hs : h.small) :
  Calls Tryz.prog 28 #[h.val] w (zfA w (z0U h)) := by
 match h, hs with
 | .none, _ =>
  have HN := Lib.hid (fun W => zgM .none W)
  have HA := Lib.hid (fun W => zjD .none W)
  simp only [HZ.val, HZ.nm, HZ.isN, HZ.ad, optV] at HN HA ⊢
  go_enter Tryz.func28, Tryz.ntmps28
  go_wp2_with fail
  refine (HN.out _).mono ?_
  rintro e w' ⟨rfl, rfl⟩
  go_wp2_with fail
  refine (HA.out _).mono ?_
  rintro e w1 ⟨rfl, hb⟩
  go_wp2
  go_ret
  exact ⟨rfl, hb⟩
 | .addr a, _ =>
  have HN := Lib.hid (fun W => zgM (.addr a) W)
  have HA := Lib.hid (fun W => zjD (.addr a) W)
  simp only [HZ.nm, HZ.isN, HZ.ad] at HN HA ⊢
  generalize (HZ.addr a).val = va at *
  generalize optV (some a) = vb at *
  go_enter Tryz.func28, Tryz.ntmps28
  go_wp2_with fail
  refine (HN.out _).mono ?_
  rintro e w' ⟨rfl, rfl⟩
  go_wp2_with fail
  refine (HA.out _).mono ?_
  rintro e w1 ⟨rfl, hb⟩
  go_wp2
  go_ret
  exact ⟨rfl, hb⟩
 | .name l, hs =>
  have hl : l.length ≤ 1073741824 := hs
  have HN := Lib.hid (fun W => zgM (.name l) W)
  simp only [HZ.val, HZ.nm, HZ.isN] at HN ⊢
  have HR := Lib.hid (fun W => zuF ⟨l.toArray⟩ W (by rw [zaG]; omega))
  have HE := Lib.hid (fun W => zoK ⟨l.toArray⟩ W (by rw [zaG]; omega))
  have HF := Lib.hid (show z0U (.name l) = (zjA l && !zeV l) from rfl)
  rw [zaJ] at HR HE
  go_enter Tryz.func28, Tryz.ntmps28
  go_wp2_with fail
  refine (HN.out _).mono ?_
  rintro e w' ⟨rfl, rfl⟩
  go_wp2_with fail
  refine (zcL _ _).mono ?_
  rintro e w' ⟨rfl, rfl⟩
  go_wp2_with fail
  refine (HR.out _).mono ?_
  rintro e w1 ⟨rfl, hb1⟩
  clear HN HR
  cases hr : zjA l with
  | false =>
   rw [hr] at HF
   go_wp2
   go_ret
   exact zaZ HF.out hb1
  | true =>
   rw [hr] at HF
   clear hr
   go_wp2_with fail
   refine (zcL _ _).mono ?_
   rintro e w' ⟨rfl, rfl⟩
   go_wp2_with fail
   refine (HE.out _).mono ?_
   rintro e w2 ⟨rfl, hb2⟩
   go_wp2
   go_ret
   exact zaZ HF.out (zcN hb1 hb2)
end

section
open Go.RowKit
def HZ.In : HZ → Prop
 | .addr a => a.Ok
 | _ => True
theorem HZ.Ok.inn {h : HZ} (ho : h.Ok) : h.In := by
 match h, ho with
 | .name _, _ => trivial
 | .addr _, ho => exact ho
end

section
open Go.RowKit
theorem add12 (a b : List UInt8) (h : a.length + b.length ≤ 1000000000) : ∀ W, (Op.stringOp .add ⟨a.toArray⟩ ⟨b.toArray⟩).run Tryz.prog W = .ok (.string ⟨(a ++ b).toArray⟩) W := fun W => by
 rw [run_string_add_sum W _ _ (by rw [zaG, zaG]; omega), ziH]
theorem HZ.iface {h : HZ} (hne : h ≠ .none) : ∃ t v, h.val = .iface t v := by
 match h, hne with
 | .name l, _ => exact ⟨_, _, rfl⟩
 | .addr (.four n), _ => exact ⟨_, _, rfl⟩
 | .addr (.six hi lo), _ => exact ⟨_, _, rfl⟩
theorem HZ.Ok.ne {h : HZ} (ho : h.Ok) : h ≠ .none := fun e => by rw [e] at ho; exact ho
theorem HZ.Ok.sm {h : HZ} (ho : h.Ok) : h.small := by
 match h, ho with
 | .name l, ho =>
  have := zjX l
  have := ho.1.size
  show l.length ≤ _
  omega
 | .addr a, _ => trivial
theorem zvX {h : HZ} (ho : h.Ok) : (zkM h).length ≤ 1073741824 := by
 match h, ho with
 | .name l, ho =>
  have := zjX l
  have := ho.1.size
  show l.length ≤ _
  omega
 | .addr (.four n), _ => exact Nat.le_trans (z5X n) (by decide)
 | .addr (.six hi lo), ho =>
  have := zqL ho.1.1 ho.1.2 ho.2.1 ho.2.2
  show ([91] ++ zdE hi lo ++ [93]).length ≤ _
  simp only [List.length_append, List.length_cons, List.length_nil]
  omega
theorem zoF (h : HZ) (w : World) (ho : h.In) (hpow : PowTab w) (hbru : BruTab w) :
  Calls Tryz.prog 24 #[h.val] w (zkK w (zkM h)) := by
 match h, ho with
 | .none, _ =>
  show Calls _ _ #[.nilIface] _ _
  go_enter Tryz.func24, Tryz.ntmps24
  go_wp2
  go_ret
  exact ⟨rfl, Below.refl _ _⟩
 | .name l, _ =>
  show Calls _ _ #[.iface 23 (.string ⟨l.toArray⟩)] _ _
  have h6 := hsN6
  have hm : ∀ W : World, (method 352 23 (.string ⟨l.toArray⟩) "Text").run Tryz.prog W = .ok (14, (.string ⟨l.toArray⟩)) W := fun _ => by kernel_rfl
  have hb : Below w.heap.size w (w.alloc (.cells #[.int .u64 0, .int .u64 0] 73)) := (Below.refl _ w).alloc (Nat.le_refl _) _
  clear hpow hbru
  go_enter Tryz.func24, Tryz.ntmps24
  go_wp2_with fail
  refine (zcL _ _).mono ?_
  rintro e w' ⟨rfl, rfl⟩
  go_wp2
  go_ret
  exact ⟨rfl, hb⟩
 | .addr (.four n), ho =>
  show Calls _ _ #[.iface 70 (.int .u32 n)] _ _
  have h6 := hs46
  have hm : ∀ W : World, (method 352 70 (.int .u32 n) "Text").run Tryz.prog W = .ok (237, (.int .u32 n)) W := fun _ => by kernel_rfl
  have hb : Below w.heap.size w (w.alloc (.cells #[.int .u64 0, .int .u64 0] 73)) := (Below.refl _ w).alloc (Nat.le_refl _) _
  have HT := Lib.hid (z3I n _ ho.1 ho.2 (zcC hpow hb))
  clear hpow hbru
  go_enter Tryz.func24, Tryz.ntmps24
  go_wp2_with fail
  refine HT.out.mono ?_
  rintro e w1 ⟨rfl, hb1⟩
  go_wp2
  go_ret
  exact ⟨rfl, hb.trans (hb1.mono hb.size)⟩
 | .addr (.six hi lo), ho =>
  show Calls _ _ #[.iface 73 (.agg #[.int .u64 hi, .int .u64 lo])] _ _
  have h6 := hs66
  have hb : Below w.heap.size w (w.alloc (.cells #[.int .u64 hi, .int .u64 lo] 73)) := (Below.refl _ w).alloc (Nat.le_refl _) _
  have HT := Lib.hid (zkU hi lo _ ho.1.1 ho.1.2 ho.2.1 ho.2.2 (zaU hbru hb))
  have hl := zqL ho.1.1 ho.1.2 ho.2.1 ho.2.2
  have HF : Hid (zkM (.addr (.six hi lo)) = [91] ++ zdE hi lo ++ [93]) := rfl
  generalize zdE hi lo = tx at *
  clear hpow hbru
  have ha1 : ∀ W, (Op.stringOp .add ⟨#[91]⟩ ⟨tx.toArray⟩).run Tryz.prog W = .ok (.string ⟨([91] ++ tx).toArray⟩) W := add12 [91] tx (by simp; omega)
  have ha2 : ∀ W, (Op.stringOp .add ⟨([91] ++ tx).toArray⟩ ⟨#[93]⟩).run Tryz.prog W = .ok (.string ⟨([91] ++ tx ++ [93]).toArray⟩) W := add12 ([91] ++ tx) [93] (by simp; omega)
  generalize [91] ++ tx ++ [93] = t2 at *
  generalize [91] ++ tx = t1 at *
  go_enter Tryz.func24, Tryz.ntmps24
  go_wp2_with fail
  refine HT.out.mono ?_
  rintro e w1 ⟨rfl, hb1⟩
  go_wp2
  go_ret
  exact ⟨by rw [HF.out]; rfl, hb.trans (hb1.mono hb.size)⟩
end

end Go.Proofs.YtphapecoimlngaaGreatDoor
