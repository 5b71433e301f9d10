/-
  What the law HostTells leans on, and its walk (7 of 18).
-/
import Derived.Defers
import Derived.Recover
import Derived.Test.YtphapecoimlngaaGreatDoorHostTellsPkD
import Derived.Test.YtphapecoimlngaaGreatDoorHostTellsPkF
namespace Go.Proofs.YtphapecoimlngaaGreatDoor
set_option maxRecDepth 100000
set_option maxHeartbeats 16000000
section
open Go.RowKit
/-- none, a name, an address -/
inductive HZ where
 | none
 | name (l : List UInt8)
 | addr (a : AZ)
def HZ.Ok : HZ → Prop
 | .none => False
 | .name l => zcS l ∧ zdG l = false
 | .addr a => a.Ok
def zkD (r : List UInt8) : HZ × Int := if r.getLast? = some 93 ∧ (sixZ r.dropLast).2 = true then (.addr (.six (sixZ r.dropLast).1.1 (sixZ r.dropLast).1.2), 0) else (.none, 6)
def ziA (c : List UInt8 × Int) : HZ × Int := if c.2 ≠ 0 then (.none, c.2) else if zdG c.1 = true then (if (zeJ c.1).2 = true then (.addr (.four (zeJ c.1).1), 0) else (.none, 6)) else (.name c.1, 0)
def ziO : List UInt8 → HZ × Int
 | [] => ziA (zbS (decB []))
 | c :: r => if c = 91 then zkD r else ziA (zbS (decB (c :: r)))
def zcZ : HZ → List UInt8
 | .none => []
 | .name l => l
 | .addr (.four n) => txtZ n
 | .addr (.six hi lo) => [91] ++ zcV hi lo ++ [93]
theorem z2T (c : UInt8) (rest : List UInt8) (f : Nat) (h : c.toNat ≠ 37) : decL (f + 1) (c :: rest) = c :: decL f rest := by
 have e : zgJ (c :: rest) = none := by
  unfold zgJ
  split
  ·rename_i h1
   injection h1 with h1 _
   subst h1
   rw [if_neg fun h2 => h h2.1]
  ·rfl
 simp only [decL, e]
theorem ybD {l : List UInt8} (h : ∀ c ∈ l, c.toNat ≠ 37) : decB l = l := by
 have key : ∀ (l : List UInt8) (f : Nat), l.length ≤ f → (∀ c ∈ l, c.toNat ≠ 37) → decL f l = l := by
  intro l
  induction l with
  | nil => intro f _ _; cases f <;> rfl
  | cons c l ih =>
   intro f hf h
   cases f with
   | zero => simp at hf
   | succ f => rw [z2T c l f (h c (by simp)), ih f (by simpa using hf) fun d hd => h d (by simp [hd])]
 exact key l _ (Nat.le_refl _) h
theorem zpN (c : UInt8) (r : List UInt8) : ziO (c :: r) = if c = 91 then zkD r else ziA (zbS (decB (c :: r))) := rfl
theorem z5S {l : List UInt8} (h : Lib.hasPrefix l [91] = true) : ziO l = zkD (l.drop 1) := by
 cases l with
 | nil => cases h
 | cons c r =>
  rw [zpN, if_pos]
  ·rfl
  ·have : (91 == c) = true := by simpa [Lib.hasPrefix] using h
   exact (eq_of_beq this).symm
theorem z5O {l : List UInt8} (h : Lib.hasPrefix l [91] = false) : ziO l = ziA (zbS (decB l)) := by
 cases l with
 | nil => rfl
 | cons c r =>
  rw [zpN, if_neg]
  rintro rfl
  simp [Lib.hasPrefix] at h
theorem z6Y (l : List UInt8) : (decB l).length ≤ l.length := by
 have key : ∀ (f : Nat) (l : List UInt8), (decL f l).length ≤ l.length := by
  intro f
  induction f with
  | zero => intro l; exact Nat.zero_le _
  | succ f ih =>
   intro l
   cases l with
   | nil => exact Nat.le_refl _
   | cons c r =>
    simp only [decL]
    split
    ·have := ih (r.drop 2)
     rw [List.length_drop] at this
     simp only [List.length_cons]
     omega
    ·have := ih r
     simp only [List.length_cons]
     omega
 exact key _ l
theorem z2H {l : List UInt8} (h : ∀ c ∈ l, c.toNat ≠ 91) : ziO l = ziA (zbS (decB l)) := by
 cases l with
 | nil => rfl
 | cons c r =>
  show (if c = 91 then zkD r else _) = _
  rw [if_neg]
  exact fun e => h c (by simp) (by rw [e]; rfl)
theorem zuF {l : List UInt8} (h : zcS l) : ziO l = ziA (l, 0) := by
 rw [z2H fun c hc => (zvN c (h.sign c hc)).2.2, ybD fun c hc => (zvN c (h.sign c hc)).2.1, h.canon]
/-- the text of an address of four bytes is a name that ends in a number -/
theorem z1Q : ∀ u : Fin 256, (dec3 u.val).all (fun c => zhE c && (lowC c == c)) && zhI (dec3 u.val) && !zgO (dec3 u.val) && decide (1 ≤ (dec3 u.val).length) = true := by decide +kernel
theorem zcP (u : Nat) (h : u < 256) : (∀ c ∈ dec3 u, zhE c = true ∧ lowC c = c) ∧ zhI (dec3 u) = true ∧ zgO (dec3 u) = false ∧ 1 ≤ (dec3 u).length := by
 have := z1Q ⟨u, h⟩
 simp at this
 exact ⟨this.1.1.1, this.1.1.2, this.1.2, this.2⟩
theorem z7M (a b c d : Nat) (ha : a < 256) (hb : b < 256) (hc : c < 256) (hd : d < 256) : zcS (txt a b c d) ∧ zdG (txt a b c d) = true := by
 have hD := zpE a b c d ha hb hc hd
 have hl : zaT (txt a b c d) = [dec3 a, dec3 b, dec3 c, dec3 d] := by
  unfold zaT
  rw [hD, zdU 3 [dec3 a, dec3 b, dec3 c, dec3 d] rfl (.inr (zvX d hd))]
  rfl
 have hs : ∀ x ∈ txt a b c d, zhE x = true ∧ lowC x = x := by
  have hp : zhE 46 = true ∧ lowC 46 = 46 := by decide
  intro x hx
  unfold txt at hx
  simp only [List.mem_append, List.mem_singleton] at hx
  rcases hx with (h | rfl) | (h | rfl) | (h | rfl) | h
  ·exact (zcP a ha).1 x h
  ·exact hp
  ·exact (zcP b hb).1 x h
  ·exact hp
  ·exact (zcP c hc).1 x h
  ·exact hp
  ·exact (zcP d hd).1 x h
 have hw : ∀ w ∈ zaT (txt a b c d), (1 ≤ w.length ∧ w.length ≤ 63) ∧ zgO w = false := by
  rw [hl]
  intro w hw
  simp only [List.mem_cons, List.not_mem_nil, or_false] at hw
  rcases hw with rfl | rfl | rfl | rfl
  ·exact ⟨⟨(zcP _ ha).2.2.2, Nat.le_trans (zbT _) (by omega)⟩, (zcP _ ha).2.2.1⟩
  ·exact ⟨⟨(zcP _ hb).2.2.2, Nat.le_trans (zbT _) (by omega)⟩, (zcP _ hb).2.2.1⟩
  ·exact ⟨⟨(zcP _ hc).2.2.2, Nat.le_trans (zbT _) (by omega)⟩, (zcP _ hc).2.2.1⟩
  ·exact ⟨⟨(zcP _ hd).2.2.2, Nat.le_trans (zbT _) (by omega)⟩, (zcP _ hd).2.2.1⟩
 refine ⟨⟨?_, Nat.le_trans (zjU _) ?_, fun w h => (hw w h).1, fun x hx => (hs x hx).1, fun w h => (hw w h).2⟩, ?_⟩
 ·unfold zbO
  conv => rhs; rw [← List.map_id (txt a b c d)]
  exact List.map_congr_left fun x hx => (hs x hx).2
 ·unfold txt
  have h1 := zbT a
  have h2 := zbT b
  have h3 := zbT c
  have h4 := zbT d
  simp only [List.length_append, List.length_cons, List.length_nil]
  omega
 ·unfold zdG
  rw [hD, zhJ 3 (dec3 d) _ rfl rfl (.inr (zvX d hd))]
  exact (zcP d hd).2.1
/-- what is written of a host is read as that host -/
theorem znS {h : HZ} (ho : h.Ok) : ziO (zcZ h) = (h, 0) := by
 match h, ho with
 | .name l, ho =>
  rw [show zcZ (.name l) = l from rfl, zuF ho.1]
  unfold ziA
  rw [if_neg (by simp), if_neg (by simp [ho.2])]
 | .addr (.four n), ho =>
  obtain ⟨k1, k2⟩ := z7M (n / 16777216).toNat (n / 65536 % 256).toNat (n / 256 % 256).toNat (n % 256).toNat (by have := ho.2; have := ho.1; omega) (by omega) (by omega) (by omega)
  rw [show zcZ (.addr (.four n)) = txtZ n from rfl, show txtZ n = txt (n / 16777216).toNat (n / 65536 % 256).toNat (n / 256 % 256).toNat (n % 256).toNat from rfl, zuF k1]
  unfold ziA
  rw [if_neg (by simp), if_pos k2, show txt (n / 16777216).toNat (n / 65536 % 256).toNat (n / 256 % 256).toNat (n % 256).toNat = txtZ n from rfl, z6M n ho.1 ho.2]
  rfl
 | .addr (.six hi lo), ho =>
  show zkD (zcV hi lo ++ [93]) = _
  unfold zkD
  rw [if_pos ⟨by simp, by rw [List.dropLast_concat, zxM ho.1.1 ho.1.2 ho.2.1 ho.2.2]⟩, List.dropLast_concat, zxM ho.1.1 ho.1.2 ho.2.1 ho.2.2]
end

section
open Go.RowKit
def HZ.val : HZ → Value
 | .none => .nilIface
 | .name l => .iface 23 (.string ⟨l.toArray⟩)
 | .addr a => a.val
def zuT (w : World) (x : HZ × Int) (e : Ending) (w' : World) : Prop := e = .returned (.tuple #[x.1.val, .int .i64 x.2]) ∧ Below w.heap.size w w'
theorem zeE {w w' : World} {x : HZ × Int} {h : HZ} {n : Int} {v : Value} (e : x = (h, n)) (hv : v = h.val) (hb : Below w.heap.size w w') : zuT w x (.returned (.tuple #[v, .int .i64 n])) w' := by
 subst e hv; exact ⟨rfl, hb⟩
theorem zyM {r : List UInt8} (h : ¬ r.getLast? = some 93 ∨ (sixZ (Lib.trimSuffix r [93])).2 = false) : zkD r = (.none, 6) := by
 unfold zkD
 rw [if_neg]
 rintro ⟨h1, h2⟩
 rw [zlE, if_pos h1] at h
 rcases h with h | h
 ·exact h h1
 ·rw [h2] at h; cases h
theorem ztZ {r : List UInt8} {hi lo : Int} (h1 : r.getLast? = some 93) (h2 : sixZ (Lib.trimSuffix r [93]) = ((hi, lo), true)) : zkD r = (.addr (.six hi lo), 0) := by
 unfold zkD
 rw [zlE, if_pos h1] at h2
 rw [if_pos ⟨h1, by rw [h2]⟩, h2]
theorem ztQ (r : List UInt8) (w : World) (hr : r.length ≤ 1073741824) (hmax : MaxVar w) :
  Calls Tryz.prog 53 #[.string ⟨r.toArray⟩] w (zuT w (zkD r)) := by
 have HX := Lib.hid hmax
 clear hmax
 have hsl := zyC r 93
 have htl : (Lib.trimSuffix r [93]).length ≤ r.length := by rw [zlE]; split <;> simp
 obtain ⟨t, ht⟩ : ∃ t, Lib.trimSuffix r [93] = t := ⟨_, rfl⟩
 obtain ⟨hi, lo, b, hz⟩ : ∃ hi lo b, sixZ t = ((hi, lo), b) := ⟨_, _, _, rfl⟩
 have HC : Hid (∀ W, Calls Tryz.prog 75 #[.string ⟨r.toArray⟩, .string ⟨#[93]⟩] W fun e w' => e = .returned (.tuple #[.string ⟨t.toArray⟩, .bool (decide (r.getLast? = some 93))]) ∧ W = w') := fun W => (Tryz.strings_CutSuffix ⟨r.toArray⟩ ⟨#[93]⟩ W (by rw [zaD]; omega)).mono (fun e w' h => ⟨by rw [h.1, ← ht, ← hsl], h.2.symm⟩)
 rw [ht] at htl
 go_enter Tryz.func53, Tryz.ntmps53
 go_wp2_with fail
 refine (HC.out _).mono ?_
 rintro e w' ⟨rfl, rfl⟩
 go_wp2_with fail
 refine (zhX ⟨t.toArray⟩ _ (by rw [zaD]; omega) HX.out).mono ?_
 rw [zaG, hz]
 rintro e w1 ⟨rfl, hb1⟩
 clear HC
 by_cases hl : r.getLast? = some 93
 ·have hd : decide (r.getLast? = some 93) = true := decide_eq_true hl
  cases b with
  | true =>
   have HF := Lib.hid (ztZ hl (by rw [ht]; exact hz))
   clear hl hsl hz ht
   rw [hd]
   go_wp2
   go_ret2
   exact zeE HF.out rfl (hb1.alloc hb1.size _)
  | false =>
   have HF := Lib.hid (zyM (r := r) (.inr (by rw [ht, hz])))
   clear hl hsl hz ht
   rw [hd]
   go_wp2
   go_ret2
   exact zeE HF.out rfl (hb1.alloc hb1.size _)
 ·have hd : decide (r.getLast? = some 93) = false := decide_eq_false hl
  have HF := Lib.hid (zyM (r := r) (.inl hl))
  clear hl hsl hz ht
  rw [hd]
  go_wp2
  go_ret2
  exact zeE HF.out rfl (hb1.alloc hb1.size _)
theorem ybH {c : List UInt8 × Int} (h : c.2 ≠ 0) : ziA c = (.none, c.2) := if_pos h
theorem yaO {n : List UInt8} (h : zdG n = false) : ziA (n, 0) = (.name n, 0) := by unfold ziA; rw [if_neg (by simp), if_neg (by simp [h])]
theorem zpY {n : List UInt8} {x : Int} {b : Bool} (h : zdG n = true) (hx : zeJ n = (x, b)) : ziA (n, 0) = if b = true then (.addr (.four x), 0) else (.none, 6) := by unfold ziA; rw [if_neg (by simp), if_pos h, hx]
theorem zcW (s : ByteArray) (w : World) (hs : s.size ≤ 1073741824) (hmax : MaxVar w) :
  Calls Tryz.prog 18 #[.string s] w (zuT w (ziO s.data.toList)) := by
 have HX := Lib.hid hmax
 clear hmax
 obtain ⟨b, hb⟩ : ∃ b, Lib.hasPrefix s.data.toList [91] = b := ⟨_, rfl⟩
 obtain ⟨r, hr⟩ : ∃ r, Lib.trimPrefix s.data.toList [91] = r := ⟨_, rfl⟩
 have HC : Hid (∀ W, Calls Tryz.prog 52 #[.string s, .string ⟨#[91]⟩] W fun e w' => e = .returned (.tuple #[.string ⟨r.toArray⟩, .bool b]) ∧ W = w') := fun W => (Tryz.strings_CutPrefix s ⟨#[91]⟩ W).mono (fun e w' h => ⟨by rw [h.1, ← hr, ← hb], h.2.symm⟩)
 cases b with
 | true =>
  have hrd : r = s.data.toList.drop 1 := by rw [← hr]; unfold Lib.trimPrefix; rw [if_pos hb]; rfl
  have hrl : r.length ≤ s.size := by rw [hrd, List.length_drop, zaJ]; omega
  have HF := Lib.hid ((z5S hb).trans (by rw [hrd] : _ = zkD r))
  clear hr hb hrd
  go_enter Tryz.func18, Tryz.ntmps18
  go_wp2_with fail
  refine (HC.out _).mono ?_
  rintro e w' ⟨rfl, rfl⟩
  go_wp2_with fail
  refine (ztQ r _ (by omega) HX.out).mono ?_
  rw [← HF.out]
  rintro e w1 ⟨rfl, hb1⟩
  go_wp2
  go_ret2
  exact ⟨rfl, hb1⟩
 | false =>
  have HF := Lib.hid (z5O hb)
  have hdl := z6Y s.data.toList
  rw [zaJ] at hdl
  obtain ⟨d, hd⟩ : ∃ d, decB s.data.toList = d := ⟨_, rfl⟩
  have HD : Hid (∀ W, Calls Tryz.prog 54 #[.string s] W fun e w' => e = .returned (.string ⟨d.toArray⟩) ∧ Below W.heap.size W w') := fun W => by have := zoN s W hs; rwa [hd] at this
  rw [hd] at HF hdl
  obtain ⟨n, er, hc⟩ : ∃ n er, zbS d = (n, er) := ⟨_, _, rfl⟩
  have hnl := zoH hc
  have HK : Hid (∀ W, Calls Tryz.prog 11 #[.string ⟨d.toArray⟩] W fun e w' => e = .returned (.tuple #[.string ⟨n.toArray⟩, .int .i64 er]) ∧ Below W.heap.size W w') := fun W => by have := zhH ⟨d.toArray⟩ W (by rw [zaD]; omega); rwa [zaG, hc] at this
  rw [hc] at HF
  clear hr hb hd hc
  go_enter Tryz.func18, Tryz.ntmps18
  go_wp2_with fail
  refine (HC.out _).mono ?_
  rintro e w' ⟨rfl, rfl⟩
  go_wp2_with fail
  refine (HD.out _).mono ?_
  rintro e w1 ⟨rfl, hb1⟩
  go_wp2_with fail
  refine (HK.out _).mono ?_
  rintro e w2 ⟨rfl, hb2⟩
  have hc2 := zaN hb1 hb2
  clear hb1 hb2 HD HK HC
  by_cases h0 : er = 0
  ·subst h0
   go_wp2_with fail
   refine (zcF _ _).mono ?_
   rintro e w' ⟨rfl, rfl⟩
   go_wp2_with fail
   refine (zpU ⟨n.toArray⟩ _ (by rw [zaD]; omega)).mono ?_
   rw [zaG]
   rintro e w3 ⟨rfl, hb3⟩
   have hc3 := zaN hc2 hb3
   clear hc2 hb3
   cases he : zdG n with
   | false =>
    have HF2 := Lib.hid (HF.out.trans (yaO he))
    clear he
    go_wp2
    go_ret2
    exact zeE HF2.out rfl hc3
   | true =>
    obtain ⟨x, b, hx⟩ : ∃ x b, zeJ n = (x, b) := ⟨_, _, rfl⟩
    have HF2 := Lib.hid (HF.out.trans (zpY he hx))
    clear he
    go_wp2_with fail
    refine (zcF _ _).mono ?_
    rintro e w' ⟨rfl, rfl⟩
    go_wp2_with fail
    refine (zhY ⟨n.toArray⟩ _ (by rw [zaD]; omega)).mono ?_
    rw [zaG, hx]
    rintro e w4 ⟨rfl, hb4⟩
    have hc4 := zaN hc3 hb4
    clear hc3 hb4 hx
    cases b with
    | true =>
     go_wp2
     go_ret2
     exact zeE (HF2.out.trans (if_pos trivial)) rfl hc4
    | false =>
     go_wp2
     go_ret2
     exact zeE (HF2.out.trans (if_neg (by decide))) rfl hc4
  ·have HF2 := Lib.hid (HF.out.trans (ybH h0))
   have hd0 : (er != (0 : Int)) = true := by rw [bne_iff_ne]; exact h0
   clear h0
   go_wp2
   go_ret2
   exact zeE HF2.out rfl hc2
end

section
open Go.RowKit
theorem hsNN (v : Value) (w : World) : (Instr.typeAssert (.iface 23 v) 37 23 true).run Tryz.prog w = .ok (.tuple #[v, .bool true]) w := by kernel_rfl
theorem hsN4 (v : Value) (w : World) : (Instr.typeAssert (.iface 23 v) 37 70 true).run Tryz.prog w = .ok (.tuple #[.int .u32 0, .bool false]) w := by kernel_rfl
theorem hsN6 (v : Value) (w : World) : (Instr.typeAssert (.iface 23 v) 37 73 true).run Tryz.prog w = .ok (.tuple #[.agg #[.int .u64 0, .int .u64 0], .bool false]) w := by kernel_rfl
theorem hs4N (v : Value) (w : World) : (Instr.typeAssert (.iface 70 v) 37 23 true).run Tryz.prog w = .ok (.tuple #[.string ⟨#[]⟩, .bool false]) w := by kernel_rfl
theorem hs44 (v : Value) (w : World) : (Instr.typeAssert (.iface 70 v) 37 70 true).run Tryz.prog w = .ok (.tuple #[v, .bool true]) w := by kernel_rfl
theorem hs46 (v : Value) (w : World) : (Instr.typeAssert (.iface 70 v) 37 73 true).run Tryz.prog w = .ok (.tuple #[.agg #[.int .u64 0, .int .u64 0], .bool false]) w := by kernel_rfl
theorem hs6N (v : Value) (w : World) : (Instr.typeAssert (.iface 73 v) 37 23 true).run Tryz.prog w = .ok (.tuple #[.string ⟨#[]⟩, .bool false]) w := by kernel_rfl
theorem hs64 (v : Value) (w : World) : (Instr.typeAssert (.iface 73 v) 37 70 true).run Tryz.prog w = .ok (.tuple #[.int .u32 0, .bool false]) w := by kernel_rfl
theorem hs66 (v : Value) (w : World) : (Instr.typeAssert (.iface 73 v) 37 73 true).run Tryz.prog w = .ok (.tuple #[v, .bool true]) w := by kernel_rfl
theorem hs0N (w : World) : (Instr.typeAssert .nilIface 37 23 true).run Tryz.prog w = .ok (.tuple #[.string ⟨#[]⟩, .bool false]) w := by kernel_rfl
theorem hs04 (w : World) : (Instr.typeAssert .nilIface 37 70 true).run Tryz.prog w = .ok (.tuple #[.int .u32 0, .bool false]) w := by kernel_rfl
theorem hs06 (w : World) : (Instr.typeAssert .nilIface 37 73 true).run Tryz.prog w = .ok (.tuple #[.agg #[.int .u64 0, .int .u64 0], .bool false]) w := by kernel_rfl
/-- the address that a host is, if it is one -/
def HZ.ad : HZ → Option AZ
 | .addr a => some a
 | _ => Option.none
def HZ.nm : HZ → List UInt8
 | .name l => l
 | _ => []
def HZ.isN : HZ → Bool
 | .name _ => true
 | _ => false
def znB : HZ → List UInt8
 | .none => [110, 111, 110, 101]
 | .name _ => [110, 97, 109, 101]
 | .addr (.four _) => [102, 111, 117, 114]
 | .addr (.six _ _) => [115, 105, 120]
theorem zeK (h : HZ) (w : World) :
  Calls Tryz.prog 22 #[h.val] w fun e w' => e = .returned (.tuple #[optV h.ad, .bool h.ad.isSome]) ∧ Below w.heap.size w w' := by
 match h with
 | .none =>
  show Calls _ _ #[.nilIface] _ _
  have h4 := hs04
  have h6 := hs06
  go_enter Tryz.func22, Tryz.ntmps22
  go_wp2
  go_ret2
  exact ⟨rfl, Below.refl _ _⟩
 | .name l =>
  show Calls _ _ #[.iface 23 (.string ⟨l.toArray⟩)] _ _
  have h4 := hsN4
  have h6 := hsN6
  go_enter Tryz.func22, Tryz.ntmps22
  go_wp2
  go_ret2
  exact ⟨rfl, Below.refl _ _⟩
 | .addr (.four n) =>
  show Calls _ _ #[.iface 70 (.int .u32 n)] _ _
  have h4 := hs44
  go_enter Tryz.func22, Tryz.ntmps22
  go_wp2
  go_ret2
  exact ⟨rfl, Below.refl _ _⟩
 | .addr (.six hi lo) =>
  show Calls _ _ #[.iface 73 (.agg #[.int .u64 hi, .int .u64 lo])] _ _
  have h4 := hs64
  have h6 := hs66
  go_enter Tryz.func22, Tryz.ntmps22
  go_wp2
  go_ret2
  exact ⟨rfl, (Below.refl _ _).alloc (Nat.le_refl _) _⟩
theorem zdR (h : HZ) (w : World) :
  Calls Tryz.prog 23 #[h.val] w fun e w' => e = .returned (.tuple #[.string ⟨h.nm.toArray⟩, .bool h.isN]) ∧ w = w' := by
 match h with
 | .none =>
  show Calls _ _ #[.nilIface] _ _
  have h4 := hs0N
  go_enter Tryz.func23, Tryz.ntmps23
  go_wp2
  go_ret2
  exact ⟨rfl, rfl⟩
 | .name l =>
  show Calls _ _ #[.iface 23 (.string ⟨l.toArray⟩)] _ _
  have h4 := hsNN
  go_enter Tryz.func23, Tryz.ntmps23
  go_wp2
  go_ret2
  exact ⟨rfl, rfl⟩
 | .addr (.four n) =>
  show Calls _ _ #[.iface 70 (.int .u32 n)] _ _
  have h4 := hs4N
  go_enter Tryz.func23, Tryz.ntmps23
  go_wp2
  go_ret2
  exact ⟨rfl, rfl⟩
 | .addr (.six hi lo) =>
  show Calls _ _ #[.iface 73 (.agg #[.int .u64 hi, .int .u64 lo])] _ _
  have h4 := hs6N
  go_enter Tryz.func23, Tryz.ntmps23
  go_wp2
  go_ret2
  exact ⟨rfl, rfl⟩
theorem zhK (h : HZ) (w : World) :
  Calls Tryz.prog 26 #[h.val] w fun e w' => e = .returned (.string ⟨(znB h).toArray⟩) ∧ w = w' := by
 match h with
 | .none =>
  show Calls _ _ #[.nilIface] _ _
  have h1 := hs0N
  have h4 := hs04
  have h6 := hs06
  go_enter Tryz.func26, Tryz.ntmps26
  go_wp2
  go_ret
  exact ⟨rfl, rfl⟩
 | .name l =>
  show Calls _ _ #[.iface 23 (.string ⟨l.toArray⟩)] _ _
  have h1 := hsNN
  go_enter Tryz.func26, Tryz.ntmps26
  go_wp2
  go_ret
  exact ⟨rfl, rfl⟩
 | .addr (.four n) =>
  show Calls _ _ #[.iface 70 (.int .u32 n)] _ _
  have h1 := hs4N
  have h4 := hs44
  go_enter Tryz.func26, Tryz.ntmps26
  go_wp2
  go_ret
  exact ⟨rfl, rfl⟩
 | .addr (.six hi lo) =>
  show Calls _ _ #[.iface 73 (.agg #[.int .u64 hi, .int .u64 lo])] _ _
  have h1 := hs6N
  have h4 := hs64
  have h6 := hs66
  go_enter Tryz.func26, Tryz.ntmps26
  go_wp2
  go_ret
  exact ⟨rfl, rfl⟩
/-- may it be? -/
def zcT : HZ → Bool
 | .none => false
 | .name l => ziF l && !zdG l
 | .addr _ => true
theorem zgG {h : HZ} (hr : zcT h = true) (ha : ∀ a, h = .addr a → a.Ok) : h.Ok := by
 match h with
 | .none => cases hr
 | .name l =>
  have := Bool.and_eq_true_iff.1 hr
  exact ⟨(zzH l).1 this.1, by simpa using this.2⟩
 | .addr a => exact ha a rfl
def HZ.small : HZ → Prop
 | .name l => l.length ≤ 1073741824
 | _ => True
theorem zgS (h : HZ) (w : World) (hs : h.small) :
  Calls Tryz.prog 28 #[h.val] w (zcN w (zcT h)) := by
 match h, hs with
 | .none, _ =>
  have HN := Lib.hid (fun W => zdR .none W)
  have HA := Lib.hid (fun W => zeK .none W)
  simp only [HZ.val, HZ.nm, HZ.isN, HZ.ad, optV] at HN HA ⊢
  go_enter Tryz.func28, Tryz.ntmps28
  go_wp2_with fail
  refine (HN.out _).mono ?_
  rintro e w' ⟨rfl, rfl⟩
  go_wp2_with fail
  refine (HA.out _).mono ?_
  rintro e w1 ⟨rfl, hb⟩
  go_wp2
  go_ret
  exact ⟨rfl, hb⟩
 | .addr a, _ =>
  have HN := Lib.hid (fun W => zdR (.addr a) W)
  have HA := Lib.hid (fun W => zeK (.addr a) W)
  simp only [HZ.nm, HZ.isN, HZ.ad] at HN HA ⊢
  generalize (HZ.addr a).val = va at *
  generalize optV (some a) = vb at *
  go_enter Tryz.func28, Tryz.ntmps28
  go_wp2_with fail
  refine (HN.out _).mono ?_
  rintro e w' ⟨rfl, rfl⟩
  go_wp2_with fail
  refine (HA.out _).mono ?_
  rintro e w1 ⟨rfl, hb⟩
  go_wp2
  go_ret
  exact ⟨rfl, hb⟩
 | .name l, hs =>
  have hl : l.length ≤ 1073741824 := hs
  have HN := Lib.hid (fun W => zdR (.name l) W)
  simp only [HZ.val, HZ.nm, HZ.isN] at HN ⊢
  have HR := Lib.hid (fun W => zwH ⟨l.toArray⟩ W (by rw [zaD]; omega))
  have HE := Lib.hid (fun W => zpU ⟨l.toArray⟩ W (by rw [zaD]; omega))
  have HF := Lib.hid (show zcT (.name l) = (ziF l && !zdG l) from rfl)
  rw [zaG] at HR HE
  go_enter Tryz.func28, Tryz.ntmps28
  go_wp2_with fail
  refine (HN.out _).mono ?_
  rintro e w' ⟨rfl, rfl⟩
  go_wp2_with fail
  refine (zcF _ _).mono ?_
  rintro e w' ⟨rfl, rfl⟩
  go_wp2_with fail
  refine (HR.out _).mono ?_
  rintro e w1 ⟨rfl, hb1⟩
  clear HN HR
  cases hr : ziF l with
  | false =>
   rw [hr] at HF
   go_wp2
   go_ret
   exact zaR HF.out hb1
  | true =>
   rw [hr] at HF
   clear hr
   go_wp2_with fail
   refine (zcF _ _).mono ?_
   rintro e w' ⟨rfl, rfl⟩
   go_wp2_with fail
   refine (HE.out _).mono ?_
   rintro e w2 ⟨rfl, hb2⟩
   go_wp2
   go_ret
   exact zaR HF.out (zaN hb1 hb2)
end

section
open Go.RowKit
/-- a host as the document's: its kind, its name, its address -/
def refH : HZ → Array Value
 | .none => #[.int .i64 0, .string ⟨#[]⟩, .bool false, .int .u64 0, .int .u64 0]
 | .name l => #[.int .i64 1, .string ⟨l.toArray⟩, .bool false, .int .u64 0, .int .u64 0]
 | .addr a => #[.int .i64 2, .string ⟨#[]⟩, .bool (refA (some a)).1, .int .u64 (refA (some a)).2.1, .int .u64 (refA (some a)).2.2]
theorem zsH {x : World} {g : Nat} {a b c d e : Value} {t : TypeId} (h : x.heap[g]? = some (.cells #[a, b, c, d, e] t (0, 0))) : x.cell? ⟨g, 0, none⟩ = some a ∧ x.cell? ⟨g, 1, none⟩ = some b ∧ x.cell? ⟨g, 2, none⟩ = some c ∧ x.cell? ⟨g, 3, none⟩ = some d ∧ x.cell? ⟨g, 4, none⟩ = some e ∧ ∀ i, x.frozen? ⟨g, i, none⟩ = false := by
 refine ⟨?_, ?_, ?_, ?_, ?_, zaS h⟩ <;> rw [cell_of_row x _ _ _ _ _ h] <;> rfl
theorem zzA {w x : World} {g : Nat} (h : Below w.heap.size w x) (hg : w.heap.size ≤ g) (a b c d e : Value) : Below w.heap.size w (((((x.setCell ⟨g, 0, none⟩ a).setCell ⟨g, 1, none⟩ b).setCell ⟨g, 2, none⟩ c).setCell ⟨g, 3, none⟩ d).setCell ⟨g, 4, none⟩ e) :=
 ((((h.setCell (p := ⟨g, 0, none⟩) hg _).setCell (p := ⟨g, 1, none⟩) hg _).setCell (p := ⟨g, 2, none⟩) hg _).setCell (p := ⟨g, 3, none⟩) hg _).setCell (p := ⟨g, 4, none⟩) hg _
end

section
open Go.RowKit
theorem hs4A (v : Value) (w : World) : (Instr.typeAssert (.iface 70 v) 37 50 true).run Tryz.prog w = .ok (.tuple #[.iface 70 v, .bool true]) w := by kernel_rfl
theorem hs6A (v : Value) (w : World) : (Instr.typeAssert (.iface 73 v) 37 50 true).run Tryz.prog w = .ok (.tuple #[.iface 73 v, .bool true]) w := by kernel_rfl
theorem hs0A (w : World) : (Instr.typeAssert .nilIface 37 50 true).run Tryz.prog w = .ok (.tuple #[.nilIface, .bool false]) w := by kernel_rfl
def HZ.In : HZ → Prop
 | .addr a => a.Ok
 | _ => True
def zxN (w : World) (v : Array Value) (e : Ending) (w' : World) : Prop := e = .returned (.agg v) ∧ Below w.heap.size w w'
theorem zsL (w : World) : Calls Tryz.prog 20 #[.nilIface] w (zxN w (refH .none)) := by
 have h1 := hs0N
 have h2 := hs0A
 have hb : Below w.heap.size w (w.alloc (.cells #[.int .i64 0, .string ⟨#[]⟩, .bool false, .int .u64 0, .int .u64 0] 44)) := (Below.refl _ w).alloc (Nat.le_refl _) _
 go_enter Tryz.func20, Tryz.ntmps20
 go_wp2
 exact bodyPost_ret (v := .agg (refH .none)) (by simp [results, Tryz.results20, go_sem, refH]) rfl ⟨rfl, by first | exact hb | exact (Below.refl _ _).alloc (Nat.le_refl _) _⟩
theorem ztH (l : List UInt8) (w : World) : Calls Tryz.prog 20 #[.iface 23 (.string ⟨l.toArray⟩)] w (zxN w (refH (.name l))) := by
 have h1 := hsNN
 have hb : Below w.heap.size w (w.alloc (.cells #[.int .i64 0, .string ⟨#[]⟩, .bool false, .int .u64 0, .int .u64 0] 44)) := (Below.refl _ w).alloc (Nat.le_refl _) _
 go_enter Tryz.func20, Tryz.ntmps20
 go_wp2
 exact bodyPost_ret (v := .agg (refH (.name l))) (by simp [results, Tryz.results20, go_sem, refH]) rfl ⟨rfl, by first | exact hb | exact (Below.refl _ _).alloc (Nat.le_refl _) _⟩
theorem ztX (a : AZ) (w : World) (ha : a.Ok) : Calls Tryz.prog 20 #[a.val] w (zxN w (refH (.addr a))) := by
 have h1 : ∀ W, (Instr.typeAssert a.val 37 23 true).run Tryz.prog W = .ok (.tuple #[.string ⟨#[]⟩, .bool false]) W := by cases a; exact hs4N _; exact hs6N _
 have h2 : ∀ W, (Instr.typeAssert a.val 37 50 true).run Tryz.prog W = .ok (.tuple #[a.val, .bool true]) W := by cases a; exact hs4A _; exact hs6A _
 have HO := Lib.hid (fun W => ztM (some a) W (fun b h => by rw [← Option.some.inj h]; exact ha))
 have HB := Lib.hid (heap_alloc_new w (.cells #[.int .i64 0, .string ⟨#[]⟩, .bool false, .int .u64 0, .int .u64 0] 44))
 have hb : Below w.heap.size w (w.alloc (.cells #[.int .i64 0, .string ⟨#[]⟩, .bool false, .int .u64 0, .int .u64 0] 44)) := (Below.refl _ w).alloc (Nat.le_refl _) _
 have hg : w.heap.size < (w.alloc (.cells #[.int .i64 0, .string ⟨#[]⟩, .bool false, .int .u64 0, .int .u64 0] 44)).heap.size := by simp
 simp only [optV, refV] at HO
 generalize a.val = av at *
 go_enter Tryz.func20, Tryz.ntmps20
 go_wp2_with fail
 generalize w.alloc (.cells #[.int .i64 0, .string ⟨#[]⟩, .bool false, .int .u64 0, .int .u64 0] 44) = x0 at *
 refine (HO.out _).mono ?_
 rintro e x1 ⟨rfl, hb1⟩
 have hcw := hb.trans (hb1.mono hb.size)
 obtain ⟨k0, k1, k2, k3, k4, kf⟩ := zsH ((hb1.block w.heap.size hg).trans HB.out)
 clear hb1 hb HB hg HO h1 h2
 go_wp2
 exact bodyPost_ret (v := .agg (refH (.addr a))) (by simp [results, Tryz.results20, go_sem, k0, k1, k2, k3, k4, refH]) rfl ⟨rfl, zzA hcw (Nat.le_refl _) _ _ _ _ _⟩
theorem ziK (h : HZ) (w : World) (ho : h.In) : Calls Tryz.prog 20 #[h.val] w (zxN w (refH h)) := by
 match h, ho with
 | .none, _ => exact zsL w
 | .name l, _ => exact ztH l w
 | .addr a, ha => exact ztX a w ha
end

section
open Go.RowKit
theorem muN (v : Value) (w : World) : (Instr.typeAssert (.iface 23 v) 37 23 false).run Tryz.prog w = .ok v w := by kernel_rfl
theorem mu0 (w : World) : (Instr.typeAssert .nilIface 37 23 false).run Tryz.prog w = .halt (.panic (.iface 15 (.pointer (some ⟨w.heap.size, 0, none⟩)))) (w.alloc (.cells #[.pointer (some ⟨Tryz.prog.globals.size, 37, none⟩), .pointer none, .pointer (some ⟨Tryz.prog.globals.size, 23, none⟩), .string ⟨#[]⟩] 238)) := by kernel_rfl
theorem mu4 (v : Value) (w : World) : (Instr.typeAssert (.iface 70 v) 37 23 false).run Tryz.prog w = .halt (.panic (.iface 15 (.pointer (some ⟨w.heap.size, 0, none⟩)))) (w.alloc (.cells #[.pointer (some ⟨Tryz.prog.globals.size, 37, none⟩), .pointer (some ⟨Tryz.prog.globals.size, 70, none⟩), .pointer (some ⟨Tryz.prog.globals.size, 23, none⟩), .string ⟨#[]⟩] 238)) := by kernel_rfl
theorem mu6 (v : Value) (w : World) : (Instr.typeAssert (.iface 73 v) 37 23 false).run Tryz.prog w = .halt (.panic (.iface 15 (.pointer (some ⟨w.heap.size, 0, none⟩)))) (w.alloc (.cells #[.pointer (some ⟨Tryz.prog.globals.size, 37, none⟩), .pointer (some ⟨Tryz.prog.globals.size, 73, none⟩), .pointer (some ⟨Tryz.prog.globals.size, 23, none⟩), .string ⟨#[]⟩] 238)) := by kernel_rfl
theorem zmY (l : List UInt8) (w : World) : Calls Tryz.prog 32 #[.iface 23 (.string ⟨l.toArray⟩)] w fun e w' => e = .returned (.string ⟨l.toArray⟩) ∧ w = w' := by
 have hta := muN
 go_enter Tryz.func32, Tryz.ntmps32
 go_wp2
 go_ret
 exact ⟨rfl, rfl⟩
theorem zwZ (w : World) : Calls Tryz.prog 32 #[.nilIface] w (zlH w) := by
 have hta := mu0
 go_enter Tryz.func32, Tryz.ntmps32
 go_wp2
 exact ⟨rfl, ⟨_, rfl⟩, (Below.refl _ _).alloc (Nat.le_refl _) _⟩
theorem zuS (v : Value) (w : World) : Calls Tryz.prog 32 #[.iface 70 v] w (zlH w) := by
 have hta := mu4
 go_enter Tryz.func32, Tryz.ntmps32
 go_wp2
 exact ⟨rfl, ⟨_, rfl⟩, (Below.refl _ _).alloc (Nat.le_refl _) _⟩
theorem zzG (v : Value) (w : World) : Calls Tryz.prog 32 #[.iface 73 v] w (zlH w) := by
 have hta := mu6
 go_enter Tryz.func32, Tryz.ntmps32
 go_wp2
 exact ⟨rfl, ⟨_, rfl⟩, (Below.refl _ _).alloc (Nat.le_refl _) _⟩
theorem z4Q (p : Addr) (x : Bool) (u : TypeId) (pv : Value) (older : List PanicEntry) (w : World) (hc : w.cell? p = some (.bool x)) (hz : w.frozen? p = false) :
  CallsD Tryz.prog 64 #[.pointer (some p)] (.panicking ({ v := .iface u pv, recovered := false } :: older)) w fun e u' w' =>
   e = .returned (.tuple #[]) ∧ u' = .panicking ({ v := .iface u pv, recovered := true } :: older) ∧ w' = w.setCell p (.bool true) := by
 refine callsD_of_wpS Tryz.func64 rfl fun c₀ cs hu => ?_
 apply wpS_region
 simp [wpOpsS, go_sem, recoverD, hu, Tryz.ntmps64, hc, hz, bodyPostS, results, Tryz.results64]
theorem z2N (p : Addr) (x : Bool) (w : World) (hc : w.cell? p = some (.bool x)) (hz : w.frozen? p = false) :
  CallsD Tryz.prog 64 #[.pointer (some p)] .returning w fun e u' w' => e = .returned (.tuple #[]) ∧ u' = .returning ∧ w' = w.setCell p (.bool false) := by
 refine callsD_of_wpS Tryz.func64 rfl fun c₀ cs hu => ?_
 apply wpS_region
 simp [wpOpsS, go_sem, recoverD, hu, Tryz.ntmps64, hc, hz, bodyPostS, results, Tryz.results64]
 cases c₀
 simp_all
theorem zhF (hv : Value) (HM : Hid (∀ W, Calls Tryz.prog 32 #[hv] W (zlH W))) (w : World) : Calls Tryz.prog 31 #[hv] w (zcN w true) := by
 have hmf : ∀ (fn : Fn) (first cap : Array Value) (w : World), (Instr.makeFunc fn first cap).run Tryz.prog w = .ok (.func fn first cap) w := fun _ _ _ _ => rfl
 go_enter_defers Tryz.func31, Tryz.ntmps31
 go_wp2_with fail
 refine (HM.out _).mono ?_
 rintro e x1 ⟨⟨v, rfl⟩, hb1⟩
 go_wp2
 have hblk : x1.heap[w.heap.size]? = some (.cells #[.bool false] 4 (0, 0)) := (hb1.block _ (by simp)).trans (heap_alloc_new w _)
 have hbe : Below w.heap.size w x1 := ((Below.refl _ w).alloc (Nat.le_refl _) _).trans (hb1.mono (by simp))
 refine leaves_cons (f := 64) (args := #[.pointer (some ⟨w.heap.size, 0, none⟩)]) (by simp) (by simp [go_sem]) ?_
 refine (z4Q ⟨w.heap.size, 0, none⟩ false _ v [] _ (by simp [World.cell?, hblk]) (by simp [World.frozen?, hblk])).mono ?_
 rintro e u' w'' ⟨rfl, rfl, rfl⟩
 have hset : (x1.setCell ⟨w.heap.size, 0, none⟩ (.bool true)).cell? ⟨w.heap.size, 0, none⟩ = some (.bool true) := z9A hblk
 refine ⟨.bool true, ?_, rfl, hbe.setCell (Nat.le_refl _) _⟩
 simp [results, Tryz.results31, go_sem, hset]
theorem zwE (l : List UInt8) (w : World) : Calls Tryz.prog 31 #[.iface 23 (.string ⟨l.toArray⟩)] w (zcN w false) := by
 have hmf : ∀ (fn : Fn) (first cap : Array Value) (w : World), (Instr.makeFunc fn first cap).run Tryz.prog w = .ok (.func fn first cap) w := fun _ _ _ _ => rfl
 have hblk := heap_alloc_new w (.cells #[.bool false] 4)
 have hbe : Below w.heap.size w (w.alloc (.cells #[.bool false] 4)) := (Below.refl _ w).alloc (Nat.le_refl _) _
 go_enter_defers Tryz.func31, Tryz.ntmps31
 go_wp2_with fail
 generalize w.alloc (.cells #[.bool false] 4) = x0 at *
 refine (zmY l _).mono ?_
 rintro e w' ⟨rfl, rfl⟩
 have hcl : x0.cell? ⟨w.heap.size, 0, none⟩ = some (.bool false) := by simp [World.cell?, hblk]
 have hfz : x0.frozen? ⟨w.heap.size, 0, none⟩ = false := by simp [World.frozen?, hblk]
 have hset : (x0.setCell ⟨w.heap.size, 0, none⟩ (.bool false)).heap[w.heap.size]? = some (.cells #[.bool false] 4 (0, 0)) := by simp [World.setCell, Array.getElem?_modify, hblk]
 go_wp2
 refine leaves_cons (f := 64) (args := #[.pointer (some ⟨w.heap.size, 0, none⟩)]) (by simp) (by simp [go_sem]) ?_
 refine (z2N ⟨w.heap.size, 0, none⟩ false _ (by simp [World.cell?, hset]) (by simp [World.frozen?, hset])).mono ?_
 rintro e u' w'' ⟨rfl, rfl, rfl⟩
 refine ⟨.bool false, ?_, rfl, (hbe.setCell (Nat.le_refl _) _).setCell (Nat.le_refl _) _⟩
 simp [results, Tryz.results31, go_sem, World.setCell, World.cell?, Array.getElem?_modify, hblk]
def makeZ (k : Nat) (l : List UInt8) (hi lo : Int) : HZ := match k with
 | 0 => .none
 | 1 => .name l
 | 2 => .addr (.four (lo % 4294967296))
 | _ => .addr (.six hi lo)
theorem zzF (kind : Int) (l : List UInt8) (hi lo : Int) (k : Nat) (hk : kind % 4 = (k : Int)) (h0 : 0 ≤ kind) (w : World) :
  Calls Tryz.prog 21 #[.int .u8 kind, .string ⟨l.toArray⟩, .int .u64 hi, .int .u64 lo] w fun e w' => e = .returned (makeZ k l hi lo).val ∧ w = w' := by
 have ht : kind.tmod 4 = (k : Int) := by rw [Int.tmod_eq_emod_of_nonneg h0]; exact hk
 have hlt : k < 4 := by omega
 clear hk
 rcases (show k = 0 ∨ k = 1 ∨ k = 2 ∨ k = 3 from by omega) with rfl | rfl | rfl | rfl
 ·go_enter Tryz.func21, Tryz.ntmps21
  go_wp2
  go_ret
  exact ⟨rfl, rfl⟩
 ·go_enter Tryz.func21, Tryz.ntmps21
  go_wp2
  go_ret
  exact ⟨rfl, rfl⟩
 ·have hw := zaF lo
  go_enter Tryz.func21, Tryz.ntmps21
  go_wp2
  go_ret
  exact ⟨rfl, rfl⟩
 ·go_enter Tryz.func21, Tryz.ntmps21
  go_wp2
  go_ret
  exact ⟨rfl, rfl⟩
end

section
open Go.RowKit
theorem z7X (a b : List UInt8) (h : a.length + b.length ≤ 1000000000) : ∀ W, (Op.stringOp .add ⟨a.toArray⟩ ⟨b.toArray⟩).run Tryz.prog W = .ok (.string ⟨(a ++ b).toArray⟩) W := fun W => by
 rw [run_string_add_sum W _ _ (by rw [zaD, zaD]; omega), zhN]
theorem HZ.iface {h : HZ} (hne : h ≠ .none) : ∃ t v, h.val = .iface t v := by
 match h, hne with
 | .name l, _ => exact ⟨_, _, rfl⟩
 | .addr (.four n), _ => exact ⟨_, _, rfl⟩
 | .addr (.six hi lo), _ => exact ⟨_, _, rfl⟩
theorem HZ.Ok.ne {h : HZ} (ho : h.Ok) : h ≠ .none := fun e => by rw [e] at ho; exact ho
theorem z0O {h : HZ} (ho : h.Ok) : (zcZ h).length ≤ 1073741824 := by
 match h, ho with
 | .name l, ho =>
  have := zpR l
  have := ho.1.size
  show l.length ≤ _
  omega
 | .addr (.four n), _ => exact Nat.le_trans (z9D n) (by decide)
 | .addr (.six hi lo), ho =>
  have := znR ho.1.1 ho.1.2 ho.2.1 ho.2.2
  show ([91] ++ zcV hi lo ++ [93]).length ≤ _
  simp only [List.length_append, List.length_cons, List.length_nil]
  omega
theorem zgQ (h : HZ) (w : World) (ho : h.In) (hpow : PowTab w) (hbru : BruTab w) :
  Calls Tryz.prog 24 #[h.val] w (zgN w (zcZ h)) := by
 match h, ho with
 | .none, _ =>
  show Calls _ _ #[.nilIface] _ _
  go_enter Tryz.func24, Tryz.ntmps24
  go_wp2
  go_ret
  exact ⟨rfl, Below.refl _ _⟩
 | .name l, _ =>
  show Calls _ _ #[.iface 23 (.string ⟨l.toArray⟩)] _ _
  have h6 := hsN6
  have hm : ∀ W : World, (method 352 23 (.string ⟨l.toArray⟩) "Text").run Tryz.prog W = .ok (14, (.string ⟨l.toArray⟩)) W := fun _ => by kernel_rfl
  have hb : Below w.heap.size w (w.alloc (.cells #[.int .u64 0, .int .u64 0] 73)) := (Below.refl _ w).alloc (Nat.le_refl _) _
  clear hpow hbru
  go_enter Tryz.func24, Tryz.ntmps24
  go_wp2_with fail
  refine (zcF _ _).mono ?_
  rintro e w' ⟨rfl, rfl⟩
  go_wp2
  go_ret
  exact ⟨rfl, hb⟩
 | .addr (.four n), ho =>
  show Calls _ _ #[.iface 70 (.int .u32 n)] _ _
  have h6 := hs46
  have hm : ∀ W : World, (method 352 70 (.int .u32 n) "Text").run Tryz.prog W = .ok (237, (.int .u32 n)) W := fun _ => by kernel_rfl
  have hb : Below w.heap.size w (w.alloc (.cells #[.int .u64 0, .int .u64 0] 73)) := (Below.refl _ w).alloc (Nat.le_refl _) _
  have HT := Lib.hid (z4G n _ ho.1 ho.2 (zbF hpow hb))
  clear hpow hbru
  go_enter Tryz.func24, Tryz.ntmps24
  go_wp2_with fail
  refine HT.out.mono ?_
  rintro e w1 ⟨rfl, hb1⟩
  go_wp2
  go_ret
  exact ⟨rfl, hb.trans (hb1.mono hb.size)⟩
 | .addr (.six hi lo), ho =>
  show Calls _ _ #[.iface 73 (.agg #[.int .u64 hi, .int .u64 lo])] _ _
  have h6 := hs66
  have hb : Below w.heap.size w (w.alloc (.cells #[.int .u64 hi, .int .u64 lo] 73)) := (Below.refl _ w).alloc (Nat.le_refl _) _
  have HT := Lib.hid (zmK hi lo _ ho.1.1 ho.1.2 ho.2.1 ho.2.2 (zaY hbru hb))
  have hl := znR ho.1.1 ho.1.2 ho.2.1 ho.2.2
  have HF : Hid (zcZ (.addr (.six hi lo)) = [91] ++ zcV hi lo ++ [93]) := rfl
  generalize zcV hi lo = tx at *
  clear hpow hbru
  have ha1 : ∀ W, (Op.stringOp .add ⟨#[91]⟩ ⟨tx.toArray⟩).run Tryz.prog W = .ok (.string ⟨([91] ++ tx).toArray⟩) W := z7X [91] tx (by simp; omega)
  have ha2 : ∀ W, (Op.stringOp .add ⟨([91] ++ tx).toArray⟩ ⟨#[93]⟩).run Tryz.prog W = .ok (.string ⟨([91] ++ tx ++ [93]).toArray⟩) W := z7X ([91] ++ tx) [93] (by simp; omega)
  generalize [91] ++ tx ++ [93] = t2 at *
  generalize [91] ++ tx = t1 at *
  go_enter Tryz.func24, Tryz.ntmps24
  go_wp2_with fail
  refine HT.out.mono ?_
  rintro e w1 ⟨rfl, hb1⟩
  go_wp2
  go_ret
  exact ⟨by rw [HF.out]; rfl, hb.trans (hb1.mono hb.size)⟩
end

section
open Go.RowKit
theorem zfX (h : HZ) (w : World) (ho : h.In) (hpow : PowTab w) :
  Calls Tryz.prog 25 #[.agg (refH h)] w (zgN w (zcZ h)) := by
 have hbb : Below w.heap.size w (w.alloc (.cells (refH h) 44)) := (Below.refl _ w).alloc (Nat.le_refl _) _
 match h, ho with
 | .none, _ =>
  simp only [refH] at hbb ⊢
  go_enter Tryz.func25, Tryz.ntmps25
  go_wp2
  go_ret
  exact ⟨rfl, hbb⟩
 | .name l, _ =>
  simp only [refH] at hbb ⊢
  go_enter Tryz.func25, Tryz.ntmps25
  go_wp2
  go_ret
  exact ⟨rfl, hbb⟩
 | .addr (.four n), ho =>
  have HT := Lib.hid (zqO n _ ho.1 ho.2 (zbF hpow hbb))
  simp only [refH, refA] at hbb HT ⊢
  clear hpow
  go_enter Tryz.func25, Tryz.ntmps25
  go_wp2_with fail
  refine HT.out.mono ?_
  rintro e w1 ⟨rfl, hb1⟩
  go_wp2
  go_ret
  exact ⟨rfl, hbb.trans (hb1.mono hbb.size)⟩
 | .addr (.six hi lo), ho =>
  have HT := Lib.hid (fun W => zsK hi lo W ho.1.1 ho.1.2 ho.2.1 ho.2.2)
  have hl := znR ho.1.1 ho.1.2 ho.2.1 ho.2.2
  have HF : Hid (zcZ (.addr (.six hi lo)) = [91] ++ zcV hi lo ++ [93]) := rfl
  generalize zcV hi lo = tx at *
  simp only [refH, refA] at hbb ⊢
  clear hpow
  have ha1 : ∀ W, (Op.stringOp .add ⟨#[91]⟩ ⟨tx.toArray⟩).run Tryz.prog W = .ok (.string ⟨([91] ++ tx).toArray⟩) W := z7X [91] tx (by simp; omega)
  have ha2 : ∀ W, (Op.stringOp .add ⟨([91] ++ tx).toArray⟩ ⟨#[93]⟩).run Tryz.prog W = .ok (.string ⟨([91] ++ tx ++ [93]).toArray⟩) W := z7X ([91] ++ tx) [93] (by simp; omega)
  generalize [91] ++ tx ++ [93] = t2 at *
  generalize [91] ++ tx = t1 at *
  go_enter Tryz.func25, Tryz.ntmps25
  go_wp2_with fail
  refine (HT.out _).mono ?_
  rintro e w1 ⟨rfl, hb1⟩
  go_wp2
  go_ret
  exact ⟨by rw [HF.out]; rfl, hbb.trans (hb1.mono hbb.size)⟩
theorem zgW (h : HZ) (w : World) :
  Calls Tryz.prog 27 #[.agg (refH h)] w (zgN w (znB h)) := by
 have hbb : Below w.heap.size w (w.alloc (.cells (refH h) 44)) := (Below.refl _ w).alloc (Nat.le_refl _) _
 match h with
 | .none =>
  simp only [refH] at hbb ⊢
  go_enter Tryz.func27, Tryz.ntmps27
  go_wp2
  go_ret
  exact ⟨rfl, hbb⟩
 | .name l =>
  simp only [refH] at hbb ⊢
  go_enter Tryz.func27, Tryz.ntmps27
  go_wp2
  go_ret
  exact ⟨rfl, hbb⟩
 | .addr (.four n) =>
  simp only [refH, refA] at hbb ⊢
  go_enter Tryz.func27, Tryz.ntmps27
  go_wp2
  go_ret
  exact ⟨rfl, hbb⟩
 | .addr (.six hi lo) =>
  simp only [refH, refA] at hbb ⊢
  go_enter Tryz.func27, Tryz.ntmps27
  go_wp2
  go_ret
  exact ⟨rfl, hbb⟩
theorem zfY (h : HZ) (w : World) (hs : h.small) :
  Calls Tryz.prog 29 #[.agg (refH h)] w (zcN w (zcT h)) := by
 have hbb : Below w.heap.size w (w.alloc (.cells (refH h) 44)) := (Below.refl _ w).alloc (Nat.le_refl _) _
 match h, hs with
 | .none, _ =>
  simp only [refH] at hbb ⊢
  go_enter Tryz.func29, Tryz.ntmps29
  go_wp2
  go_ret
  exact ⟨rfl, hbb⟩
 | .addr (.four n), _ =>
  simp only [refH, refA] at hbb ⊢
  go_enter Tryz.func29, Tryz.ntmps29
  go_wp2
  go_ret
  exact ⟨rfl, hbb⟩
 | .addr (.six hi lo), _ =>
  simp only [refH, refA] at hbb ⊢
  go_enter Tryz.func29, Tryz.ntmps29
  go_wp2
  go_ret
  exact ⟨rfl, hbb⟩
 | .name l, hs =>
  have hl : l.length ≤ 1073741824 := hs
  have hblk := heap_alloc_new w (.cells (refH (.name l)) 44)
  have hg : w.heap.size < (w.alloc (.cells (refH (.name l)) 44)).heap.size := by simp
  simp only [refH] at hbb hblk hg ⊢
  obtain ⟨n, er, hc⟩ : ∃ n er, zbS l = (n, er) := ⟨_, _, rfl⟩
  have HC : Hid (∀ W, Calls Tryz.prog 12 #[.string ⟨l.toArray⟩] W fun e w' => e = .returned (.tuple #[.string ⟨n.toArray⟩, .int .i64 er]) ∧ Below W.heap.size W w') := fun W => by
   have := ztS ⟨l.toArray⟩ W (by rw [zaD]; omega)
   rwa [zaG, hc] at this
  have hnl := zoH hc
  have HE := Lib.hid (fun W => zwP ⟨n.toArray⟩ W (by rw [zaD]; omega))
  rw [zaG] at HE
  have HF : Hid (zcT (.name l) = ((decide (er = 0) && n == l) && !zdG l)) := (congrArg (· && !zdG l) (show ziF l = (decide (er = 0) && n == l) by unfold ziF; rw [hc]))
  clear hc
  go_enter Tryz.func29, Tryz.ntmps29
  go_wp2_with fail
  generalize w.alloc (.cells #[.int .i64 1, .string ⟨l.toArray⟩, .bool false, .int .u64 0, .int .u64 0] 44) = x0 at *
  refine (HC.out _).mono ?_
  rintro e x1 ⟨rfl, hb1⟩
  obtain ⟨k0, k1, k2, k3, k4, kf⟩ := zsH ((hb1.block w.heap.size hg).trans hblk)
  have hq := hbb.trans (hb1.mono hbb.size)
  clear HC hb1 hbb hblk hg
  by_cases h0 : er = 0
  ·cases hb : n == l with
   | true =>
    obtain rfl : n = l := eq_of_beq hb
    have HF2 : Hid (zcT (.name n) = !zdG n) := by rw [hb, decide_eq_true h0] at HF; exact HF
    subst h0
    clear HF hb
    have hnn : (n == n) = true := by simp
    go_wp2_with fail
    refine (HE.out _).mono ?_
    rintro e x2 ⟨rfl, hb2⟩
    go_wp2
    go_ret
    exact zaR HF2.out (zaN hq hb2)
   | false =>
    have HF2 : Hid (zcT (.name l) = false) := by rw [hb, decide_eq_true h0] at HF; exact HF
    subst h0
    clear HF
    go_wp2
    go_ret
    exact zaR HF2.out hq
  ·have HF2 : Hid (zcT (.name l) = false) := by rw [decide_eq_false h0] at HF; exact HF
   have hd : (er == (0 : Int)) = false := beq_eq_false_iff_ne.2 h0
   clear HF h0
   go_wp2
   go_ret
   exact zaR HF2.out hq
end

end Go.Proofs.YtphapecoimlngaaGreatDoor
