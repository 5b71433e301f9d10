/-
  Layer 3: what a text is as a number: the definitions, and the small functions (withoutBase, digitsAlone; the reference's Digits and value).
-/
import Derived.Test.YtaojjkknmaldiaaDoorScalL
namespace Go.Proofs.YtaojjkknmaldiaaDoor
open Go.RowKit


def digC (b : Int) (c : UInt8) : Bool := decide (0 ≤ valZ (c.toNat : Int) ∧ valZ (c.toNat : Int) < b)
def digsB (b : Int) (l : List UInt8) : Bool := l.all (digC b)
def capZ (x : Int) : Int := if 1099511627776 < x then 1099511627776 else x
def stepN (b : Int) (n : Int) (c : UInt8) : Int := capZ (n * b + valZ (c.toNat : Int))
def numZ (b : Int) (l : List UInt8) : Int := l.foldl (stepN b) 0
/-- the digits, and the base that stands ahead of them -/
def restB (l : List UInt8) : List UInt8 × Int :=
  match l with
  | a :: c :: r => if a.toNat = 48 then (if c.toNat = 120 ∨ c.toNat = 88 then (r, 16) else (c :: r, 8)) else (a :: c :: r, 10)
  | _ => (l, 10)
def parseZ (l : List UInt8) : Int × Bool :=
  if l.isEmpty then (0, false) else if digsB (restB l).2 (restB l).1 then (numZ (restB l).2 (restB l).1, true) else (0, false)

theorem digsB_snoc (b : Int) (s : ByteArray) (k : Nat) (h : k < s.size) : digsB b (s.data.toList.take (k + 1)) = (digsB b (s.data.toList.take k) && digC b s[k]) := by
  rw [take_bytes s k h]; simp [digsB]
theorem numZ_snoc (b : Int) (s : ByteArray) (k : Nat) (h : k < s.size) : numZ b (s.data.toList.take (k + 1)) = stepN b (numZ b (s.data.toList.take k)) s[k] := by
  rw [take_bytes s k h]; simp [numZ]

theorem digC_true {b : Int} {c : UInt8} {v : Int} (hv : valZ (c.toNat : Int) = v) (h0 : 0 ≤ v) (h1 : v < b) : digC b c = true := decide_eq_true (by rw [hv]; exact ⟨h0, h1⟩)
theorem digC_false {b : Int} {c : UInt8} {v : Int} (hv : valZ (c.toNat : Int) = v) (h : v < 0 ∨ b ≤ v) : digC b c = false := decide_eq_false (by rw [hv]; omega)

theorem digsB_no (b : Int) (s : ByteArray) (k : Nat) (h : k < s.size) (hc : digC b s[k] = false) : digsB b s.data.toList = false := by
  unfold digsB
  rw [List.all_eq_false]
  refine ⟨s[k], ?_, by rw [hc]; simp⟩
  show s.data[k] ∈ _
  simp

theorem digsB_ok (b : Int) (s : ByteArray) (k : Nat) (h : k < s.size) (hp : digsB b (s.data.toList.take k) = true) (hc : digC b s[k] = true) : digsB b (s.data.toList.take (k + 1)) = true := by
  rw [digsB_snoc b s k h, hp, hc]; rfl

theorem valZ_high (r : Int) (h : 128 ≤ r) : valZ r = -1 := by
  unfold valZ; (repeat' split) <;> omega
theorem valZ_top (r : Int) : valZ r < 16 := by
  unfold valZ; (repeat' split) <;> omega
theorem valZ_bot (r : Int) : -1 ≤ valZ r := by
  unfold valZ; (repeat' split) <;> omega

theorem capZ_le (x : Int) : capZ x ≤ 1099511627776 := by unfold capZ; split <;> omega
theorem capZ_hi {x : Int} (h : 1099511627776 < x) : capZ x = 1099511627776 := if_pos h
theorem capZ_lo {x : Int} (h : ¬ 1099511627776 < x) : capZ x = x := if_neg h
theorem stepN_eq (b n : Int) (c : UInt8) (v : Int) (hv : valZ (c.toNat : Int) = v) : stepN b n c = capZ (n * b + v) := by rw [stepN, hv]

theorem restB_base (l : List UInt8) : (restB l).2 = 8 ∨ (restB l).2 = 10 ∨ (restB l).2 = 16 := by
  unfold restB
  repeat' split
  all_goals simp
theorem restB_len (l : List UInt8) : (restB l).1.length ≤ l.length := by
  unfold restB
  repeat' split
  all_goals simp
  omega

theorem list_two (s : ByteArray) (h : 2 ≤ s.size) : ∃ r, s.data.toList = s[0] :: s[1] :: r ∧ s.data.toList.drop 2 = r := by
  refine ⟨s.data.toList.drop 2, ?_, rfl⟩
  have e0 : s.data.toList = s.data.toList.drop 0 := rfl
  conv => lhs; rw [e0, List.drop_eq_getElem_cons (by simp; omega), List.drop_eq_getElem_cons (by simp; omega)]
  rfl

theorem restB_short (s : ByteArray) (h : s.size < 2) : restB s.data.toList = (s.data.toList, 10) := by
  have hl := size_list s
  match hd : s.data.toList, hl with
  | [], _ => rfl
  | [a], _ => rfl
  | a :: c :: r, hl => simp at hl; omega
theorem restB_ten (s : ByteArray) (h : 2 ≤ s.size) (h0 : s[0].toNat ≠ 48) : restB s.data.toList = (s.data.toList, 10) := by
  obtain ⟨r, hr, _⟩ := list_two s h
  rw [hr]; simp [restB, h0]
theorem restB_hex (s : ByteArray) (h : 2 ≤ s.size) (h0 : s[0].toNat = 48) (h1 : s[1].toNat = 120 ∨ s[1].toNat = 88) : restB s.data.toList = (s.data.toList.drop 2, 16) := by
  obtain ⟨r, hr, h2⟩ := list_two s h
  rw [h2, hr]; simp only [restB, h0, h1, if_true]
theorem restB_oct (s : ByteArray) (h : 2 ≤ s.size) (h0 : s[0].toNat = 48) (h1 : ¬ (s[1].toNat = 120 ∨ s[1].toNat = 88)) : restB s.data.toList = (s.data.toList.drop 1, 8) := by
  obtain ⟨r, hr, _⟩ := list_two s h
  rw [hr]; simp only [restB, h0, h1, if_true, if_false]; rfl

theorem extract_to (s : ByteArray) (a : Nat) : s.extract a s.size = ⟨(s.data.toList.drop a).toArray⟩ :=
  extract_eq s a s.size _ (List.take_of_length_le (by simp))

def RetBase (w : World) (x : List UInt8 × Int) (e : Ending) (w' : World) : Prop := e = .returned (.tuple #[.string ⟨x.1.toArray⟩, .int .i64 x.2]) ∧ w = w'
theorem retBase_of {w : World} {x : List UInt8 × Int} {y : ByteArray} {b : Int} {l : List UInt8} (h : x = (l, b)) (hy : y = ⟨l.toArray⟩) : RetBase w x (.returned (.tuple #[.string y, .int .i64 b])) w := by
  subst h hy; exact ⟨rfl, rfl⟩

set_option maxRecDepth 100000 in
set_option maxHeartbeats 1000000 in
theorem withoutBase_any (s : ByteArray) (w : World) (hs : s.size ≤ 1073741824) :
    Calls Tryd.prog 22 #[.string s] w (RetBase w (restB s.data.toList)) := by
  by_cases h2 : s.size < 2
  · have HR := Lib.hid (restB_short s h2)
    go_enter Tryd.func22, Tryd.ntmps22
    go_wp2
    go_ret2
    exact retBase_of HR.out (by simp)
  · have h2' : 2 ≤ s.size := by omega
    have l0 : 0 < s.size := by omega
    have l1 : 1 < s.size := by omega
    obtain ⟨a, ha⟩ : ∃ a, s[0].toNat = a := ⟨_, rfl⟩
    obtain ⟨c, hc⟩ : ∃ a, s[1].toNat = a := ⟨_, rfl⟩
    by_cases h48 : a = 48
    · subst h48
      by_cases hx : c = 120 ∨ c = 88
      · have HR := Lib.hid (restB_hex s h2' ha (by rw [hc]; exact hx))
        rcases hx with rfl | rfl
        all_goals
          go_enter Tryd.func22, Tryd.ntmps22
          go_wp2
          go_ret2
          exact retBase_of HR.out (extract_to s 2)
      · have HR := Lib.hid (restB_oct s h2' ha (by rw [hc]; exact hx))
        have b1 : ((c : Int) == 120) = false := beq_eq_false_iff_ne.2 (by omega)
        have b2 : ((c : Int) == 88) = false := beq_eq_false_iff_ne.2 (by omega)
        clear hx
        go_enter Tryd.func22, Tryd.ntmps22
        go_wp2
        go_ret2
        exact retBase_of HR.out (extract_to s 1)
    · have HR := Lib.hid (restB_ten s h2' (by rw [ha]; exact h48))
      have b1 : ((a : Int) != 48) = true := by rw [bne_iff_ne]; omega
      go_enter Tryd.func22, Tryd.ntmps22
      go_wp2
      go_ret2
      exact retBase_of HR.out (by simp)

def RetNum (w : World) (x : Int × Bool) (e : Ending) (w' : World) : Prop := e = .returned (.tuple #[.int .u64 x.1, .bool x.2]) ∧ Below w.heap.size w w'
theorem retNum_of {w w' : World} {x : Int × Bool} {n : Int} {b : Bool} (h : x = (n, b)) (hb : Below w.heap.size w w') : RetNum w x (.returned (.tuple #[.int .u64 n, .bool b])) w' := by
  subst h; exact ⟨rfl, hb⟩

theorem digs_at (b : Int) (s : ByteArray) (k : Nat) (h : k < s.size) (hd : digsB b s.data.toList = true) : 0 ≤ valZ (s[k].toNat : Int) ∧ valZ (s[k].toNat : Int) < b := by
  unfold digsB at hd
  rw [List.all_eq_true] at hd
  have := hd s[k] (by show s.data[k] ∈ _; simp)
  exact of_decide_eq_true this

end Go.Proofs.YtaojjkknmaldiaaDoor
