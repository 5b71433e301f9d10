/-
  Layer 1: the program's Lower, in place in the bytes of its text; Trim, the program's and the reference's.
-/
import Derived.Test.YtaojjkknmaldiaaDoorScalI
namespace Go.Proofs.YtaojjkknmaldiaaDoor
open Go.RowKit


/-- the new row of []byte(s), the first k bytes made small -/
def LowRow (B : Nat) (s : ByteArray) (k cap : Nat) (w : World) : Prop :=
  ∃ cur : Array Value, w.heap[B]? = some (.cells cur 5 (cap, cap + 1)) ∧ cur.size = cap ∧ s.size ≤ cap ∧
    ∀ j (h : j < s.size), cur[j]? = some (.int .u8 ((if j < k then lowC s[j] else s[j]).toNat : Int))

theorem lowRow_start (w : World) (s : ByteArray) : LowRow w.heap.size s 0 (grownCap w s.size 0 5) (Lib.bytesWorld w 5 s) := by
  have hge : s.size ≤ grownCap w s.size 0 5 := grownCap_ge _ _ _ _
  have hsz : (Lib.bytesCells w 5 s).size = grownCap w s.size 0 5 := by
    unfold Lib.bytesCells
    have : s.data.size = s.size := rfl
    simp [this]; omega
  refine ⟨Lib.bytesCells w 5 s, ?_, hsz, hge, ?_⟩
  · rw [Lib.bytesWorld_at_new, hsz]
  · intro j h
    have hj : j < s.data.size := h
    rw [if_neg (by omega)]
    unfold Lib.bytesCells
    rw [Array.getElem?_append_left (by simpa using hj)]
    simp
    exact ⟨s.data[j], Array.getElem?_eq_getElem hj, rfl⟩

theorem LowRow.cell {B : Nat} {s : ByteArray} {k cap : Nat} {w : World} (h : LowRow B s k cap w) (hk : k < s.size) : w.cell? ⟨B, k, none⟩ = some (.int .u8 (s[k].toNat : Int)) := by
  obtain ⟨cur, h1, _, _, h4⟩ := h
  rw [cell_of_row w B k cur _ _ h1, h4 k hk, if_neg (by omega)]

theorem LowRow.frozen {B : Nat} {s : ByteArray} {k cap : Nat} {w : World} (h : LowRow B s k cap w) (hk : k < s.size) : w.frozen? ⟨B, k, none⟩ = false := by
  obtain ⟨cur, h1, _, h3, _⟩ := h
  simp [World.frozen?, h1]
  omega

theorem LowRow.same {B : Nat} {s : ByteArray} {k cap : Nat} {w : World} (h : LowRow B s k cap w) (hk : k < s.size) (he : lowC s[k] = s[k]) : LowRow B s (k + 1) cap w := by
  obtain ⟨cur, h1, h2, h3, h4⟩ := h
  refine ⟨cur, h1, h2, h3, fun j hj => ?_⟩
  rw [h4 j hj]
  by_cases e : j = k
  · subst e; rw [if_neg (by omega), if_pos (by omega), he]
  · by_cases e2 : j < k
    · rw [if_pos e2, if_pos (by omega)]
    · rw [if_neg e2, if_neg (by omega)]

theorem LowRow.put {B : Nat} {s : ByteArray} {k cap : Nat} {w : World} (h : LowRow B s k cap w) (hk : k < s.size) (n : Int) (hn : n = ((lowC s[k]).toNat : Int)) : LowRow B s (k + 1) cap (w.setCell ⟨B, k, none⟩ (.int .u8 n)) := by
  obtain ⟨cur, h1, h2, h3, h4⟩ := h
  refine ⟨cur.setIfInBounds k (.int .u8 n), ?_, by simpa using h2, h3, fun j hj => ?_⟩
  · simp [World.setCell, Array.getElem?_modify, h1]
  · rw [Array.getElem?_setIfInBounds]
    by_cases e : k = j
    · subst e; rw [if_pos rfl, if_pos (by omega), if_pos (by omega), hn]
    · rw [if_neg e, h4 j hj]
      by_cases e2 : j < k
      · rw [if_pos e2, if_pos (by omega)]
      · rw [if_neg e2, if_neg (by omega)]

theorem LowRow.conv {B : Nat} {s : ByteArray} {cap : Nat} {w : World} {k : Nat} (h : LowRow B s k cap w) (hk : ¬ k < s.size) :
    (convert 56 9 (.slice (some ⟨B, 0, none⟩) s.size cap)).run Tryd.prog w = .ok (.string ⟨(lowerB s.data.toList).toArray⟩) w := by
  refine conv_bytes w _ _ 5 _ _ ?_ Tryd.underlying56 Tryd.underlying5 Tryd.underlying9
  obtain ⟨cur, h1, h2, h3, h4⟩ := h
  have hl : (Lib.byteCells (lowerB s.data.toList)).length = s.size := by rw [Lib.byteCells_length, lower_len, size_list]
  refine ⟨_, cap, by rw [hl], fun j u hj => ⟨_, rfl, ?_⟩⟩
  have hlt : j < s.size := by rw [← hl]; exact (List.getElem?_eq_some_iff.1 hj).1
  rw [show (Addr.add ⟨B, 0, none⟩ j) = ⟨B, j, none⟩ from by unfold Addr.add; split <;> simp_all]
  rw [cell_of_row w B j cur _ _ h1, h4 j hlt, if_pos (by omega), ← hj]
  simp only [Lib.byteCells, lowerB, List.map_map, List.getElem?_map, bytes_at s j hlt]
  rfl

def blankC (c : UInt8) : Bool := decide (c.toNat ≤ 32)
theorem blankC_true {c : UInt8} (h : c.toNat ≤ 32) : blankC c = true := decide_eq_true h
theorem blankC_false {c : UInt8} (h : 32 < c.toNat) : blankC c = false := decide_eq_false (by omega)
def trimL (l : List UInt8) : List UInt8 := ((l.dropWhile blankC).reverse.dropWhile blankC).reverse

theorem dropWhile_drop (p : UInt8 → Bool) : ∀ (l : List UInt8) (n : Nat), n ≤ l.length → (∀ k x, l[k]? = some x → k < n → p x = true) → (n = l.length ∨ ∃ x, l[n]? = some x ∧ p x = false) → l.dropWhile p = l.drop n
  | [], n, h, _, _ => by simp
  | x :: l, 0, _, _, h2 => by
    rcases h2 with h2 | ⟨y, hy, hp⟩
    · simp at h2
    · simp at hy; subst hy; simp [hp]
  | x :: l, n + 1, h, h1, h2 => by
    have hx : p x = true := h1 0 x rfl (by omega)
    rw [List.dropWhile_cons, if_pos hx, List.drop_succ_cons]
    exact dropWhile_drop p l n (by simp at h; omega) (fun k y hk hkn => h1 (k + 1) y (by simpa using hk) (by omega)) (h2.imp (fun e => by simp at e; exact e) (fun ⟨y, hy, hp⟩ => ⟨y, by simpa using hy, hp⟩))

theorem trimL_cut (l : List UInt8) (i j : Nat) (hij : i ≤ j) (hj : j ≤ l.length) (h1 : ∀ k x, l[k]? = some x → k < i → blankC x = true) (h2 : i = l.length ∨ ∃ x, l[i]? = some x ∧ blankC x = false)
    (h3 : ∀ k x, l[k]? = some x → j ≤ k → blankC x = true) (h4 : i = j ∨ (i < j ∧ ∃ x, l[j - 1]? = some x ∧ blankC x = false)) : (l.drop i).take (j - i) = trimL l := by
  unfold trimL
  rw [dropWhile_drop blankC l i (by omega) h1 h2, dropWhile_drop blankC (l.drop i).reverse (l.length - j) (by simp; omega), List.drop_reverse, List.reverse_reverse]
  · congr 1
    simp
    omega
  · intro k x hk hkn
    have hlt : k < (l.drop i).reverse.length := (List.getElem?_eq_some_iff.1 hk).1
    simp at hlt
    rw [List.getElem?_reverse (by simpa using hlt), List.getElem?_drop] at hk
    exact h3 _ x hk (by simp; omega)
  · rcases h4 with h4 | ⟨hlt, x, hx, hp⟩
    · left; simp; omega
    · right
      refine ⟨x, ?_, hp⟩
      rw [List.getElem?_reverse (by simp; omega), List.getElem?_drop]
      rw [← hx]
      congr 1
      simp
      omega

theorem extract_none (s : ByteArray) (k : Nat) : s.extract k k = ByteArray.empty := by
  apply ByteArray.ext
  apply Array.ext'
  rw [Lib.extract_data]
  simp

theorem extract_trim (s : ByteArray) (k m : Nat) (h1 : k ≤ m) (h2 : m ≤ s.size) (H1 : ∀ j (h : j < s.size), j < k → blankC s[j] = true) (H2 : k = s.size ∨ ∃ h : k < s.size, blankC s[k] = false)
    (h3 : ∀ j (h : j < s.size), m ≤ j → blankC s[j] = true) (h4 : k = m ∨ ∃ h : m - 1 < s.size, k < m ∧ blankC s[m - 1] = false) : (s.extract k m) = ⟨(trimL s.data.toList).toArray⟩ := by
  have at_ : ∀ j x, s.data.toList[j]? = some x → ∃ h : j < s.size, x = s[j] := by
    intro j x hj
    have hlt : j < s.size := by have := (List.getElem?_eq_some_iff.1 hj).1; simpa using this
    rw [bytes_at s j hlt] at hj
    exact ⟨hlt, (Option.some.inj hj).symm⟩
  have e := trimL_cut s.data.toList k m h1 (by rw [size_list]; exact h2)
    (fun j x hj hjk => by obtain ⟨h, rfl⟩ := at_ j x hj; exact H1 j h hjk)
    (by rw [size_list]; exact H2.imp id (fun ⟨h, hp⟩ => ⟨_, bytes_at s k h, hp⟩))
    (fun j x hj hjk => by obtain ⟨h, rfl⟩ := at_ j x hj; exact h3 j h hjk)
    (h4.imp id (fun ⟨h, hlt, hp⟩ => ⟨hlt, _, bytes_at s (m - 1) h, hp⟩))
  rw [← e]
  apply ByteArray.ext
  apply Array.ext'
  rw [Lib.extract_data]

end Go.Proofs.YtaojjkknmaldiaaDoor
