/-
  Layer 1: Scalars, the program's and the reference's, both tell the code points that the model's own decoding of UTF-8 tells, one behind the other.
-/
import Derived.Test.YtaojjkknmaldiaaDoorScalD
namespace Go.Proofs.YtaojjkknmaldiaaDoor
open Go.RowKit


theorem Tryd.infoRune : (Tryd.prog.info? 21).map (fun i => (i.zero, i.size, i.bytes)) = some (some (.int .i32 0), 1, 4) := by kernel_rfl

/-- the code points from a place on -/
def scalF (s : ByteArray) : Nat → Nat → List Int
  | 0, _ => []
  | f + 1, p => if p < s.size then ((Utf8.decode s p).1 : Int) :: scalF s f (p + (Utf8.decode s p).2) else []
def scal (s : ByteArray) : List Int := scalF s s.size 0

theorem width_pos (s : ByteArray) (p : Nat) (h : p < s.size) : 1 ≤ (Utf8.decode s p).2 := by
  by_cases ha : (s[p]'h).toNat < 128
  · rw [decode_ascii s p h ha]; exact Nat.le_refl _
  · exact (decode_high s p h (by omega)).2

theorem width_le (s : ByteArray) (p : Nat) : (Utf8.decode s p).2 ≤ 4 := by
  rw [decode_eq]
  repeat' split
  all_goals simp

theorem scalF_end (s : ByteArray) (f p : Nat) (h : ¬ p < s.size) : scalF s f p = [] := by
  cases f with
  | zero => rfl
  | succ f => simp [scalF, h]

theorem scalF_step (s : ByteArray) (f p : Nat) (h : p < s.size) : scalF s (f + 1) p = ((Utf8.decode s p).1 : Int) :: scalF s f (p + (Utf8.decode s p).2) := by
  simp [scalF, h]

theorem scalF_len (s : ByteArray) : ∀ f p, (scalF s f p).length ≤ f
  | 0, _ => by simp [scalF]
  | f + 1, p => by
    by_cases h : p < s.size
    · rw [scalF_step s f p h]; have := scalF_len s f (p + (Utf8.decode s p).2); simp; omega
    · rw [scalF_end s _ p h]; simp

theorem scal_len (s : ByteArray) : (scal s).length ≤ s.size := scalF_len s _ _

/-- a new row of the call's own -/
def RetRow (base : Nat) (t : TypeId) (xs : List Value) (w : World) (e : Ending) (w' : World) : Prop :=
  ∃ v, e = .returned v ∧ w'.ownsRow base t 1 v xs.length xs ∧ Below base w w'

theorem own_base {w : World} {B B' : Nat} {t : TypeId} {v : Value} {n : Nat} {xs : List Value} (h : w.ownsRow B t 1 v n xs) (hB : B' ≤ B) : w.ownsRow B' t 1 v n xs := by
  refine ⟨h.1, ?_⟩
  rcases h.2 with h2 | ⟨g, cap, cur, h1, h2, h3⟩
  · exact .inl h2
  · exact .inr ⟨g, cap, cur, h1, by omega, h3⟩

theorem own_iterAt {w : World} {B k : Nat} {t : TypeId} {v : Value} {n : Nat} {xs : List Value} (h : w.ownsRow B t 1 v n xs) (hk : k < B) (s : ByteArray) (p : Nat) : (w.iterAt k s p).ownsRow B t 1 v n xs := by
  refine ⟨h.1, ?_⟩
  rcases h.2 with h2 | ⟨g, cap, cur, h1, h2, h3, h4⟩
  · exact .inl h2
  · exact .inr ⟨g, cap, cur, h1, h2, (Lib.iterAt_other w k g s p (by omega)).trans h3, h4⟩

theorem one_new (w : World) (u : Value) (t : TypeId) : ∀ j x, [u][j]? = some x → (w.alloc (.cells #[u] t)).cell? ((⟨w.heap.size, 0, none⟩ : Addr).add j) = some x := by
  intro j x hj
  match j, hj with
  | 0, hj => simp at hj; subst hj; simp [Addr.add]

theorem ints_one (l : List Int) : ∀ u ∈ l.map (Value.int .i32), u.oneCell' = true := by
  intro u hu
  obtain ⟨x, _, rfl⟩ := List.mem_map.1 hu
  rfl

theorem iter_keep {w w1 : World} {b k : Nat} {t : TypeId} {v : Value} {n : Nat} {xs : List Value} {o : Obj} (h : w.heap[b]? = some o) (hown : w.ownsRow k t 1 v n xs) (hg : w.grownBy w1 v.ownBlock) (hb : b < k) : w1.heap[b]? = some o := by
  have hlt : b < w.heap.size := (Array.getElem?_eq_some_iff.1 h).1
  rw [hg.block b hlt ?_]
  · exact h
  · intro e
    have := hown.lt b e.symm
    omega

set_option maxRecDepth 100000 in
set_option maxHeartbeats 1000000 in
theorem scalars_any (s : ByteArray) (w : World) (hs : s.size ≤ 1073741824) :
    Calls Tryd.prog 59 #[.string s] w (RetRow w.heap.size 21 ((scal s).map (Value.int .i32)) w) := by
  obtain ⟨i0, hi, hz0, hz1, hz2⟩ := info_parts Tryd.infoRune
  go_enter Tryd.func59, Tryd.ntmps59
  go_wp2
  go_loopw [3] (fun v wr => ∃ (pos fuel : Nat) (acc : List Int), wr.ownsRow (w.heap.size + 1) 21 1 v acc.length (acc.map (Value.int .i32)) ∧ wr.heap[w.heap.size]? = some (.stringIter s pos) ∧ Below w.heap.size w wr ∧ w.heap.size + 1 ≤ wr.heap.size ∧ Hid (acc ++ scalF s fuel pos = scal s) ∧ s.size ≤ pos + fuel ∧ acc.length ≤ pos ∧ pos ≤ s.size + 4) (fun _ wr => s.size - wr.iterPos w.heap.size)
  case atStart =>
    exact ⟨0, s.size, [], World.ownsRow_nil _ _ _ _, World.iter_heap w s 0, (Below.refl _ w).alloc (Nat.le_refl _) _, by simp [World.iter], rfl, by omega, by simp, by omega⟩
  case round =>
    obtain ⟨pos, fuel, acc, hown, hit, hbw, hsz, HA, hfu, hal, hpo⟩ := hrel
    by_cases hp : pos < s.size
    · have hnx : ∀ ty, (Instr.next (.pointer (some ⟨w.heap.size, 0, none⟩)) true ty).run Tryd.prog wr = _ := fun ty => Lib.run_next_any_at wr w.heap.size s pos ty hit hp
      have hwd := width_pos s pos hp
      have hwl := width_le s pos
      have hd1 := decode_le s pos
      obtain ⟨f, rfl⟩ : ∃ f, fuel = f + 1 := ⟨fuel - 1, by omega⟩
      have hA2 := HA.out
      rw [scalF_step s f pos hp] at hA2
      have HA2 := Lib.hid hA2
      clear hA2
      have hown2 := own_iterAt hown (by omega : w.heap.size < w.heap.size + 1) s (pos + (Utf8.decode s pos).2)
      have hit2 := Lib.iterAt_heap wr w.heap.size s pos (pos + (Utf8.decode s pos).2) hit
      have hbw2 := Lib.below_iterAt hbw (k := w.heap.size) (Nat.le_refl _) s (pos + (Utf8.decode s pos).2)
      have hsz2 : w.heap.size + 1 ≤ (wr.iterAt w.heap.size s (pos + (Utf8.decode s pos).2)).heap.size := by rw [Lib.iterAt_size]; exact hsz
      generalize wr.iterAt w.heap.size s (pos + (Utf8.decode s pos).2) = wi at *
      go_wp2_with (at_builtin; refine wpList_append_own _ rfl _ _ 86 rfl (w.heap.size + 1) 21 i0 (.int .i32 0) 1 4 Tryd.underlying86 hi hz0 hz1 hz2 rfl (by decide) _ _ _ rfl (hown2.alloc _) ⟨wi.heap.size, 0, none⟩ 1 1 [.int .i32 ((Utf8.decode s pos).1 : Int)] rfl rfl ?c1 ?c2 ?c3 ?c4 ?c5 ?_)
      case c1 => exact one_new _ _ _
      case c2 => intro u hu; simp at hu; subst hu; rfl
      case c3 => unfold maxLen; omega
      case c4 => omega
      case c5 => simp; omega
      intro v' w1 hown' hgrow _
      have hit3 := iter_keep (b := w.heap.size) (o := .stringIter s (pos + (Utf8.decode s pos).2)) (by rw [Below.heap_alloc _ _ _ (by omega)]; exact hit2) (hown2.alloc _) hgrow (by omega)
      have hbw3 : Below w.heap.size w w1 := (hbw2.alloc (by omega) _).grown hgrow (by simp; omega) (fun k hk => by have := hown2.lt k hk; omega)
      have hsz3 : w.heap.size + 1 ≤ w1.heap.size := by have := hgrow.size; simp at this; omega
      clear hgrow hown2 hown hit2 hbw2
      go_wp2
      go_roundw
      case rel =>
        refine ⟨pos + (Utf8.decode s pos).2, f, acc ++ [((Utf8.decode s pos).1 : Int)], ?_, hit3, hbw3, hsz3, ?_, by omega, by simp; omega, by omega⟩
        · simpa using hown'
        · show (acc ++ [_]) ++ _ = _
          rw [List.append_assoc]; exact HA2.out
      case measure =>
        simp only [World.iterPos, hit3, hit]
        omega
    · have hnx : ∀ ty, (Instr.next (.pointer (some ⟨w.heap.size, 0, none⟩)) true ty).run Tryd.prog wr = _ := fun ty => Lib.run_next_end_at wr w.heap.size s pos ty hit hp
      go_wp2
      go_ret
      have he := HA.out
      rw [scalF_end s fuel pos hp, List.append_nil] at he
      subst he
      exact ⟨_, rfl, by rw [List.length_map]; exact own_base hown (by omega), hbw⟩

end Go.Proofs.YtaojjkknmaldiaaDoor
