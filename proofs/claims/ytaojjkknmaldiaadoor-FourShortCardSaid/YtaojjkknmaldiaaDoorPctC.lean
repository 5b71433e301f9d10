/-
  Layer 2: Decode and Right, the program's and the reference's.
-/
import Derived.Test.YtaojjkknmaldiaaDoorPctB
import Derived.StillTailTactics
namespace Go.Proofs.YtaojjkknmaldiaaDoor
open Go.RowKit


/-- % and two digits at a text's beginning: the byte -/
def threeV : List UInt8 → Option UInt8
  | c :: a :: b :: _ => if c.toNat = 37 ∧ 0 ≤ valZ (a.toNat : Int) ∧ 0 ≤ valZ (b.toNat : Int) then some (UInt8.ofNat ((valZ (a.toNat : Int) * 16 + valZ (b.toNat : Int)).toNat)) else none
  | _ => none
def decL : Nat → List UInt8 → List UInt8
  | 0, _ => []
  | _ + 1, [] => []
  | f + 1, c :: r => match threeV (c :: r) with
    | some v => v :: decL f (r.drop 2)
    | none => c :: decL f r
def decB (l : List UInt8) : List UInt8 := decL l.length l
def rightB : List UInt8 → Bool
  | [] => true
  | c :: r => (!(decide (c.toNat = 37)) || (threeV (c :: r)).isSome) && rightB r

theorem valZ_lt (r : Int) : valZ r < 16 := by unfold valZ; (repeat' split) <;> omega
theorem valZ_ge (r : Int) : -1 ≤ valZ r := by unfold valZ; (repeat' split) <;> omega

theorem drop_at (s : ByteArray) (k : Nat) (h : k < s.size) : s.data.toList.drop k = s[k] :: s.data.toList.drop (k + 1) := by
  rw [List.drop_eq_getElem_cons (by simpa using h)]
  rfl
theorem drop_end (s : ByteArray) (k : Nat) (h : ¬ k < s.size) : s.data.toList.drop k = [] := List.drop_eq_nil_of_le (by simpa using h)

theorem three_some (s : ByteArray) (k : Nat) (hk : k + 2 < s.size) (h37 : s[k].toNat = 37) (h1 : 0 ≤ valZ (s[k + 1].toNat : Int)) (h2 : 0 ≤ valZ (s[k + 2].toNat : Int)) :
    threeV (s.data.toList.drop k) = some (UInt8.ofNat ((valZ (s[k + 1].toNat : Int) * 16 + valZ (s[k + 2].toNat : Int)).toNat)) := by
  rw [drop_at s k (by omega), drop_at s (k + 1) (by omega), drop_at s (k + 2) (by omega)]
  simp only [threeV]
  rw [if_pos ⟨h37, h1, h2⟩]
theorem three_bad (s : ByteArray) (k : Nat) (hk : k + 2 < s.size) (h : s[k].toNat ≠ 37 ∨ valZ (s[k + 1].toNat : Int) < 0 ∨ valZ (s[k + 2].toNat : Int) < 0) :
    threeV (s.data.toList.drop k) = none := by
  rw [drop_at s k (by omega), drop_at s (k + 1) (by omega), drop_at s (k + 2) (by omega)]
  simp only [threeV]
  rw [if_neg (by omega)]
theorem three_short (s : ByteArray) (k : Nat) (hk : s.size ≤ k + 2) : threeV (s.data.toList.drop k) = none := by
  by_cases h0 : k < s.size
  · rw [drop_at s k h0]
    by_cases h1 : k + 1 < s.size
    · rw [drop_at s (k + 1) h1, drop_end s (k + 2) (by omega)]
      rfl
    · rw [drop_end s (k + 1) h1]
      rfl
  · rw [drop_end s k h0]
    rfl

theorem or_shift (a b : Int) (h0 : 0 ≤ a) (h1 : a < 16) (h2 : 0 ≤ b) (h3 : b < 16) : bits BinOp.or IntKind.i64 (a * 16) b % 256 = a * 16 + b := by
  have key : ∀ a b : Fin 16, bits BinOp.or IntKind.i64 ((a.val : Int) * 16) (b.val : Int) % 256 = (a.val : Int) * 16 + (b.val : Int) := by decide +kernel
  have := key ⟨a.toNat, by omega⟩ ⟨b.toNat, by omega⟩
  simp only [Int.toNat_of_nonneg h0, Int.toNat_of_nonneg h2] at this
  exact this

def EncPost (o : Option UInt8) (w : World) (e : Ending) (w' : World) : Prop := e = .returned (.tuple #[.int .u8 ((o.getD 0).toNat : Int), .bool o.isSome]) ∧ ∃ n, w' = w.drewN n

theorem encPost_none {o : Option UInt8} {w : World} {e : Ending} {w' : World} (ho : o = none) (he : e = .returned (.tuple #[.int .u8 0, .bool false])) (n : Nat) (hw : w' = w.drewN n) : EncPost o w e w' := by
  subst ho
  exact ⟨he, n, hw⟩
theorem encPost_some {o : Option UInt8} {v : UInt8} {x : Int} {w : World} {e : Ending} {w' : World} (ho : o = some v) (he : e = .returned (.tuple #[.int .u8 x, .bool true])) (hx : x = (v.toNat : Int)) (n : Nat) (hw : w' = w.drewN n) : EncPost o w e w' := by
  subst ho hx
  exact ⟨he, n, hw⟩

theorem ofNat_back (x : Int) (h0 : 0 ≤ x) (h1 : x < 256) : x = ((UInt8.ofNat x.toNat).toNat : Int) := by
  have : x.toNat % 256 = x.toNat := Nat.mod_eq_of_lt (by omega)
  simp [this]
  omega

set_option maxRecDepth 100000 in
set_option maxHeartbeats 2000000 in
theorem encoded_any (s : ByteArray) (k : Nat) (w : World) (hs : s.size ≤ 1073741824) (hk : k < s.size) :
    Calls Tryd.prog 53 #[.string s, .int .i64 k] w (EncPost (threeV (s.data.toList.drop k)) w) := by
  obtain ⟨c0, hc0⟩ : ∃ c, s[k].toNat = c := ⟨_, rfl⟩
  by_cases h2 : k + 2 < s.size
  · obtain ⟨c1, hc1⟩ : ∃ c, s[k + 1].toNat = c := ⟨_, rfl⟩
    obtain ⟨c2, hc2⟩ : ∃ c, s[k + 2].toNat = c := ⟨_, rfl⟩
    have l1 : c1 < 256 := by rw [← hc1]; exact s[k + 1].toNat_lt
    have l2 : c2 < 256 := by rw [← hc2]; exact s[k + 2].toNat_lt
    by_cases h37 : c0 = 37
    · subst h37
      obtain ⟨v1, hv1⟩ : ∃ v, valZ (c1 : Int) = v := ⟨_, rfl⟩
      obtain ⟨v2, hv2⟩ : ∃ v, valZ (c2 : Int) = v := ⟨_, rfl⟩
      have b1 : v1 < 16 := by rw [← hv1]; exact valZ_lt _
      have b2 : v2 < 16 := by rw [← hv2]; exact valZ_lt _
      have b3 : -1 ≤ v1 := by rw [← hv1]; exact valZ_ge _
      have b4 : -1 ≤ v2 := by rw [← hv2]; exact valZ_ge _
      have hb37 : ((37 : Int) != 37) = false := by decide
      by_cases hv : 0 ≤ v1 ∧ 0 ≤ v2
      · obtain ⟨b5, b6⟩ := hv
        have HT := Lib.hid (three_some s k h2 hc0 (by rw [hc1, hv1]; exact b5) (by rw [hc2, hv2]; exact b6))
        rw [hc1, hc2, hv1, hv2] at HT
        have HO := Lib.hid (or_shift v1 v2 b5 b1 b6 b2)
        have HX := Lib.hid (ofNat_back (v1 * 16 + v2) (by omega) (by omega))
        have p1 : (0 : Int) ≤ (k : Int) + 1 := by omega
        have p2 : (0 : Int) ≤ (k : Int) + 2 := by omega
        have p3 : (k : Int) + 1 < (s.size : Int) := by omega
        have p4 : (k : Int) + 2 < (s.size : Int) := by omega
        have q1 : IntKind.i64.wrap ((k : Int) + 1) = (k : Int) + 1 := IntWalk.i64_in _ (by omega)
        have q2 : IntKind.i64.wrap ((k : Int) + 2) = (k : Int) + 2 := IntWalk.i64_in _ (by omega)
        have r1 : ((k : Int) + 1).toNat = k + 1 := by omega
        have r2 : ((k : Int) + 2).toNat = k + 2 := by omega
        go_enter Tryd.func53, Tryd.ntmps53
        go_wp2_with fail
        go_quiet ((go_at_call 23; exact Calls.quiet_of_same ((value_any _ _).mono fun _ _ h => ⟨h.1, h.2.symm⟩)))
        clear q1 q2 r1 r2
        go_wp2
        go_ret2
        exact encPost_some HT.out rfl (HO.out.trans HX.out) nq rfl
      · have HT := Lib.hid (three_bad s k h2 (by rw [hc1, hc2, hv1, hv2]; omega))
        have p1 : (0 : Int) ≤ (k : Int) + 1 := by omega
        have p2 : (0 : Int) ≤ (k : Int) + 2 := by omega
        have p3 : (k : Int) + 1 < (s.size : Int) := by omega
        have p4 : (k : Int) + 2 < (s.size : Int) := by omega
        by_cases hv1n : v1 < 0
        all_goals
          have q1 : IntKind.i64.wrap ((k : Int) + 1) = (k : Int) + 1 := IntWalk.i64_in _ (by omega)
          have q2 : IntKind.i64.wrap ((k : Int) + 2) = (k : Int) + 2 := IntWalk.i64_in _ (by omega)
          have r1 : ((k : Int) + 1).toNat = k + 1 := by omega
          have r2 : ((k : Int) + 2).toNat = k + 2 := by omega
          go_enter Tryd.func53, Tryd.ntmps53
          go_wp2_with fail
          go_quiet ((go_at_call 23; exact Calls.quiet_of_same ((value_any _ _).mono fun _ _ h => ⟨h.1, h.2.symm⟩)))
          clear q1 q2 r1 r2
          have hv2n : v1 < 0 ∨ v2 < 0 := by omega
          go_wp2
          all_goals
            go_ret2
            exact encPost_none HT.out rfl nq rfl
    · have HT := Lib.hid (three_bad s k h2 (.inl (by rw [hc0]; exact h37)))
      have hb : ((c0 : Int) != 37) = true := by rw [bne_iff_ne]; omega
      go_enter Tryd.func53, Tryd.ntmps53
      go_wp2
      go_ret2
      exact encPost_none HT.out rfl 0 rfl
  · have HT := Lib.hid (three_short s k (by omega))
    by_cases h37 : c0 = 37
    · subst h37
      go_enter Tryd.func53, Tryd.ntmps53
      go_wp2
      go_ret2
      exact encPost_none HT.out rfl 0 rfl
    · have hb : ((c0 : Int) != 37) = true := by rw [bne_iff_ne]; omega
      go_enter Tryd.func53, Tryd.ntmps53
      go_wp2
      go_ret2
      exact encPost_none HT.out rfl 0 rfl

end Go.Proofs.YtaojjkknmaldiaaDoor
