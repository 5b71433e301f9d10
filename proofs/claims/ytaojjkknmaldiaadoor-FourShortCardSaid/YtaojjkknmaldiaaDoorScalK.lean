/-
  Layer 1: Has, and Split, the program's and the reference's.
-/
import Derived.Test.YtaojjkknmaldiaaDoorScalJ
import Derived.WalkSpells
namespace Go.Proofs.YtaojjkknmaldiaaDoor
open Go.RowKit


theorem Tryd.infoStr : (Tryd.prog.info? 9).map (fun i => (i.zero, i.size, i.bytes)) = some (some (.string ⟨#[]⟩), 1, 16) := by kernel_rfl

def hasB (l : List UInt8) (c : UInt8) : Bool := l.any (· == c)

theorem hasB_index (l : List UInt8) (c : UInt8) : (hasB l c = true → 0 ≤ Lib.indexByte l c) ∧ (hasB l c = false → Lib.indexByte l c = -1) := by
  induction l with
  | nil => simp [hasB, Lib.indexByte]
  | cons b l ih =>
    have hge := Lib.indexByte_ge l c
    by_cases e : b == c
    · simp [hasB, Lib.indexByte, e]
    · have e' : (b == c) = false := by simpa using e
      have h1 : hasB (b :: l) c = hasB l c := by simp [hasB, e']
      simp only [Lib.indexByte, e', h1, Bool.false_eq_true, if_false]
      refine ⟨fun h => ?_, fun h => ?_⟩
      · have h2 := ih.1 h
        rw [if_neg (by simp; omega)]
        omega
      · have h2 := ih.2 h
        rw [if_pos (by simp [h2])]

theorem u8_back (c : UInt8) : ((c.toNat : Int).toNat).toUInt8 = c := by
  simp

theorem ib_yes (s : ByteArray) (c : UInt8) (w : World) (h : hasB s.data.toList c = true) :
    Calls Tryd.prog 34 #[.string s, .int .u8 (c.toNat : Int)] w fun e w' => ∃ x : Int, e = .returned (.int .i64 x) ∧ 0 ≤ x ∧ w = w' := by
  refine (Tryd.strings_IndexByte s _ w).mono ?_
  rintro e w' ⟨rfl, rfl⟩
  rw [u8_back]
  exact ⟨_, rfl, (hasB_index _ _).1 h, rfl⟩
theorem ib_no (s : ByteArray) (c : UInt8) (w : World) (h : hasB s.data.toList c = false) :
    Calls Tryd.prog 34 #[.string s, .int .u8 (c.toNat : Int)] w fun e w' => e = .returned (.int .i64 (-1)) ∧ w = w' := by
  refine (Tryd.strings_IndexByte s _ w).mono ?_
  rintro e w' ⟨rfl, rfl⟩
  rw [u8_back, (hasB_index _ _).2 h]
  exact ⟨rfl, rfl⟩

theorem hasB_yes (s : ByteArray) (c : UInt8) (k : Nat) (h : k < s.size) (e : s[k].toNat = c.toNat) : hasB s.data.toList c = true := by
  unfold hasB
  rw [List.any_eq_true]
  refine ⟨s[k], ?_, by simpa using UInt8.toNat_inj.1 e⟩
  show s.data[k] ∈ _
  simp
theorem hasB_no (s : ByteArray) (c : UInt8) (h : ∀ k (h : k < s.size), s[k].toNat ≠ c.toNat) : hasB s.data.toList c = false := by
  unfold hasB
  rw [List.any_eq_false]
  intro x hx
  obtain ⟨k, hk, rfl⟩ := List.getElem_of_mem hx
  have := h k (by simpa using hk)
  intro e
  have e' : s.data[k] = c := by simpa using e
  exact this (congrArg UInt8.toNat e')

theorem slice_str {P : Program} (w : World) (t : TypeId) (s : ByteArray) (i j : Int) (a b : Nat) (hi : i = a) (hj : j = b) (hab : a ≤ b) (hb : b ≤ s.size) (h : P.underlying t = some .string) :
    (Instr.slice t (.string s) (some (.int .i64 i)) (some (.int .i64 j)) none).run P w = .ok (.string (s.extract a b)) w := by
  subst hi hj
  rw [run_slice_string_if w t s .i64 .i64 _ _ h, if_pos (by omega), if_pos (by omega)]
  simp

/-- the parts so far, and the part that is under way -/
def splStep (p : UInt8 → Bool) (st : List (List UInt8) × List UInt8) (c : UInt8) : List (List UInt8) × List UInt8 :=
  if p c then (st.1 ++ [st.2], []) else (st.1, st.2 ++ [c])
def spl (p : UInt8 → Bool) (l : List UInt8) : List (List UInt8) × List UInt8 := l.foldl (splStep p) ([], [])
def splitB (p : UInt8 → Bool) (l : List UInt8) : List (List UInt8) := (spl p l).1 ++ [(spl p l).2]

def strC (l : List UInt8) : Value := .string ⟨l.toArray⟩
def strCs (l : List (List UInt8)) : List Value := l.map strC

theorem spl_yes (p : UInt8 → Bool) (s : ByteArray) (k : Nat) (h : k < s.size) (hp : p s[k] = true) : spl p (s.data.toList.take (k + 1)) = ((spl p (s.data.toList.take k)).1 ++ [(spl p (s.data.toList.take k)).2], []) := by
  rw [take_bytes s k h]
  simp [spl, splStep, hp]
theorem spl_no (p : UInt8 → Bool) (s : ByteArray) (k : Nat) (h : k < s.size) (hp : p s[k] = false) : spl p (s.data.toList.take (k + 1)) = ((spl p (s.data.toList.take k)).1, (spl p (s.data.toList.take k)).2 ++ [s[k]]) := by
  rw [take_bytes s k h]
  simp [spl, splStep, hp]

theorem extract_eq (s : ByteArray) (a b : Nat) (l : List UInt8) (h : (s.data.toList.drop a).take (b - a) = l) : s.extract a b = ⟨l.toArray⟩ := by
  apply ByteArray.ext
  apply Array.ext'
  rw [Lib.extract_data, h]

theorem cut_snoc (s : ByteArray) (a k : Nat) (ha : a ≤ k) (h : k < s.size) : (s.data.toList.drop a).take (k + 1 - a) = (s.data.toList.drop a).take (k - a) ++ [s[k]] := by
  rw [show k + 1 - a = (k - a) + 1 from by omega, List.take_succ_eq_append_getElem (by simp; omega)]
  congr 2
  rw [List.getElem_drop]
  have : a + (k - a) = k := by omega
  simp only [this]
  rfl

def Parts (B : Nat) (w : World) (v : Value) (ps : List (List UInt8)) : Prop := w.ownsRow B 9 1 v ps.length (strCs ps)
theorem Parts.nil (B : Nat) (w : World) : Parts B w (.slice none 0 0) [] := World.ownsRow_nil _ _ _ _
theorem Parts.snoc {B : Nat} {w : World} {v : Value} {ps : List (List UInt8)} {x : ByteArray} {l : List UInt8} (h : w.ownsRow B 9 1 v (ps.length + 1) (strCs ps ++ [.string x])) (hx : x = ⟨l.toArray⟩) : Parts B w v (ps ++ [l]) := by
  unfold Parts strCs
  rw [List.map_append, List.length_append]
  subst hx
  exact h

def RetParts (B : Nat) (ps : List (List UInt8)) (w : World) (e : Ending) (w' : World) : Prop := ∃ v, e = .returned v ∧ Parts B w' v ps ∧ Below B w w'

set_option maxRecDepth 100000 in
set_option maxHeartbeats 1000000 in
theorem split_any (s at_ : ByteArray) (w : World) (hs : s.size ≤ 1073741824) :
    Calls Tryd.prog 25 #[.string s, .string at_] w (RetParts w.heap.size (splitB (hasB at_.data.toList) s.data.toList) w) := by
  obtain ⟨i0, hi, hz0, hz1, hz2⟩ := info_parts Tryd.infoStr
  go_enter Tryd.func25, Tryd.ntmps25
  go_wp2
  go_loopw [5, 6, 10] (fun v fr i wr => ∃ (k a : Nat) (ps : List (List UInt8)), k ≤ s.size ∧ a ≤ k ∧ i = .int .i64 k ∧ fr = .int .i64 a ∧ Parts w.heap.size wr v ps ∧ ps.length ≤ k ∧ Hid (spl (hasB at_.data.toList) (s.data.toList.take k) = (ps, (s.data.toList.drop a).take (k - a))) ∧ Below w.heap.size w wr) (fun _ _ i _ => s.size - (intOf i).toNat)
  case atStart => exact ⟨0, 0, [], Nat.zero_le _, Nat.zero_le _, rfl, rfl, Parts.nil _ _, by simp, rfl, Below.refl _ _⟩
  case round =>
    obtain ⟨k, a, ps, hk, ha, rfl, rfl, hown, hpl, HS, hbw⟩ := hrel
    have hsz := hbw.size
    unfold Parts at hown
    by_cases hlt : k < s.size
    · by_cases hp : hasB at_.data.toList s[k] = true
      · have hsn := spl_yes (hasB at_.data.toList) s k hlt hp
        rw [HS.out] at hsn
        have HSN := Lib.hid hsn
        have HP := Lib.hid hp
        clear hsn hp
        go_wp2_with (first | (go_at_call 34; refine (ib_yes _ _ _ HP.out).mono ?_; rintro e w' ⟨x, rfl, hx, rfl⟩) | (at_builtin; refine wp_append1 _ rfl _ _ 43 rfl w.heap.size 9 i0 (.string ⟨#[]⟩) 16 Tryd.underlying43 hi hz0 hz1 hz2 rfl _ _ _ rfl hown (.string (s.extract a k)) rfl rfl (by omega) (by omega) hsz ?_; intro v' w1 hown' hk'))
        go_roundw
        case rel =>
          refine ⟨k + 1, k + 1, ps ++ [(s.data.toList.drop a).take (k - a)], by omega, by omega, by go_num, by go_num, Parts.snoc hown' (extract_eq s a k _ rfl), by simp; omega, ?_, hbw.trans hk'⟩
          show _ = _
          rw [HSN.out, Nat.sub_self, List.take_zero]
        case measure => simp [intOf]; omega
      · have hp' : hasB at_.data.toList s[k] = false := by simpa using hp
        have hsn := spl_no (hasB at_.data.toList) s k hlt hp'
        rw [HS.out] at hsn
        have HSN := Lib.hid hsn
        have HP := Lib.hid hp'
        clear hsn hp hp'
        go_wp2_with (go_at_call 34; refine (ib_no _ _ _ HP.out).mono ?_; rintro e w' ⟨rfl, rfl⟩)
        go_roundw
        case rel =>
          refine ⟨k + 1, a, ps, by omega, by omega, by go_num, rfl, hown, by omega, ?_, hbw⟩
          show _ = _
          rw [HSN.out, cut_snoc s a k ha hlt]
        case measure => simp [intOf]; omega
    · obtain rfl : k = s.size := by omega
      have hfin : splitB (hasB at_.data.toList) s.data.toList = ps ++ [(s.data.toList.drop a).take (s.size - a)] := by
        have := HS.out
        rw [take_all s s.size hlt] at this
        unfold splitB
        rw [this]
      have HF := Lib.hid hfin
      clear hfin
      go_wp2_with (at_builtin; refine wp_append1 _ rfl _ _ 43 rfl w.heap.size 9 i0 (.string ⟨#[]⟩) 16 Tryd.underlying43 hi hz0 hz1 hz2 rfl _ _ _ rfl hown (.string (s.extract a s.size)) rfl rfl (by omega) (by omega) hsz ?_; intro v' w1 hown' hk')
      go_ret
      exact ⟨v', rfl, by rw [HF.out]; exact Parts.snoc hown' (extract_eq s a s.size _ rfl), hbw.trans hk'⟩

theorem append_one (T : List UInt8) (s : ByteArray) (k : Nat) (h : k < s.size) : (ByteArray.mk T.toArray ++ s.extract k (k + 1)) = ByteArray.mk (T ++ [s[k]]).toArray := by
  have e : s.extract k (k + 1) = ⟨[s[k]].toArray⟩ := by
    refine extract_eq s k (k + 1) [s[k]] ?_
    have := cut_snoc s k k (Nat.le_refl _) h
    rw [this]; simp
  rw [e, mk_append]

end Go.Proofs.YtaojjkknmaldiaaDoor
