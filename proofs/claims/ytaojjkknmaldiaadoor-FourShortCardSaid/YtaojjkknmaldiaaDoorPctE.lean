/-
  Layer 2: Encode, the program's and the reference's.
-/
import Derived.Test.YtaojjkknmaldiaaDoorPctD
namespace Go.Proofs.YtaojjkknmaldiaaDoor
open Go.RowKit


def pctL (l : List UInt8) : List UInt8 := l.flatMap pctB
def encP (s r : Int) : List UInt8 := if inB s r = true then pctL (Lib.encodeRune r) else Lib.encodeRune r
def encB (s : Int) (l : List Int) : List UInt8 := l.flatMap (encP s)

theorem pctL_len (l : List UInt8) : (pctL l).length = 3 * l.length := by
  induction l with
  | nil => rfl
  | cons c l ih => simp only [pctL, List.flatMap_cons, List.length_append] at ih ⊢; rw [ih]; simp [pctB]; omega
theorem encP_len (s r : Int) : (encP s r).length ≤ 12 := by
  have := encodeRune_le r
  unfold encP
  split
  · rw [pctL_len]; omega
  · omega
theorem pctL_snoc (l : List UInt8) (k : Nat) (h : k < l.length) : pctL (l.take (k + 1)) = pctL (l.take k) ++ pctB l[k] := by
  unfold pctL
  rw [List.take_succ_eq_append_getElem h, List.flatMap_append]
  simp
theorem encB_cons (s r : Int) (l : List Int) : encB s (r :: l) = encP s r ++ encB s l := by simp [encB]
theorem encB_snoc (s : Int) (l : List Int) (k : Nat) (h : k < l.length) : encB s (l.take (k + 1)) = encB s (l.take k) ++ encP s l[k] := by
  unfold encB
  rw [List.take_succ_eq_append_getElem h, List.flatMap_append]
  simp
theorem encB_take_le (s : Int) (l : List Int) : ∀ k, (encB s (l.take k)).length ≤ 12 * k
  | 0 => by simp [encB]
  | k + 1 => by
    have ih := encB_take_le s l k
    by_cases h : k < l.length
    · rw [encB_snoc s l k h, List.length_append]; have := encP_len s l[k]; omega
    · rw [List.take_of_length_le (by omega)]; rw [List.take_of_length_le (by omega)] at ih; omega

theorem isb_below {T e : TypeId} {B b : Nat} {bs : List Value} {w w' : World} (h : Lib.IsBuilderF T e B b bs w) (hb : Below w.heap.size w w') : Lib.IsBuilderF T e B b bs w' := by
  have key : ∀ p, Lib.BuilderAtF T e B b p bs w → Lib.BuilderAtF T e B b p bs w' := by
    intro p hh
    obtain ⟨hB, v, hv, hown, hne⟩ := hh
    refine ⟨hB, v, (hb.block b (Array.getElem?_eq_some_iff.1 hv).1).trans hv, ⟨hown.1, ?_⟩, hne⟩
    rcases hown.2 with hn | ⟨g, cap, cur, fz, hv2, hbg, hg, rest⟩
    · exact .inl hn
    · exact .inr ⟨g, cap, cur, fz, hv2, hbg, (hb.block g (Array.getElem?_eq_some_iff.1 hg).1).trans hg, rest⟩
  exact h.elim (fun x => .inl (key _ x)) (fun x => .inr (key _ x))

theorem row_one (w : World) (r : Int) (t : TypeId) : RowR (w.alloc (.cells #[.int .i32 r] t)) (.slice (some ⟨w.heap.size, 0, none⟩) 1 1) ([r].map (Value.int .i32)) := by
  refine ⟨_, 1, rfl, fun j u hj => ⟨_, rfl, ?_⟩⟩
  exact one_new w (.int .i32 r) t j u hj

theorem strCells_mk (l : List UInt8) : Lib.strCells ⟨l.toArray⟩ = Lib.byteCells l := rfl

theorem byte_at_mk (l : List UInt8) (k : Nat) (h : k < (ByteArray.mk l.toArray).size) : (ByteArray.mk l.toArray)[k] = l[k]'(by simpa [ByteArray.size] using h) := rfl

set_option maxRecDepth 100000 in
set_option maxHeartbeats 4000000 in
theorem encode_any (st : Int) (s : ByteArray) (w : World) (hst : 0 ≤ st) (hs : s.size ≤ 67108864) :
    Calls Tryd.prog 37 #[.int .u8 st, .string s] w fun e w' => e = .returned (.string ⟨(encB st (scal s)).toArray⟩) ∧ Below w.heap.size w w' := by
  go_enter Tryd.func37, Tryd.ntmps37
  go_wp2
  go_loopw [] (fun wr => ∃ (pos fuel : Nat) (acc : List UInt8), Lib.IsBuilderF 72 5 w.heap.size w.heap.size (Lib.byteCells acc) wr ∧ wr.heap[w.heap.size + 1]? = some (.stringIter s pos) ∧ Below w.heap.size w wr ∧ Hid (acc ++ encB st (scalF s fuel pos) = encB st (scal s)) ∧ s.size ≤ pos + fuel ∧ acc.length ≤ 12 * pos ∧ pos ≤ s.size + 4) (fun wr => s.size - wr.iterPos (w.heap.size + 1))
  case atStart =>
    refine ⟨0, s.size, [], (Lib.IsBuilderF.of (Lib.fresh_isBuilder _ _ w)).alloc _, ?_, ((Below.refl _ w).alloc (Nat.le_refl _) _).alloc (by simp) _, rfl, by omega, by simp, by omega⟩
    have := World.iter_heap (w.alloc (.cells #[.pointer none, .slice none 0 0] 72)) s 0
    simpa using this
  case round =>
    obtain ⟨pos, fuel, acc, hI, hit, hbw, HA, hfu, hal, hpo⟩ := hrel
    have hsz : w.heap.size + 1 < wr.heap.size := (Array.getElem?_eq_some_iff.1 hit).1
    by_cases hp : pos < s.size
    · have hnx : ∀ ty, (Instr.next (.pointer (some ⟨w.heap.size + 1, 0, none⟩)) true ty).run Tryd.prog wr = _ := fun ty => Lib.run_next_any_at wr (w.heap.size + 1) s pos ty hit hp
      have hwd := width_pos s pos hp
      have hwl := width_le s pos
      have hd1 := decode_le s pos
      have hI2 := hI.iterAt hit (pos + (Utf8.decode s pos).2)
      have hit2 := Lib.iterAt_heap wr (w.heap.size + 1) s pos (pos + (Utf8.decode s pos).2) hit
      have hbw2 := Lib.below_iterAt hbw (k := w.heap.size + 1) (by omega) s (pos + (Utf8.decode s pos).2)
      have hsz2 : w.heap.size + 1 < (wr.iterAt (w.heap.size + 1) s (pos + (Utf8.decode s pos).2)).heap.size := by rw [Lib.iterAt_size]; omega
      obtain ⟨f, rfl⟩ : ∃ f, fuel = f + 1 := ⟨fuel - 1, by omega⟩
      have hA2 := HA.out
      rw [scalF_step s f pos hp, encB_cons] at hA2
      have HA2 := Lib.hid hA2
      clear hA2
      generalize wr.iterAt (w.heap.size + 1) s (pos + (Utf8.decode s pos).2) = wi at *
      generalize hr : ((Utf8.decode s pos).1 : Int) = r at *
      have hr0 : 0 ≤ r := by omega
      have hr1 : r ≤ 2147483647 := by omega
      have HWP : Hid (wr.iterPos (w.heap.size + 1) = pos) := by
        show wr.iterPos (w.heap.size + 1) = pos
        simp only [World.iterPos, hit]
      clear hr
      have hel := encodeRune_le r
      cases hin : inB st r with
      | false =>
        have hep : encP st r = Lib.encodeRune r := by unfold encP; rw [hin]; rfl
        have HEP := Lib.hid hep
        clear hep
        go_wp2_with fail
        refine (in_any st r _ hst).mono ?_
        rintro e w' ⟨rfl, rfl⟩
        rw [hin]
        go_wp2_with fail
        refine (Tryd.Builder_WriteRune_k w.heap.size w.heap.size _ r (by omega) hr1 _ hI2 (by rw [Lib.byteCells_length]; omega) (by omega)).mono ?_
        rintro e w1 ⟨rfl, h1, b1, k1⟩
        have hit3 := k1.iter hit2 (by omega)
        go_wp2
        go_roundw
        case rel =>
          refine ⟨pos + (Utf8.decode s pos).2, f, acc ++ Lib.encodeRune r, ?_, hit3, hbw2.trans b1, ?_, by omega, by simp; omega, by omega⟩
          · rw [Lib.byteCells_append, Lib.byteCells_encodeRune]; exact .inr h1
          · show (acc ++ Lib.encodeRune r) ++ _ = _
            rw [List.append_assoc, ← HEP.out]; exact HA2.out
        case measure =>
          rw [HWP.out]
          simp only [World.iterPos, hit3]
          omega
      | true =>
        have hep : encP st r = pctL (Lib.encodeRune r) := by unfold encP; rw [hin]; rfl
        have HEP := Lib.hid hep
        clear hep
        go_wp2_with fail
        refine (in_any st r _ hst).mono ?_
        rintro e w' ⟨rfl, rfl⟩
        rw [hin]
        have hrow := row_one wi r 21
        have hI3 := hI2.alloc (.cells #[.int .i32 r] 21)
        have hit3 : (wi.alloc (.cells #[.int .i32 r] 21)).heap[w.heap.size + 1]? = some (.stringIter s (pos + (Utf8.decode s pos).2)) := by rw [Below.heap_alloc _ _ _ (by omega)]; exact hit2
        have hbw3 := hbw2.alloc (by omega : w.heap.size ≤ wi.heap.size) (.cells #[.int .i32 r] 21)
        go_wp2_with fail
        refine (text_any _ [r] _ hrow (by simp) (by intro x hx; simp at hx; omega)).mono ?_
        rintro e w2 ⟨rfl, hb2⟩
        have hI4 := isb_below hI3 hb2
        have hit4 := (hb2.block (w.heap.size + 1) (by simp; omega)).trans hit3
        have hbw4 : Below w.heap.size w w2 := hbw3.trans (hb2.mono (by simp; omega))
        clear hI2 hI3 hit2 hit3 hbw2 hbw3 hrow hb2
        rw [show textB [r] = Lib.encodeRune r from by simp [textB]]
        generalize hE : Lib.encodeRune r = E at *
        have HE := Lib.hid hE
        clear hE
        go_wp2
        go_loopw [26] (fun i wq => ∃ j : Nat, j ≤ E.length ∧ i = .int .i64 j ∧ Lib.IsBuilderF 72 5 w.heap.size w.heap.size (Lib.byteCells (acc ++ pctL (E.take j))) wq ∧ wq.heap[w.heap.size + 1]? = some (.stringIter s (pos + (Utf8.decode s pos).2)) ∧ Below w.heap.size w wq) (fun i _ => E.length - (intOf i).toNat)
        case atStart =>
          refine ⟨0, Nat.zero_le _, rfl, ?_, hit4, hbw4⟩
          simpa [pctL] using hI4
        case round =>
          obtain ⟨j, hj, rfl, hIq, hitq, hbwq⟩ := hrel
          have hszq : w.heap.size + 1 < wr.heap.size := (Array.getElem?_eq_some_iff.1 hitq).1
          by_cases hjlt : j < E.length
          · have hjs : j < (ByteArray.mk E.toArray).size := by rw [size_mk]; exact hjlt
            have hsn := pctL_snoc E j hjlt
            have HSN := Lib.hid hsn
            have hpl : (pctL (E.take j)).length ≤ 12 := by rw [pctL_len, List.length_take]; omega
            clear hsn
            have hba := byte_at_mk E j hjs
            have HBA := Lib.hid hba
            clear hba
            go_wp2_with fail
            refine (byte_any (ByteArray.mk E.toArray)[j] _).mono ?_
            rintro e w3 ⟨rfl, hb3⟩
            have hI5 := isb_below hIq hb3
            have hit5 := (hb3.block (w.heap.size + 1) (by omega)).trans hitq
            have hbw5 : Below w.heap.size w w3 := hbwq.trans (hb3.mono (by omega))
            have hsz3 : w.heap.size ≤ w3.heap.size := hbw5.size
            go_wp2_with fail
            refine (Tryd.Builder_WriteString_k w.heap.size w.heap.size _ _ _ hI5 (by rw [Lib.byteCells_length, List.length_append, size_mk, show (pctB (ByteArray.mk E.toArray)[j]).length = 3 from rfl]; omega) hsz3).mono ?_
            rintro e w4 ⟨rfl, h4, b4, k4⟩
            have hit6 := k4.iter hit5 (by omega)
            go_wp2
            go_roundw
            case rel =>
              refine ⟨j + 1, by omega, by go_num, ?_, hit6, hbw5.trans b4⟩
              rw [HSN.out, ← List.append_assoc, Lib.byteCells_append, ← HBA.out, ← strCells_mk]
              exact .inr h4
            case measure => simp [intOf]; omega
          · have hfin : pctL (E.take j) = encP st r := by rw [List.take_of_length_le (by omega), HEP.out]
            rw [hfin] at hIq
            clear hfin
            have hpl := encP_len st r
            generalize encP st r = EP at *
            go_wp2
            go_roundw
            case rel =>
              refine ⟨pos + (Utf8.decode s pos).2, f, acc ++ EP, hIq, hitq, hbwq, ?_, by omega, by simp; omega, by omega⟩
              show (acc ++ EP) ++ _ = _
              rw [List.append_assoc]; exact HA2.out
            case measure =>
              simp only [World.iterPos, hitq]
              have := HWP.out
              simp only [World.iterPos] at this
              omega
    · have hnx : ∀ ty, (Instr.next (.pointer (some ⟨w.heap.size + 1, 0, none⟩)) true ty).run Tryd.prog wr = _ := fun ty => Lib.run_next_end_at wr (w.heap.size + 1) s pos ty hit hp
      have hfin : acc = encB st (scal s) := by
        have := HA.out
        rw [scalF_end s fuel pos hp] at this
        simpa [encB] using this
      subst hfin
      go_wp2_with fail
      refine (Tryd.Builder_String_any_k w.heap.size w.heap.size _ _ hI (by omega)).mono ?_
      rintro e w1 ⟨rfl, _, b1, _⟩
      go_wp2
      go_ret
      exact ⟨rfl, hbw.trans b1⟩
end Go.Proofs.YtaojjkknmaldiaaDoor
