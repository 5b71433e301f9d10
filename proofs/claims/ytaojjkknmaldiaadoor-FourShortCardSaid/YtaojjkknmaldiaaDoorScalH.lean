/-
  Layer 1: Text, the program's and the reference's, both tell the UTF-8 of the numbers, one behind the other.
-/
import Derived.Test.YtaojjkknmaldiaaDoorScalG
import Derived.Test.YtaojjkknmaldiaaDoorShelf
import Derived.OpenShut
namespace Go.Proofs.YtaojjkknmaldiaaDoor
open Go.RowKit


def textB (l : List Int) : List UInt8 := l.flatMap Lib.encodeRune

theorem encodeRune_le (r : Int) : (Lib.encodeRune r).length ≤ 4 := by
  simp only [Lib.encodeRune, List.length_map]; exact (Lib.encodeRuneZ_length r).2

theorem textB_snoc (l : List Int) (k : Nat) (h : k < l.length) : textB (l.take (k + 1)) = textB (l.take k) ++ Lib.encodeRune l[k] := by
  unfold textB
  rw [List.take_succ_eq_append_getElem h, List.flatMap_append]
  simp

theorem textB_take_le (l : List Int) : ∀ k, (textB (l.take k)).length ≤ 4 * k
  | 0 => by simp [textB]
  | k + 1 => by
    have ih := textB_take_le l k
    by_cases h : k < l.length
    · rw [textB_snoc l k h, List.length_append]; have := encodeRune_le l[k]; omega
    · rw [List.take_of_length_le (by omega)]; rw [List.take_of_length_le (by omega)] at ih; omega

/-- each number is an int32 -/
def Runes (l : List Int) : Prop := ∀ x ∈ l, -2147483648 ≤ x ∧ x ≤ 2147483647

set_option maxRecDepth 100000 in
set_option maxHeartbeats 1000000 in
theorem text_any (v : Value) (l : List Int) (w : World) (h : RowR w v (l.map (Value.int .i32))) (hl : l.length ≤ 268435456) (hw : Runes l) :
    Calls Tryd.prog 49 #[v] w fun e w' => e = .returned (.string ⟨(textB l).toArray⟩) ∧ Below w.heap.size w w' := by
  obtain ⟨ao, c, rfl, hc⟩ := h
  simp only [List.length_map]
  have HC := Lib.hid hc
  have HW := Lib.hid hw
  clear hc hw
  go_enter Tryd.func49, Tryd.ntmps49
  go_wp2
  go_loopw [3, 8] (fun v i wr => ∃ k : Nat, k ≤ l.length ∧ i = .int .i64 k ∧ wr.ownsRow w.heap.size 5 1 v (textB (l.take k)).length (Lib.byteCells (textB (l.take k))) ∧ Below w.heap.size w wr) (fun _ i _ => l.length - (intOf i).toNat)
  case atStart => exact ⟨0, Nat.zero_le _, rfl, World.ownsRow_nil _ _ _ _, Below.refl _ _⟩
  case round =>
    obtain ⟨k, hk, rfl, hown, hbw⟩ := hrel
    have hsz := hbw.size
    by_cases hlt : k < l.length
    · have htl := textB_take_le l k
      obtain ⟨x, hx⟩ : ∃ x, x = l[k] := ⟨_, rfl⟩
      obtain ⟨d1, rfl, hd1⟩ := HC.out k (.int .i32 x) (by simp [hx, hlt])
      have hd2 : wr.cell? (d1.add k) = some (.int .i32 x) := (hbw.cell (World.block_lt_of_cell? w _ hd1)).trans hd1
      have hxr := HW.out x (by rw [hx]; exact List.getElem_mem _)
      obtain ⟨hx0, hx1⟩ := hxr
      have hsn := textB_snoc l k hlt
      rw [← hx] at hsn
      have HSN := Lib.hid hsn
      clear hsn hx
      generalize hT : textB (l.take k) = T at *
      clear hT
      go_wp2_with (go_at_call 63; refine (Tryd.utf8_AppendRune_plain w.heap.size _ _ _ x hx0 hx1 wr hown (by omega) hsz).mono ?_)
      rintro e w1 ⟨v', rfl, hown1, o, hg⟩
      have hbw1 : Below w.heap.size w w1 := (hbw.alloc hsz o).grown hg (by simp; omega) (fun b hb => by have := hown.lt b hb; omega)
      clear hg hown
      go_wp2
      go_roundw
      case rel =>
        refine ⟨k + 1, by omega, by go_num, ?_, hbw1⟩
        rw [HSN.out, Lib.byteCells_append, Lib.byteCells_encodeRune, List.length_append]
        have e1 : (Lib.runeCells x).length = (Lib.encodeRune x).length := by rw [← Lib.byteCells_encodeRune, Lib.byteCells_length]
        rw [← e1]
        exact hown1
      case measure => simp [intOf]; omega
    · have hcv := conv_bytes (P := Tryd.prog) wr 56 9 5 _ (textB (l.take k)) (RowR.of_own (by rw [Lib.byteCells_length]; exact hown)) Tryd.underlying56 Tryd.underlying5 Tryd.underlying9
      have hfin : textB (l.take k) = textB l := by rw [List.take_of_length_le (by omega)]
      rw [hfin] at hcv
      have HF := Lib.hid hfin
      clear hfin
      go_wp2
      go_ret
      exact ⟨rfl, hbw⟩

theorem mk_append (x y : List UInt8) : (ByteArray.mk x.toArray ++ ByteArray.mk y.toArray) = ByteArray.mk (x ++ y).toArray := ByteArray.mk_append_mk x y

/-- a slice of integers that came in -/
def IsRow (k : IntKind) (w : World) (a : Option Addr) (len cap : Nat) (zs : List Int) : Prop :=
  (a = none ∧ len = 0 ∧ cap = 0 ∧ zs = []) ∨
  ∃ x, a = some x ∧ len ≤ cap ∧ cap ≤ maxLen ∧ zs.length = cap ∧ (∀ i, i < zs.length → w.cell? (x.add i) = some (.int k (zs.getD i 0))) ∧ ∀ n ∈ zs, (Lit.int k n).wf = true

theorem IsRow.len_eq {k : IntKind} {w : World} {a : Option Addr} {len cap : Nat} {zs : List Int} (h : IsRow k w a len cap zs) : (zs.take len).length = len := by
  rcases h with ⟨_, rfl, _, rfl⟩ | ⟨x, _, h1, _, h2, _⟩
  · rfl
  · rw [List.length_take]; omega

theorem IsRow.rowR {k : IntKind} {w : World} {a : Option Addr} {len cap : Nat} {zs : List Int} (h : IsRow k w a len cap zs) : RowR w (.slice a len cap) ((zs.take len).map (Value.int k)) := by
  have hl := h.len_eq
  refine ⟨a, cap, by rw [List.length_map, hl], fun j u hj => ?_⟩
  rcases h with ⟨_, rfl, _, rfl⟩ | ⟨x, rfl, h1, _, h2, h3, _⟩
  · simp at hj
  · refine ⟨x, rfl, ?_⟩
    have hlt : j < ((zs.take len).map (Value.int k)).length := (List.getElem?_eq_some_iff.1 hj).1
    rw [List.length_map, hl] at hlt
    rw [h3 j (by omega)]
    rw [List.getElem?_map, List.getElem?_take, if_pos hlt] at hj
    rw [← hj]
    simp [List.getD, List.getElem?_eq_getElem (show j < zs.length by omega)]

theorem IsRow.runes {w : World} {a : Option Addr} {len cap : Nat} {zs : List Int} (h : IsRow .i32 w a len cap zs) : Runes (zs.take len) := by
  rcases h with ⟨_, rfl, _, rfl⟩ | ⟨x, _, _, _, _, _, h4⟩
  · intro x hx; simp at hx
  · intro y hy
    exact bounds_i32 (h4 y (List.mem_of_mem_take hy))
end Go.Proofs.YtaojjkknmaldiaaDoor
