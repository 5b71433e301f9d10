/-
  Layer 5: a row of pieces, written.
-/
import Derived.Test.YtgmfgcpfpopboaaGreatDoorSixK
import Derived.Test.YtgmfgcpfpopboaaGreatDoorMgC
import Derived.Laws.MakeOwn
namespace Go.Proofs.YtgmfgcpfpopboaaGreatDoor
open Go.RowKit


def hexI (x : Int) : List UInt8 := hexD x.toNat
def joinH (l : List Int) : List UInt8 := Lib.join (l.map hexI) [58]

theorem hexD_len (u : Nat) (h : u < 65536) : (hexD u).length ≤ 4 := by
  by_cases h1 : u < 16
  · rw [hexD_lo u h1]; simp
  · rw [hexD_hi u (by omega), List.length_append, List.length_singleton]
    by_cases h2 : u / 16 < 16
    · rw [hexD_lo _ h2]; simp
    · rw [hexD_hi _ (by omega), List.length_append, List.length_singleton]
      by_cases h3 : u / 16 / 16 < 16
      · rw [hexD_lo _ h3]; simp
      · rw [hexD_hi _ (by omega), List.length_append, List.length_singleton, hexD_lo _ (by omega)]; simp
theorem hexI_len {x : Int} (h : 0 ≤ x ∧ x ≤ 65535) : (hexI x).length ≤ 4 := hexD_len _ (by omega)
theorem join_len (sep : List UInt8) (hs : sep.length = 1) (ps : List (List UInt8)) (h : ∀ p ∈ ps, p.length ≤ 4) : (Lib.join ps sep).length ≤ 5 * ps.length := by
  induction ps with
  | nil => simp [Lib.join]
  | cons p r ih =>
    have h1 := h p (by simp)
    have h2 := ih fun q hq => h q (by simp [hq])
    cases r with
    | nil => simp [Lib.join]; omega
    | cons q r =>
      have e : Lib.join (p :: q :: r) sep = p ++ sep ++ Lib.join (q :: r) sep := by simp [Lib.join, List.intercalate]
      rw [e, List.length_append, List.length_append, List.length_cons, hs]
      omega
theorem joinH_len {l : List Int} (h : In16 l) : (joinH l).length ≤ 5 * l.length := by
  have := join_len [58] rfl (l.map hexI) (fun p hp => by
    obtain ⟨x, hx, rfl⟩ := List.mem_map.1 hp
    exact hexI_len (h x hx))
  rwa [List.length_map] at this

theorem rowV_put {w : World} {g : Nat} {t : TypeId} {a r : List Value} {y : Value} (x : Value) (h : w.heap[g]? = some (.cells (a ++ y :: r).toArray t (0, 0))) :
    (w.setCell ⟨g, a.length, none⟩ x).heap[g]? = some (.cells (a ++ x :: r).toArray t (0, 0)) := by
  have e : ((a ++ y :: r).toArray).setIfInBounds a.length x = (a ++ x :: r).toArray := by
    apply Array.ext'
    simp
  rw [← e]
  simp [World.setCell, Array.getElem?_modify, h]
theorem madeCells_str (n : Nat) : madeCells (Value.string ⟨#[]⟩).cells n = (List.replicate n (Value.string ⟨#[]⟩)).toArray := by
  unfold madeCells
  have e : (Value.string ⟨#[]⟩).cells = #[.string ⟨#[]⟩] := rfl
  rw [e]
  apply Array.ext'
  simp only [Array.toList_map]
  apply List.ext_getElem
  · simp
  · intro i h1 h2
    simp [Nat.mod_one]
theorem makeStr (n : Nat) (hn : n ≤ 1073741824) (W : World) : (Instr.makeSlice 49 (.int .i64 (n : Int)) (.int .i64 (n : Int))).run Tryz.prog W = .ok (.slice (some ⟨W.heap.size, 0, none⟩) n n) (W.alloc (.cells (List.replicate n (Value.string ⟨#[]⟩)).toArray 9)) := by
  obtain ⟨i0, hi, hz0, hz1, hz2⟩ := info_parts Tryz.infoStr
  rw [run_make W 49 9 i0 (.string ⟨#[]⟩) Tryz.underlying49 hi hz0 .i64 .i64 n n (by omega) (by omega) (by rw [hz2]; omega) (by omega), hz1, Int.toNat_natCast, Nat.mul_one, madeCells_str]

/-- the slice's cells are these numbers -/
def SliceIs (w : World) (ao : Option Addr) (k : IntKind) (l : List Int) : Prop := ∀ j, j < l.length → ∃ g o, ao = some ⟨g, o, none⟩ ∧ w.cell? ⟨g, o + j, none⟩ = some (.int k (l.getD j 0))
theorem SliceIs.below {w w' : World} {ao : Option Addr} {k : IntKind} {l : List Int} (h : SliceIs w ao k l) (hb : Below w.heap.size w w') : SliceIs w' ao k l := fun j hj => by
  obtain ⟨g, o, h1, h2⟩ := h j hj
  exact ⟨g, o, h1, (hb.cell (World.block_lt_of_cell? w _ h2)).trans h2⟩

theorem fillS_step (T : List Int) (k : Nat) (hk : k < T.length) (r : List Value) : (T.take (k + 1)).map (fun x => strC (hexI x)) ++ r = (T.take k).map (fun x => strC (hexI x)) ++ strC (hexI (T.getD k 0)) :: r := by
  rw [List.take_succ_eq_append_getElem hk, List.getD, List.getElem?_eq_getElem hk, List.map_append, List.append_assoc]
  rfl

set_option maxRecDepth 100000 in
set_option maxHeartbeats 4000000 in
theorem writeRow_any (ao : Option Addr) (c : Nat) (l : List Int) (w : World) (hsl : SliceIs w ao .u16 l) (hin : In16 l) (hlen : l.length ≤ 1000) (htab : BruTab w) :
    Calls Tryz.prog 58 #[.slice ao l.length c] w (RetStr w (joinH l)) := by
  have HSL := Lib.hid hsl
  have HIN := Lib.hid hin
  have HT := Lib.hid htab
  clear hsl hin htab
  have hmk := makeStr l.length (by omega)
  have HB0 : Hid ((w.alloc (.cells (List.replicate l.length (Value.string ⟨#[]⟩)).toArray 9)).heap[w.heap.size]? = some (.cells ((l.take 0).map (fun x => strC (hexI x)) ++ List.replicate (l.length - 0) (Value.string ⟨#[]⟩)).toArray 9 (0, 0))) := by
    show _ = _
    simpa using heap_alloc_new w (.cells (List.replicate l.length (Value.string ⟨#[]⟩)).toArray 9)
  have hbA : Below w.heap.size w (w.alloc (.cells (List.replicate l.length (Value.string ⟨#[]⟩)).toArray 9)) := (Below.refl _ w).alloc (Nat.le_refl _) _
  go_enter Tryz.func58, Tryz.ntmps58
  go_wp2
  clear hmk
  go_loopw [11] (fun i wr => ∃ k : Nat, k ≤ l.length ∧ i = .int .i64 k ∧ Hid (wr.heap[w.heap.size]? = some (.cells ((l.take k).map (fun x => strC (hexI x)) ++ List.replicate (l.length - k) (Value.string ⟨#[]⟩)).toArray 9 (0, 0))) ∧ Below w.heap.size w wr ∧ w.heap.size < wr.heap.size) (fun i _ => l.length - (intOf i).toNat)
  case atStart => exact ⟨0, by omega, rfl, HB0, hbA, by simp⟩
  case round =>
    obtain ⟨k, hk, rfl, HA, hbw, hsz⟩ := hrel
    by_cases hkl : k < l.length
    · obtain ⟨g, o, rfl, hc⟩ := HSL.out k hkl
      have hcx : wr.cell? ⟨g, o + k, none⟩ = some (.int .u16 (l.getD k 0)) := (hbw.cell (World.block_lt_of_cell? w _ hc)).trans hc
      have hput0 : ∀ W : World, W.heap[w.heap.size]? = some (.cells ((l.take k).map (fun x => strC (hexI x)) ++ List.replicate (l.length - k) (Value.string ⟨#[]⟩)).toArray 9 (0, 0)) →
          (W.setCell ⟨w.heap.size, k, none⟩ (strC (hexI (l.getD k 0)))).heap[w.heap.size]? = some (.cells ((l.take (k + 1)).map (fun x => strC (hexI x)) ++ List.replicate (l.length - (k + 1)) (Value.string ⟨#[]⟩)).toArray 9 (0, 0)) := fun W hW => by
        have h2 := rowV_put (a := (l.take k).map (fun x => strC (hexI x))) (r := List.replicate (l.length - (k + 1)) (Value.string ⟨#[]⟩)) (strC (hexI (l.getD k 0))) (show W.heap[w.heap.size]? = some (.cells ((l.take k).map (fun x => strC (hexI x)) ++ (Value.string ⟨#[]⟩) :: List.replicate (l.length - (k + 1)) (Value.string ⟨#[]⟩)).toArray 9 (0, 0)) from by
          rwa [show l.length - k = (l.length - (k + 1)) + 1 from by omega, List.replicate_succ] at hW)
        rwa [← fillS_step l k hkl, List.length_map, List.length_take, show min k l.length = k from by omega] at h2
      have HPUT := Lib.hid hput0
      have hxb := HIN.out.getD k
      have hold : ∃ old, wr.cell? ⟨w.heap.size, k, none⟩ = some old := by
        rw [cell_of_row wr _ k _ _ _ HA.out]
        exact ⟨_, Array.getElem?_eq_getElem (by simp; omega)⟩
      obtain ⟨old, hold⟩ := hold
      have HOLD := Lib.hid hold
      have HFZ := Lib.hid (row_frozen0 HA.out k)
      clear hc hput0 hold
      obtain ⟨x, hx⟩ : ∃ x, l.getD k 0 = x := ⟨_, rfl⟩
      rw [hx] at hcx hxb HPUT
      obtain ⟨hx0, hx1⟩ := hxb
      obtain ⟨u, rfl⟩ : ∃ u : Nat, x = (u : Int) := ⟨x.toNat, by omega⟩
      clear hx
      go_wp2_with fail
      refine (fmtD16_any u (by omega) _ (bruTab_below HT.out hbw)).mono ?_
      rintro e w2 ⟨rfl, hb2⟩
      have hA2 : w2.heap[w.heap.size]? = _ := (hb2.block w.heap.size hsz).trans HA.out
      have HA3 := Lib.hid (HPUT.out w2 hA2)
      have hc2 : w2.cell? ⟨w.heap.size, k, none⟩ = some old := (hb2.cell (p := ⟨w.heap.size, k, none⟩) hsz).trans HOLD.out
      have hf2 : w2.frozen? ⟨w.heap.size, k, none⟩ = false := (hb2.frozen (p := ⟨w.heap.size, k, none⟩) hsz).trans HFZ.out
      have hbw2 : Below w.heap.size w (w2.setCell ⟨w.heap.size, k, none⟩ (strC (hexI (u : Int)))) := (hbw.trans (hb2.mono hbw.size)).setCell (Nat.le_refl _) _
      have hsz2 : w.heap.size < (w2.setCell ⟨w.heap.size, k, none⟩ (strC (hexI (u : Int)))).heap.size := by simp [World.setCell]; exact Nat.lt_of_lt_of_le hsz hb2.size
      clear hA2 hb2
      go_wp2
      go_roundw
      case rel => exact ⟨k + 1, by omega, by go_num, HA3, hbw2, hsz2⟩
      case measure => simp [intOf]; omega
    · obtain rfl : k = l.length := by omega
      have HXS : Hid (∀ (j : Nat) x, (l.map (fun x => ByteArray.mk (hexI x).toArray))[j]? = some x → wr.cell? ⟨w.heap.size, 0 + j, none⟩ = some (.string x)) := fun j x hj => by
        rw [Nat.zero_add, cell_of_row wr _ j _ _ _ HA.out]
        rw [List.take_of_length_le (Nat.le_refl _), Nat.sub_self, List.replicate_zero, List.append_nil]
        rw [List.getElem?_map] at hj
        simp only [Option.map_eq_some_iff] at hj
        obtain ⟨y, hy, rfl⟩ := hj
        simp [hy, strC]
      have hjl := joinH_len HIN.out
      have hmap : (l.map (fun x => ByteArray.mk (hexI x).toArray)).map (fun x => x.data.toList) = l.map hexI := by simp [Function.comp_def]
      have HMAP := Lib.hid hmap
      have hll : (l.map (fun x => ByteArray.mk (hexI x).toArray)).length = l.length := by simp
      have HLL := Lib.hid hll
      clear hmap hll
      have hjoin := Tryz.strings_Join w.heap.size 0 l.length (l.map (fun x => ByteArray.mk (hexI x).toArray)) ⟨#[58]⟩ wr HXS.out hsz (by rw [HLL.out]; omega) (by rw [HLL.out]; exact Nat.le_refl _) (by rw [HMAP.out]; exact Nat.le_trans hjl (by omega))
      rw [HMAP.out, HLL.out] at hjoin
      have HJ := Lib.hid hjoin
      clear hjoin
      go_wp2_with fail
      refine HJ.out.mono ?_
      rintro e w3 ⟨rfl, hb3⟩
      go_wp2
      go_ret
      exact ⟨rfl, hbw.trans (hb3.mono hbw.size)⟩
end Go.Proofs.YtgmfgcpfpopboaaGreatDoor
