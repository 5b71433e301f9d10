/-
  Layer 8: a slice of prefixes that came in, opened to its cells.
-/
import Derived.Test.YthdcldkcmnpkiaaGreatDoorTriR
import Derived.Deep.Slices
import Derived.Deep.Fields
import Derived.ChangeSame
namespace Go.Proofs.YthdcldkcmnpkiaaGreatDoor
open Go.RowKit Go.ChangeShapes Go.WideShapes Go.Deep


theorem list_3 {α : Type} {l : List α} (h : l.length = 3) : ∃ a b c, l = [a, b, c] := by
  match l, h with
  | [a, b, c], _ => exact ⟨a, b, c, rfl⟩
theorem cells_pfx : Tryz.prog.cellsOf 24 = 3 := by kernel_rfl
theorem pfx_of {H : Type} {enc : TypeId × Value → H} {W : World} {sp : Nat → Bool} {n : Nat} {cs : List Value} {x : DataW H × List MemPlace} (hl : cs.length = 3) (h : DataW.trod enc Tryz.prog W 0 sp true n 24 cs = some x) :
    ∃ a b c : Int, cs = [.int .u64 a, .int .u64 b, .int .i64 c] ∧ (Lit.int .u64 a).wf = true ∧ (Lit.int .u64 b).wf = true ∧ (Lit.int .i64 c).wf = true := by
  obtain ⟨ys, n', _, _, _, hyl, hf⟩ := DataW.trod_struct Tryz.underlying24 h
  have k0 : Tryz.prog.cellsOf 22 = 1 := by kernel_rfl
  have k1 : Tryz.prog.cellsOf 3 = 1 := by kernel_rfl
  obtain ⟨c0, c1, c2, rfl⟩ := list_3 hl
  obtain ⟨y0, y1, y2, rfl⟩ := list_3 (show ys.length = 3 from hyl)
  have f0 : DataW.trod enc Tryz.prog W 0 sp true n' 22 [c0] = some y0 := by
    have q : DataW.trod enc Tryz.prog W 0 sp true n' 22 (([c0, c1, c2].drop 0).take (Tryz.prog.cellsOf 22)) = some y0 := hf 0 _ rfl
    rw [k0] at q; exact q
  have f1 : DataW.trod enc Tryz.prog W 0 sp true n' 22 [c1] = some y1 := by
    have q : DataW.trod enc Tryz.prog W 0 sp true n' 22 (([c0, c1, c2].drop 1).take (Tryz.prog.cellsOf 22)) = some y1 := hf 1 _ rfl
    rw [k0] at q; exact q
  have f2 : DataW.trod enc Tryz.prog W 0 sp true n' 3 [c2] = some y2 := by
    have q : DataW.trod enc Tryz.prog W 0 sp true n' 3 (([c0, c1, c2].drop 2).take (Tryz.prog.cellsOf 3)) = some y2 := hf 2 _ rfl
    rw [k1] at q; exact q
  obtain ⟨a, e0, _, w0⟩ := DataW.trod_int Tryz.underlying22 f0
  obtain ⟨b, e1, _, w1⟩ := DataW.trod_int Tryz.underlying22 f1
  obtain ⟨c, e2, _, w2⟩ := DataW.trod_int Tryz.underlying3 f2
  simp at e0 e1 e2
  subst e0 e1 e2
  exact ⟨a, b, c, rfl, w0, w1, w2⟩
theorem open_prow {H : Type} {enc : TypeId × Value → H} {W : World} {ao : Option Addr} {len cap : Nat} {d : DataW H} {ps : List MemPlace}
    (h : DataW.Trod enc Tryz.prog W 0 (fun _ => true) true 62 (.slice ao len cap) d ps) : ∃ zs, IsPRow W ao len cap zs := by
  obtain ⟨fuel, hf⟩ := h
  rcases open_slice Tryz.underlying62 hf with ⟨hcs, _⟩ | ⟨a, l, c, m, n, D, Pl, hcs, _, hl, _, hm, _, hi⟩
  · simp [Value.cells] at hcs
    obtain ⟨rfl, rfl, rfl⟩ := hcs
    exact ⟨[], rfl, fun j x h => by simp at h⟩
  · simp [Value.cells] at hcs
    obtain ⟨rfl, rfl, rfl⟩ := hcs
    have hel : ∀ i, i < len → ∃ x : Int × Int × Int, (W.cell? (a.add (i * 3)) = some (.int .u64 x.1) ∧ W.cell? (a.add (i * 3 + 1)) = some (.int .u64 x.2.1) ∧ W.cell? (a.add (i * 3 + 2)) = some (.int .i64 x.2.2)) ∧
        (Lit.int .u64 x.1).wf = true ∧ (Lit.int .u64 x.2.1).wf = true ∧ (Lit.int .i64 x.2.2).wf = true := fun i hi2 => by
      have hmi : i < m := by rw [hm]; simp; omega
      obtain ⟨cs', hc, ht⟩ := hi i hmi
      rw [cells_pfx] at hc
      obtain ⟨_, hcl, hat⟩ := World.cells?_some hc
      obtain ⟨x, y, z, rfl, w0, w1, w2⟩ := pfx_of hcl ht
      refine ⟨(x, y, z), ⟨?_, ?_, ?_⟩, w0, w1, w2⟩
      · have := hat 0 (by omega); rw [Go.Deep.add_add] at this; simpa using this
      · have := hat 1 (by omega); rw [Go.Deep.add_add] at this; simpa using this
      · have := hat 2 (by omega); rw [Go.Deep.add_add] at this; simpa using this
    refine ⟨(List.range len).map (fun i => if q : i < len then Classical.choose (hel i q) else (0, 0, 0)), by simp, fun j x hx => ?_⟩
    have hj : j < len := by
      have := (List.getElem?_eq_some_iff.1 hx).1
      simpa using this
    have hx' : x = Classical.choose (hel j hj) := by
      simp [hj] at hx
      exact hx.symm
    have sp := Classical.choose_spec (hel j hj)
    rw [← hx'] at sp
    exact ⟨⟨a, rfl, sp.1⟩, sp.2⟩
end Go.Proofs.YthdcldkcmnpkiaaGreatDoor
