/-
  Layer 8: a slice of acts that came in, opened to its cells.
-/
import Derived.Test.YthdcldkcmnpkiaaGreatDoorTriS
namespace Go.Proofs.YthdcldkcmnpkiaaGreatDoor
open Go.RowKit Go.ChangeShapes Go.WideShapes Go.Deep


/-- the slice holds these acts (any numbers of their kinds) -/
def IsARow (w : World) (a : Option Addr) (len _cap : Nat) (zs : List (Int × (Int × Int × Int) × Int)) : Prop :=
  zs.length = len ∧ ∀ (j : Nat) (x : Int × (Int × Int × Int) × Int), zs[j]? = some x → (∃ ad, a = some ad ∧ w.cell? (ad.add (j * 5)) = some (.int .u8 x.1) ∧ w.cell? (ad.add (j * 5 + 1)) = some (.int .u64 x.2.1.1) ∧ w.cell? (ad.add (j * 5 + 2)) = some (.int .u64 x.2.1.2.1) ∧ w.cell? (ad.add (j * 5 + 3)) = some (.int .i64 x.2.1.2.2) ∧ w.cell? (ad.add (j * 5 + 4)) = some (.int .i64 x.2.2)) ∧
    (Lit.int .u8 x.1).wf = true ∧ (Lit.int .u64 x.2.1.1).wf = true ∧ (Lit.int .u64 x.2.1.2.1).wf = true ∧ (Lit.int .i64 x.2.1.2.2).wf = true ∧ (Lit.int .i64 x.2.2).wf = true
theorem bounds_u8r {n : Int} (h : (Lit.int .u8 n).wf = true) : ∃ x : Nat, n = x ∧ x < 256 := by
  simp [Lit.wf, IntKind.min, IntKind.max, IntKind.bits, IntKind.signed] at h
  exact ⟨n.toNat, by omega, by omega⟩
theorem IsARow.at {w wr : World} {a : Option Addr} {len cap : Nat} {zs : List (Int × (Int × Int × Int) × Int)} (h : IsARow w a len cap zs) (hb : Below w.heap.size w wr) {j : Nat} (hj : j < zs.length) :
    ∃ (ad : Addr) (_ : a = some ad) (d qh ql : Nat) (qk v : Int), (wr.cell? (ad.add (j * 5)) = some (.int .u8 (d : Nat)) ∧ wr.cell? ⟨(ad.add (j * 5)).block, (ad.add (j * 5)).off + 1, none⟩ = some (.int .u64 (qh : Nat)) ∧ wr.cell? ⟨(ad.add (j * 5)).block, (ad.add (j * 5)).off + 2, none⟩ = some (.int .u64 (ql : Nat)) ∧ wr.cell? ⟨(ad.add (j * 5)).block, (ad.add (j * 5)).off + 3, none⟩ = some (.int .i64 qk) ∧ wr.cell? ⟨(ad.add (j * 5)).block, (ad.add (j * 5)).off + 4, none⟩ = some (.int .i64 v)) ∧ d < 256 ∧ qh < 18446744073709551616 ∧ ql < 18446744073709551616 ∧ (Lit.int .i64 v).wf = true := by
  obtain ⟨⟨ad, ha, c0, c1, c2, c3, c4⟩, w0, w1, w2, _, w4⟩ := h.2 j zs[j] (List.getElem?_eq_getElem hj)
  obtain ⟨d, e0, b0⟩ := bounds_u8r w0
  obtain ⟨qh, e1, b1⟩ := bounds_u64r w1
  obtain ⟨ql, e2, b2⟩ := bounds_u64r w2
  have kp : ∀ (p : Addr) (u : Value), w.cell? p = some u → wr.cell? p = some u := fun p u hp => (hb.cell (World.block_lt_of_cell? w p hp)).trans hp
  have s1 : ad.add (j * 5 + 1) = ⟨(ad.add (j * 5)).block, (ad.add (j * 5)).off + 1, none⟩ := by rw [← Go.Deep.add_add]; rfl
  have s2 : ad.add (j * 5 + 2) = ⟨(ad.add (j * 5)).block, (ad.add (j * 5)).off + 2, none⟩ := by rw [← Go.Deep.add_add]; rfl
  have s3 : ad.add (j * 5 + 3) = ⟨(ad.add (j * 5)).block, (ad.add (j * 5)).off + 3, none⟩ := by rw [← Go.Deep.add_add]; rfl
  have s4 : ad.add (j * 5 + 4) = ⟨(ad.add (j * 5)).block, (ad.add (j * 5)).off + 4, none⟩ := by rw [← Go.Deep.add_add]; rfl
  refine ⟨ad, ha, d, qh, ql, zs[j].2.1.2.2, zs[j].2.2, ⟨?_, ?_, ?_, ?_, ?_⟩, b0, b1, b2, w4⟩
  · rw [← e0]; exact kp _ _ c0
  · rw [← e1, ← s1]; exact kp _ _ c1
  · rw [← e2, ← s2]; exact kp _ _ c2
  · rw [← s3]; exact kp _ _ c3
  · rw [← s4]; exact kp _ _ c4
theorem list_5 {α : Type} {l : List α} (h : l.length = 5) : ∃ a b c d e, l = [a, b, c, d, e] := by
  match l, h with
  | [a, b, c, d, e], _ => exact ⟨a, b, c, d, e, rfl⟩
theorem cells_act : Tryz.prog.cellsOf 55 = 5 := by kernel_rfl
theorem act_of {H : Type} {enc : TypeId × Value → H} {W : World} {sp : Nat → Bool} {n : Nat} {cs : List Value} {x : DataW H × List MemPlace} (hl : cs.length = 5) (h : DataW.trod enc Tryz.prog W 0 sp true n 55 cs = some x) :
    ∃ d a b c v : Int, cs = [.int .u8 d, .int .u64 a, .int .u64 b, .int .i64 c, .int .i64 v] ∧ (Lit.int .u8 d).wf = true ∧ (Lit.int .u64 a).wf = true ∧ (Lit.int .u64 b).wf = true ∧ (Lit.int .i64 c).wf = true ∧ (Lit.int .i64 v).wf = true := by
  obtain ⟨ys, n', _, _, _, hyl, hf⟩ := DataW.trod_struct Tryz.underlying55 h
  have k0 : Tryz.prog.cellsOf 5 = 1 := by kernel_rfl
  have k1 : Tryz.prog.cellsOf 3 = 1 := by kernel_rfl
  obtain ⟨c0, c1, c2, c3, c4, rfl⟩ := list_5 hl
  obtain ⟨y0, y1, y2, rfl⟩ := list_3 (show ys.length = 3 from hyl)
  have f0 : DataW.trod enc Tryz.prog W 0 sp true n' 5 [c0] = some y0 := by
    have q : DataW.trod enc Tryz.prog W 0 sp true n' 5 (([c0, c1, c2, c3, c4].drop 0).take (Tryz.prog.cellsOf 5)) = some y0 := hf 0 _ rfl
    rw [k0] at q; exact q
  have f1 : DataW.trod enc Tryz.prog W 0 sp true n' 24 [c1, c2, c3] = some y1 := by
    have q : DataW.trod enc Tryz.prog W 0 sp true n' 24 (([c0, c1, c2, c3, c4].drop 1).take (Tryz.prog.cellsOf 24)) = some y1 := hf 1 _ rfl
    rw [cells_pfx] at q; exact q
  have f2 : DataW.trod enc Tryz.prog W 0 sp true n' 3 [c4] = some y2 := by
    have q : DataW.trod enc Tryz.prog W 0 sp true n' 3 (([c0, c1, c2, c3, c4].drop 4).take (Tryz.prog.cellsOf 3)) = some y2 := hf 2 _ rfl
    rw [k1] at q; exact q
  obtain ⟨d, e0, _, w0⟩ := DataW.trod_int Tryz.underlying5 f0
  obtain ⟨a, b, c, e1, w1, w2, w3⟩ := pfx_of rfl f1
  obtain ⟨v, e2, _, w4⟩ := DataW.trod_int Tryz.underlying3 f2
  simp at e0 e1 e2
  obtain ⟨rfl, rfl, rfl⟩ := e1
  subst e0 e2
  exact ⟨d, a, b, c, v, rfl, w0, w1, w2, w3, w4⟩
theorem open_arow {H : Type} {enc : TypeId × Value → H} {W : World} {ao : Option Addr} {len cap : Nat} {d : DataW H} {ps : List MemPlace}
    (h : DataW.Trod enc Tryz.prog W 0 (fun _ => true) true 50 (.slice ao len cap) d ps) : ∃ zs, IsARow W ao len cap zs := by
  obtain ⟨fuel, hf⟩ := h
  rcases open_slice Tryz.underlying50 hf with ⟨hcs, _⟩ | ⟨a, l, c, m, n, D, Pl, hcs, _, hl, _, hm, _, hi⟩
  · simp [Value.cells] at hcs
    obtain ⟨rfl, rfl, rfl⟩ := hcs
    exact ⟨[], rfl, fun j x h => by simp at h⟩
  · simp [Value.cells] at hcs
    obtain ⟨rfl, rfl, rfl⟩ := hcs
    have hel : ∀ i, i < len → ∃ x : Int × (Int × Int × Int) × Int, (W.cell? (a.add (i * 5)) = some (.int .u8 x.1) ∧ W.cell? (a.add (i * 5 + 1)) = some (.int .u64 x.2.1.1) ∧ W.cell? (a.add (i * 5 + 2)) = some (.int .u64 x.2.1.2.1) ∧ W.cell? (a.add (i * 5 + 3)) = some (.int .i64 x.2.1.2.2) ∧ W.cell? (a.add (i * 5 + 4)) = some (.int .i64 x.2.2)) ∧
        (Lit.int .u8 x.1).wf = true ∧ (Lit.int .u64 x.2.1.1).wf = true ∧ (Lit.int .u64 x.2.1.2.1).wf = true ∧ (Lit.int .i64 x.2.1.2.2).wf = true ∧ (Lit.int .i64 x.2.2).wf = true := fun i hi2 => by
      have hmi : i < m := by rw [hm]; simp; omega
      obtain ⟨cs', hc, ht⟩ := hi i hmi
      rw [cells_act] at hc
      obtain ⟨_, hcl, hat⟩ := World.cells?_some hc
      obtain ⟨d, x, y, z, v, rfl, w0, w1, w2, w3, w4⟩ := act_of hcl ht
      refine ⟨(d, (x, y, z), v), ⟨?_, ?_, ?_, ?_, ?_⟩, w0, w1, w2, w3, w4⟩
      · have := hat 0 (by omega); rw [Go.Deep.add_add] at this; simpa using this
      · have := hat 1 (by omega); rw [Go.Deep.add_add] at this; simpa using this
      · have := hat 2 (by omega); rw [Go.Deep.add_add] at this; simpa using this
      · have := hat 3 (by omega); rw [Go.Deep.add_add] at this; simpa using this
      · have := hat 4 (by omega); rw [Go.Deep.add_add] at this; simpa using this
    refine ⟨(List.range len).map (fun i => if q : i < len then Classical.choose (hel i q) else (0, (0, 0, 0), 0)), by simp, fun j x hx => ?_⟩
    have hj : j < len := by
      have := (List.getElem?_eq_some_iff.1 hx).1
      simpa using this
    have hx' : x = Classical.choose (hel j hj) := by
      simp [hj] at hx
      exact hx.symm
    have sp := Classical.choose_spec (hel j hj)
    rw [← hx'] at sp
    exact ⟨⟨a, rfl, sp.1⟩, sp.2⟩
end Go.Proofs.YthdcldkcmnpkiaaGreatDoor
