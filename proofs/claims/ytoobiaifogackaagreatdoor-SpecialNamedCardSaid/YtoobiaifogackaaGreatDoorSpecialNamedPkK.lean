/-
  What the law SpecialNamed leans on, and its walk (11 of 15).
-/
import Derived.Deep.Slices
import Derived.Deep.Fields
import Derived.ChangeSame
import Derived.Test.YtoobiaifogackaaGreatDoorSpecialNamedPkJ
namespace Go.Proofs.YtoobiaifogackaaGreatDoor
section
open Go.RowKit Go.ChangeShapes Go.WideShapes Go.Deep
/-- a slice of any kind, by its elements' cells -/
theorem open_rowX {H : Type} {enc : TypeId × Value → H} {W : World} {t e : TypeId} {ao : Option Addr} {len cap : Nat} {d : DataW H} {ps : List MemPlace} {X : Type} (z : X) (cl : X → List Value) (ok : X → Prop) (s : Nat) (hu : Tryz.prog.underlying t = some (.slice e)) (hc : Tryz.prog.cellsOf e = s)
    (h1 : ∀ (n : Nat) (cs : List Value) (x : DataW H × List MemPlace), cs.length = s → DataW.trod enc Tryz.prog W 0 (fun _ => true) true n e cs = some x → ∃ y, cs = cl y ∧ ok y)
    (h : DataW.Trod enc Tryz.prog W 0 (fun _ => true) true t (.slice ao len cap) d ps) :
    ∃ zs : List X, zs.length = len ∧ ∀ (j : Nat) (x : X), zs[j]? = some x → (∃ ad, ao = some ad ∧ ∀ i, i < s → W.cell? (ad.add (j * s + i)) = (cl x)[i]?) ∧ ok x := by
  obtain ⟨fuel, hf⟩ := h
  rcases open_slice hu hf with ⟨hcs, _⟩ | ⟨a, l, c, m, n, D, Pl, hcs, _, hl, _, hm, _, hi⟩
  · simp [Value.cells] at hcs
    obtain ⟨rfl, rfl, rfl⟩ := hcs
    exact ⟨[], rfl, fun j x h => by simp at h⟩
  · simp [Value.cells] at hcs
    obtain ⟨rfl, rfl, rfl⟩ := hcs
    have hel : ∀ i, i < len → ∃ x : X, (∀ k, k < s → W.cell? (a.add (i * s + k)) = (cl x)[k]?) ∧ ok x := fun i hi2 => by
      have hmi : i < m := by rw [hm]; simp; omega
      obtain ⟨cs', hc', ht⟩ := hi i hmi
      rw [hc] at hc'
      obtain ⟨_, hcl, hat⟩ := World.cells?_some hc'
      obtain ⟨y, rfl, hy⟩ := h1 _ _ _ hcl ht
      refine ⟨y, fun k hk => ?_, hy⟩
      have := hat k (by omega)
      rw [Go.Deep.add_add] at this
      rw [this]
    refine ⟨(List.range len).map (fun i => if q : i < len then Classical.choose (hel i q) else z), by simp, fun j x hx => ?_⟩
    have hj : j < len := by
      have := (List.getElem?_eq_some_iff.1 hx).1
      simpa using this
    have hx' : x = Classical.choose (hel j hj) := by
      simp [hj] at hx
      exact hx.symm
    have sp := Classical.choose_spec (hel j hj)
    rw [← hx'] at sp
    exact ⟨⟨a, rfl, sp.1⟩, sp.2⟩
/-- the slice holds these strings -/
def IsSRow (w : World) (a : Option Addr) (len _cap : Nat) (zs : List ByteArray) : Prop :=
  zs.length = len ∧ ∀ (j : Nat) (x : ByteArray), zs[j]? = some x → (∃ ad, a = some ad ∧ w.cell? (ad.add j) = some (.string x)) ∧ x.size ≤ maxLen
theorem IsSRow.at {w wr : World} {a : Option Addr} {len cap : Nat} {zs : List ByteArray} (h : IsSRow w a len cap zs) (hb : Below w.heap.size w wr) {j : Nat} (hj : j < zs.length) :
    ∃ (ad : Addr) (_ : a = some ad) (x : ByteArray), zs[j]? = some x ∧ wr.cell? (ad.add j) = some (.string x) ∧ x.size ≤ maxLen := by
  obtain ⟨⟨ad, ha, c0⟩, w0⟩ := h.2 j zs[j] (List.getElem?_eq_getElem hj)
  exact ⟨ad, ha, zs[j], List.getElem?_eq_getElem hj, (hb.cell (World.block_lt_of_cell? w _ c0)).trans c0, w0⟩
theorem IsSRow.keep {w wr : World} {a : Option Addr} {len cap : Nat} {zs : List ByteArray} (h : IsSRow w a len cap zs) (hb : Below w.heap.size w wr) : IsSRow wr a len cap zs :=
  ⟨h.1, fun j x hx => by
    obtain ⟨⟨ad, ha, c0⟩, w0⟩ := h.2 j x hx
    exact ⟨⟨ad, ha, (hb.cell (World.block_lt_of_cell? w _ c0)).trans c0⟩, w0⟩⟩
theorem cells_str : Tryz.prog.cellsOf 9 = 1 := by kernel_rfl
theorem open_srow {H : Type} {enc : TypeId × Value → H} {W : World} {ao : Option Addr} {len cap : Nat} {d : DataW H} {ps : List MemPlace}
    (h : DataW.Trod enc Tryz.prog W 0 (fun _ => true) true 45 (.slice ao len cap) d ps) : ∃ zs, IsSRow W ao len cap zs := by
  obtain ⟨zs, h1, h2⟩ := open_rowX (⟨#[]⟩ : ByteArray) (fun x => [Value.string x]) (fun x => x.size ≤ maxLen) 1 Tryz.underlying45 cells_str (fun n cs x _ hx => by
    obtain ⟨s, e1, _, e3⟩ := DataW.trod_string Tryz.underlying9 hx
    exact ⟨s, e1, e3⟩) h
  refine ⟨zs, h1, fun j x hx => ?_⟩
  obtain ⟨⟨ad, ha, hc⟩, ho⟩ := h2 j x hx
  refine ⟨⟨ad, ha, ?_⟩, ho⟩
  have := hc 0 (by omega)
  simpa using this
/-- the slice holds these numbers -/
def IsIRow (w : World) (a : Option Addr) (len _cap : Nat) (zs : List Int) : Prop :=
  zs.length = len ∧ ∀ (j : Nat) (x : Int), zs[j]? = some x → (∃ ad, a = some ad ∧ w.cell? (ad.add j) = some (.int .i64 x)) ∧ (-9223372036854775808 ≤ x ∧ x ≤ 9223372036854775807)
theorem IsIRow.at {w wr : World} {a : Option Addr} {len cap : Nat} {zs : List Int} (h : IsIRow w a len cap zs) (hb : Below w.heap.size w wr) {j : Nat} (hj : j < zs.length) :
    ∃ (ad : Addr) (_ : a = some ad) (x : Int), zs[j]? = some x ∧ wr.cell? (ad.add j) = some (.int .i64 x) ∧ (-9223372036854775808 ≤ x ∧ x ≤ 9223372036854775807) := by
  obtain ⟨⟨ad, ha, c0⟩, w0⟩ := h.2 j zs[j] (List.getElem?_eq_getElem hj)
  exact ⟨ad, ha, zs[j], List.getElem?_eq_getElem hj, (hb.cell (World.block_lt_of_cell? w _ c0)).trans c0, w0⟩
theorem IsIRow.keep {w wr : World} {a : Option Addr} {len cap : Nat} {zs : List Int} (h : IsIRow w a len cap zs) (hb : Below w.heap.size w wr) : IsIRow wr a len cap zs :=
  ⟨h.1, fun j x hx => by
    obtain ⟨⟨ad, ha, c0⟩, w0⟩ := h.2 j x hx
    exact ⟨⟨ad, ha, (hb.cell (World.block_lt_of_cell? w _ c0)).trans c0⟩, w0⟩⟩
/-- a rule: a prefix (any numbers), and whether it is allowed -/
structure Ru where
  hi : Nat
  lo : Nat
  k : Int
  a : Bool
def Ru.cl (x : Ru) : List Value := [.int .u64 (x.hi : Nat), .int .u64 (x.lo : Nat), .int .i64 x.k, .bool x.a]
def Ru.Ok (x : Ru) : Prop := x.hi < 18446744073709551616 ∧ x.lo < 18446744073709551616 ∧ -9223372036854775808 ≤ x.k ∧ x.k ≤ 9223372036854775807
/-- the slice holds these rules -/
def IsURow (w : World) (a : Option Addr) (len _cap : Nat) (zs : List Ru) : Prop :=
  zs.length = len ∧ ∀ (j : Nat) (x : Ru), zs[j]? = some x → (∃ ad, a = some ad ∧ ∀ i, i < 4 → w.cell? (ad.add (j * 4 + i)) = x.cl[i]?) ∧ x.Ok
theorem IsURow.keep {w wr : World} {a : Option Addr} {len cap : Nat} {zs : List Ru} (h : IsURow w a len cap zs) (hb : Below w.heap.size w wr) : IsURow wr a len cap zs :=
  ⟨h.1, fun j x hx => by
    obtain ⟨⟨ad, ha, hc⟩, w0⟩ := h.2 j x hx
    refine ⟨⟨ad, ha, fun i hi => ?_⟩, w0⟩
    rw [← hc i hi]
    have : ∃ u, w.cell? (ad.add (j * 4 + i)) = some u := by
      rw [hc i hi]
      exact ⟨_, List.getElem?_eq_getElem (by simp [Ru.cl]; omega)⟩
    obtain ⟨u, hu⟩ := this
    exact hb.cell (World.block_lt_of_cell? w _ hu)⟩
theorem IsURow.at {wr : World} {a : Option Addr} {len cap : Nat} {zs : List Ru} (h : IsURow wr a len cap zs) {j : Nat} (hj : j < zs.length) :
    ∃ (ad : Addr) (_ : a = some ad) (x : Ru), zs[j]? = some x ∧ (wr.cell? (ad.add (j * 4)) = some (.int .u64 (x.hi : Nat)) ∧ wr.cell? ⟨(ad.add (j * 4)).block, (ad.add (j * 4)).off + 1, none⟩ = some (.int .u64 (x.lo : Nat)) ∧ wr.cell? ⟨(ad.add (j * 4)).block, (ad.add (j * 4)).off + 2, none⟩ = some (.int .i64 x.k) ∧ wr.cell? ⟨(ad.add (j * 4)).block, (ad.add (j * 4)).off + 3, none⟩ = some (.bool x.a)) ∧ x.Ok := by
  obtain ⟨⟨ad, ha, hc⟩, w0⟩ := h.2 j zs[j] (List.getElem?_eq_getElem hj)
  have s1 : ad.add (j * 4 + 1) = ⟨(ad.add (j * 4)).block, (ad.add (j * 4)).off + 1, none⟩ := by rw [← Go.Deep.add_add]; rfl
  have s2 : ad.add (j * 4 + 2) = ⟨(ad.add (j * 4)).block, (ad.add (j * 4)).off + 2, none⟩ := by rw [← Go.Deep.add_add]; rfl
  have s3 : ad.add (j * 4 + 3) = ⟨(ad.add (j * 4)).block, (ad.add (j * 4)).off + 3, none⟩ := by rw [← Go.Deep.add_add]; rfl
  refine ⟨ad, ha, zs[j], List.getElem?_eq_getElem hj, ⟨?_, ?_, ?_, ?_⟩, w0⟩
  · exact hc 0 (by omega)
  · rw [← s1]; exact hc 1 (by omega)
  · rw [← s2]; exact hc 2 (by omega)
  · rw [← s3]; exact hc 3 (by omega)
end

end Go.Proofs.YtoobiaifogackaaGreatDoor
