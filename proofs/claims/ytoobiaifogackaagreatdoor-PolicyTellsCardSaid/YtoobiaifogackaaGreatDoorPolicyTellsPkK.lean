/-
  What the law PolicyTells leans on, and its walk (11 of 16).
-/
import Derived.Deep.Slices
import Derived.Deep.Fields
import Derived.ChangeSame
import Derived.Lib.SmallJoins
import Derived.OpenShut
import Derived.Test.YtoobiaifogackaaGreatDoorPolicyTellsPkJ
import Derived.Test.YtoobiaifogackaaGreatDoorPolicyTellsPkI
namespace Go.Proofs.YtoobiaifogackaaGreatDoor
section
open Go.RowKit Go.ChangeShapes Go.WideShapes Go.Deep
theorem list_3 {α : Type} {l : List α} (h : l.length = 3) : ∃ a b c, l = [a, b, c] := by
  match l, h with
  | [a, b, c], _ => exact ⟨a, b, c, rfl⟩
theorem cells_pfx : Tryz.prog.cellsOf 37 = 3 := by kernel_rfl
theorem pfx_of {H : Type} {enc : TypeId × Value → H} {W : World} {sp : Nat → Bool} {n : Nat} {cs : List Value} {x : DataW H × List MemPlace} (hl : cs.length = 3) (h : DataW.trod enc Tryz.prog W 0 sp true n 37 cs = some x) :
    ∃ a b c : Int, cs = [.int .u64 a, .int .u64 b, .int .i64 c] ∧ (Lit.int .u64 a).wf = true ∧ (Lit.int .u64 b).wf = true ∧ (Lit.int .i64 c).wf = true := by
  obtain ⟨ys, n', _, _, _, hyl, hf⟩ := DataW.trod_struct Tryz.underlying37 h
  have k0 : Tryz.prog.cellsOf 22 = 1 := by kernel_rfl
  have k1 : Tryz.prog.cellsOf 3 = 1 := by kernel_rfl
  obtain ⟨c0, c1, c2, rfl⟩ := list_3 hl
  obtain ⟨y0, y1, y2, rfl⟩ := list_3 (show ys.length = 3 from hyl)
  have f0 : DataW.trod enc Tryz.prog W 0 sp true n' 22 [c0] = some y0 := by
    have q : DataW.trod enc Tryz.prog W 0 sp true n' 22 (([c0, c1, c2].drop 0).take (Tryz.prog.cellsOf 22)) = some y0 := hf 0 _ rfl
    rw [k0] at q; exact q
  have f1 : DataW.trod enc Tryz.prog W 0 sp true n' 22 [c1] = some y1 := by
    have q : DataW.trod enc Tryz.prog W 0 sp true n' 22 (([c0, c1, c2].drop 1).take (Tryz.prog.cellsOf 22)) = some y1 := hf 1 _ rfl
    rw [k0] at q; exact q
  have f2 : DataW.trod enc Tryz.prog W 0 sp true n' 3 [c2] = some y2 := by
    have q : DataW.trod enc Tryz.prog W 0 sp true n' 3 (([c0, c1, c2].drop 2).take (Tryz.prog.cellsOf 3)) = some y2 := hf 2 _ rfl
    rw [k1] at q; exact q
  obtain ⟨a, e0, _, w0⟩ := DataW.trod_int Tryz.underlying22 f0
  obtain ⟨b, e1, _, w1⟩ := DataW.trod_int Tryz.underlying22 f1
  obtain ⟨c, e2, _, w2⟩ := DataW.trod_int Tryz.underlying3 f2
  simp at e0 e1 e2
  subst e0 e1 e2
  exact ⟨a, b, c, rfl, w0, w1, w2⟩
end

section
open Go.RowKit Go.ChangeShapes Go.WideShapes Go.Deep
/-- a slice of any kind, by its elements' cells -/
theorem open_rowX {H : Type} {enc : TypeId × Value → H} {W : World} {t e : TypeId} {ao : Option Addr} {len cap : Nat} {d : DataW H} {ps : List MemPlace} {X : Type} (z : X) (cl : X → List Value) (ok : X → Prop) (s : Nat) (hu : Tryz.prog.underlying t = some (.slice e)) (hc : Tryz.prog.cellsOf e = s)
    (h1 : ∀ (n : Nat) (cs : List Value) (x : DataW H × List MemPlace), cs.length = s → DataW.trod enc Tryz.prog W 0 (fun _ => true) true n e cs = some x → ∃ y, cs = cl y ∧ ok y)
    (h : DataW.Trod enc Tryz.prog W 0 (fun _ => true) true t (.slice ao len cap) d ps) :
    ∃ zs : List X, zs.length = len ∧ ∀ (j : Nat) (x : X), zs[j]? = some x → (∃ ad, ao = some ad ∧ ∀ i, i < s → W.cell? (ad.add (j * s + i)) = (cl x)[i]?) ∧ ok x := by
  obtain ⟨fuel, hf⟩ := h
  rcases open_slice hu hf with ⟨hcs, _⟩ | ⟨a, l, c, m, n, D, Pl, hcs, _, hl, _, hm, _, hi⟩
  · simp [Value.cells] at hcs
    obtain ⟨rfl, rfl, rfl⟩ := hcs
    exact ⟨[], rfl, fun j x h => by simp at h⟩
  · simp [Value.cells] at hcs
    obtain ⟨rfl, rfl, rfl⟩ := hcs
    have hel : ∀ i, i < len → ∃ x : X, (∀ k, k < s → W.cell? (a.add (i * s + k)) = (cl x)[k]?) ∧ ok x := fun i hi2 => by
      have hmi : i < m := by rw [hm]; simp; omega
      obtain ⟨cs', hc', ht⟩ := hi i hmi
      rw [hc] at hc'
      obtain ⟨_, hcl, hat⟩ := World.cells?_some hc'
      obtain ⟨y, rfl, hy⟩ := h1 _ _ _ hcl ht
      refine ⟨y, fun k hk => ?_, hy⟩
      have := hat k (by omega)
      rw [Go.Deep.add_add] at this
      rw [this]
    refine ⟨(List.range len).map (fun i => if q : i < len then Classical.choose (hel i q) else z), by simp, fun j x hx => ?_⟩
    have hj : j < len := by
      have := (List.getElem?_eq_some_iff.1 hx).1
      simpa using this
    have hx' : x = Classical.choose (hel j hj) := by
      simp [hj] at hx
      exact hx.symm
    have sp := Classical.choose_spec (hel j hj)
    rw [← hx'] at sp
    exact ⟨⟨a, rfl, sp.1⟩, sp.2⟩
/-- the slice holds these strings -/
def IsSRow (w : World) (a : Option Addr) (len _cap : Nat) (zs : List ByteArray) : Prop :=
  zs.length = len ∧ ∀ (j : Nat) (x : ByteArray), zs[j]? = some x → (∃ ad, a = some ad ∧ w.cell? (ad.add j) = some (.string x)) ∧ x.size ≤ maxLen
theorem IsSRow.at {w wr : World} {a : Option Addr} {len cap : Nat} {zs : List ByteArray} (h : IsSRow w a len cap zs) (hb : Below w.heap.size w wr) {j : Nat} (hj : j < zs.length) :
    ∃ (ad : Addr) (_ : a = some ad) (x : ByteArray), zs[j]? = some x ∧ wr.cell? (ad.add j) = some (.string x) ∧ x.size ≤ maxLen := by
  obtain ⟨⟨ad, ha, c0⟩, w0⟩ := h.2 j zs[j] (List.getElem?_eq_getElem hj)
  exact ⟨ad, ha, zs[j], List.getElem?_eq_getElem hj, (hb.cell (World.block_lt_of_cell? w _ c0)).trans c0, w0⟩
theorem IsSRow.keep {w wr : World} {a : Option Addr} {len cap : Nat} {zs : List ByteArray} (h : IsSRow w a len cap zs) (hb : Below w.heap.size w wr) : IsSRow wr a len cap zs :=
  ⟨h.1, fun j x hx => by
    obtain ⟨⟨ad, ha, c0⟩, w0⟩ := h.2 j x hx
    exact ⟨⟨ad, ha, (hb.cell (World.block_lt_of_cell? w _ c0)).trans c0⟩, w0⟩⟩
/-- the slice holds these numbers -/
def IsIRow (w : World) (a : Option Addr) (len _cap : Nat) (zs : List Int) : Prop :=
  zs.length = len ∧ ∀ (j : Nat) (x : Int), zs[j]? = some x → (∃ ad, a = some ad ∧ w.cell? (ad.add j) = some (.int .i64 x)) ∧ (-9223372036854775808 ≤ x ∧ x ≤ 9223372036854775807)
theorem IsIRow.at {w wr : World} {a : Option Addr} {len cap : Nat} {zs : List Int} (h : IsIRow w a len cap zs) (hb : Below w.heap.size w wr) {j : Nat} (hj : j < zs.length) :
    ∃ (ad : Addr) (_ : a = some ad) (x : Int), zs[j]? = some x ∧ wr.cell? (ad.add j) = some (.int .i64 x) ∧ (-9223372036854775808 ≤ x ∧ x ≤ 9223372036854775807) := by
  obtain ⟨⟨ad, ha, c0⟩, w0⟩ := h.2 j zs[j] (List.getElem?_eq_getElem hj)
  exact ⟨ad, ha, zs[j], List.getElem?_eq_getElem hj, (hb.cell (World.block_lt_of_cell? w _ c0)).trans c0, w0⟩
theorem IsIRow.keep {w wr : World} {a : Option Addr} {len cap : Nat} {zs : List Int} (h : IsIRow w a len cap zs) (hb : Below w.heap.size w wr) : IsIRow wr a len cap zs :=
  ⟨h.1, fun j x hx => by
    obtain ⟨⟨ad, ha, c0⟩, w0⟩ := h.2 j x hx
    exact ⟨⟨ad, ha, (hb.cell (World.block_lt_of_cell? w _ c0)).trans c0⟩, w0⟩⟩
theorem bounds_i64r {n : Int} (h : (Lit.int .i64 n).wf = true) : -9223372036854775808 ≤ n ∧ n ≤ 9223372036854775807 := by
  simp [Lit.wf, IntKind.min, IntKind.max, IntKind.bits, IntKind.signed] at h
  omega
theorem cells_int : Tryz.prog.cellsOf 3 = 1 := by kernel_rfl
theorem open_irow {H : Type} {enc : TypeId × Value → H} {W : World} {ao : Option Addr} {len cap : Nat} {d : DataW H} {ps : List MemPlace}
    (h : DataW.Trod enc Tryz.prog W 0 (fun _ => true) true 59 (.slice ao len cap) d ps) : ∃ zs, IsIRow W ao len cap zs := by
  obtain ⟨zs, h1, h2⟩ := open_rowX (0 : Int) (fun x => [Value.int .i64 x]) (fun x => -9223372036854775808 ≤ x ∧ x ≤ 9223372036854775807) 1 Tryz.underlying59 cells_int (fun n cs x _ hx => by
    obtain ⟨s, e1, _, e3⟩ := DataW.trod_int Tryz.underlying3 hx
    exact ⟨s, e1, bounds_i64r e3⟩) h
  refine ⟨zs, h1, fun j x hx => ?_⟩
  obtain ⟨⟨ad, ha, hc⟩, ho⟩ := h2 j x hx
  refine ⟨⟨ad, ha, ?_⟩, ho⟩
  have := hc 0 (by omega)
  simpa using this
/-- a rule: a prefix (any numbers), and whether it is allowed -/
structure Ru where
  hi : Nat
  lo : Nat
  k : Int
  a : Bool
def Ru.cl (x : Ru) : List Value := [.int .u64 (x.hi : Nat), .int .u64 (x.lo : Nat), .int .i64 x.k, .bool x.a]
def Ru.Ok (x : Ru) : Prop := x.hi < 18446744073709551616 ∧ x.lo < 18446744073709551616 ∧ -9223372036854775808 ≤ x.k ∧ x.k ≤ 9223372036854775807
/-- the slice holds these rules -/
def IsURow (w : World) (a : Option Addr) (len _cap : Nat) (zs : List Ru) : Prop :=
  zs.length = len ∧ ∀ (j : Nat) (x : Ru), zs[j]? = some x → (∃ ad, a = some ad ∧ ∀ i, i < 4 → w.cell? (ad.add (j * 4 + i)) = x.cl[i]?) ∧ x.Ok
theorem IsURow.keep {w wr : World} {a : Option Addr} {len cap : Nat} {zs : List Ru} (h : IsURow w a len cap zs) (hb : Below w.heap.size w wr) : IsURow wr a len cap zs :=
  ⟨h.1, fun j x hx => by
    obtain ⟨⟨ad, ha, hc⟩, w0⟩ := h.2 j x hx
    refine ⟨⟨ad, ha, fun i hi => ?_⟩, w0⟩
    rw [← hc i hi]
    have : ∃ u, w.cell? (ad.add (j * 4 + i)) = some u := by
      rw [hc i hi]
      exact ⟨_, List.getElem?_eq_getElem (by simp [Ru.cl]; omega)⟩
    obtain ⟨u, hu⟩ := this
    exact hb.cell (World.block_lt_of_cell? w _ hu)⟩
theorem IsURow.at {wr : World} {a : Option Addr} {len cap : Nat} {zs : List Ru} (h : IsURow wr a len cap zs) {j : Nat} (hj : j < zs.length) :
    ∃ (ad : Addr) (_ : a = some ad) (x : Ru), zs[j]? = some x ∧ (wr.cell? (ad.add (j * 4)) = some (.int .u64 (x.hi : Nat)) ∧ wr.cell? ⟨(ad.add (j * 4)).block, (ad.add (j * 4)).off + 1, none⟩ = some (.int .u64 (x.lo : Nat)) ∧ wr.cell? ⟨(ad.add (j * 4)).block, (ad.add (j * 4)).off + 2, none⟩ = some (.int .i64 x.k) ∧ wr.cell? ⟨(ad.add (j * 4)).block, (ad.add (j * 4)).off + 3, none⟩ = some (.bool x.a)) ∧ x.Ok := by
  obtain ⟨⟨ad, ha, hc⟩, w0⟩ := h.2 j zs[j] (List.getElem?_eq_getElem hj)
  have s1 : ad.add (j * 4 + 1) = ⟨(ad.add (j * 4)).block, (ad.add (j * 4)).off + 1, none⟩ := by rw [← Go.Deep.add_add]; rfl
  have s2 : ad.add (j * 4 + 2) = ⟨(ad.add (j * 4)).block, (ad.add (j * 4)).off + 2, none⟩ := by rw [← Go.Deep.add_add]; rfl
  have s3 : ad.add (j * 4 + 3) = ⟨(ad.add (j * 4)).block, (ad.add (j * 4)).off + 3, none⟩ := by rw [← Go.Deep.add_add]; rfl
  refine ⟨ad, ha, zs[j], List.getElem?_eq_getElem hj, ⟨?_, ?_, ?_, ?_⟩, w0⟩
  · exact hc 0 (by omega)
  · rw [← s1]; exact hc 1 (by omega)
  · rw [← s2]; exact hc 2 (by omega)
  · rw [← s3]; exact hc 3 (by omega)
theorem cells_rule : Tryz.prog.cellsOf 99 = 4 := by kernel_rfl
theorem cells_bool : Tryz.prog.cellsOf 4 = 1 := by kernel_rfl
theorem list_4 {α : Type} {l : List α} (h : l.length = 4) : ∃ a b c d, l = [a, b, c, d] := by
  match l, h with
  | [a, b, c, d], _ => exact ⟨a, b, c, d, rfl⟩
theorem list_2 {α : Type} {l : List α} (h : l.length = 2) : ∃ a b, l = [a, b] := by
  match l, h with
  | [a, b], _ => exact ⟨a, b, rfl⟩
theorem rule_of {H : Type} {enc : TypeId × Value → H} {W : World} {sp : Nat → Bool} {n : Nat} {cs : List Value} {x : DataW H × List MemPlace} (hl : cs.length = 4) (h : DataW.trod enc Tryz.prog W 0 sp true n 99 cs = some x) :
    ∃ y : Ru, cs = y.cl ∧ y.Ok := by
  obtain ⟨ys, n', _, _, _, hyl, hf⟩ := DataW.trod_struct Tryz.underlying99 h
  obtain ⟨c0, c1, c2, c3, rfl⟩ := list_4 hl
  obtain ⟨y0, y1, rfl⟩ := list_2 (show ys.length = 2 from hyl)
  have f0 : DataW.trod enc Tryz.prog W 0 sp true n' 37 [c0, c1, c2] = some y0 := by
    have q : DataW.trod enc Tryz.prog W 0 sp true n' 37 (([c0, c1, c2, c3].drop 0).take (Tryz.prog.cellsOf 37)) = some y0 := hf 0 _ rfl
    rw [cells_pfx] at q; exact q
  have f1 : DataW.trod enc Tryz.prog W 0 sp true n' 4 [c3] = some y1 := by
    have q : DataW.trod enc Tryz.prog W 0 sp true n' 4 (([c0, c1, c2, c3].drop 3).take (Tryz.prog.cellsOf 4)) = some y1 := hf 1 _ rfl
    rw [cells_bool] at q; exact q
  obtain ⟨a, b, c, e0, w0, w1, w2⟩ := pfx_of rfl f0
  obtain ⟨v, e1, _⟩ := DataW.trod_bool Tryz.underlying4 f1
  simp at e0 e1
  obtain ⟨rfl, rfl, rfl⟩ := e0
  subst e1
  obtain ⟨hi, rfl, b0⟩ := bounds_u64r w0
  obtain ⟨lo, rfl, b1⟩ := bounds_u64r w1
  exact ⟨⟨hi, lo, c, v⟩, rfl, b0, b1, bounds_i64r w2⟩
theorem open_urow {H : Type} {enc : TypeId × Value → H} {W : World} {ao : Option Addr} {len cap : Nat} {d : DataW H} {ps : List MemPlace}
    (h : DataW.Trod enc Tryz.prog W 0 (fun _ => true) true 58 (.slice ao len cap) d ps) : ∃ zs, IsURow W ao len cap zs :=
  open_rowX ⟨0, 0, 0, false⟩ Ru.cl Ru.Ok 4 Tryz.underlying58 cells_rule (fun _ _ _ hl hx => rule_of hl hx) h
end

section
open Go.RowKit
def Ru.W (x : Ru) : Nat := wideN x.hi x.lo
def Ru.v (x : Ru) : Int := if x.a = true then 1 else 0
theorem Ru.W_lt {x : Ru} (h : x.Ok) : x.W < 2 ^ 128 := wide_lt h.1 h.2.1
def rulesB (rs : List Ru) : Bool := rs.all fun x => pRightB x.W x.k
def portB (p : Int) : Bool := decide (1 ≤ p ∧ p ≤ 65535)
def portsB (ps : List Int) : Bool := ps.all portB
/-- may a policy be? -/
def checkZ (rs : List Ru) (ps : List Int) : Int := if 256 < rs.length ∨ 16 < ps.length then 19 else if rulesB rs = true then (if portsB ps = true then 0 else 8) else 2
theorem all_true {α : Type} {p : α → Bool} {l : List α} (h : ∀ (i : Nat) (x : α), l[i]? = some x → p x = true) : l.all p = true := by
  rw [List.all_eq_true]
  intro x hx
  obtain ⟨i, hi, e⟩ := List.getElem_of_mem hx
  exact h i x (by rw [List.getElem?_eq_getElem hi, e])
theorem all_false {α : Type} {p : α → Bool} {l : List α} {i : Nat} {x : α} (hx : l[i]? = some x) (h : p x = false) : l.all p = false := by
  rw [List.all_eq_false]
  exact ⟨x, List.mem_of_getElem? hx, by rw [h]; simp⟩
theorem all_at {α : Type} {p : α → Bool} {l : List α} (h : l.all p = true) {i : Nat} {x : α} (hx : l[i]? = some x) : p x = true := by
  rw [List.all_eq_true] at h
  exact h x (List.mem_of_getElem? hx)
theorem check_zero {rs : List Ru} {ps : List Int} (h : checkZ rs ps = 0) : rs.length ≤ 256 ∧ ps.length ≤ 16 ∧ rulesB rs = true ∧ portsB ps = true := by
  unfold checkZ at h
  split at h
  · cases h
  · split at h
    · split at h
      · exact ⟨by omega, by omega, by assumption, by assumption⟩
      · cases h
    · cases h
/-- the tree, rule by rule -/
def polTo (rs : List Ru) (j : Nat) (t : PT) : PT := (rs.take j).foldl (fun t r => t.put r.W r.k.toNat r.v) t
theorem polTo_succ {rs : List Ru} {j : Nat} {t : PT} {x : Ru} (h : rs[j]? = some x) : polTo rs (j + 1) t = (polTo rs j t).put x.W x.k.toNat x.v := by
  unfold polTo
  rw [List.take_add_one, h, List.foldl_append]; rfl
theorem right_nat {x : Ru} (h : pRightB x.W x.k = true) : x.k.toNat ≤ 128 ∧ rt x.W x.k.toNat ∧ (x.k.toNat : Int) = x.k := by
  have hb := pRightB_in h
  have e : (x.k.toNat : Int) = x.k := by omega
  rw [← e] at h
  exact ⟨(pRightB_nat.1 h).1, (pRightB_nat.1 h).2, e⟩
theorem polTo_inv {rs : List Ru} {t : PT} (ho : ∀ x ∈ rs, x.Ok) (hr : rulesB rs = true) (h : t.Inv 0 0) : ∀ j, (polTo rs j t).Inv 0 0 := fun j => by
  induction j with
  | zero => exact h
  | succ j ih =>
    cases e : rs[j]? with
    | none => unfold polTo at ih ⊢; rw [List.take_add_one, e]; simpa using ih
    | some x =>
      rw [polTo_succ e]
      obtain ⟨h1, h2, _⟩ := right_nat (all_at hr e)
      exact PT.put_inv ih h1 h2 (qt_lt (Ru.W_lt (ho x (List.mem_of_getElem? e)))) (Nat.zero_le _)
theorem polTo_list {rs : List Ru} {t : PT} (ho : ∀ x ∈ rs, x.Ok) (hr : rulesB rs = true) (h : t.Inv 0 0) {j : Nat} {x : Ru} (e : rs[j]? = some x) : (polTo rs (j + 1) t).list = putL (polTo rs j t).list x.W x.k.toNat x.v := by
  rw [polTo_succ e]
  obtain ⟨h1, h2, _⟩ := right_nat (all_at hr e)
  exact PT.put_list (polTo_inv ho hr h j) h1 h2 (Ru.W_lt (ho x (List.mem_of_getElem? e)))
theorem polTo_len {rs : List Ru} {t : PT} (ho : ∀ x ∈ rs, x.Ok) (hr : rulesB rs = true) (h : t.Inv 0 0) : ∀ j, (polTo rs j t).list.length ≤ t.list.length + j := fun j => by
  induction j with
  | zero => exact Nat.le_refl _
  | succ j ih =>
    cases e : rs[j]? with
    | none => unfold polTo at ih ⊢; rw [List.take_add_one, e]; simp at ih ⊢; omega
    | some x =>
      rw [polTo_list ho hr h e]
      have := putL_le (PT.sorted (polTo_inv ho hr h j)) x.W x.k.toNat x.v
      omega
theorem mem_polTo {rs : List Ru} {t : PT} (ho : ∀ x ∈ rs, x.Ok) (hr : rulesB rs = true) (h : t.Inv 0 0) {y : En} : ∀ j, y ∈ (polTo rs j t).list → (∃ i r, i < j ∧ rs[i]? = some r ∧ y.W = r.W ∧ (y.n : Int) = r.k ∧ y.v = r.v) ∨ y ∈ t.list := fun j => by
  induction j with
  | zero => exact .inr
  | succ j ih =>
    cases e : rs[j]? with
    | none =>
      have e2 : polTo rs (j + 1) t = polTo rs j t := by unfold polTo; rw [List.take_add_one, e]; simp
      rw [e2]
      intro q
      rcases ih q with ⟨i, r, hi, q⟩ | q
      · exact .inl ⟨i, r, by omega, q⟩
      · exact .inr q
    | some x =>
      rw [polTo_list ho hr h e, mem_putL]
      rintro (q | ⟨q, _⟩)
      · refine .inl ⟨j, x, by omega, e, ?_⟩
        rw [q]
        exact ⟨rfl, (right_nat (all_at hr e)).2.2, rfl⟩
      · rcases ih q with ⟨i, r, hi, q⟩ | q
        · exact .inl ⟨i, r, by omega, q⟩
        · exact .inr q
noncomputable def base10 (bare : Bool) : PT := if bare = true then .nil else lay9 0 .nil
theorem base10_inv (bare : Bool) : (base10 bare).Inv 0 0 := by
  unfold base10; split
  · exact nil_inv
  · exact lay_inv nil_inv
theorem base10_len (bare : Bool) : (base10 bare).list.length ≤ 27 := by
  unfold base10; split
  · exact Nat.zero_le _
  · rw [lay9_len]; exact Nat.le_refl _
/-- a policy's tree -/
noncomputable def polZ (rs : List Ru) (bare : Bool) : PT := polTo rs rs.length (base10 bare)
theorem polZ_inv {rs : List Ru} (ho : ∀ x ∈ rs, x.Ok) (hr : rulesB rs = true) (bare : Bool) : (polZ rs bare).Inv 0 0 := polTo_inv ho hr (base10_inv bare) _
/-- the verdict of a wide number -/
def verdB (t : PT) (A : Nat) : Bool := match t.find A none with
  | none => false
  | some y => decide (y.v = 1)
def innB (t : PT) (a : AZ) : Bool := (innerA a).all fun n => verdB t (AZ.four n).wd
def allowB (t : PT) (a : AZ) : Bool := verdB t a.wd && innB t a
end

section
open Go.RowKit
def neB (x : List UInt8) : Bool := !x.isEmpty
/-- what stands between blanks -/
def wordsB (l : List UInt8) : List (List UInt8) := (splitB (hasB [32]) l).filter neB
theorem hasB_sp (c : UInt8) : hasB [32] c = decide (c = 32) := by
  unfold hasB
  rw [Bool.eq_iff_iff, decide_eq_true_iff]; simp only [List.any_cons, List.any_nil, Bool.or_false, beq_iff_eq]
  exact ⟨fun e => e.symm, fun e => e.symm⟩
theorem dec_fit (s : ByteArray) (p : Nat) (h : p < s.size) : p + (Utf8.decode s p).2 ≤ s.size := by
  rw [decode_eq]
  repeat' split
  all_goals simp only
  all_goals omega
theorem dec_sp (s : ByteArray) (p : Nat) (hr : (Utf8.decode s p).1 = 32) : byteN s p = 32 ∧ (Utf8.decode s p).2 = 1 := by
  have hb := byteN_lt s p
  rw [decode_eq] at hr ⊢
  repeat' split at hr
  all_goals simp only at hr
  all_goals first
    | (exfalso; omega)
    | (rename_i c; rw [if_pos c]; exact ⟨hr, rfl⟩)
theorem dec_no (s : ByteArray) (p : Nat) (hr : (Utf8.decode s p).1 ≠ 32) : ∀ i, p ≤ i → i < p + (Utf8.decode s p).2 → byteN s i ≠ 32 := by
  by_cases c0 : byteN s p < 128
  · rw [decode_eq, if_pos c0] at hr ⊢
    intro i h1 h2
    simp only at hr h2
    obtain rfl : i = p := by omega
    exact hr
  · clear hr
    rw [decode_eq, if_neg c0]
    intro i h1
    repeat' split
    all_goals simp only
    all_goals intro h2 h3
    all_goals
      have hi : i = p ∨ i = p + 1 ∨ i = p + 2 ∨ i = p + 3 := by omega
      rcases hi with rfl | rfl | rfl | rfl
    all_goals omega
theorem byte_sp (s : ByteArray) (k : Nat) (h : k < s.size) : hasB [32] s[k] = decide (byteN s k = 32) := by
  rw [hasB_sp, byteN_eq s k h]
  rw [Bool.eq_iff_iff, decide_eq_true_iff, decide_eq_true_iff]
  constructor
  · intro e; rw [e]; rfl
  · intro e; exact UInt8.toNat_inj.1 e
/-- a row of bytes that are no blanks -/
theorem spl_run (s : ByteArray) (a k : Nat) (qs : List (List UInt8)) (ha : a ≤ k) (h : spl (hasB [32]) (s.data.toList.take k) = (qs, (s.data.toList.drop a).take (k - a))) : ∀ m, k + m ≤ s.size → (∀ i, k ≤ i → i < k + m → byteN s i ≠ 32) → spl (hasB [32]) (s.data.toList.take (k + m)) = (qs, (s.data.toList.drop a).take (k + m - a)) := fun m => by
  induction m with
  | zero => intro _ _; exact h
  | succ m ih =>
    intro hm hn
    have h1 := ih (by omega) (fun i h1 h2 => hn i h1 (by omega))
    have hp : hasB [32] (s[k + m]'(by omega)) = false := by
      rw [byte_sp s (k + m) (by omega), decide_eq_false_iff_not]
      exact hn (k + m) (by omega) (by omega)
    have h2 := spl_no (hasB [32]) s (k + m) (by omega) hp
    rw [h1] at h2
    rw [← Nat.add_assoc, h2, cut_snoc s a (k + m) (by omega) (by omega)]
theorem filter_in {qs : List (List UInt8)} {x : List UInt8} (h : x ≠ []) : (qs ++ [x]).filter neB = qs.filter neB ++ [x] := by
  rw [List.filter_append]
  congr 1
  cases x with
  | nil => exact absurd rfl h
  | cons c x => rfl
theorem filter_out {qs : List (List UInt8)} : (qs ++ [([] : List UInt8)]).filter neB = qs.filter neB := by
  rw [List.filter_append]
  show qs.filter neB ++ [] = _
  rw [List.append_nil]
theorem cut_ne {s : ByteArray} {a k : Nat} (h : a < k) (hk : k ≤ s.size) : (s.data.toList.drop a).take (k - a) ≠ [] := fun e => by
  have := congrArg List.length e
  simp at this
  omega
theorem infoS10 : (Tryz.prog.info? 9).map (fun i => (i.zero, i.size, i.bytes)) = some (some (.string ⟨#[]⟩), 1, 16) := by kernel_rfl
theorem Parts.keepI {B : Nat} {w : World} {v : Value} {ps : List (List UInt8)} (h : Parts B w v ps) {k : Nat} (hk : k < B) (s : ByteArray) (p : Nat) : Parts B (w.iterAt k s p) v ps := own_iterAt h hk s p
set_option maxRecDepth 100000 in
set_option maxHeartbeats 2000000 in
theorem words10_any (s : ByteArray) (w : World) (hs : s.size ≤ 1073741824) :
    Calls Tryz.prog 69 #[.string s] w (RetParts w.heap.size (wordsB s.data.toList) w) := by
  obtain ⟨i0, hi, hz0, hz1, hz2⟩ := info_parts infoS10
  go_enter Tryz.func69, Tryz.ntmps69
  go_wp2
  go_loopw [3, 4] (fun v fr wr => ∃ (k a : Nat) (qs : List (List UInt8)), k ≤ s.size ∧ a ≤ k ∧ fr = .int .i64 a ∧ Parts (w.heap.size + 1) wr v (qs.filter neB) ∧ (qs.filter neB).length ≤ k ∧ wr.heap[w.heap.size]? = some (.stringIter s k) ∧ Hid (spl (hasB [32]) (s.data.toList.take k) = (qs, (s.data.toList.drop a).take (k - a))) ∧ Below w.heap.size w wr ∧ w.heap.size + 1 ≤ wr.heap.size) (fun _ _ wr => s.size - wr.iterPos w.heap.size)
  case atStart => exact ⟨0, 0, [], Nat.zero_le _, Nat.zero_le _, rfl, Parts.nil _ _, by simp, World.iter_heap w s 0, rfl, (Below.refl _ w).alloc (Nat.le_refl _) _, by simp [World.iter]⟩
  case round =>
    obtain ⟨k, a, qs, hk, ha, rfl, hown, hpl, hit, HS, hbw, hsz⟩ := hrel
    by_cases hp : k < s.size
    · have hnx : ∀ ty, (Instr.next (.pointer (some ⟨w.heap.size, 0, none⟩)) true ty).run Tryz.prog wr = _ := fun ty => Lib.run_next_any_at wr w.heap.size s k ty hit hp
      have hfit := dec_fit s k hp
      have hwd := width_pos s k hp
      have hown2 := hown.keepI (by omega : w.heap.size < w.heap.size + 1) s (k + (Utf8.decode s k).2)
      have hit2 := Lib.iterAt_heap wr w.heap.size s k (k + (Utf8.decode s k).2) hit
      have hbw2 := Lib.below_iterAt hbw (k := w.heap.size) (Nat.le_refl _) s (k + (Utf8.decode s k).2)
      have hsz2 : w.heap.size + 1 ≤ (wr.iterAt w.heap.size s (k + (Utf8.decode s k).2)).heap.size := by rw [Lib.iterAt_size]; exact hsz
      have HIP : Hid (wr.iterPos w.heap.size = k) := by show _ = _; simp only [World.iterPos, hit]
      by_cases hr : (Utf8.decode s k).1 = 32
      · obtain ⟨hb, h1⟩ := dec_sp s k hr
        have hsn := spl_yes (hasB [32]) s k hp (by rw [byte_sp s k hp]; exact decide_eq_true hb)
        rw [HS.out] at hsn
        have HSN := Lib.hid hsn
        rw [h1] at hown2 hit2 hbw2 hsz2
        rw [h1, hr] at hnx
        clear hsn hb hr h1 hwd hfit hown hbw hsz hit
        generalize wr.iterAt w.heap.size s (k + 1) = wi at *
        by_cases hak : a < k
        · have hd : decide ((a : Int) < k) = true := by simp; omega
          unfold Parts at hown2
          go_wp2_with (at_builtin; refine wp_append1 _ rfl _ _ 45 rfl (w.heap.size + 1) 9 i0 (.string ⟨#[]⟩) 16 Tryz.underlying45 hi hz0 hz1 hz2 rfl _ _ _ rfl hown2 (.string (s.extract a k)) rfl rfl (by omega) (by omega) hsz2 ?_; intro v' w1 hown' hk')
          have hit3 : w1.heap[w.heap.size]? = some (.stringIter s (k + 1)) := (hk'.block _ (by omega)).trans hit2
          go_roundw
          case rel =>
            refine ⟨k + 1, k + 1, qs ++ [(s.data.toList.drop a).take (k - a)], by omega, by omega, by go_num, ?_, ?_, hit3, ?_, hbw2.trans (hk'.mono (by omega)), Nat.le_trans hsz2 hk'.size⟩
            · rw [filter_in (cut_ne hak (by omega))]; exact Parts.snoc hown' (extract_eq s a k _ rfl)
            · rw [filter_in (cut_ne hak (by omega))]; simp; omega
            · show _ = _
              rw [HSN.out, Nat.sub_self, List.take_zero]
          case measure =>
            rw [HIP.out]
            simp only [World.iterPos, hit3]
            omega
        · obtain rfl : a = k := by omega
          have hd : decide ((a : Int) < a) = false := by simp
          have hsn := HSN.out
          rw [Nat.sub_self, List.take_zero] at hsn
          have HSN2 := Lib.hid hsn
          clear hsn HSN
          go_wp2
          go_roundw
          case rel =>
            refine ⟨a + 1, a + 1, qs ++ [[]], by omega, by omega, by go_num, ?_, ?_, hit2, ?_, hbw2, hsz2⟩
            · rw [filter_out]; exact hown2
            · rw [filter_out]; omega
            · show _ = _
              rw [HSN2.out, Nat.sub_self, List.take_zero]
          case measure =>
            rw [HIP.out]
            simp only [World.iterPos, hit2]
            omega
      · have HSN := Lib.hid (spl_run s a k qs ha HS.out _ hfit (dec_no s k hr))
        have hr1 : (((Utf8.decode s k).1 : Int) == 32) = false := by rw [beq_eq_false_iff_ne]; omega
        clear hown hbw hsz hit
        generalize (Utf8.decode s k).1 = r at *
        generalize (Utf8.decode s k).2 = m at *
        generalize wr.iterAt w.heap.size s (k + m) = wi at *
        go_wp2
        go_roundw
        case rel => exact ⟨k + m, a, qs, by omega, by omega, rfl, hown2, by omega, hit2, HSN, hbw2, hsz2⟩
        case measure =>
          rw [HIP.out]
          simp only [World.iterPos, hit2]
          omega
    · have hnx : ∀ ty, (Instr.next (.pointer (some ⟨w.heap.size, 0, none⟩)) true ty).run Tryz.prog wr = _ := fun ty => Lib.run_next_end_at wr w.heap.size s k ty hit hp
      obtain rfl : k = s.size := by omega
      have hfin : splitB (hasB [32]) s.data.toList = qs ++ [(s.data.toList.drop a).take (s.size - a)] := by
        have := HS.out
        rw [take_all s s.size hp] at this
        unfold splitB
        rw [this]
      have HF := Lib.hid hfin
      clear hfin hit
      by_cases hak : a < s.size
      · have hd : decide ((a : Int) < s.size) = true := by simp; omega
        unfold Parts at hown
        go_wp2_with (at_builtin; refine wp_append1 _ rfl _ _ 45 rfl (w.heap.size + 1) 9 i0 (.string ⟨#[]⟩) 16 Tryz.underlying45 hi hz0 hz1 hz2 rfl _ _ _ rfl hown (.string (s.extract a s.size)) rfl rfl (by omega) (by omega) hsz ?_; intro v' w1 hown' hk')
        go_ret
        refine ⟨v', rfl, ?_, hbw.trans (hk'.mono (by omega))⟩
        unfold wordsB
        rw [HF.out, filter_in (cut_ne hak (Nat.le_refl _))]
        exact own_base (Parts.snoc hown' (extract_eq s a s.size _ rfl)) (by omega)
      · obtain rfl : a = s.size := by omega
        have hd : decide ((s.size : Int) < s.size) = false := by simp
        go_wp2
        go_ret
        refine ⟨_, rfl, ?_, hbw⟩
        unfold wordsB
        rw [HF.out, Nat.sub_self, List.take_zero, filter_out]
        exact own_base hown (by omega)
end

section
open Go.RowKit
theorem chk_many {rs : List Ru} {ps : List Int} (h : 256 < rs.length ∨ 16 < ps.length) : checkZ rs ps = 19 := by unfold checkZ; rw [if_pos h]
theorem chk_arg {rs : List Ru} {ps : List Int} (h1 : ¬ 256 < rs.length) (h2 : ¬ 16 < ps.length) {j : Nat} {x : Ru} (hx : rs[j]? = some x) (h : pRightB x.W x.k = false) : checkZ rs ps = 2 := by
  unfold checkZ
  rw [if_neg (by omega), if_neg (by unfold rulesB; rw [all_false hx h]; simp)]
theorem chk_port {rs : List Ru} {ps : List Int} (h1 : ¬ 256 < rs.length) (h2 : ¬ 16 < ps.length) (h3 : rulesB rs = true) {j : Nat} {x : Int} (hx : ps[j]? = some x) (h : portB x = false) : checkZ rs ps = 8 := by
  unfold checkZ
  rw [if_neg (by omega), if_pos h3, if_neg (by unfold portsB; rw [all_false hx h]; simp)]
theorem chk_ok {rs : List Ru} {ps : List Int} (h1 : ¬ 256 < rs.length) (h2 : ¬ 16 < ps.length) (h3 : rulesB rs = true) (h4 : portsB ps = true) : checkZ rs ps = 0 := by
  unfold checkZ
  rw [if_neg (by omega), if_pos h3, if_pos h4]
set_option maxRecDepth 100000 in
set_option maxHeartbeats 4000000 in
theorem check10_any (ra pa : Option Addr) (rc pc : Nat) (bare : Bool) (rs : List Ru) (ps : List Int) (w : World) (hr : IsURow w ra rs.length rc rs) (hp : IsIRow w pa ps.length pc ps) :
    Calls Tryz.prog 31 #[.agg #[.slice ra rs.length rc, .slice pa ps.length pc, .bool bare]] w fun e w' => e = .returned (.int .i64 (checkZ rs ps)) ∧ Below w.heap.size w w' := by
  have HRO := Lib.hid hr
  have HPO := Lib.hid hp
  clear hr hp
  have HB0 := Lib.hid ((Blks.empty w).new #[.slice ra rs.length rc, .slice pa ps.length pc, .bool bare] 61)
  have HW0 : Hid (Below w.heap.size w (w.alloc (.cells #[.slice ra rs.length rc, .slice pa ps.length pc, .bool bare] 61))) := (Below.refl _ _).alloc (Nat.le_refl _) _
  by_cases h1 : 256 < rs.length
  · have hd : decide (256 < (rs.length : Int)) = true := by simp; omega
    rw [chk_many (.inl h1)]
    go_enter Tryz.func31, Tryz.ntmps31
    go_wp2
    go_ret
    exact ⟨rfl, HW0.out⟩
  have hd : decide (256 < (rs.length : Int)) = false := by simp; omega
  by_cases h2 : 16 < ps.length
  · have hd2 : decide (16 < (ps.length : Int)) = true := by simp; omega
    rw [chk_many (.inr h2)]
    go_enter Tryz.func31, Tryz.ntmps31
    go_wp2
    go_ret
    exact ⟨rfl, HW0.out⟩
  have hd2 : decide (16 < (ps.length : Int)) = false := by simp; omega
  go_enter Tryz.func31, Tryz.ntmps31
  go_wp2
  generalize w.alloc (.cells #[.slice ra rs.length rc, .slice pa ps.length pc, .bool bare] 61) = x0 at *
  go_loopw [20] (fun i wr => ∃ j : Nat, j ≤ rs.length ∧ i = .int .i64 j ∧ Hid (Below x0.heap.size x0 wr) ∧ Hid (∀ i y, i < j → rs[i]? = some y → pRightB y.W y.k = true)) (fun i _ => rs.length - (intOf i).toNat)
  case atStart => exact ⟨0, Nat.zero_le _, rfl, Below.refl _ _, fun i y hi => absurd hi (Nat.not_lt_zero _)⟩
  case round =>
    obtain ⟨j, hj, rfl, hbw, hok⟩ := hrel
    have HWW := Lib.hid (HW0.out.trans (hbw.out.mono HW0.out.size))
    by_cases hlt : j < rs.length
    · obtain ⟨ad, rfl, x, hx, ⟨c0, c1, c2, c3⟩, hx1, hx2, _⟩ := (HRO.out.keep HWW.out).at hlt
      have hjl : (j : Int) < rs.length := by omega
      have HL : Hid (Below wr.heap.size wr (wr.alloc (.cells #[.int .u64 (x.hi : Nat), .int .u64 (x.lo : Nat), .int .i64 x.k, .bool x.a] 99))) := (Below.refl _ _).alloc (Nat.le_refl _) _
      have HC : Hid (∀ W, Calls Tryz.prog 25 #[.agg #[.int .u64 (x.hi : Nat), .int .u64 (x.lo : Nat), .int .i64 x.k]] W fun e w' => e = .returned (.bool (pRightB x.W x.k)) ∧ Below W.heap.size W w') := fun W => pRight_any x.hi x.lo x.k W hx1 hx2
      clear hx1 hx2
      go_wp2_with fail
      refine (HC.out _).mono ?_
      rintro e x2 ⟨rfl, hb2⟩
      have HB2 := Lib.hid (HL.out.trans (hb2.mono HL.out.size))
      clear hb2 HL HC c0 c1 c2 c3
      cases hp : pRightB x.W x.k with
      | false =>
        go_wp2
        go_ret
        rw [chk_arg h1 h2 hx hp]
        exact ⟨rfl, HWW.out.trans (HB2.out.mono HWW.out.size)⟩
      | true =>
        have HOK : Hid (∀ i y, i < j + 1 → rs[i]? = some y → pRightB y.W y.k = true) := fun i y hi hy => by
          by_cases c : i < j
          · exact hok.out i y c hy
          · rw [show i = j from by omega, hx] at hy
            exact Option.some.inj hy ▸ hp
        go_wp2
        go_roundw
        case rel => exact ⟨j + 1, by omega, by go_num, hbw.out.trans (HB2.out.mono hbw.out.size), HOK⟩
        case measure => simp [intOf]; omega
    · have hj' : j = rs.length := by omega
      subst hj'
      have h3 : rulesB rs = true := all_true (fun i y hy => hok.out i y (List.getElem?_eq_some_iff.1 hy).1 hy)
      obtain ⟨lg, g0, g1, g2⟩ := (HB0.out.keep hbw.out).r3 (.head _)
      clear hok
      go_wp2
      go_loopw [32] (fun i wr2 => ∃ k : Nat, k ≤ ps.length ∧ i = .int .i64 k ∧ wr2 = wr ∧ Hid (∀ i y, i < k → ps[i]? = some y → portB y = true)) (fun i _ => ps.length - (intOf i).toNat)
      case atStart => exact ⟨0, Nat.zero_le _, rfl, rfl, fun i y hi => absurd hi (Nat.not_lt_zero _)⟩
      case round =>
        obtain ⟨k, hk, rfl, rfl, hokp⟩ := hrel
        by_cases hkt : k < ps.length
        · obtain ⟨ad, rfl, n, hn, r0, _⟩ := HPO.out.at (wr := wr) HWW.out hkt
          have hkl : (k : Int) < ps.length := by omega
          cases hp : portB n with
          | false =>
            by_cases hn1 : n < 1
            · have hd3 : decide (n < 1) = true := decide_eq_true hn1
              go_wp2
              go_ret
              rw [chk_port h1 h2 h3 hn hp]
              exact ⟨rfl, HWW.out⟩
            · have hd3 : decide (n < 1) = false := decide_eq_false hn1
              have hd4 : decide (65535 < n) = true := by
                unfold portB at hp
                rw [decide_eq_false_iff_not] at hp
                exact decide_eq_true (by omega)
              go_wp2
              go_ret
              rw [chk_port h1 h2 h3 hn hp]
              exact ⟨rfl, HWW.out⟩
          | true =>
            have hp' := hp
            unfold portB at hp'
            rw [decide_eq_true_iff] at hp'
            have hd3 : decide (n < 1) = false := decide_eq_false (by omega)
            have hd4 : decide (65535 < n) = false := decide_eq_false (by omega)
            have HOK : Hid (∀ i y, i < k + 1 → ps[i]? = some y → portB y = true) := fun i y hi hy => by
              by_cases c : i < k
              · exact hokp.out i y c hy
              · rw [show i = k from by omega, hn] at hy
                injection hy with hy
                rw [← hy]; exact hp
            go_wp2
            go_roundw
            case rel => exact ⟨k + 1, by omega, by go_num, by trivial, HOK⟩
            case measure => simp [intOf]; omega
        · have hk' : k = ps.length := by omega
          subst hk'
          have h4 : portsB ps = true := all_true (fun i y hy => hokp.out i y (List.getElem?_eq_some_iff.1 hy).1 hy)
          go_wp2
          go_ret
          rw [chk_ok h1 h2 h3 h4]
          exact ⟨rfl, HWW.out⟩
set_option maxRecDepth 100000 in
set_option maxHeartbeats 4000000 in
theorem refCheck10_any (ra pa : Option Addr) (rc pc : Nat) (bare : Bool) (rs : List Ru) (ps : List Int) (w : World) (hr : IsURow w ra rs.length rc rs) (hp : IsIRow w pa ps.length pc ps) :
    Calls Tryz.prog 29 #[.agg #[.slice ra rs.length rc, .slice pa ps.length pc, .bool bare]] w fun e w' => e = .returned (.int .i64 (checkZ rs ps)) ∧ Below w.heap.size w w' := by
  have HRO := Lib.hid hr
  have HPO := Lib.hid hp
  clear hr hp
  have HB0 := Lib.hid ((Blks.empty w).new #[.slice ra rs.length rc, .slice pa ps.length pc, .bool bare] 70)
  have HW0 : Hid (Below w.heap.size w (w.alloc (.cells #[.slice ra rs.length rc, .slice pa ps.length pc, .bool bare] 70))) := (Below.refl _ _).alloc (Nat.le_refl _) _
  by_cases h1 : 256 < rs.length
  · have hd : decide (256 < (rs.length : Int)) = true := by simp; omega
    rw [chk_many (.inl h1)]
    go_enter Tryz.func29, Tryz.ntmps29
    go_wp2
    go_ret
    exact ⟨rfl, HW0.out⟩
  have hd : decide (256 < (rs.length : Int)) = false := by simp; omega
  by_cases h2 : 16 < ps.length
  · have hd2 : decide (16 < (ps.length : Int)) = true := by simp; omega
    rw [chk_many (.inr h2)]
    go_enter Tryz.func29, Tryz.ntmps29
    go_wp2
    go_ret
    exact ⟨rfl, HW0.out⟩
  have hd2 : decide (16 < (ps.length : Int)) = false := by simp; omega
  go_enter Tryz.func29, Tryz.ntmps29
  go_wp2
  generalize w.alloc (.cells #[.slice ra rs.length rc, .slice pa ps.length pc, .bool bare] 70) = x0 at *
  go_loopw [20] (fun i wr => ∃ j : Nat, j ≤ rs.length ∧ i = .int .i64 j ∧ Hid (Below x0.heap.size x0 wr) ∧ Hid (∀ i y, i < j → rs[i]? = some y → pRightB y.W y.k = true)) (fun i _ => rs.length - (intOf i).toNat)
  case atStart => exact ⟨0, Nat.zero_le _, rfl, Below.refl _ _, fun i y hi => absurd hi (Nat.not_lt_zero _)⟩
  case round =>
    obtain ⟨j, hj, rfl, hbw, hok⟩ := hrel
    have HWW := Lib.hid (HW0.out.trans (hbw.out.mono HW0.out.size))
    by_cases hlt : j < rs.length
    · obtain ⟨ad, rfl, x, hx, ⟨c0, c1, c2, c3⟩, hx1, hx2, _⟩ := (HRO.out.keep HWW.out).at hlt
      have hjl : (j : Int) < rs.length := by omega
      have HL : Hid (Below wr.heap.size wr (wr.alloc (.cells #[.int .u64 (x.hi : Nat), .int .u64 (x.lo : Nat), .int .i64 x.k, .bool x.a] 125))) := (Below.refl _ _).alloc (Nat.le_refl _) _
      have HC : Hid (∀ W, Calls Tryz.prog 62 #[.agg #[.int .u64 (x.hi : Nat), .int .u64 (x.lo : Nat), .int .i64 x.k]] W fun e w' => e = .returned (.bool (pRightB x.W x.k)) ∧ Below W.heap.size W w') := fun W => refRight7_any x.hi x.lo x.k W hx1 hx2
      clear hx1 hx2
      go_wp2_with fail
      refine (HC.out _).mono ?_
      rintro e x2 ⟨rfl, hb2⟩
      have HB2 := Lib.hid (HL.out.trans (hb2.mono HL.out.size))
      clear hb2 HL HC c0 c1 c2 c3
      cases hp : pRightB x.W x.k with
      | false =>
        go_wp2
        go_ret
        rw [chk_arg h1 h2 hx hp]
        exact ⟨rfl, HWW.out.trans (HB2.out.mono HWW.out.size)⟩
      | true =>
        have HOK : Hid (∀ i y, i < j + 1 → rs[i]? = some y → pRightB y.W y.k = true) := fun i y hi hy => by
          by_cases c : i < j
          · exact hok.out i y c hy
          · rw [show i = j from by omega, hx] at hy
            exact Option.some.inj hy ▸ hp
        go_wp2
        go_roundw
        case rel => exact ⟨j + 1, by omega, by go_num, hbw.out.trans (HB2.out.mono hbw.out.size), HOK⟩
        case measure => simp [intOf]; omega
    · have hj' : j = rs.length := by omega
      subst hj'
      have h3 : rulesB rs = true := all_true (fun i y hy => hok.out i y (List.getElem?_eq_some_iff.1 hy).1 hy)
      obtain ⟨lg, g0, g1, g2⟩ := (HB0.out.keep hbw.out).r3 (.head _)
      clear hok
      go_wp2
      go_loopw [32] (fun i wr2 => ∃ k : Nat, k ≤ ps.length ∧ i = .int .i64 k ∧ wr2 = wr ∧ Hid (∀ i y, i < k → ps[i]? = some y → portB y = true)) (fun i _ => ps.length - (intOf i).toNat)
      case atStart => exact ⟨0, Nat.zero_le _, rfl, rfl, fun i y hi => absurd hi (Nat.not_lt_zero _)⟩
      case round =>
        obtain ⟨k, hk, rfl, rfl, hokp⟩ := hrel
        by_cases hkt : k < ps.length
        · obtain ⟨ad, rfl, n, hn, r0, _⟩ := HPO.out.at (wr := wr) HWW.out hkt
          have hkl : (k : Int) < ps.length := by omega
          cases hp : portB n with
          | false =>
            by_cases hn1 : n < 1
            · have hd3 : decide (n < 1) = true := decide_eq_true hn1
              go_wp2
              go_ret
              rw [chk_port h1 h2 h3 hn hp]
              exact ⟨rfl, HWW.out⟩
            · have hd3 : decide (n < 1) = false := decide_eq_false hn1
              have hd4 : decide (65535 < n) = true := by
                unfold portB at hp
                rw [decide_eq_false_iff_not] at hp
                exact decide_eq_true (by omega)
              go_wp2
              go_ret
              rw [chk_port h1 h2 h3 hn hp]
              exact ⟨rfl, HWW.out⟩
          | true =>
            have hp' := hp
            unfold portB at hp'
            rw [decide_eq_true_iff] at hp'
            have hd3 : decide (n < 1) = false := decide_eq_false (by omega)
            have hd4 : decide (65535 < n) = false := decide_eq_false (by omega)
            have HOK : Hid (∀ i y, i < k + 1 → ps[i]? = some y → portB y = true) := fun i y hi hy => by
              by_cases c : i < k
              · exact hokp.out i y c hy
              · rw [show i = k from by omega, hn] at hy
                injection hy with hy
                rw [← hy]; exact hp
            go_wp2
            go_roundw
            case rel => exact ⟨k + 1, by omega, by go_num, by trivial, HOK⟩
            case measure => simp [intOf]; omega
        · have hk' : k = ps.length := by omega
          subst hk'
          have h4 : portsB ps = true := all_true (fun i y hy => hokp.out i y (List.getElem?_eq_some_iff.1 hy).1 hy)
          go_wp2
          go_ret
          rw [chk_ok h1 h2 h3 h4]
          exact ⟨rfl, HWW.out⟩
end

section
open Go.RowKit Go.ChangeShapes Go.WideShapes Go.ChangeAt Go.Joins Go.Deep
theorem trod_slice_form {H : Type} {enc : TypeId × Value → H} {W : World} {t e : TypeId} {n : Nat} {v : Value} {y : DataW H × List MemPlace} (hu : Tryz.prog.underlying t = some (.slice e)) (h : DataW.trod enc Tryz.prog W 0 (fun _ => true) true n t [v] = some y) :
    ∃ ao len cap, v = .slice ao len cap ∧ DataW.Trod enc Tryz.prog W 0 (fun _ => true) true t (.slice ao len cap) y.1 y.2 := by
  rcases open_slice hu h with ⟨hcs, _⟩ | ⟨a, l, c, m, k, D, Pl, hcs, _⟩
  · simp at hcs
    subst hcs
    exact ⟨none, 0, 0, rfl, n, by simpa [Value.cells] using h⟩
  · simp at hcs
    subst hcs
    exact ⟨some a, l, c, rfl, n, by simpa [Value.cells] using h⟩
theorem cells_pol : Tryz.prog.cellsOf 61 = 3 := by kernel_rfl
set_option maxRecDepth 100000 in
theorem open_pol {H : Type} {enc : TypeId × Value → H} {W : World} {r : Reach} {b0 : Nat} {v : Value} {d : DataW H} {ps : List MemPlace} (hv : Value.okWide Tryz.prog W r b0 61 v) (h : DataW.Trod enc Tryz.prog W 0 (fun _ => true) true 61 v d ps) :
    ∃ (ra : Option Addr) (rl rc : Nat) (rs : List Ru) (pa : Option Addr) (pl pc : Nat) (zs : List Int) (bare : Bool), v = .agg #[.slice ra rl rc, .slice pa pl pc, .bool bare] ∧ IsURow W ra rl rc rs ∧ IsIRow W pa pl pc zs := by
  obtain ⟨v0, v1, v2, y0, y1, y2, n, rfl, _, _, h0, h1, h2⟩ := open_agg3 Tryz.underlying61 (by kernel_rfl) cells_pol hv h
  obtain ⟨ra, rl, rc, rfl, hr⟩ := trod_slice_form Tryz.underlying58 h0
  obtain ⟨pa, pl, pc, rfl, hp⟩ := trod_slice_form Tryz.underlying59 h1
  obtain ⟨b, hb, _⟩ := DataW.trod_bool Tryz.underlying4 h2
  simp at hb
  subst hb
  obtain ⟨rs, hrs⟩ := open_urow hr
  obtain ⟨zs, hzs⟩ := open_irow hp
  exact ⟨ra, rl, rc, rs, pa, pl, pc, zs, b, rfl, hrs, hzs⟩
end

end Go.Proofs.YtoobiaifogackaaGreatDoor
