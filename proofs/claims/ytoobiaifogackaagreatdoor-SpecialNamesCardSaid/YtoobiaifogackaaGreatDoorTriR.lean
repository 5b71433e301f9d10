/-
  Layer 8: a slice of prefixes that came in; the trie beside it.
-/
import Derived.Test.YtoobiaifogackaaGreatDoorTriP
import Derived.Test.YtoobiaifogackaaGreatDoorTriQ
import Derived.Test.YtoobiaifogackaaGreatDoorTriN
namespace Go.Proofs.YtoobiaifogackaaGreatDoor
open Go.RowKit


theorem bounds_u64r {n : Int} (h : (Lit.int .u64 n).wf = true) : ∃ x : Nat, n = x ∧ x < 18446744073709551616 := by
  simp [Lit.wf, IntKind.min, IntKind.max, IntKind.bits, IntKind.signed] at h
  exact ⟨n.toNat, by omega, by omega⟩
/-- the slice holds these prefixes (any numbers of their kinds) -/
def IsPRow (w : World) (a : Option Addr) (len _cap : Nat) (zs : List (Int × Int × Int)) : Prop :=
  zs.length = len ∧ ∀ (j : Nat) (x : Int × Int × Int), zs[j]? = some x → (∃ ad, a = some ad ∧ w.cell? (ad.add (j * 3)) = some (.int .u64 x.1) ∧ w.cell? (ad.add (j * 3 + 1)) = some (.int .u64 x.2.1) ∧ w.cell? (ad.add (j * 3 + 2)) = some (.int .i64 x.2.2)) ∧
    (Lit.int .u64 x.1).wf = true ∧ (Lit.int .u64 x.2.1).wf = true ∧ (Lit.int .i64 x.2.2).wf = true
theorem IsPRow.at {w wr : World} {a : Option Addr} {len cap : Nat} {zs : List (Int × Int × Int)} (h : IsPRow w a len cap zs) (hb : Below w.heap.size w wr) {j : Nat} (hj : j < zs.length) :
    ∃ (ad : Addr) (_ : a = some ad) (qh ql : Nat) (qk : Int), zs[j]? = some ((qh : Int), (ql : Int), qk) ∧ wr.cell? (ad.add (j * 3)) = some (.int .u64 (qh : Nat)) ∧ wr.cell? ⟨(ad.add (j * 3)).block, (ad.add (j * 3)).off + 1, none⟩ = some (.int .u64 (ql : Nat)) ∧ wr.cell? ⟨(ad.add (j * 3)).block, (ad.add (j * 3)).off + 2, none⟩ = some (.int .i64 qk) ∧ qh < 18446744073709551616 ∧ ql < 18446744073709551616 := by
  obtain ⟨⟨ad, ha, c0, c1, c2⟩, w0, w1, _⟩ := h.2 j zs[j] (List.getElem?_eq_getElem hj)
  obtain ⟨qh, e1, b1⟩ := bounds_u64r w0
  obtain ⟨ql, e2, b2⟩ := bounds_u64r w1
  have kp : ∀ (p : Addr) (u : Value), w.cell? p = some u → wr.cell? p = some u := fun p u hp => (hb.cell (World.block_lt_of_cell? w p hp)).trans hp
  have s1 : ad.add (j * 3 + 1) = ⟨(ad.add (j * 3)).block, (ad.add (j * 3)).off + 1, none⟩ := by rw [← Go.Deep.add_add]; rfl
  have s2 : ad.add (j * 3 + 2) = ⟨(ad.add (j * 3)).block, (ad.add (j * 3)).off + 2, none⟩ := by rw [← Go.Deep.add_add]; rfl
  refine ⟨ad, ha, qh, ql, zs[j].2.2, ?_, ?_, ?_, ?_, b1, b2⟩
  · rw [List.getElem?_eq_getElem hj, ← e1, ← e2]
  · rw [← e1]; exact kp _ _ c0
  · rw [← e2, ← s1]; exact kp _ _ c1
  · rw [← s2]; exact kp _ _ c2
theorem pRightB_ex {W : Nat} {n : Int} (h : pRightB W n = true) : ∃ m : Nat, n = m ∧ m ≤ 128 ∧ rt W m := by
  have h' := h
  unfold pRightB at h'
  rw [decide_eq_true_iff] at h'
  refine ⟨n.toNat, by omega, by omega, h'.2.2⟩
theorem entV_form (x : Option En) : ∃ (fh fl fn : Nat) (fv : Int), entV x = .tuple #[.agg #[.int .u64 (fh : Nat), .int .u64 (fl : Nat), .int .i64 (fn : Nat)], .int .i64 fv, .bool x.isSome] ∧ ∀ y, x = some y → fn = y.n := by
  cases x with
  | none => exact ⟨0, 0, 0, 0, rfl, fun y h => by cases h⟩
  | some e => exact ⟨_, _, _, _, rfl, fun y h => by cases h; rfl⟩
theorem St.first1 {w x y : World} {c : Array Value} {t : TypeId} {b : Nat} (hb : Below w.heap.size w x) (hB : Blks [(b, c, t)] x) (hy : Below x.heap.size x y) (ht : IsTrie y x.heap.size .nil) : St w y x.heap.size .nil [(b, c, t)] :=
  ⟨below_chain7 hb hy, ht, (fun b' q => by
    rcases List.mem_cons.1 q with r | r
    · rw [r]; exact hb.size
    · cases r), hB.keep hy, (fun e he q => by
    have e1 := block_lt (hB e he)
    rcases List.mem_cons.1 q with r | r
    · rw [r] at e1; exact Nat.lt_irrefl _ e1
    · cases r)⟩
end Go.Proofs.YtoobiaifogackaaGreatDoor
