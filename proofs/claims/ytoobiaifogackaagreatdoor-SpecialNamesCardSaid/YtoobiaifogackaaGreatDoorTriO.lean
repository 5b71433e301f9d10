/-
  Layer 8: without: what it comes to at a tree that holds the prefix.
-/
import Derived.Test.YtoobiaifogackaaGreatDoorTriJ
namespace Go.Proofs.YtoobiaifogackaaGreatDoor
open Go.RowKit


theorem HT.isNil_some {T : HT} {p : Addr} (h : T.ptr = .pointer (some p)) : T.pt.isNil = false := by
  cases T with
  | nil => cases h
  | node => rfl
theorem HT.isNil_none {T : HT} (h : T.ptr = .pointer none) : T.pt.isNil = true := by
  cases T with
  | nil => rfl
  | node => cases h
theorem join_cases (h : Bool) (l r : HT) : h = true ∨ (h = false ∧ ∃ p q, l.ptr = .pointer (some p) ∧ r.ptr = .pointer (some q)) ∨ (h = false ∧ (∃ p, l.ptr = .pointer (some p)) ∧ r.ptr = .pointer none) ∨ (h = false ∧ l.ptr = .pointer none) := by
  cases h with
  | true => exact .inl rfl
  | false =>
    cases l with
    | nil => exact .inr (.inr (.inr ⟨rfl, rfl⟩))
    | node =>
      cases r with
      | nil => exact .inr (.inr (.inl ⟨rfl, ⟨_, rfl⟩, rfl⟩))
      | node => exact .inr (.inl ⟨rfl, _, _, rfl, rfl⟩)
theorem Wrote.left {w w' : World} {T l r : HT} {b W n : Nat} {u : Int} {h : Bool} (hw : Wrote w w' T (.node b W n u h l r)) : Wrote w w' T l :=
  ⟨hw.lies.2.2.1, (nodup_node hw.once).2.2.1, fun x hx => hw.sub x (List.mem_cons_of_mem _ (List.mem_append_left _ hx)), hw.only⟩
theorem Wrote.right {w w' : World} {T l r : HT} {b W n : Nat} {u : Int} {h : Bool} (hw : Wrote w w' T (.node b W n u h l r)) : Wrote w w' T r :=
  ⟨hw.lies.2.2.2, (nodup_node hw.once).2.2.2.1, fun x hx => hw.sub x (List.mem_cons_of_mem _ (List.mem_append_right _ hx)), hw.only⟩
theorem pickA {w w' : World} {T l r : HT} {b W n : Nat} {u : Int} (hw : Wrote w w' T (.node b W n u true l r)) : RetT w T (PT.join W n u true l.pt r.pt) (.returned (.pointer (some ⟨b, 0, none⟩))) w' :=
  ⟨_, rfl, hw, by simp [PT.join, HT.pt]⟩
theorem pickB {w w' : World} {T l r : HT} {b W n : Nat} {u : Int} {p q : Addr} (hw : Wrote w w' T (.node b W n u false l r)) (e1 : l.ptr = .pointer (some p)) (e2 : r.ptr = .pointer (some q)) : RetT w T (PT.join W n u false l.pt r.pt) (.returned (.pointer (some ⟨b, 0, none⟩))) w' :=
  ⟨_, rfl, hw, by simp [PT.join, HT.pt, HT.isNil_some e1, HT.isNil_some e2]⟩
theorem pickC {w w' : World} {T l r : HT} {b W n : Nat} {u : Int} {p : Addr} (hw : Wrote w w' T (.node b W n u false l r)) (e1 : l.ptr = .pointer (some p)) (e2 : r.ptr = .pointer none) : RetT w T (PT.join W n u false l.pt r.pt) (.returned (.pointer (some p))) w' :=
  ⟨l, by rw [e1], hw.left, by simp [PT.join, HT.isNil_some e1, HT.isNil_none e2]⟩
theorem pickD {w w' : World} {T l r : HT} {b W n : Nat} {u : Int} {q : Option Addr} (hw : Wrote w w' T (.node b W n u false l r)) (e1 : l.ptr = .pointer none) (e2 : r.ptr = .pointer q) : RetT w T (PT.join W n u false l.pt r.pt) (.returned (.pointer q)) w' :=
  ⟨r, by rw [e2], hw.right, by simp [PT.join, HT.isNil_none e1]⟩

end Go.Proofs.YtoobiaifogackaaGreatDoor
