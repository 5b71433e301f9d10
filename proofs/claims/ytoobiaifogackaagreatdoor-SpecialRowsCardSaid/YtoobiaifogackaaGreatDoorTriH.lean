/-
  Layer 8: with: what it comes to at nil, and at the node of the prefix itself.
-/
import Derived.Test.YtoobiaifogackaaGreatDoorTriG
namespace Go.Proofs.YtoobiaifogackaaGreatDoor
open Go.RowKit


/-- a root is returned; what was written -/
def RetT (w : World) (T : HT) (t : PT) (e : Ending) (w' : World) : Prop := ∃ T' : HT, e = .returned T'.ptr ∧ Wrote w w' T T' ∧ T'.pt = t

theorem leaf_wrote {w w1 : World} (hb : Below w.heap.size w w1) {P k : Nat} {v : Int} (hP : P < 2 ^ 128) (hk : k ≤ 128) (hr : rt P k) :
    Wrote w (w1.alloc (.cells (rowOf P k v true (.pointer none) (.pointer none)) 115)) .nil (.node w1.heap.size P k v true .nil .nil) :=
  ⟨⟨Go.Deep.blk_alloc_new _ _, ⟨hP, hk, hr⟩, trivial, trivial⟩, by simp [HT.blocks], (fun b h => by
    rcases List.mem_cons.1 h with g | g
    · exact .inr (by rw [g]; exact hb.size)
    · cases g), (Only.of_below hb).alloc _⟩

set_option maxRecDepth 100000 in
set_option maxHeartbeats 4000000 in
theorem with_nil (P k : Nat) (v : Int) (w : World) (hP : P < 2 ^ 128) (hk : k ≤ 128) (hr : rt P k) :
    Calls Tryz.prog 85 #[HT.nil.ptr, pfW P (k : Nat), .int .i64 v] w (RetT w .nil (PT.leaf P k v)) := by
  show Calls Tryz.prog 85 #[.pointer none, .agg #[.int .u64 (hiN P : Nat), .int .u64 (loN P : Nat), .int .i64 (k : Nat)], .int .i64 v] w _
  have HW := fun w1 (hb : Below w.heap.size w w1) => leaf_wrote (v := v) hb hP hk hr
  have HH := Lib.hid HW
  have HP' : Hid (rowOf P k v true (.pointer none) (.pointer none) = #[.int .u64 (hiN P : Nat), .int .u64 (loN P : Nat), .int .i64 (k : Nat), .int .i64 v, .bool true, .pointer none, .pointer none]) := rfl
  clear HW
  go_enter Tryz.func85, Tryz.ntmps85
  go_wp2
  go_ret
  refine ⟨.node (w.heap.size + 1) P k v true .nil .nil, rfl, ?_, rfl⟩
  have := HH.out (w.alloc (.cells #[.int .u64 (hiN P : Nat), .int .u64 (loN P : Nat), .int .i64 (k : Nat)] 37)) ((Below.refl _ _).alloc (Nat.le_refl _) _)
  rw [HP'.out] at this
  simpa using this

theorem wrote_own {w w1 : World} {b W n : Nat} {u v : Int} {h h' : Bool} {l r : HT} (hin : (HT.node b W n u h l r).In w) (hd : (HT.node b W n u h l r).blocks.Nodup) (hb : Below w.heap.size w w1) :
    Wrote w ((w1.setCell ⟨b, 3, none⟩ (.int .i64 v)).setCell ⟨b, 4, none⟩ (.bool h')) (.node b W n u h l r) (.node b W n v h' l r) := by
  obtain ⟨d1, d2, d3, d4, d5⟩ := nodup_node hd
  obtain ⟨i1, i2, i3, i4⟩ := hin
  have hb1 : w1.heap[b]? = some (.cells (rowOf W n u h l.ptr r.ptr) 115) := (hb.block b (block_lt i1)).trans i1
  refine ⟨⟨?_, i2, ?_, ?_⟩, hd, fun x hx => .inl hx, ?_⟩
  · rw [set_row (set_row hb1 3 _) 4]; rfl
  · exact HT.in_same (HT.in_below i3 hb) (fun x hx => by rw [set_other (fun e : x = b => d1 (e ▸ hx)), set_other (fun e : x = b => d1 (e ▸ hx))])
  · exact HT.in_same (HT.in_below i4 hb) (fun x hx => by rw [set_other (fun e : x = b => d2 (e ▸ hx)), set_other (fun e : x = b => d2 (e ▸ hx))])
  · exact ((Only.of_below (F := (HT.node b W n u h l r).blocks) hb).setCell (p := ⟨b, 3, none⟩) (.inl (List.mem_cons_self ..)) _).setCell (p := ⟨b, 4, none⟩) (.inl (List.mem_cons_self ..)) _

set_option maxRecDepth 100000 in
set_option maxHeartbeats 4000000 in
theorem with_own (b P k : Nat) (u v : Int) (h : Bool) (l r : HT) (w : World) (hin : (HT.node b P k u h l r).In w) (hd : (HT.node b P k u h l r).blocks.Nodup) :
    Calls Tryz.prog 85 #[(HT.node b P k u h l r).ptr, pfW P (k : Nat), .int .i64 v] w (RetT w (.node b P k u h l r) (.node P k v true l.pt r.pt)) := by
  show Calls Tryz.prog 85 #[.pointer (some ⟨b, 0, none⟩), .agg #[.int .u64 (hiN P : Nat), .int .u64 (loN P : Nat), .int .i64 (k : Nat)], .int .i64 v] w _
  have HW := Lib.hid (fun w1 (hb : Below w.heap.size w w1) => wrote_own (v := v) (h' := true) hin hd hb)
  obtain ⟨⟨c0, c1, c2⟩, c3, c4, c5, c6⟩ := node_cells hin.1
  have f3 := frozen_row hin.1 3
  have f4 := frozen_row hin.1 4
  have hlt := block_lt hin.1
  have heq : ∀ W : World, (binOp .eql 37 (.agg #[.int .u64 (hiN P : Nat), .int .u64 (loN P : Nat), .int .i64 (k : Nat)]) (.agg #[.int .u64 (hiN P : Nat), .int .u64 (loN P : Nat), .int .i64 (k : Nat)])).run Tryz.prog W = .ok (.bool true) W := fun W => by rw [eqPf]; simp
  have hg := eqPf_guard
  clear hin hd
  generalize hiN P = ph at *
  generalize loN P = pl at *
  go_enter Tryz.func85, Tryz.ntmps85
  go_wp2
  go_quiet (fail)
  go_wp2
  go_ret
  exact ⟨.node b P k v true l r, rfl, HW.out _ (((Below.refl _ _).alloc (Nat.le_refl _) _).trans drew_n), rfl⟩
end Go.Proofs.YtoobiaifogackaaGreatDoor
