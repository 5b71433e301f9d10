/-
  Layer 8: node.clone: a tree of its own, with the same prefixes.
-/
import Derived.Test.YthdcldkcmnpkiaaGreatDoorTriP
namespace Go.Proofs.YthdcldkcmnpkiaaGreatDoor
open Go.RowKit


theorem index2_0 (W : World) (a b : Option Addr) : (Instr.index 107 (.agg #[.pointer a, .pointer b]) (.int .i64 0)).run Tryz.prog W = .ok (.pointer a) W := by
  simp [Instr.index, run_underlying Tryz.underlying107, asIntOf, go_sem, Tryz.sizeOf96, Tryz.isAgg96]
theorem index2_1 (W : World) (a b : Option Addr) : (Instr.index 107 (.agg #[.pointer a, .pointer b]) (.int .i64 1)).run Tryz.prog W = .ok (.pointer b) W := by
  simp [Instr.index, run_underlying Tryz.underlying107, asIntOf, go_sem, Tryz.sizeOf96, Tryz.isAgg96]

/-- a tree in new blocks, with the same prefixes -/
structure Twin (w w' : World) (T T' : HT) : Prop where
  below : Below w.heap.size w w'
  lies : T'.In w'
  once : T'.blocks.Nodup
  new : ∀ b ∈ T'.blocks, w.heap.size ≤ b
  same : T'.pt = T.pt
def RetC (w : World) (T : HT) (e : Ending) (w' : World) : Prop := ∃ T', e = .returned T'.ptr ∧ Twin w w' T T'

/-- the twin's block, with the left side's twin stored -/
theorem twin_left {w x y : World} {gb W n : Nat} {v : Int} {h : Bool} {l r l' : HT} (hx : Below w.heap.size w x) (hg : w.heap.size ≤ gb) (hrow : x.heap[gb]? = some (.cells (rowOf W n v h l.ptr r.ptr) 109)) (ht : Twin x y l l') :
    Below w.heap.size w (y.setCell ⟨gb, 5, none⟩ l'.ptr) ∧ (y.setCell ⟨gb, 5, none⟩ l'.ptr).heap[gb]? = some (.cells (rowOf W n v h l'.ptr r.ptr) 109) ∧ l'.In (y.setCell ⟨gb, 5, none⟩ l'.ptr) ∧ l'.blocks.Nodup ∧ (∀ b ∈ l'.blocks, gb < b) ∧ l'.pt = l.pt ∧ y.heap[gb]? = some (.cells (rowOf W n v h l.ptr r.ptr) 109) := by
  have hb1 := (ht.below.block gb (block_lt hrow)).trans hrow
  have hlt := block_lt hrow
  have nb : ∀ b ∈ l'.blocks, b ≠ gb := fun b q => by have := ht.new b q; omega
  refine ⟨(below_chain7 hx ht.below).setCell hg _, ?_, HT.in_same ht.lies (fun b q => set_other (nb b q) _ _), ht.once, fun b q => by have := ht.new b q; omega, ht.same, hb1⟩
  rw [set_row hb1]; rfl
theorem twin_right {w x y : World} {gb W n : Nat} {v : Int} {h : Bool} {l r l' r' : HT} (hok : W < 2 ^ 128 ∧ n ≤ 128 ∧ rt W n) (hx : Below w.heap.size w x) (hg : w.heap.size ≤ gb) (hrow : x.heap[gb]? = some (.cells (rowOf W n v h l'.ptr r.ptr) 109)) (hl : l'.In x) (hd : l'.blocks.Nodup) (hn : ∀ b ∈ l'.blocks, gb < b) (hs : l'.pt = l.pt) (ht : Twin x y r r') :
    Twin w (y.setCell ⟨gb, 6, none⟩ r'.ptr) (.node gb W n v h l r) (.node gb W n v h l' r') ∧ y.heap[gb]? = some (.cells (rowOf W n v h l'.ptr r.ptr) 109) := by
  have hb1 := (ht.below.block gb (block_lt hrow)).trans hrow
  have hlt := block_lt hrow
  have nb : ∀ b ∈ r'.blocks, b ≠ gb := fun b q => by have := ht.new b q; omega
  have nl : ∀ b ∈ l'.blocks, b ≠ gb := fun b q => by have := hn b q; omega
  refine ⟨⟨(below_chain7 hx ht.below).setCell hg _, ⟨?_, hok, HT.in_same (HT.in_below hl ht.below) (fun b q => set_other (nl b q) _ _), HT.in_same ht.lies (fun b q => set_other (nb b q) _ _)⟩,
    nodup_mk (fun q => nl gb q rfl) (fun q => nb gb q rfl) hd ht.once (fun b q q2 => by have := ht.new b q2; have := HT.in_lt hl b q; omega), ?_, ?_⟩, hb1⟩
  · rw [set_row hb1]; rfl
  · intro b q
    rcases List.mem_cons.1 q with q | q
    · omega
    · rcases List.mem_append.1 q with q | q
      · have := hn b q; omega
      · have := ht.new b q; have := hx.size; omega
  · show PT.node _ _ _ _ _ _ = PT.node _ _ _ _ _ _
    rw [hs, ht.same]
set_option maxHeartbeats 1000000 in
theorem clone_nil (w : World) : Calls Tryz.prog 55 #[HT.nil.ptr] w (RetC w .nil) := by
  show Calls Tryz.prog 55 #[.pointer none] w _
  go_enter Tryz.func55, Tryz.ntmps55
  go_wp2
  go_ret
  exact ⟨.nil, rfl, ⟨Below.refl _ _, trivial, List.nodup_nil, (fun b q => by cases q), rfl⟩⟩

set_option maxRecDepth 100000 in
set_option maxHeartbeats 8000000 in
theorem clone_node (b W n : Nat) (v : Int) (h : Bool) (l r : HT) (w : World) (hin : (HT.node b W n v h l r).In w)
    (HL : Hid (∀ X, Below w.heap.size w X → Calls Tryz.prog 55 #[l.ptr] X (RetC X l))) (HR : Hid (∀ X, Below w.heap.size w X → Calls Tryz.prog 55 #[r.ptr] X (RetC X r))) :
    Calls Tryz.prog 55 #[(HT.node b W n v h l r).ptr] w (RetC w (.node b W n v h l r)) := by
  show Calls Tryz.prog 55 #[.pointer (some ⟨b, 0, none⟩)] w _
  obtain ⟨⟨c0, c1, c2⟩, c3, c4, c5, c6⟩ := node_cells hin.1
  have HOK := Lib.hid hin.2.1
  obtain ⟨ul, hul⟩ := HT.ptr_form l
  obtain ⟨ur, hur⟩ := HT.ptr_form r
  have HUL := Lib.hid hul
  have HUR := Lib.hid hur
  rw [hul] at c5
  rw [hur] at c6
  have hi0 := fun W => index2_0 W ul ur
  have hi1 := fun W => index2_1 W ul ur
  have hlt := block_lt hin.1
  have HN : Hid (((w.alloc (.cells (rowOf W n v h l.ptr r.ptr) 109))).heap[w.heap.size]? = some (.cells (rowOf W n v h l.ptr r.ptr) 109)) := Go.Deep.blk_alloc_new _ _
  have HN' : Hid (rowOf W n v h l.ptr r.ptr = #[.int .u64 (hiN W : Nat), .int .u64 (loN W : Nat), .int .i64 (n : Nat), .int .i64 v, .bool h, .pointer ul, .pointer ur]) := by unfold rowOf; rw [hul, hur]; rfl
  clear hin hul hur
  generalize hiN W = wh at *
  generalize loN W = wl at *
  go_enter Tryz.func55, Tryz.ntmps55
  go_wp2
  have HA : Hid (Below w.heap.size w (w.alloc (.cells #[.int .u64 (wh : Nat), .int .u64 (wl : Nat), .int .i64 (n : Nat), .int .i64 v, .bool h, .pointer ul, .pointer ur] 109)) ∧ (w.alloc (.cells #[.int .u64 (wh : Nat), .int .u64 (wl : Nat), .int .i64 (n : Nat), .int .i64 v, .bool h, .pointer ul, .pointer ur] 109)).heap[w.heap.size]? = some (.cells (rowOf W n v h l.ptr r.ptr) 109)) := by
    refine ⟨(Below.refl _ _).alloc (Nat.le_refl _) _, ?_⟩
    have := HN.out; rw [HN'.out] at this ⊢; exact this
  have HL' : Hid (∀ X, Below w.heap.size w X → Calls Tryz.prog 55 #[.pointer ul] X (RetC X l)) := by have := HL.out; rwa [HUL.out] at this
  have HR' : Hid (∀ X, Below w.heap.size w X → Calls Tryz.prog 55 #[.pointer ur] X (RetC X r)) := by have := HR.out; rwa [HUR.out] at this
  clear c0 c1 c2 c3 c4 c5 c6 HL HR HN HN'
  go_loopw [15] (fun i wr => (i = .int .i64 0 ∧ Hid (Below w.heap.size w wr ∧ wr.heap[w.heap.size]? = some (.cells (rowOf W n v h l.ptr r.ptr) 109))) ∨ (i = .int .i64 1 ∧ ∃ l' : HT, Hid (Below w.heap.size w wr ∧ wr.heap[w.heap.size]? = some (.cells (rowOf W n v h l'.ptr r.ptr) 109) ∧ l'.In wr ∧ l'.blocks.Nodup ∧ (∀ b ∈ l'.blocks, w.heap.size < b) ∧ l'.pt = l.pt)) ∨ (i = .int .i64 2 ∧ ∃ l' r' : HT, Hid (Twin w wr (.node w.heap.size W n v h l r) (.node w.heap.size W n v h l' r')))) (fun i _ => 2 - (intOf i).toNat)
  case atStart => exact .inl ⟨rfl, HA⟩
  case round =>
    rcases hrel with ⟨rfl, HS⟩ | ⟨rfl, l', HS⟩ | ⟨rfl, l', r', HS⟩
    · go_wp2_with fail
      refine (HL'.out _ HS.out.1).mono ?_
      rintro e y ⟨l', rfl, ht⟩
      obtain ⟨ut, hut⟩ := HT.ptr_form l'
      have HT5 := Lib.hid (twin_left HS.out.1 (Nat.le_refl _) HS.out.2 ht)
      have hrow := HT5.out.2.2.2.2.2.2
      have q5 := (node_cells hrow).2.2.2.1
      rw [HUL.out] at q5
      have f5 := frozen_row hrow 5
      have hly := block_lt hrow
      rw [hut] at HT5 ⊢
      clear hrow ht
      go_wp2
      go_roundw
      case rel => exact .inr (.inl ⟨by go_num, l', ⟨HT5.out.1, by rw [hut]; exact HT5.out.2.1, HT5.out.2.2.1, HT5.out.2.2.2.1, HT5.out.2.2.2.2.1, HT5.out.2.2.2.2.2.1⟩⟩)
      case measure => simp [intOf]
    · go_wp2_with fail
      refine (HR'.out _ HS.out.1).mono ?_
      rintro e y ⟨r', rfl, ht⟩
      obtain ⟨ut, hut⟩ := HT.ptr_form r'
      have HT5 := Lib.hid (twin_right HOK.out HS.out.1 (Nat.le_refl _) HS.out.2.1 HS.out.2.2.1 HS.out.2.2.2.1 HS.out.2.2.2.2.1 HS.out.2.2.2.2.2 ht)
      have hrow := HT5.out.2
      have q6 := (node_cells hrow).2.2.2.2
      rw [HUR.out] at q6
      have f6 := frozen_row hrow 6
      have hly := block_lt hrow
      rw [hut] at HT5 ⊢
      clear hrow ht
      go_wp2
      go_roundw
      case rel => exact .inr (.inr ⟨by go_num, l', r', HT5.out.1⟩)
      case measure => simp [intOf]
    · go_wp2
      go_ret
      exact ⟨.node w.heap.size W n v h l' r', rfl, ⟨HS.out.below, HS.out.lies, HS.out.once, HS.out.new, HS.out.same⟩⟩
theorem clone_any : ∀ (T : HT) (w : World), T.In w → Calls Tryz.prog 55 #[T.ptr] w (RetC w T)
  | .nil, w, _ => clone_nil w
  | .node b W n v h l r, w, hin => clone_node b W n v h l r w hin (fun X hX => clone_any l X (HT.in_below hin.2.2.1 hX)) (fun X hX => clone_any r X (HT.in_below hin.2.2.2 hX))
end Go.Proofs.YthdcldkcmnpkiaaGreatDoor
