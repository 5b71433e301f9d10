/-
  Layer 6: texts of addresses.
-/
import Derived.Test.YtgmfgcpfpopboaaGreatDoorAddK
import Derived.Test.YtgmfgcpfpopboaaGreatDoorAddM
import Derived.Test.YtgmfgcpfpopboaaGreatDoorSixR
import Derived.Deep.OwnRows
namespace Go.Proofs.YtgmfgcpfpopboaaGreatDoor
open Go.RowKit


def innerA : AZ → List Int
  | .four _ => []
  | .six hi lo => innerZ hi lo
set_option maxRecDepth 100000 in
set_option maxHeartbeats 1000000 in
theorem refInner_four (hi lo : Int) (w : World) :
    Calls Tryz.prog 13 #[.agg #[.bool false, .int .u64 hi, .int .u64 lo]] w (RetU32s w []) := by
  go_enter Tryz.func13, Tryz.ntmps13
  go_wp2
  go_ret
  exact ⟨_, rfl, Nums.nil _ _ _ _, (Below.refl _ _).alloc (Nat.le_refl _) _⟩
theorem refInner_any (a : AZ) (w : World) (h : a.Ok) :
    Calls Tryz.prog 13 #[refV (refA (some a))] w (RetU32s w (innerA a)) := by
  cases a with
  | four n => exact refInner_four _ _ w
  | six hi lo => exact refInner_six hi lo w h.1.1 h.1.2 h.2.1 h.2.2
theorem inner_any (a : AZ) (w : World) (h : a.Ok) :
    Calls Tryz.prog 6 #[a.val] w (RetFours w (innerA a)) := by
  cases a with
  | four n => exact inner_four n w
  | six hi lo => exact inner_six hi lo w h.1.1 h.1.2 h.2.1 h.2.2


def rowT (a b : List UInt8) : Nat → Array Value
  | 0 => #[.string ⟨#[]⟩, .string ⟨#[]⟩, .string ⟨#[]⟩]
  | 1 => #[.string ⟨a.toArray⟩, .string ⟨#[]⟩, .string ⟨#[]⟩]
  | 2 => #[.string ⟨a.toArray⟩, .string ⟨#[]⟩, .string ⟨#[]⟩]
  | _ => #[.string ⟨a.toArray⟩, .string ⟨#[]⟩, .string ⟨b.toArray⟩]
def RetTexts (w : World) (a b : List UInt8) (e : Ending) (w' : World) : Prop := ∃ g, e = .returned (.slice (some ⟨g, 0, none⟩) 3 3) ∧ w.heap.size ≤ g ∧ w'.heap[g]? = some (.cells #[.string ⟨a.toArray⟩, .string ⟨#[]⟩, .string ⟨b.toArray⟩] 9 (0, 0)) ∧ Below w.heap.size w w'

set_option maxRecDepth 100000 in
set_option maxHeartbeats 4000000 in
theorem texts_44 (an : Int) (bn : Int) (g : Nat) (w : World) (a0 : 0 ≤ an) (a1 : an ≤ 4294967295) (b0 : 0 ≤ bn) (b1 : bn ≤ 4294967295) (hpow : PowTab w) (hbru : BruTab w)
    (hg : w.heap[g]? = some (.cells #[(.iface 31 (.int .u32 an)), .nilIface, (.iface 31 (.int .u32 bn))] 25 (0, 0))) :
    Calls Tryz.prog 17 #[.slice (some ⟨g, 0, none⟩) 3 3] w (RetTexts w (txtZ an) (txtZ bn)) := by
  have hma : ∀ w : World, (method 267 31 (.int .u32 an) "Text").run Tryz.prog w = .ok (131, (.int .u32 an)) w := fun _ => by kernel_rfl
  have hmb : ∀ w : World, (method 267 31 (.int .u32 bn) "Text").run Tryz.prog w = .ok (131, (.int .u32 bn)) w := fun _ => by kernel_rfl
  have HP := Lib.hid hpow
  have HR := Lib.hid hbru
  have HG := Lib.hid hg
  have hgl : g < w.heap.size := by
    rcases Nat.lt_or_ge g w.heap.size with h | h
    · exact h
    · rw [Array.getElem?_eq_none h] at hg; cases hg
  have HGL := Lib.hid hgl
  clear hpow hbru hg hgl
  obtain ⟨tA, htA⟩ : ∃ x, (txtZ an) = x := ⟨_, rfl⟩
  obtain ⟨tB, htB⟩ : ∃ x, (txtZ bn) = x := ⟨_, rfl⟩
  have HTA := Lib.hid htA
  have HTB := Lib.hid htB
  rw [htA, htB]
  clear htA htB
  have hmk := run_make_row' (P := Tryz.prog) 49 9 (.string ⟨#[]⟩) 16 Tryz.underlying49 Tryz.infoStr rfl .i64 .i64 3 (by decide) (by decide)
  rw [show ((3 : Nat) : Int) = 3 from rfl, show madeCells #[Value.string ⟨#[]⟩] 3 = #[.string ⟨#[]⟩, .string ⟨#[]⟩, .string ⟨#[]⟩] from by first | rfl | kernel_rfl | simp [madeCells] | (simp [madeCells, Array.replicate]; rfl)] at hmk
  go_enter Tryz.func17, Tryz.ntmps17
  go_wp2_with fail
  go_loopw [11] (fun i wr => ∃ k : Nat, k ≤ 3 ∧ i = .int .i64 k ∧ Hid (wr.heap[w.heap.size]? = some (.cells (rowT tA tB k) 9 (0, 0)) ∧ Below w.heap.size w wr)) (fun i _ => 3 - (intOf i).toNat)
  case atStart => exact ⟨0, by omega, rfl, heap_alloc_new w _, (Below.refl _ _).alloc (Nat.le_refl _) _⟩
  case round =>
    obtain ⟨k, hk, rfl, H⟩ := hrel
    have hblk := (H.out.2.block g HGL.out).trans HG.out
    have hbw := H.out.2
    have hlt : w.heap.size < wr.heap.size := by
      rcases Nat.lt_or_ge w.heap.size wr.heap.size with h | h
      · exact h
      · have := H.out.1; rw [Array.getElem?_eq_none h] at this; cases this
    rcases (show k = 0 ∨ k = 1 ∨ k = 2 ∨ k = 3 from by omega) with rfl | rfl | rfl | rfl
    · have c0 : wr.cell? ⟨g, 0, none⟩ = some (.iface 31 (.int .u32 an)) := by simp [World.cell?, hblk]
      rw [show ((0 : Nat) : Int) = 0 from rfl]
      clear hblk
      go_wp2_with fail
      refine (text4_any an _ a0 a1 (powTab_below HP.out hbw)).mono ?_
      rw [HTA.out]
      rintro e x3 ⟨rfl, hb3⟩
      have hr3 := (hb3.block w.heap.size hlt).trans H.out.1
      have s0 : x3.cell? ⟨w.heap.size, 0, none⟩ = some (.string ⟨#[]⟩) := by simp [World.cell?, hr3, rowT]
      have f0 : x3.frozen? ⟨w.heap.size, 0, none⟩ = false := by simp [World.frozen?, hr3]
      have HN : Hid ((x3.setCell ⟨w.heap.size, 0, none⟩ (.string ⟨tA.toArray⟩)).heap[w.heap.size]? = some (.cells (rowT tA tB 1) 9 (0, 0)) ∧ Below w.heap.size w (x3.setCell ⟨w.heap.size, 0, none⟩ (.string ⟨tA.toArray⟩))) :=
        ⟨by simp [World.setCell, Array.getElem?_modify, hr3, rowT], (hbw.trans (hb3.mono hbw.size)).setCell (Nat.le_refl _) _⟩
      clear hr3 hb3 hlt
      go_wp2
      go_roundw
      case rel => exact ⟨1, by omega, rfl, HN⟩
      case measure => simp [intOf]
    · have c0 : wr.cell? ⟨g, 1, none⟩ = some .nilIface := by simp [World.cell?, hblk]
      rw [show ((1 : Nat) : Int) = 1 from rfl]
      clear hblk hlt
      go_wp2
      go_roundw
      case rel => exact ⟨2, by omega, rfl, H⟩
      case measure => simp [intOf]
    · have c0 : wr.cell? ⟨g, 2, none⟩ = some (.iface 31 (.int .u32 bn)) := by simp [World.cell?, hblk]
      rw [show ((2 : Nat) : Int) = 2 from rfl]
      clear hblk
      go_wp2_with fail
      refine (text4_any bn _ b0 b1 (powTab_below HP.out hbw)).mono ?_
      rw [HTB.out]
      rintro e x3 ⟨rfl, hb3⟩
      have hr3 := (hb3.block w.heap.size hlt).trans H.out.1
      have s0 : x3.cell? ⟨w.heap.size, 2, none⟩ = some (.string ⟨#[]⟩) := by simp [World.cell?, hr3, rowT]
      have f0 : x3.frozen? ⟨w.heap.size, 2, none⟩ = false := by simp [World.frozen?, hr3]
      have HN : Hid ((x3.setCell ⟨w.heap.size, 2, none⟩ (.string ⟨tB.toArray⟩)).heap[w.heap.size]? = some (.cells (rowT tA tB 3) 9 (0, 0)) ∧ Below w.heap.size w (x3.setCell ⟨w.heap.size, 2, none⟩ (.string ⟨tB.toArray⟩))) :=
        ⟨by simp [World.setCell, Array.getElem?_modify, hr3, rowT], (hbw.trans (hb3.mono hbw.size)).setCell (Nat.le_refl _) _⟩
      clear hr3 hb3 hlt
      go_wp2
      go_roundw
      case rel => exact ⟨3, by omega, rfl, HN⟩
      case measure => simp [intOf]
    · rw [show ((3 : Nat) : Int) = 3 from rfl]
      clear hblk hlt
      go_wp2
      go_ret
      exact ⟨_, rfl, Nat.le_refl _, H.out.1, hbw⟩

set_option maxRecDepth 100000 in
set_option maxHeartbeats 4000000 in
theorem texts_46 (an : Int) (bh bl : Int) (g : Nat) (w : World) (a0 : 0 ≤ an) (a1 : an ≤ 4294967295) (b0 : 0 ≤ bh) (b1 : bh ≤ 18446744073709551615) (b2 : 0 ≤ bl) (b3 : bl ≤ 18446744073709551615) (hpow : PowTab w) (hbru : BruTab w)
    (hg : w.heap[g]? = some (.cells #[(.iface 31 (.int .u32 an)), .nilIface, (.iface 46 (.agg #[.int .u64 bh, .int .u64 bl]))] 25 (0, 0))) :
    Calls Tryz.prog 17 #[.slice (some ⟨g, 0, none⟩) 3 3] w (RetTexts w (txtZ an) (text6Z bh bl)) := by
  have hma : ∀ w : World, (method 267 31 (.int .u32 an) "Text").run Tryz.prog w = .ok (131, (.int .u32 an)) w := fun _ => by kernel_rfl
  have hmb : ∀ w : World, (method 267 46 (.agg #[.int .u64 bh, .int .u64 bl]) "Text").run Tryz.prog w = .ok (47, (.agg #[.int .u64 bh, .int .u64 bl])) w := fun _ => by kernel_rfl
  have HP := Lib.hid hpow
  have HR := Lib.hid hbru
  have HG := Lib.hid hg
  have hgl : g < w.heap.size := by
    rcases Nat.lt_or_ge g w.heap.size with h | h
    · exact h
    · rw [Array.getElem?_eq_none h] at hg; cases hg
  have HGL := Lib.hid hgl
  clear hpow hbru hg hgl
  obtain ⟨tA, htA⟩ : ∃ x, (txtZ an) = x := ⟨_, rfl⟩
  obtain ⟨tB, htB⟩ : ∃ x, (text6Z bh bl) = x := ⟨_, rfl⟩
  have HTA := Lib.hid htA
  have HTB := Lib.hid htB
  rw [htA, htB]
  clear htA htB
  have hmk := run_make_row' (P := Tryz.prog) 49 9 (.string ⟨#[]⟩) 16 Tryz.underlying49 Tryz.infoStr rfl .i64 .i64 3 (by decide) (by decide)
  rw [show ((3 : Nat) : Int) = 3 from rfl, show madeCells #[Value.string ⟨#[]⟩] 3 = #[.string ⟨#[]⟩, .string ⟨#[]⟩, .string ⟨#[]⟩] from by first | rfl | kernel_rfl | simp [madeCells] | (simp [madeCells, Array.replicate]; rfl)] at hmk
  go_enter Tryz.func17, Tryz.ntmps17
  go_wp2_with fail
  go_loopw [11] (fun i wr => ∃ k : Nat, k ≤ 3 ∧ i = .int .i64 k ∧ Hid (wr.heap[w.heap.size]? = some (.cells (rowT tA tB k) 9 (0, 0)) ∧ Below w.heap.size w wr)) (fun i _ => 3 - (intOf i).toNat)
  case atStart => exact ⟨0, by omega, rfl, heap_alloc_new w _, (Below.refl _ _).alloc (Nat.le_refl _) _⟩
  case round =>
    obtain ⟨k, hk, rfl, H⟩ := hrel
    have hblk := (H.out.2.block g HGL.out).trans HG.out
    have hbw := H.out.2
    have hlt : w.heap.size < wr.heap.size := by
      rcases Nat.lt_or_ge w.heap.size wr.heap.size with h | h
      · exact h
      · have := H.out.1; rw [Array.getElem?_eq_none h] at this; cases this
    rcases (show k = 0 ∨ k = 1 ∨ k = 2 ∨ k = 3 from by omega) with rfl | rfl | rfl | rfl
    · have c0 : wr.cell? ⟨g, 0, none⟩ = some (.iface 31 (.int .u32 an)) := by simp [World.cell?, hblk]
      rw [show ((0 : Nat) : Int) = 0 from rfl]
      clear hblk
      go_wp2_with fail
      refine (text4_any an _ a0 a1 (powTab_below HP.out hbw)).mono ?_
      rw [HTA.out]
      rintro e x3 ⟨rfl, hb3⟩
      have hr3 := (hb3.block w.heap.size hlt).trans H.out.1
      have s0 : x3.cell? ⟨w.heap.size, 0, none⟩ = some (.string ⟨#[]⟩) := by simp [World.cell?, hr3, rowT]
      have f0 : x3.frozen? ⟨w.heap.size, 0, none⟩ = false := by simp [World.frozen?, hr3]
      have HN : Hid ((x3.setCell ⟨w.heap.size, 0, none⟩ (.string ⟨tA.toArray⟩)).heap[w.heap.size]? = some (.cells (rowT tA tB 1) 9 (0, 0)) ∧ Below w.heap.size w (x3.setCell ⟨w.heap.size, 0, none⟩ (.string ⟨tA.toArray⟩))) :=
        ⟨by simp [World.setCell, Array.getElem?_modify, hr3, rowT], (hbw.trans (hb3.mono hbw.size)).setCell (Nat.le_refl _) _⟩
      clear hr3 hb3 hlt
      go_wp2
      go_roundw
      case rel => exact ⟨1, by omega, rfl, HN⟩
      case measure => simp [intOf]
    · have c0 : wr.cell? ⟨g, 1, none⟩ = some .nilIface := by simp [World.cell?, hblk]
      rw [show ((1 : Nat) : Int) = 1 from rfl]
      clear hblk hlt
      go_wp2
      go_roundw
      case rel => exact ⟨2, by omega, rfl, H⟩
      case measure => simp [intOf]
    · have c0 : wr.cell? ⟨g, 2, none⟩ = some (.iface 46 (.agg #[.int .u64 bh, .int .u64 bl])) := by simp [World.cell?, hblk]
      rw [show ((2 : Nat) : Int) = 2 from rfl]
      clear hblk
      go_wp2_with fail
      refine (text6_any bh bl _ b0 b1 b2 b3 (bruTab_below HR.out hbw)).mono ?_
      rw [HTB.out]
      rintro e x3 ⟨rfl, hb3⟩
      have hr3 := (hb3.block w.heap.size hlt).trans H.out.1
      have s0 : x3.cell? ⟨w.heap.size, 2, none⟩ = some (.string ⟨#[]⟩) := by simp [World.cell?, hr3, rowT]
      have f0 : x3.frozen? ⟨w.heap.size, 2, none⟩ = false := by simp [World.frozen?, hr3]
      have HN : Hid ((x3.setCell ⟨w.heap.size, 2, none⟩ (.string ⟨tB.toArray⟩)).heap[w.heap.size]? = some (.cells (rowT tA tB 3) 9 (0, 0)) ∧ Below w.heap.size w (x3.setCell ⟨w.heap.size, 2, none⟩ (.string ⟨tB.toArray⟩))) :=
        ⟨by simp [World.setCell, Array.getElem?_modify, hr3, rowT], (hbw.trans (hb3.mono hbw.size)).setCell (Nat.le_refl _) _⟩
      clear hr3 hb3 hlt
      go_wp2
      go_roundw
      case rel => exact ⟨3, by omega, rfl, HN⟩
      case measure => simp [intOf]
    · rw [show ((3 : Nat) : Int) = 3 from rfl]
      clear hblk hlt
      go_wp2
      go_ret
      exact ⟨_, rfl, Nat.le_refl _, H.out.1, hbw⟩

set_option maxRecDepth 100000 in
set_option maxHeartbeats 4000000 in
theorem texts_64 (ah al : Int) (bn : Int) (g : Nat) (w : World) (a0 : 0 ≤ ah) (a1 : ah ≤ 18446744073709551615) (a2 : 0 ≤ al) (a3 : al ≤ 18446744073709551615) (b0 : 0 ≤ bn) (b1 : bn ≤ 4294967295) (hpow : PowTab w) (hbru : BruTab w)
    (hg : w.heap[g]? = some (.cells #[(.iface 46 (.agg #[.int .u64 ah, .int .u64 al])), .nilIface, (.iface 31 (.int .u32 bn))] 25 (0, 0))) :
    Calls Tryz.prog 17 #[.slice (some ⟨g, 0, none⟩) 3 3] w (RetTexts w (text6Z ah al) (txtZ bn)) := by
  have hma : ∀ w : World, (method 267 46 (.agg #[.int .u64 ah, .int .u64 al]) "Text").run Tryz.prog w = .ok (47, (.agg #[.int .u64 ah, .int .u64 al])) w := fun _ => by kernel_rfl
  have hmb : ∀ w : World, (method 267 31 (.int .u32 bn) "Text").run Tryz.prog w = .ok (131, (.int .u32 bn)) w := fun _ => by kernel_rfl
  have HP := Lib.hid hpow
  have HR := Lib.hid hbru
  have HG := Lib.hid hg
  have hgl : g < w.heap.size := by
    rcases Nat.lt_or_ge g w.heap.size with h | h
    · exact h
    · rw [Array.getElem?_eq_none h] at hg; cases hg
  have HGL := Lib.hid hgl
  clear hpow hbru hg hgl
  obtain ⟨tA, htA⟩ : ∃ x, (text6Z ah al) = x := ⟨_, rfl⟩
  obtain ⟨tB, htB⟩ : ∃ x, (txtZ bn) = x := ⟨_, rfl⟩
  have HTA := Lib.hid htA
  have HTB := Lib.hid htB
  rw [htA, htB]
  clear htA htB
  have hmk := run_make_row' (P := Tryz.prog) 49 9 (.string ⟨#[]⟩) 16 Tryz.underlying49 Tryz.infoStr rfl .i64 .i64 3 (by decide) (by decide)
  rw [show ((3 : Nat) : Int) = 3 from rfl, show madeCells #[Value.string ⟨#[]⟩] 3 = #[.string ⟨#[]⟩, .string ⟨#[]⟩, .string ⟨#[]⟩] from by first | rfl | kernel_rfl | simp [madeCells] | (simp [madeCells, Array.replicate]; rfl)] at hmk
  go_enter Tryz.func17, Tryz.ntmps17
  go_wp2_with fail
  go_loopw [11] (fun i wr => ∃ k : Nat, k ≤ 3 ∧ i = .int .i64 k ∧ Hid (wr.heap[w.heap.size]? = some (.cells (rowT tA tB k) 9 (0, 0)) ∧ Below w.heap.size w wr)) (fun i _ => 3 - (intOf i).toNat)
  case atStart => exact ⟨0, by omega, rfl, heap_alloc_new w _, (Below.refl _ _).alloc (Nat.le_refl _) _⟩
  case round =>
    obtain ⟨k, hk, rfl, H⟩ := hrel
    have hblk := (H.out.2.block g HGL.out).trans HG.out
    have hbw := H.out.2
    have hlt : w.heap.size < wr.heap.size := by
      rcases Nat.lt_or_ge w.heap.size wr.heap.size with h | h
      · exact h
      · have := H.out.1; rw [Array.getElem?_eq_none h] at this; cases this
    rcases (show k = 0 ∨ k = 1 ∨ k = 2 ∨ k = 3 from by omega) with rfl | rfl | rfl | rfl
    · have c0 : wr.cell? ⟨g, 0, none⟩ = some (.iface 46 (.agg #[.int .u64 ah, .int .u64 al])) := by simp [World.cell?, hblk]
      rw [show ((0 : Nat) : Int) = 0 from rfl]
      clear hblk
      go_wp2_with fail
      refine (text6_any ah al _ a0 a1 a2 a3 (bruTab_below HR.out hbw)).mono ?_
      rw [HTA.out]
      rintro e x3 ⟨rfl, hb3⟩
      have hr3 := (hb3.block w.heap.size hlt).trans H.out.1
      have s0 : x3.cell? ⟨w.heap.size, 0, none⟩ = some (.string ⟨#[]⟩) := by simp [World.cell?, hr3, rowT]
      have f0 : x3.frozen? ⟨w.heap.size, 0, none⟩ = false := by simp [World.frozen?, hr3]
      have HN : Hid ((x3.setCell ⟨w.heap.size, 0, none⟩ (.string ⟨tA.toArray⟩)).heap[w.heap.size]? = some (.cells (rowT tA tB 1) 9 (0, 0)) ∧ Below w.heap.size w (x3.setCell ⟨w.heap.size, 0, none⟩ (.string ⟨tA.toArray⟩))) :=
        ⟨by simp [World.setCell, Array.getElem?_modify, hr3, rowT], (hbw.trans (hb3.mono hbw.size)).setCell (Nat.le_refl _) _⟩
      clear hr3 hb3 hlt
      go_wp2
      go_roundw
      case rel => exact ⟨1, by omega, rfl, HN⟩
      case measure => simp [intOf]
    · have c0 : wr.cell? ⟨g, 1, none⟩ = some .nilIface := by simp [World.cell?, hblk]
      rw [show ((1 : Nat) : Int) = 1 from rfl]
      clear hblk hlt
      go_wp2
      go_roundw
      case rel => exact ⟨2, by omega, rfl, H⟩
      case measure => simp [intOf]
    · have c0 : wr.cell? ⟨g, 2, none⟩ = some (.iface 31 (.int .u32 bn)) := by simp [World.cell?, hblk]
      rw [show ((2 : Nat) : Int) = 2 from rfl]
      clear hblk
      go_wp2_with fail
      refine (text4_any bn _ b0 b1 (powTab_below HP.out hbw)).mono ?_
      rw [HTB.out]
      rintro e x3 ⟨rfl, hb3⟩
      have hr3 := (hb3.block w.heap.size hlt).trans H.out.1
      have s0 : x3.cell? ⟨w.heap.size, 2, none⟩ = some (.string ⟨#[]⟩) := by simp [World.cell?, hr3, rowT]
      have f0 : x3.frozen? ⟨w.heap.size, 2, none⟩ = false := by simp [World.frozen?, hr3]
      have HN : Hid ((x3.setCell ⟨w.heap.size, 2, none⟩ (.string ⟨tB.toArray⟩)).heap[w.heap.size]? = some (.cells (rowT tA tB 3) 9 (0, 0)) ∧ Below w.heap.size w (x3.setCell ⟨w.heap.size, 2, none⟩ (.string ⟨tB.toArray⟩))) :=
        ⟨by simp [World.setCell, Array.getElem?_modify, hr3, rowT], (hbw.trans (hb3.mono hbw.size)).setCell (Nat.le_refl _) _⟩
      clear hr3 hb3 hlt
      go_wp2
      go_roundw
      case rel => exact ⟨3, by omega, rfl, HN⟩
      case measure => simp [intOf]
    · rw [show ((3 : Nat) : Int) = 3 from rfl]
      clear hblk hlt
      go_wp2
      go_ret
      exact ⟨_, rfl, Nat.le_refl _, H.out.1, hbw⟩

set_option maxRecDepth 100000 in
set_option maxHeartbeats 4000000 in
theorem texts_66 (ah al : Int) (bh bl : Int) (g : Nat) (w : World) (a0 : 0 ≤ ah) (a1 : ah ≤ 18446744073709551615) (a2 : 0 ≤ al) (a3 : al ≤ 18446744073709551615) (b0 : 0 ≤ bh) (b1 : bh ≤ 18446744073709551615) (b2 : 0 ≤ bl) (b3 : bl ≤ 18446744073709551615) (hpow : PowTab w) (hbru : BruTab w)
    (hg : w.heap[g]? = some (.cells #[(.iface 46 (.agg #[.int .u64 ah, .int .u64 al])), .nilIface, (.iface 46 (.agg #[.int .u64 bh, .int .u64 bl]))] 25 (0, 0))) :
    Calls Tryz.prog 17 #[.slice (some ⟨g, 0, none⟩) 3 3] w (RetTexts w (text6Z ah al) (text6Z bh bl)) := by
  have hma : ∀ w : World, (method 267 46 (.agg #[.int .u64 ah, .int .u64 al]) "Text").run Tryz.prog w = .ok (47, (.agg #[.int .u64 ah, .int .u64 al])) w := fun _ => by kernel_rfl
  have hmb : ∀ w : World, (method 267 46 (.agg #[.int .u64 bh, .int .u64 bl]) "Text").run Tryz.prog w = .ok (47, (.agg #[.int .u64 bh, .int .u64 bl])) w := fun _ => by kernel_rfl
  have HP := Lib.hid hpow
  have HR := Lib.hid hbru
  have HG := Lib.hid hg
  have hgl : g < w.heap.size := by
    rcases Nat.lt_or_ge g w.heap.size with h | h
    · exact h
    · rw [Array.getElem?_eq_none h] at hg; cases hg
  have HGL := Lib.hid hgl
  clear hpow hbru hg hgl
  obtain ⟨tA, htA⟩ : ∃ x, (text6Z ah al) = x := ⟨_, rfl⟩
  obtain ⟨tB, htB⟩ : ∃ x, (text6Z bh bl) = x := ⟨_, rfl⟩
  have HTA := Lib.hid htA
  have HTB := Lib.hid htB
  rw [htA, htB]
  clear htA htB
  have hmk := run_make_row' (P := Tryz.prog) 49 9 (.string ⟨#[]⟩) 16 Tryz.underlying49 Tryz.infoStr rfl .i64 .i64 3 (by decide) (by decide)
  rw [show ((3 : Nat) : Int) = 3 from rfl, show madeCells #[Value.string ⟨#[]⟩] 3 = #[.string ⟨#[]⟩, .string ⟨#[]⟩, .string ⟨#[]⟩] from by first | rfl | kernel_rfl | simp [madeCells] | (simp [madeCells, Array.replicate]; rfl)] at hmk
  go_enter Tryz.func17, Tryz.ntmps17
  go_wp2_with fail
  go_loopw [11] (fun i wr => ∃ k : Nat, k ≤ 3 ∧ i = .int .i64 k ∧ Hid (wr.heap[w.heap.size]? = some (.cells (rowT tA tB k) 9 (0, 0)) ∧ Below w.heap.size w wr)) (fun i _ => 3 - (intOf i).toNat)
  case atStart => exact ⟨0, by omega, rfl, heap_alloc_new w _, (Below.refl _ _).alloc (Nat.le_refl _) _⟩
  case round =>
    obtain ⟨k, hk, rfl, H⟩ := hrel
    have hblk := (H.out.2.block g HGL.out).trans HG.out
    have hbw := H.out.2
    have hlt : w.heap.size < wr.heap.size := by
      rcases Nat.lt_or_ge w.heap.size wr.heap.size with h | h
      · exact h
      · have := H.out.1; rw [Array.getElem?_eq_none h] at this; cases this
    rcases (show k = 0 ∨ k = 1 ∨ k = 2 ∨ k = 3 from by omega) with rfl | rfl | rfl | rfl
    · have c0 : wr.cell? ⟨g, 0, none⟩ = some (.iface 46 (.agg #[.int .u64 ah, .int .u64 al])) := by simp [World.cell?, hblk]
      rw [show ((0 : Nat) : Int) = 0 from rfl]
      clear hblk
      go_wp2_with fail
      refine (text6_any ah al _ a0 a1 a2 a3 (bruTab_below HR.out hbw)).mono ?_
      rw [HTA.out]
      rintro e x3 ⟨rfl, hb3⟩
      have hr3 := (hb3.block w.heap.size hlt).trans H.out.1
      have s0 : x3.cell? ⟨w.heap.size, 0, none⟩ = some (.string ⟨#[]⟩) := by simp [World.cell?, hr3, rowT]
      have f0 : x3.frozen? ⟨w.heap.size, 0, none⟩ = false := by simp [World.frozen?, hr3]
      have HN : Hid ((x3.setCell ⟨w.heap.size, 0, none⟩ (.string ⟨tA.toArray⟩)).heap[w.heap.size]? = some (.cells (rowT tA tB 1) 9 (0, 0)) ∧ Below w.heap.size w (x3.setCell ⟨w.heap.size, 0, none⟩ (.string ⟨tA.toArray⟩))) :=
        ⟨by simp [World.setCell, Array.getElem?_modify, hr3, rowT], (hbw.trans (hb3.mono hbw.size)).setCell (Nat.le_refl _) _⟩
      clear hr3 hb3 hlt
      go_wp2
      go_roundw
      case rel => exact ⟨1, by omega, rfl, HN⟩
      case measure => simp [intOf]
    · have c0 : wr.cell? ⟨g, 1, none⟩ = some .nilIface := by simp [World.cell?, hblk]
      rw [show ((1 : Nat) : Int) = 1 from rfl]
      clear hblk hlt
      go_wp2
      go_roundw
      case rel => exact ⟨2, by omega, rfl, H⟩
      case measure => simp [intOf]
    · have c0 : wr.cell? ⟨g, 2, none⟩ = some (.iface 46 (.agg #[.int .u64 bh, .int .u64 bl])) := by simp [World.cell?, hblk]
      rw [show ((2 : Nat) : Int) = 2 from rfl]
      clear hblk
      go_wp2_with fail
      refine (text6_any bh bl _ b0 b1 b2 b3 (bruTab_below HR.out hbw)).mono ?_
      rw [HTB.out]
      rintro e x3 ⟨rfl, hb3⟩
      have hr3 := (hb3.block w.heap.size hlt).trans H.out.1
      have s0 : x3.cell? ⟨w.heap.size, 2, none⟩ = some (.string ⟨#[]⟩) := by simp [World.cell?, hr3, rowT]
      have f0 : x3.frozen? ⟨w.heap.size, 2, none⟩ = false := by simp [World.frozen?, hr3]
      have HN : Hid ((x3.setCell ⟨w.heap.size, 2, none⟩ (.string ⟨tB.toArray⟩)).heap[w.heap.size]? = some (.cells (rowT tA tB 3) 9 (0, 0)) ∧ Below w.heap.size w (x3.setCell ⟨w.heap.size, 2, none⟩ (.string ⟨tB.toArray⟩))) :=
        ⟨by simp [World.setCell, Array.getElem?_modify, hr3, rowT], (hbw.trans (hb3.mono hbw.size)).setCell (Nat.le_refl _) _⟩
      clear hr3 hb3 hlt
      go_wp2
      go_roundw
      case rel => exact ⟨3, by omega, rfl, HN⟩
      case measure => simp [intOf]
    · rw [show ((3 : Nat) : Int) = 3 from rfl]
      clear hblk hlt
      go_wp2
      go_ret
      exact ⟨_, rfl, Nat.le_refl _, H.out.1, hbw⟩

theorem texts_any (x y : AZ) (g : Nat) (w : World) (hx : x.Ok) (hy : y.Ok) (hpow : PowTab w) (hbru : BruTab w)
    (hg : w.heap[g]? = some (.cells #[x.val, .nilIface, y.val] 25 (0, 0))) :
    Calls Tryz.prog 17 #[.slice (some ⟨g, 0, none⟩) 3 3] w (RetTexts w (textA x) (textA y)) := by
  cases x with
  | four an =>
    cases y with
    | four bn => exact texts_44 an bn g w hx.1 hx.2 hy.1 hy.2 hpow hbru hg
    | six bh bl => exact texts_46 an bh bl g w hx.1 hx.2 hy.1.1 hy.1.2 hy.2.1 hy.2.2 hpow hbru hg
  | six ah al =>
    cases y with
    | four bn => exact texts_64 ah al bn g w hx.1.1 hx.1.2 hx.2.1 hx.2.2 hy.1 hy.2 hpow hbru hg
    | six bh bl => exact texts_66 ah al bh bl g w hx.1.1 hx.1.2 hx.2.1 hx.2.2 hy.1.1 hy.1.2 hy.2.1 hy.2.2 hpow hbru hg
theorem parts3 {W : World} {g : Nat} (a b : List UInt8) (h : W.heap[g]? = some (.cells #[.string ⟨a.toArray⟩, .string ⟨#[]⟩, .string ⟨b.toArray⟩] 9 (0, 0))) : Parts g W (.slice (some ⟨g, 0, none⟩) 3 3) [a, [], b] :=
  ⟨rfl, .inr ⟨g, 3, _, rfl, Nat.le_refl _, h, Nat.le_refl _, by decide, rfl, rfl⟩⟩

/-- what is written is read again -/
theorem joinH_mem (l : List Int) (c : UInt8) (h : c ∈ joinH l) : c ≠ 46 := by
  induction l with
  | nil => simp [joinH, Lib.join] at h
  | cons x r ih =>
    cases r with
    | nil =>
      rw [show joinH [x] = hexI x from by simp [joinH, Lib.join]] at h
      intro e
      exact ((hexD_facts x.toNat).2.2.2 c h).2 (by rw [e]; rfl)
    | cons y r =>
      rw [show joinH (x :: y :: r) = hexI x ++ [58] ++ joinH (y :: r) from join_cons _ _ _ _] at h
      rcases List.mem_append.1 h with h | h
      · rcases List.mem_append.1 h with h | h
        · intro e
          exact ((hexD_facts x.toNat).2.2.2 c h).2 (by rw [e]; rfl)
        · simp at h; subst h; decide
      · exact ih h
theorem text6_point (hi lo : Int) (c : UInt8) (h : c ∈ text6Z hi lo) : c ≠ 46 := by
  unfold text6Z textP at h
  split at h
  · exact joinH_mem _ c h
  · rcases List.mem_append.1 h with h | h
    · rcases List.mem_append.1 h with h | h
      · exact joinH_mem _ c h
      · simp at h; subst h; decide
    · exact joinH_mem _ c h
theorem addrZ_text (a : AZ) (h : a.Ok) : addrZ (textA a) = some a := by
  cases a with
  | four n =>
    unfold addrZ textA
    rw [strict_txtZ n h.1 h.2]
    rfl
  | six hi lo =>
    have hn : (strictZ (text6Z hi lo)).2 = false := by
      rw [strictZ_no]
      rw [dotted_one _ (fun c hc => has_no (fun e => text6_point hi lo c hc (UInt8.toNat_inj.1 e)))]
      simp
    unfold addrZ textA
    simp only
    rw [hn, six_text h.1.1 h.1.2 h.2.1 h.2.2]
    rfl
theorem textA_len (a : AZ) (h : a.Ok) : (textA a).length ≤ 1073741824 := by
  cases a with
  | four n => exact Nat.le_trans (txtZ_len n) (by decide)
  | six hi lo => exact Nat.le_trans (text6_len h.1.1 h.1.2 h.2.1 h.2.2) (by decide)
theorem inner_len (hi lo : Int) : (innerZ hi lo).length ≤ 12 := by
  have hA : (inA hi (lo / 4294967296) (lo % 4294967296)).length ≤ 2 := by unfold inA; split <;> simp
  have hB : (inCo hi (lo / 4294967296) (lo % 4294967296)).length ≤ 2 := by unfold inCo; split <;> simp
  have hC : (inC hi (lo / 4294967296) (lo % 4294967296)).length ≤ 2 := by unfold inC; split <;> simp
  have hD : (inD hi).length ≤ 2 := by unfold inD; split <;> simp
  have hE : (inE hi (lo % 4294967296)).length ≤ 2 := by unfold inE; split <;> simp
  have hF : (inF (lo / 4294967296) (lo % 4294967296)).length ≤ 2 := by unfold inF; split <;> simp
  unfold innerZ
  simp only [List.length_append]
  omega
theorem innerA_len (a : AZ) : (innerA a).length ≤ 12 := by
  cases a with
  | four n => exact Nat.zero_le _
  | six hi lo => exact inner_len hi lo
theorem neq_same (x : AZ) : ∀ W : World, (binOp .neq 25 x.val x.val).run Tryz.prog W = .ok (.bool false) W := by
  intro W
  have h := binOp_eq x x W
  rw [(eqB_iff x x).2 rfl] at h
  have e1 : ∀ (a b : Value), (binOp .eql 25 x.val x.val) = (Op.equal 25 x.val x.val >>= fun b => pure (Value.bool b)) := fun _ _ => by cases x <;> rfl
  have e2 : (binOp .neq 25 x.val x.val) = (Op.equal 25 x.val x.val >>= fun b => pure (Value.bool (!b))) := by cases x <;> rfl
  rw [e1 .nilIface .nilIface, Sem.run_bind] at h
  rw [e2, Sem.run_bind]
  cases hr : (Op.equal 25 x.val x.val).run Tryz.prog W with
  | ok b w' =>
    rw [hr] at h
    cases b
    · cases h
    · cases h; rfl
  | halt k w' => rw [hr] at h; cases h
theorem neqGuard_same (x : AZ) : ∀ (p q : Operand) (W : World), (eqGuard .neq 25 p q x.val x.val).run Tryz.prog W = .ok () W := by
  intro p q W
  cases x <;> rfl

end Go.Proofs.YtgmfgcpfpopboaaGreatDoor
