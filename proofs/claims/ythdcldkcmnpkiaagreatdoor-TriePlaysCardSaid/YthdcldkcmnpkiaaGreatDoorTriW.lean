/-
  Layer 8: the document's list of entries in memory, and Get.
-/
import Derived.Test.YthdcldkcmnpkiaaGreatDoorTriV
import Derived.Test.YthdcldkcmnpkiaaGreatDoorPreL
namespace Go.Proofs.YthdcldkcmnpkiaaGreatDoor
open Go.RowKit


/-- the slice v holds these entries -/
def RowE (w : World) (v : Value) (l : List En) : Prop :=
  ∃ ao c, v = .slice ao l.length c ∧ ∀ (j : Nat) (x : En), l[j]? = some x → ∃ ad, ao = some ad ∧ (w.cell? (Addr.add ad (j * 4)) = some (.int .u64 (hiN x.W : Nat)) ∧ w.cell? ⟨(Addr.add ad (j * 4)).block, (Addr.add ad (j * 4)).off + 1, none⟩ = some (.int .u64 (loN x.W : Nat)) ∧
    w.cell? ⟨(Addr.add ad (j * 4)).block, (Addr.add ad (j * 4)).off + 2, none⟩ = some (.int .i64 (x.n : Nat)) ∧ w.cell? ⟨(Addr.add ad (j * 4)).block, (Addr.add ad (j * 4)).off + 3, none⟩ = some (.int .i64 x.v))
theorem RowE.keep {w w' : World} {v : Value} {l : List En} (h : RowE w v l) (hb : Below w.heap.size w w') : RowE w' v l := by
  obtain ⟨ao, c, rfl, hc⟩ := h
  have kp : ∀ (p : Addr) (u : Value), w.cell? p = some u → w'.cell? p = some u := fun p u hp => (hb.cell (World.block_lt_of_cell? w p hp)).trans hp
  refine ⟨ao, c, rfl, fun j x hx => ?_⟩
  obtain ⟨ad, ha, c0, c1, c2, c3⟩ := hc j x hx
  exact ⟨ad, ha, kp _ _ c0, kp _ _ c1, kp _ _ c2, kp _ _ c3⟩
theorem getL_take {l : List En} {P : Nat} {k : Int} {j : Nat} (hj : j < l.length) (h : getL (l.take j) P k = none) : getL (l.take (j + 1)) P k = if (l[j]).key P k = true then some (l[j]).v else none := by
  rw [List.take_succ_eq_append_getElem hj]
  generalize l[j] = x
  generalize l.take j = m at h
  induction m with
  | nil => simp [getL]
  | cons y m ih =>
    simp only [List.cons_append, getL] at h ⊢
    split at h
    · cases h
    · next q => rw [if_neg q]; exact ih h
theorem getL_stop {l : List En} {P : Nat} {k v : Int} {j : Nat} (h : getL (l.take j) P k = some v) : getL l P k = some v := by
  rw [← List.take_append_drop j l]
  generalize l.take j = m at h
  generalize l.drop j = r
  induction m with
  | nil => cases h
  | cons y m ih =>
    simp only [List.cons_append, getL] at h ⊢
    split at h
    · next q => rw [if_pos q]; exact h
    · next q => rw [if_neg q]; exact ih h
theorem key_is {x : En} {hi lo : Nat} {k : Int} (h2 : lo < 18446744073709551616) : ((hiN x.W : Int) == hi && ((loN x.W : Int) == lo && (x.n : Int) == k)) = x.key (wideN hi lo) k := by
  unfold En.key
  rw [Bool.eq_iff_iff, decide_eq_true_iff]
  simp only [Bool.and_eq_true, beq_iff_eq]
  constructor
  · rintro ⟨e1, e2, e3⟩
    exact ⟨wide_inj (by rw [hiN_wide h2]; omega) (by rw [loN_wide h2]; omega), e3⟩
  · rintro ⟨e1, e2⟩
    rw [e1, hiN_wide h2, loN_wide h2]
    exact ⟨rfl, rfl, e2⟩
set_option maxRecDepth 100000 in
set_option maxHeartbeats 4000000 in
theorem refGet8_any (v : Value) (l : List En) (hi lo : Nat) (k : Int) (w : World) (h2 : lo < 18446744073709551616) (hl : l.length < 1000000) (hr : RowE w v l) :
    Calls Tryz.prog 59 #[v, .agg #[.int .u64 (hi : Nat), .int .u64 (lo : Nat), .int .i64 k]] w (RetG w (getL l (wideN hi lo) k)) := by
  have HR := Lib.hid (fun w' (hb : Below w.heap.size w w') => hr.keep hb)
  obtain ⟨ao, c, rfl, hc⟩ := hr
  have HC : Hid (∀ (wr : World), Below w.heap.size w wr → ∀ (j : Nat) (x : En), l[j]? = some x → ∃ ad, ao = some ad ∧ (wr.cell? (Addr.add ad (j * 4)) = some (.int .u64 (hiN x.W : Nat)) ∧ wr.cell? ⟨(Addr.add ad (j * 4)).block, (Addr.add ad (j * 4)).off + 1, none⟩ = some (.int .u64 (loN x.W : Nat)) ∧
    wr.cell? ⟨(Addr.add ad (j * 4)).block, (Addr.add ad (j * 4)).off + 2, none⟩ = some (.int .i64 (x.n : Nat)) ∧ wr.cell? ⟨(Addr.add ad (j * 4)).block, (Addr.add ad (j * 4)).off + 3, none⟩ = some (.int .i64 x.v))) := fun wr hb j x hx => by
    obtain ⟨ao', c', e, hc'⟩ := HR.out wr hb
    simp only [Value.slice.injEq] at e
    obtain ⟨rfl, _, rfl⟩ := e
    exact hc' j x hx
  clear hc HR
  have hg := eqPr_guard
  have HE := Lib.hid (fun x : En => eqPr (hiN x.W) (loN x.W) x.n hi lo k)
  have HKEY := Lib.hid (fun x : En => key_is (x := x) (hi := hi) (lo := lo) (k := k) h2)
  have HB0 := Lib.hid ((Blks.empty w).new #[.int .u64 (hi : Nat), .int .u64 (lo : Nat), .int .i64 k] 31)
  have hb0 : Below w.heap.size w (w.alloc (.cells #[.int .u64 (hi : Nat), .int .u64 (lo : Nat), .int .i64 k] 31)) := (Below.refl _ _).alloc (Nat.le_refl _) _
  clear h2
  go_enter Tryz.func59, Tryz.ntmps59
  go_wp2
  go_loopw [10] (fun i wr => ∃ j : Nat, j ≤ l.length ∧ i = .int .i64 j ∧ Hid (Below w.heap.size w wr ∧ Blks [(w.heap.size, #[.int .u64 (hi : Nat), .int .u64 (lo : Nat), .int .i64 k], 31)] wr) ∧ Hid (getL (l.take j) (wideN hi lo) k = none)) (fun i _ => l.length - (intOf i).toNat)
  case atStart => exact ⟨0, Nat.zero_le _, rfl, ⟨hb0, HB0.out⟩, rfl⟩
  case round =>
    obtain ⟨j, hj, rfl, HS, HN⟩ := hrel
    by_cases hlt : j < l.length
    · have hjl : (j : Int) < l.length := by omega
      obtain ⟨x, hx⟩ : ∃ x, x = l[j] := ⟨_, rfl⟩
      obtain ⟨ad, rfl, c0, c1, c2, c3⟩ := HC.out wr HS.out.1 j x (by rw [hx]; exact List.getElem?_eq_getElem hlt)
      obtain ⟨l1, d0, d1, d2⟩ := HS.out.2.r3 (.head _)
      have he := HE.out x
      rw [HKEY.out x] at he
      have HT := Lib.hid (getL_take hlt HN.out)
      rw [← hx] at HT
      clear hx
      cases hk : x.key (wideN hi lo) k with
      | true =>
        rw [hk] at he HT
        go_wp2
        go_ret2
        have e := getL_stop (by rw [HT.out]; simp : getL (l.take (j + 1)) (wideN hi lo) k = some x.v)
        rw [e]
        exact ⟨rfl, HS.out.1.alloc HS.out.1.size _⟩
      | false =>
        rw [hk] at he HT
        have HT2 := Lib.hid (HT.out.trans (if_neg (by simp)))
        go_wp2
        go_roundw
        case rel => exact ⟨j + 1, by omega, by go_num, ⟨HS.out.1.alloc HS.out.1.size _, HS.out.2.keep ((Below.refl _ _).alloc (Nat.le_refl _) _)⟩, HT2⟩
        case measure => simp [intOf]; omega
    · have hjl : ¬ (j : Int) < l.length := by omega
      go_wp2
      go_ret2
      have e := HN.out
      rw [List.take_of_length_le (by omega)] at e
      rw [e]
      exact ⟨rfl, HS.out.1⟩
end Go.Proofs.YthdcldkcmnpkiaaGreatDoor
