/-
  Layer 1: slices.Equal over []rune compares the two rows' numbers, element by element.
-/
import Derived.Test.YtaojjkknmaldiaaDoorScalA
namespace Go.Proofs.YtaojjkknmaldiaaDoor
open Go.RowKit


/-- the slice value v holds the cells xs -/
def RowR (w : World) (v : Value) (xs : List Value) : Prop :=
  ∃ ao c, v = .slice ao xs.length c ∧ ∀ j u, xs[j]? = some u → ∃ ad, ao = some ad ∧ w.cell? (ad.add j) = some u

theorem RowR.of_own {w : World} {base : Nat} {e : TypeId} {v : Value} {xs : List Value} (h : w.ownsRow base e 1 v xs.length xs) : RowR w v xs := by
  rcases h.2 with ⟨rfl, h0⟩ | ⟨g, cap, cur, rfl, _, hg, hn, _, hs, ht⟩
  · refine ⟨none, 0, by rw [h0], fun j u hj => ?_⟩
    have := List.length_eq_zero_iff.1 h0
    subst this
    simp at hj
  · refine ⟨some ⟨g, 0, none⟩, cap, rfl, fun j u hj => ⟨_, rfl, ?_⟩⟩
    have hlt : j < xs.length := (List.getElem?_eq_some_iff.1 hj).1
    have e1 : (Addr.add ⟨g, 0, none⟩ j) = ⟨g, j, none⟩ := by
      unfold Addr.add; split <;> simp_all
    rw [e1, cell_of_row w g j cur e (0, 0) hg]
    rw [← ht, List.getElem?_take] at hj
    rw [if_pos (by omega)] at hj
    simpa using hj

theorem RowR.keep {w w' : World} {v : Value} {xs : List Value} (h : RowR w v xs) (hk : ∀ a u, w.cell? a = some u → w'.cell? a = some u) : RowR w' v xs := by
  obtain ⟨ao, c, hv, hc⟩ := h
  refine ⟨ao, c, hv, fun j u hj => ?_⟩
  obtain ⟨ad, ha, hx⟩ := hc j u hj
  exact ⟨ad, ha, hk _ _ hx⟩

theorem RowR.below {w w' : World} {v : Value} {xs : List Value} (h : RowR w v xs) (hb : Below w.heap.size w w') : RowR w' v xs :=
  h.keep fun a _ ha => (hb.cell (World.block_lt_of_cell? w a ha)).trans ha

theorem take_next {l1 l2 : List Int} {k : Nat} (h : l1.take k = l2.take k) (h1 : k < l1.length) (h2 : k < l2.length) (e : l1[k] = l2[k]) : l1.take (k + 1) = l2.take (k + 1) := by
  rw [List.take_succ_eq_append_getElem h1, List.take_succ_eq_append_getElem h2, h, e]

set_option maxRecDepth 100000 in
set_option maxHeartbeats 1000000 in
theorem equalR_any (v1 v2 : Value) (l1 l2 : List Int) (w : World) (h1 : RowR w v1 (l1.map (Value.int .i32))) (h2 : RowR w v2 (l2.map (Value.int .i32)))
    (hl1 : l1.length ≤ 1073741824) :
    Calls Tryd.prog 58 #[v1, v2] w fun e w' => e = .returned (.bool (decide (l1 = l2))) ∧ ∃ n, w' = w.drewN n := by
  obtain ⟨a1, c1, rfl, hc1⟩ := h1
  obtain ⟨a2, c2, rfl, hc2⟩ := h2
  simp only [List.length_map]
  have HC1 := Lib.hid hc1
  have HC2 := Lib.hid hc2
  clear hc1 hc2
  by_cases hne : l1.length = l2.length
  · have HL := Lib.hid hne
    have hle1 : l1.length ≤ l2.length := by omega
    have hle2 : l2.length ≤ l1.length := by omega
    have hb : ((l1.length : Int) != (l2.length : Int)) = false := by simp [hne]
    clear hne
    go_enter Tryd.func58, Tryd.ntmps58
    go_wp2
    go_loopw [13] (fun i wr => ∃ k m : Nat, k ≤ l1.length ∧ i = .int .i64 k ∧ wr = w.drewN m ∧ Hid (l1.take k = l2.take k)) (fun i _ => l1.length - (intOf i).toNat)
    case atStart => exact ⟨0, 0, Nat.zero_le _, rfl, rfl, rfl⟩
    case round =>
      obtain ⟨k, m, hk, rfl, rfl, H⟩ := hrel
      by_cases hlt : k < l1.length
      · have hlt2 : k < l2.length := by omega
        obtain ⟨x, hx⟩ : ∃ x, x = l1[k] := ⟨_, rfl⟩
        obtain ⟨y, hy⟩ : ∃ y, y = l2[k] := ⟨_, rfl⟩
        obtain ⟨d1, rfl, hd1⟩ := HC1.out k (.int .i32 x) (by simp [hx, hlt])
        obtain ⟨d2, rfl, hd2⟩ := HC2.out k (.int .i32 y) (by simp [hy, hlt2])
        have HX := Lib.hid hx
        have HY := Lib.hid hy
        clear hx hy
        by_cases hxy : x = y
        · subst hxy
          go_wp2
          go_quiet (fail)
          go_wp2
          go_roundw
          case rel =>
            exact ⟨k + 1, _, by omega, by go_num, rfl, take_next H.out hlt hlt2 (HX.out.symm.trans HY.out)⟩
          case measure => simp [intOf]; omega
        · have hb1 : (x != y) = true := by simp [hxy]
          have hfin : decide (l1 = l2) = false := by
            refine decide_eq_false fun e => hxy ?_
            rw [HX.out, HY.out]
            simp only [e]
          have HF := Lib.hid hfin
          clear hfin
          go_wp2
          go_quiet (fail)
          go_wp2
          go_ret
          exact ⟨ret_bool HF.out.symm, _, World.drewN_drewN _ _ _⟩
      · have hfin : decide (l1 = l2) = true := by
          refine decide_eq_true ?_
          have := H.out
          rwa [List.take_of_length_le (by omega), List.take_of_length_le (by omega)] at this
        have HF := Lib.hid hfin
        clear hfin
        go_wp2
        go_ret
        exact ⟨ret_bool HF.out.symm, m, rfl⟩
  · have hb : ((l1.length : Int) != (l2.length : Int)) = true := by simp; omega
    have hfin : decide (l1 = l2) = false := decide_eq_false fun e => hne (by rw [e])
    have HF := Lib.hid hfin
    clear hfin
    go_enter Tryd.func58, Tryd.ntmps58
    go_wp2
    go_ret
    exact ⟨ret_bool HF.out.symm, 0, rfl⟩
end Go.Proofs.YtaojjkknmaldiaaDoor
