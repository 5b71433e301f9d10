/-
  Layer 6: the reference's order, pieces and text.
-/
import Derived.Test.YtgmfgcpfpopboaaGreatDoorAddH
import Derived.Test.YtgmfgcpfpopboaaGreatDoorSixQ
namespace Go.Proofs.YtgmfgcpfpopboaaGreatDoor
open Go.RowKit


def rkB (s : Bool) : Int := if s then 2 else 1
def cmpT (x y : Bool × Int × Int) : Int := if x.2.1 ≠ y.2.1 then cmpI x.2.1 y.2.1 else if x.2.2 ≠ y.2.2 then cmpI x.2.2 y.2.2 else cmpI (rkB x.1) (rkB y.1)
theorem cmpT_refA (a b : AZ) : cmpT (refA (some a)) (refA (some b)) = cmpZ a b := by cases a <;> cases b <;> rfl

set_option maxRecDepth 100000 in
set_option maxHeartbeats 1000000 in
theorem refCmp_hl (s1 s2 : Bool) (h1 l1 h2 l2 : Int) (w : World) (hh : h1 < h2) :
    Calls Tryz.prog 10 #[.agg #[.bool s1, .int .u64 h1, .int .u64 l1], .agg #[.bool s2, .int .u64 h2, .int .u64 l2]] w fun e w' => e = .returned (.int .i64 (-1)) ∧ Below w.heap.size w w' := by
  have d1 : decide (h1 < h2) = true := decide_eq_true (by omega)
  clear hh
  go_enter Tryz.func10, Tryz.ntmps10
  go_wp2
  go_ret
  exact ⟨rfl, ((Below.refl _ _).alloc (Nat.le_refl _) _).alloc (by simp) _⟩
set_option maxRecDepth 100000 in
set_option maxHeartbeats 1000000 in
theorem refCmp_hg (s1 s2 : Bool) (h1 l1 h2 l2 : Int) (w : World) (hh : h2 < h1) :
    Calls Tryz.prog 10 #[.agg #[.bool s1, .int .u64 h1, .int .u64 l1], .agg #[.bool s2, .int .u64 h2, .int .u64 l2]] w fun e w' => e = .returned (.int .i64 (1)) ∧ Below w.heap.size w w' := by
  have d1 : decide (h1 < h2) = false := decide_eq_false (by omega)
  have e1 : (h1 == h2) = false := by simp; omega
  have d3 : decide (h2 < h1) = true := decide_eq_true (by omega)
  clear hh
  go_enter Tryz.func10, Tryz.ntmps10
  go_wp2
  go_ret
  exact ⟨rfl, ((Below.refl _ _).alloc (Nat.le_refl _) _).alloc (by simp) _⟩
set_option maxRecDepth 100000 in
set_option maxHeartbeats 1000000 in
theorem refCmp_ll (s1 s2 : Bool) (h1 l1 h2 l2 : Int) (w : World) (hh : h1 = h2) (hl : l1 < l2) :
    Calls Tryz.prog 10 #[.agg #[.bool s1, .int .u64 h1, .int .u64 l1], .agg #[.bool s2, .int .u64 h2, .int .u64 l2]] w fun e w' => e = .returned (.int .i64 (-1)) ∧ Below w.heap.size w w' := by
  have d1 : decide (h1 < h2) = false := decide_eq_false (by omega)
  have e1 : (h1 == h2) = true := by simp [hh]
  have d2 : decide (l1 < l2) = true := decide_eq_true (by omega)
  clear hh hl
  go_enter Tryz.func10, Tryz.ntmps10
  go_wp2
  go_ret
  exact ⟨rfl, ((Below.refl _ _).alloc (Nat.le_refl _) _).alloc (by simp) _⟩
set_option maxRecDepth 100000 in
set_option maxHeartbeats 1000000 in
theorem refCmp_lg (s1 s2 : Bool) (h1 l1 h2 l2 : Int) (w : World) (hh : h1 = h2) (hl : l2 < l1) :
    Calls Tryz.prog 10 #[.agg #[.bool s1, .int .u64 h1, .int .u64 l1], .agg #[.bool s2, .int .u64 h2, .int .u64 l2]] w fun e w' => e = .returned (.int .i64 (1)) ∧ Below w.heap.size w w' := by
  have d1 : decide (h1 < h2) = false := decide_eq_false (by omega)
  have e1 : (h1 == h2) = true := by simp [hh]
  have d2 : decide (l1 < l2) = false := decide_eq_false (by omega)
  have d3 : decide (h2 < h1) = false := decide_eq_false (by omega)
  have d4 : decide (l2 < l1) = true := decide_eq_true (by omega)
  clear hh hl
  go_enter Tryz.func10, Tryz.ntmps10
  go_wp2
  go_ret
  exact ⟨rfl, ((Below.refl _ _).alloc (Nat.le_refl _) _).alloc (by simp) _⟩
set_option maxRecDepth 100000 in
set_option maxHeartbeats 1000000 in
theorem refCmp_e_ff (h1 l1 h2 l2 : Int) (w : World) (hh : h1 = h2) (hl : l1 = l2) :
    Calls Tryz.prog 10 #[.agg #[.bool false, .int .u64 h1, .int .u64 l1], .agg #[.bool false, .int .u64 h2, .int .u64 l2]] w fun e w' => e = .returned (.int .i64 (0)) ∧ Below w.heap.size w w' := by
  have d1 : decide (h1 < h2) = false := decide_eq_false (by omega)
  have e1 : (h1 == h2) = true := by simp [hh]
  have d2 : decide (l1 < l2) = false := decide_eq_false (by omega)
  have d3 : decide (h2 < h1) = false := decide_eq_false (by omega)
  have d4 : decide (l2 < l1) = false := decide_eq_false (by omega)
  clear hh hl
  go_enter Tryz.func10, Tryz.ntmps10
  go_wp2
  go_ret
  exact ⟨rfl, ((Below.refl _ _).alloc (Nat.le_refl _) _).alloc (by simp) _⟩
set_option maxRecDepth 100000 in
set_option maxHeartbeats 1000000 in
theorem refCmp_e_ft (h1 l1 h2 l2 : Int) (w : World) (hh : h1 = h2) (hl : l1 = l2) :
    Calls Tryz.prog 10 #[.agg #[.bool false, .int .u64 h1, .int .u64 l1], .agg #[.bool true, .int .u64 h2, .int .u64 l2]] w fun e w' => e = .returned (.int .i64 (-1)) ∧ Below w.heap.size w w' := by
  have d1 : decide (h1 < h2) = false := decide_eq_false (by omega)
  have e1 : (h1 == h2) = true := by simp [hh]
  have d2 : decide (l1 < l2) = false := decide_eq_false (by omega)
  have d3 : decide (h2 < h1) = false := decide_eq_false (by omega)
  have d4 : decide (l2 < l1) = false := decide_eq_false (by omega)
  clear hh hl
  go_enter Tryz.func10, Tryz.ntmps10
  go_wp2
  go_ret
  exact ⟨rfl, ((Below.refl _ _).alloc (Nat.le_refl _) _).alloc (by simp) _⟩
set_option maxRecDepth 100000 in
set_option maxHeartbeats 1000000 in
theorem refCmp_e_tf (h1 l1 h2 l2 : Int) (w : World) (hh : h1 = h2) (hl : l1 = l2) :
    Calls Tryz.prog 10 #[.agg #[.bool true, .int .u64 h1, .int .u64 l1], .agg #[.bool false, .int .u64 h2, .int .u64 l2]] w fun e w' => e = .returned (.int .i64 (1)) ∧ Below w.heap.size w w' := by
  have d1 : decide (h1 < h2) = false := decide_eq_false (by omega)
  have e1 : (h1 == h2) = true := by simp [hh]
  have d2 : decide (l1 < l2) = false := decide_eq_false (by omega)
  have d3 : decide (h2 < h1) = false := decide_eq_false (by omega)
  have d4 : decide (l2 < l1) = false := decide_eq_false (by omega)
  clear hh hl
  go_enter Tryz.func10, Tryz.ntmps10
  go_wp2
  go_ret
  exact ⟨rfl, ((Below.refl _ _).alloc (Nat.le_refl _) _).alloc (by simp) _⟩
set_option maxRecDepth 100000 in
set_option maxHeartbeats 1000000 in
theorem refCmp_e_tt (h1 l1 h2 l2 : Int) (w : World) (hh : h1 = h2) (hl : l1 = l2) :
    Calls Tryz.prog 10 #[.agg #[.bool true, .int .u64 h1, .int .u64 l1], .agg #[.bool true, .int .u64 h2, .int .u64 l2]] w fun e w' => e = .returned (.int .i64 (0)) ∧ Below w.heap.size w w' := by
  have d1 : decide (h1 < h2) = false := decide_eq_false (by omega)
  have e1 : (h1 == h2) = true := by simp [hh]
  have d2 : decide (l1 < l2) = false := decide_eq_false (by omega)
  have d3 : decide (h2 < h1) = false := decide_eq_false (by omega)
  have d4 : decide (l2 < l1) = false := decide_eq_false (by omega)
  clear hh hl
  go_enter Tryz.func10, Tryz.ntmps10
  go_wp2
  go_ret
  exact ⟨rfl, ((Below.refl _ _).alloc (Nat.le_refl _) _).alloc (by simp) _⟩
theorem refCompare_any (x y : Bool × Int × Int) (w : World) :
    Calls Tryz.prog 10 #[refV x, refV y] w fun e w' => e = .returned (.int .i64 (cmpT x y)) ∧ Below w.heap.size w w' := by
  obtain ⟨s1, h1, l1⟩ := x
  obtain ⟨s2, h2, l2⟩ := y
  unfold cmpT refV
  simp only
  rcases three_ways h1 h2 with h | h | h
  · rw [if_pos (by omega), cmpI_lt h]; exact refCmp_hl s1 s2 h1 l1 h2 l2 w h
  · rw [if_pos (by omega), cmpI_gt h]; exact refCmp_hg s1 s2 h1 l1 h2 l2 w h
  · rw [if_neg (fun k => k h)]
    rcases three_ways l1 l2 with k | k | k
    · rw [if_pos (by omega), cmpI_lt k]; exact refCmp_ll s1 s2 h1 l1 h2 l2 w h k
    · rw [if_pos (by omega), cmpI_gt k]; exact refCmp_lg s1 s2 h1 l1 h2 l2 w h k
    · rw [if_neg (fun q => q k)]
      cases s1 <;> cases s2
      · exact refCmp_e_ff h1 l1 h2 l2 w h k
      · exact refCmp_e_ft h1 l1 h2 l2 w h k
      · exact refCmp_e_tf h1 l1 h2 l2 w h k
      · exact refCmp_e_tt h1 l1 h2 l2 w h k

set_option maxRecDepth 100000 in
set_option maxHeartbeats 1000000 in
theorem two_any (v : Value) (l : List Int) (k : Nat) (x y : Int) (w : World) (h : RowR w v (l.map (Value.int .i64))) (hk : k + 1 < l.length) (hl : l.length ≤ 1073741824) (hx : l[k]? = some x) (hy : l[k + 1]? = some y)
    (x0 : 0 ≤ x) (x1 : x ≤ 65535) (y0 : 0 ≤ y) (y1 : y ≤ 65535) :
    Calls Tryz.prog 29 #[v, .int .i64 (k : Int)] w fun e w' => e = .returned (.int .u32 (x * 65536 + y)) ∧ Below w.heap.size w w' := by
  obtain ⟨a1, c1, rfl, hc1⟩ := h
  simp only [List.length_map]
  obtain ⟨ad, rfl, hd1⟩ := hc1 k (.int .i64 x) (by rw [List.getElem?_map, hx]; rfl)
  obtain ⟨ad2, e2, hd2⟩ := hc1 (k + 1) (.int .i64 y) (by rw [List.getElem?_map, hy]; rfl)
  cases e2
  clear hc1 hx hy
  have hk0 : k < l.length := by omega
  obtain ⟨k2, hk2⟩ : ∃ k2, k2 = k + 1 := ⟨_, rfl⟩
  rw [← hk2] at hk hd2
  have e1 : IntKind.i64.wrap ((k : Int) + 1) = (k2 : Int) := by rw [IntKind.wrap_i64]; omega
  clear hk2
  have e2 : IntKind.u32.wrap x = x := by rw [u32_wrap]; omega
  have e3 : IntKind.u32.wrap y = y := by rw [u32_wrap]; omega
  have e4 : IntKind.u32.wrap (x * 65536) = x * 65536 := by rw [u32_wrap]; omega
  have e5 : IntKind.u32.wrap (x * 65536 + y) = x * 65536 + y := by rw [u32_wrap]; omega
  go_enter Tryz.func29, Tryz.ntmps29
  go_wp2
  go_quiet (fail)
  go_wp2
  go_ret
  exact ⟨rfl, below_drewN (Below.refl _ _) _⟩

set_option maxRecDepth 100000 in
set_option maxHeartbeats 1000000 in
theorem begins_any (v1 v2 : Value) (l1 l2 : List Int) (w : World) (h1 : RowR w v1 (l1.map (Value.int .i64))) (h2 : RowR w v2 (l2.map (Value.int .i64))) (hle : l2.length ≤ l1.length) (hl1 : l1.length ≤ 1073741824) :
    Calls Tryz.prog 30 #[v1, v2] w fun e w' => e = .returned (.bool (decide (l1.take l2.length = l2))) ∧ Below w.heap.size w w' := by
  obtain ⟨a1, c1, rfl, hc1⟩ := h1
  obtain ⟨a2, c2, rfl, hc2⟩ := h2
  simp only [List.length_map]
  have HC1 := Lib.hid hc1
  have HC2 := Lib.hid hc2
  clear hc1 hc2
  go_enter Tryz.func30, Tryz.ntmps30
  go_wp2
  go_loopw [5] (fun i wr => ∃ k m : Nat, k ≤ l2.length ∧ i = .int .i64 k ∧ wr = w.drewN m ∧ Hid (l1.take k = l2.take k)) (fun i _ => l2.length - (intOf i).toNat)
  case atStart => exact ⟨0, 0, Nat.zero_le _, rfl, rfl, rfl⟩
  case round =>
    obtain ⟨k, m, hk, rfl, rfl, H⟩ := hrel
    by_cases hlt2 : k < l2.length
    · have hlt : k < l1.length := by omega
      obtain ⟨x, hx⟩ : ∃ x, x = l1[k] := ⟨_, rfl⟩
      obtain ⟨y, hy⟩ : ∃ y, y = l2[k] := ⟨_, rfl⟩
      obtain ⟨d1, rfl, hd1⟩ := HC1.out k (.int .i64 x) (by simp [hx, hlt])
      obtain ⟨d2, rfl, hd2⟩ := HC2.out k (.int .i64 y) (by simp [hy, hlt2])
      have HX := Lib.hid hx
      have HY := Lib.hid hy
      clear hx hy
      by_cases hxy : x = y
      · subst hxy
        go_wp2
        go_quiet (fail)
        go_wp2
        go_roundw
        case rel =>
          exact ⟨k + 1, _, by omega, by go_num, rfl, take_next H.out hlt hlt2 (HX.out.symm.trans HY.out)⟩
        case measure => simp [intOf]; omega
      · have hb1 : (x != y) = true := by simp [hxy]
        have hfin : decide (l1.take l2.length = l2) = false := by
          refine decide_eq_false fun e => hxy ?_
          rw [HX.out, HY.out]
          have h3 : (l1.take l2.length)[k]? = l2[k]? := by rw [e]
          rw [List.getElem?_take, if_pos hlt2, List.getElem?_eq_getElem hlt, List.getElem?_eq_getElem hlt2] at h3
          exact Option.some.inj h3
        have HF := Lib.hid hfin
        clear hfin
        go_wp2
        go_quiet (fail)
        go_wp2
        go_ret
        exact ⟨ret_bool HF.out.symm, below_drewN (below_drewN (Below.refl _ _) _) _⟩
    · have hfin : decide (l1.take l2.length = l2) = true := by
        refine decide_eq_true ?_
        have h3 := H.out
        have hke : k = l2.length := by omega
        rw [hke, List.take_length] at h3
        exact h3
      have HF := Lib.hid hfin
      clear hfin
      go_wp2
      go_ret
      exact ⟨ret_bool HF.out.symm, below_drewN (Below.refl _ _) m⟩

set_option maxRecDepth 100000 in
set_option maxHeartbeats 1000000 in
theorem num_any (s : Bool) (hi lo : Int) (w : World) (l0 : 0 ≤ lo) (l1 : lo ≤ 18446744073709551615) :
    Calls Tryz.prog 34 #[.agg #[.bool s, .int .u64 hi, .int .u64 lo]] w fun e w' => e = .returned (.int .u32 (lo % 4294967296)) ∧ Below w.heap.size w w' := by
  have hw : IntKind.u32.wrap (lo % 4294967296) = lo % 4294967296 := by rw [u32_wrap]; omega
  go_enter Tryz.func34, Tryz.ntmps34
  go_wp2
  go_ret
  exact ⟨rfl, (Below.refl _ _).alloc (Nat.le_refl _) _⟩

def textA : AZ → List UInt8
  | .four n => txtZ n
  | .six hi lo => text6Z hi lo
set_option maxRecDepth 100000 in
set_option maxHeartbeats 1000000 in
theorem refTextA_four (n : Int) (w : World) (h0 : 0 ≤ n) (h1 : n ≤ 4294967295) (hpow : PowTab w) :
    Calls Tryz.prog 18 #[.agg #[.bool false, .int .u64 0, .int .u64 (281470681743360 + n)]] w (RetStr w (txtZ n)) := by
  have HT := Lib.hid hpow
  clear hpow
  have hc1 : Below w.heap.size w (w.alloc (.cells #[.bool false, .int .u64 0, .int .u64 (281470681743360 + n)] 40)) := (Below.refl _ _).alloc (Nat.le_refl _) _
  go_enter Tryz.func18, Tryz.ntmps18
  go_wp2_with fail
  refine (num_any false 0 (281470681743360 + n) _ (by omega) (by omega)).mono ?_
  rw [show (281470681743360 + n) % 4294967296 = n from by omega]
  rintro e x1 ⟨rfl, hb1⟩
  have hc2 : Below w.heap.size w x1 := hc1.trans (hb1.mono hc1.size)
  clear hb1
  go_wp2_with fail
  refine (refText4_any n _ h0 h1 (powTab_below HT.out hc2)).mono ?_
  rintro e x2 ⟨rfl, hb2⟩
  go_wp2
  go_ret
  exact ⟨rfl, hc2.trans (hb2.mono hc2.size)⟩
set_option maxRecDepth 100000 in
set_option maxHeartbeats 1000000 in
theorem refTextA_six (hi lo : Int) (w : World) (h0 : 0 ≤ hi) (h1 : hi ≤ 18446744073709551615) (l0 : 0 ≤ lo) (l1 : lo ≤ 18446744073709551615) :
    Calls Tryz.prog 18 #[.agg #[.bool true, .int .u64 hi, .int .u64 lo]] w (RetStr w (text6Z hi lo)) := by
  have hc1 : Below w.heap.size w (w.alloc (.cells #[.bool true, .int .u64 hi, .int .u64 lo] 40)) := (Below.refl _ _).alloc (Nat.le_refl _) _
  go_enter Tryz.func18, Tryz.ntmps18
  go_wp2_with fail
  refine (refText6_any hi lo _ h0 h1 l0 l1).mono ?_
  rintro e x2 ⟨rfl, hb2⟩
  go_wp2
  go_ret
  exact ⟨rfl, hc1.trans (hb2.mono hc1.size)⟩
theorem refTextA_any (a : AZ) (w : World) (h : a.Ok) (hpow : PowTab w) :
    Calls Tryz.prog 18 #[refV (refA (some a))] w (RetStr w (textA a)) := by
  cases a with
  | four n => exact refTextA_four n w h.1 h.2 hpow
  | six hi lo => exact refTextA_six hi lo w h.1.1 h.1.2 h.2.1 h.2.2

set_option maxRecDepth 100000 in
set_option maxHeartbeats 1000000 in
theorem equalU_any (v1 v2 : Value) (l1 l2 : List Int) (w : World) (h1 : RowR w v1 (l1.map (Value.int .u32))) (h2 : RowR w v2 (l2.map (Value.int .u32)))
    (hl1 : l1.length ≤ 1073741824) :
    Calls Tryz.prog 12 #[v1, v2] w fun e w' => e = .returned (.bool (decide (l1 = l2))) ∧ ∃ n, w' = w.drewN n := by
  obtain ⟨a1, c1, rfl, hc1⟩ := h1
  obtain ⟨a2, c2, rfl, hc2⟩ := h2
  simp only [List.length_map]
  have HC1 := Lib.hid hc1
  have HC2 := Lib.hid hc2
  clear hc1 hc2
  by_cases hne : l1.length = l2.length
  · have HL := Lib.hid hne
    have hle1 : l1.length ≤ l2.length := by omega
    have hle2 : l2.length ≤ l1.length := by omega
    have hb : ((l1.length : Int) != (l2.length : Int)) = false := by simp [hne]
    clear hne
    go_enter Tryz.func12, Tryz.ntmps12
    go_wp2
    go_loopw [13] (fun i wr => ∃ k m : Nat, k ≤ l1.length ∧ i = .int .i64 k ∧ wr = w.drewN m ∧ Hid (l1.take k = l2.take k)) (fun i _ => l1.length - (intOf i).toNat)
    case atStart => exact ⟨0, 0, Nat.zero_le _, rfl, rfl, rfl⟩
    case round =>
      obtain ⟨k, m, hk, rfl, rfl, H⟩ := hrel
      by_cases hlt : k < l1.length
      · have hlt2 : k < l2.length := by omega
        obtain ⟨x, hx⟩ : ∃ x, x = l1[k] := ⟨_, rfl⟩
        obtain ⟨y, hy⟩ : ∃ y, y = l2[k] := ⟨_, rfl⟩
        obtain ⟨d1, rfl, hd1⟩ := HC1.out k (.int .u32 x) (by simp [hx, hlt])
        obtain ⟨d2, rfl, hd2⟩ := HC2.out k (.int .u32 y) (by simp [hy, hlt2])
        have HX := Lib.hid hx
        have HY := Lib.hid hy
        clear hx hy
        by_cases hxy : x = y
        · subst hxy
          go_wp2
          go_quiet (fail)
          go_wp2
          go_roundw
          case rel =>
            exact ⟨k + 1, _, by omega, by go_num, rfl, take_next H.out hlt hlt2 (HX.out.symm.trans HY.out)⟩
          case measure => simp [intOf]; omega
        · have hb1 : (x != y) = true := by simp [hxy]
          have hfin : decide (l1 = l2) = false := by
            refine decide_eq_false fun e => hxy ?_
            rw [HX.out, HY.out]
            simp only [e]
          have HF := Lib.hid hfin
          clear hfin
          go_wp2
          go_quiet (fail)
          go_wp2
          go_ret
          exact ⟨ret_bool HF.out.symm, _, World.drewN_drewN _ _ _⟩
      · have hfin : decide (l1 = l2) = true := by
          refine decide_eq_true ?_
          have := H.out
          rwa [List.take_of_length_le (by omega), List.take_of_length_le (by omega)] at this
        have HF := Lib.hid hfin
        clear hfin
        go_wp2
        go_ret
        exact ⟨ret_bool HF.out.symm, m, rfl⟩
  · have hb : ((l1.length : Int) != (l2.length : Int)) = true := by simp; omega
    have hfin : decide (l1 = l2) = false := decide_eq_false fun e => hne (by rw [e])
    have HF := Lib.hid hfin
    clear hfin
    go_enter Tryz.func12, Tryz.ntmps12
    go_wp2
    go_ret
    exact ⟨ret_bool HF.out.symm, 0, rfl⟩


end Go.Proofs.YtgmfgcpfpopboaaGreatDoor
