/-
  What the law SpecialNamed leans on, and its walk (14 of 15).
-/
import Derived.Test.YtoobiaifogackaaGreatDoorSpecialNamedPkI
import Derived.Test.YtoobiaifogackaaGreatDoorSpecialNamedPkK
import Derived.Test.YtoobiaifogackaaGreatDoorSpecialNamedPkM
import Derived.Test.YtoobiaifogackaaGreatDoorSpecialNamedPkJ
namespace Go.Proofs.YtoobiaifogackaaGreatDoor
section
open Go.RowKit
theorem cells_next (w : World) (o : Obj) (c : List Value) (t : TypeId) : ∀ (j : Nat) (u : Value), c[j]? = some u → ((w.alloc o).alloc (.cells c.toArray t)).cell? ((⟨w.heap.size + 1, 0, none⟩ : Addr).add j) = some u := fun j u h => by
  have := cells_new (w.alloc o) c t j u h
  rw [show (w.alloc o).heap.size = w.heap.size + 1 from by simp] at this
  exact this
def cl9 (x : R9) : List Value := [.int .u64 (hiN x.W : Nat), .int .u64 (loN x.W : Nat), .int .i64 (x.n : Nat)]
theorem cl9_len (x : R9) : (cl9 x).length = 3 := rfl
theorem cl9_one (x : R9) : ∀ u ∈ [Value.int .u64 (hiN x.W : Nat), .int .u64 (loN x.W : Nat), .int .i64 (x.n : Nat)], u.oneCell' = true := by
  intro u hu
  simp at hu
  rcases hu with rfl | rfl | rfl <;> rfl
/-- the rows of a name, of the first j -/
noncomputable def some9 (s : ByteArray) (j : Nat) : List R9 := (T9.take j).filter fun r => r.s == s.toList
noncomputable def named9 (l : List ByteArray) : List R9 := l.flatMap fun s => some9 s 27
theorem some9_in {s : ByteArray} {j : Nat} {x : R9} (hx : T9[j]? = some x) (h : (x.s == s.toList) = true) : some9 s (j + 1) = some9 s j ++ [x] := by
  unfold some9; rw [List.take_add_one, hx, List.filter_append]; simp [h]
theorem some9_out {s : ByteArray} {j : Nat} {x : R9} (hx : T9[j]? = some x) (h : (x.s == s.toList) = false) : some9 s (j + 1) = some9 s j := by
  unfold some9; rw [List.take_add_one, hx, List.filter_append]; simp [h]
theorem some9_len (s : ByteArray) (j : Nat) : (some9 s j).length ≤ 27 := by
  unfold some9
  refine Nat.le_trans (List.length_filter_le _ _) ?_
  rw [List.length_take, T9_len]; omega
theorem named9_succ {l : List ByteArray} {j : Nat} {s : ByteArray} (h : l[j]? = some s) : named9 (l.take (j + 1)) = named9 (l.take j) ++ some9 s 27 := by
  unfold named9; rw [List.take_add_one, h, List.flatMap_append]; simp
theorem named9_len (l : List ByteArray) : (named9 l).length ≤ l.length * 27 := by
  induction l with
  | nil => simp [named9]
  | cons s l ih =>
    have := some9_len s 27
    unfold named9 at ih ⊢
    rw [List.flatMap_cons, List.length_append, List.length_cons]
    omega
set_option maxRecDepth 100000 in
set_option maxHeartbeats 4000000 in
theorem named9_any (a : Option Addr) (c : Nat) (l : List ByteArray) (w : World) (hmax : MaxVar w) (hl : l.length ≤ 100) (hr : IsSRow w a l.length c l) :
    Calls Tryz.prog 22 #[.slice a l.length c] w fun e w' => ∃ v, e = .returned v ∧ OwnX 37 3 cl9 w' w.heap.size v (named9 l) ∧ Below w.heap.size w w' := by
  have HX := Lib.hid hmax
  have HROW := Lib.hid hr
  clear hmax hr
  obtain ⟨i0, hi0, hz0, hz1, hz2⟩ := info_parts' infoP
  have HTY : Hid (55 ≠ 37) := by show _ ≠ _; decide
  go_enter Tryz.func22, Tryz.ntmps22
  go_wp2
  go_loopw [3, 10] (fun v i wr => ∃ j : Nat, j ≤ l.length ∧ i = .int .i64 j ∧ Hid (LX 37 3 cl9 w wr w.heap.size [] v (named9 (l.take j)))) (fun _ i _ => l.length - (intOf i).toNat)
  case atStart => exact ⟨0, Nat.zero_le _, rfl, LX.first [] (Below.refl _ _) (Blks.empty _)⟩
  case round =>
    obtain ⟨j, hj, rfl, HS⟩ := hrel
    by_cases hlt : j < l.length
    · obtain ⟨ad, rfl, s, hs, r0, _⟩ := HROW.out.at (wr := wr) HS.out.below hlt
      have hjl : (j : Int) < l.length := by omega
      have HN : Hid (named9 (l.take (j + 1)) = named9 (l.take j) ++ some9 s 27) := named9_succ hs
      have hml : (named9 (l.take j)).length ≤ 2700 := by
        have := named9_len (l.take j)
        rw [List.length_take] at this
        omega
      go_wp2_with fail
      refine (rows9_any _ (maxVar_below HX.out HS.out.below)).mono ?_
      rintro e x1 ⟨b, rfl, _, hblk, hb1⟩
      have HM := Lib.hid (HS.out.more hb1 hblk HTY.out)
      clear hblk hb1 r0
      generalize hm0 : named9 (l.take j) = m0 at *
      go_wp2
      go_loopw [3, 16] (fun v i wr => ∃ k : Nat, k ≤ 27 ∧ i = .int .i64 k ∧ Hid (LX 37 3 cl9 w wr w.heap.size [(b, flat9, 55)] v (m0 ++ some9 s k))) (fun _ i _ => 27 - (intOf i).toNat)
      case atStart => exact ⟨0, by omega, rfl, by show LX _ _ _ _ _ _ _ _ (m0 ++ some9 s 0); simpa [some9] using HM.out⟩
      case round =>
        obtain ⟨k, hk, rfl, HI⟩ := hrel
        by_cases hkt : k < 27
        · obtain ⟨x, hx⟩ := T9_get hkt
          obtain ⟨c0, c1, c2, c3⟩ := tab_at (HI.out.blks _ (.head _)) hx
          have hkl : (k : Int) < 27 := by omega
          have HI1 := Lib.hid (HI.out.new #[.int .u64 (hiN x.W : Nat), .int .u64 (loN x.W : Nat), .int .i64 (x.n : Nat), .string ⟨x.s.toArray⟩] HTY.out)
          cases he : (x.s == s.toList) with
          | true =>
            have hcn := cells_next wr (.cells #[.int .u64 (hiN x.W : Nat), .int .u64 (loN x.W : Nat), .int .i64 (x.n : Nat), .string ⟨x.s.toArray⟩] 55) [.int .u64 (hiN x.W : Nat), .int .u64 (loN x.W : Nat), .int .i64 (x.n : Nat)] 37
            have HOA := Lib.hid (HI1.out.keep ((Below.refl _ _).alloc (Nat.le_refl _) (.cells #[.int .u64 (hiN x.W : Nat), .int .u64 (loN x.W : Nat), .int .i64 (x.n : Nat)] 37)))
            have hoc := cl9_one x
            have hml2 : (m0 ++ some9 s k).length ≤ 3000 := by
              have := some9_len s k
              rw [List.length_append]; omega
            go_wp2_with (first
              | (at_builtin; refine wpList_append_own _ rfl _ _ 46 rfl w.heap.size 37 i0 (.agg #[.int .u64 0, .int .u64 0, .int .i64 0]) 3 24 Tryz.underlying46 hi0 hz0 hz1 hz2 rfl (by decide) u3 (m0 ++ some9 s k).length ((m0 ++ some9 s k).flatMap cl9) rfl HOA.out.row ⟨wr.heap.size + 1, 0, none⟩ 1 1 [.int .u64 (hiN x.W : Nat), .int .u64 (loN x.W : Nat), .int .i64 (x.n : Nat)] rfl rfl hcn hoc (by unfold maxLen; omega) (by omega) HOA.out.size ?_; intro s1 w1 hown1 hgrow1 _)
              | go_in)
            have HS1 := Lib.hid (HI1.out.app (e := x) ((Below.refl _ _).alloc (Nat.le_refl _) _) hgrow1 hown1)
            have HS2 : Hid (LX 37 3 cl9 w w1 w.heap.size [(b, flat9, 55)] s1 (m0 ++ some9 s (k + 1))) := by
              rw [some9_in hx he, ← List.append_assoc]; exact HS1.out.drop (fun e he => .tail _ he)
            go_roundw
            case rel => exact ⟨k + 1, by omega, by go_num, HS2⟩
            case measure => simp [intOf]; omega
          | false =>
            have HS2 : Hid (LX 37 3 cl9 w (wr.alloc (.cells #[.int .u64 (hiN x.W : Nat), .int .u64 (loN x.W : Nat), .int .i64 (x.n : Nat), .string ⟨x.s.toArray⟩] 55)) w.heap.size [(b, flat9, 55)] u3 (m0 ++ some9 s (k + 1))) := by
              rw [some9_out hx he]; exact HI1.out.drop (fun e he => .tail _ he)
            go_wp2
            go_roundw
            case rel => exact ⟨k + 1, by omega, by go_num, HS2⟩
            case measure => simp [intOf]; omega
        · have hk' : k = 27 := by omega
          subst hk'
          have HI2 : Hid (LX 37 3 cl9 w wr w.heap.size [] u3 (named9 (l.take (j + 1)))) := by rw [HN.out]; exact HI.out.drop (fun e he => by cases he)
          go_wp2
          go_roundw
          case rel => exact ⟨j + 1, by omega, by go_num, HI2⟩
          case measure => simp [intOf]; omega
    · have hj' : j = l.length := by omega
      subst hj'
      have HE : Hid (OwnX 37 3 cl9 wr w.heap.size u3 (named9 l)) := by have := HS.out.row; rwa [List.take_length] at this
      go_wp2
      go_ret
      exact ⟨_, rfl, HE.out, HS.out.below⟩
end

section
open Go.RowKit
set_option maxRecDepth 100000 in
set_option maxHeartbeats 4000000 in
theorem refNamed9_any (a : Option Addr) (c : Nat) (l : List ByteArray) (w : World) (hl : l.length ≤ 100) (hr : IsSRow w a l.length c l) :
    Calls Tryz.prog 23 #[.slice a l.length c] w fun e w' => ∃ v, e = .returned v ∧ OwnX 50 3 cl9 w' w.heap.size v (named9 l) ∧ Below w.heap.size w w' := by
  have HROW := Lib.hid hr
  clear hr
  obtain ⟨i0, hi0, hz0, hz1, hz2⟩ := info_parts' infoPr
  have HTY : Hid (57 ≠ 50) := by show _ ≠ _; decide
  go_enter Tryz.func23, Tryz.ntmps23
  go_wp2
  go_loopw [3, 10] (fun v i wr => ∃ j : Nat, j ≤ l.length ∧ i = .int .i64 j ∧ Hid (LX 50 3 cl9 w wr w.heap.size [] v (named9 (l.take j)))) (fun _ i _ => l.length - (intOf i).toNat)
  case atStart => exact ⟨0, Nat.zero_le _, rfl, LX.first [] (Below.refl _ _) (Blks.empty _)⟩
  case round =>
    obtain ⟨j, hj, rfl, HS⟩ := hrel
    by_cases hlt : j < l.length
    · obtain ⟨ad, rfl, s, hs, r0, _⟩ := HROW.out.at (wr := wr) HS.out.below hlt
      have hjl : (j : Int) < l.length := by omega
      have HN : Hid (named9 (l.take (j + 1)) = named9 (l.take j) ++ some9 s 27) := named9_succ hs
      have hml : (named9 (l.take j)).length ≤ 2700 := by
        have := named9_len (l.take j)
        rw [List.length_take] at this
        omega
      go_wp2_with fail
      refine (refRows9_any _).mono ?_
      rintro e x1 ⟨b, rfl, _, hblk, hb1⟩
      have HM := Lib.hid (HS.out.more hb1 hblk HTY.out)
      clear hblk hb1 r0
      generalize hm0 : named9 (l.take j) = m0 at *
      go_wp2
      go_loopw [3, 16] (fun v i wr => ∃ k : Nat, k ≤ 27 ∧ i = .int .i64 k ∧ Hid (LX 50 3 cl9 w wr w.heap.size [(b, flat9, 57)] v (m0 ++ some9 s k))) (fun _ i _ => 27 - (intOf i).toNat)
      case atStart => exact ⟨0, by omega, rfl, by show LX _ _ _ _ _ _ _ _ (m0 ++ some9 s 0); simpa [some9] using HM.out⟩
      case round =>
        obtain ⟨k, hk, rfl, HI⟩ := hrel
        by_cases hkt : k < 27
        · obtain ⟨x, hx⟩ := T9_get hkt
          obtain ⟨c0, c1, c2, c3⟩ := tab_at (HI.out.blks _ (.head _)) hx
          have hkl : (k : Int) < 27 := by omega
          have HI1 := Lib.hid (HI.out.new #[.int .u64 (hiN x.W : Nat), .int .u64 (loN x.W : Nat), .int .i64 (x.n : Nat), .string ⟨x.s.toArray⟩] HTY.out)
          cases he : (x.s == s.toList) with
          | true =>
            have hcn := cells_next wr (.cells #[.int .u64 (hiN x.W : Nat), .int .u64 (loN x.W : Nat), .int .i64 (x.n : Nat), .string ⟨x.s.toArray⟩] 57) [.int .u64 (hiN x.W : Nat), .int .u64 (loN x.W : Nat), .int .i64 (x.n : Nat)] 50
            have HOA := Lib.hid (HI1.out.keep ((Below.refl _ _).alloc (Nat.le_refl _) (.cells #[.int .u64 (hiN x.W : Nat), .int .u64 (loN x.W : Nat), .int .i64 (x.n : Nat)] 50)))
            have hoc := cl9_one x
            have hml2 : (m0 ++ some9 s k).length ≤ 3000 := by
              have := some9_len s k
              rw [List.length_append]; omega
            go_wp2_with (first
              | (at_builtin; refine wpList_append_own _ rfl _ _ 48 rfl w.heap.size 50 i0 (.agg #[.int .u64 0, .int .u64 0, .int .i64 0]) 3 24 Tryz.underlying48 hi0 hz0 hz1 hz2 rfl (by decide) u3 (m0 ++ some9 s k).length ((m0 ++ some9 s k).flatMap cl9) rfl HOA.out.row ⟨wr.heap.size + 1, 0, none⟩ 1 1 [.int .u64 (hiN x.W : Nat), .int .u64 (loN x.W : Nat), .int .i64 (x.n : Nat)] rfl rfl hcn hoc (by unfold maxLen; omega) (by omega) HOA.out.size ?_; intro s1 w1 hown1 hgrow1 _)
              | go_in)
            have HS1 := Lib.hid (HI1.out.app (e := x) ((Below.refl _ _).alloc (Nat.le_refl _) _) hgrow1 hown1)
            have HS2 : Hid (LX 50 3 cl9 w w1 w.heap.size [(b, flat9, 57)] s1 (m0 ++ some9 s (k + 1))) := by
              rw [some9_in hx he, ← List.append_assoc]; exact HS1.out.drop (fun e he => .tail _ he)
            go_roundw
            case rel => exact ⟨k + 1, by omega, by go_num, HS2⟩
            case measure => simp [intOf]; omega
          | false =>
            have HS2 : Hid (LX 50 3 cl9 w (wr.alloc (.cells #[.int .u64 (hiN x.W : Nat), .int .u64 (loN x.W : Nat), .int .i64 (x.n : Nat), .string ⟨x.s.toArray⟩] 57)) w.heap.size [(b, flat9, 57)] u3 (m0 ++ some9 s (k + 1))) := by
              rw [some9_out hx he]; exact HI1.out.drop (fun e he => .tail _ he)
            go_wp2
            go_roundw
            case rel => exact ⟨k + 1, by omega, by go_num, HS2⟩
            case measure => simp [intOf]; omega
        · have hk' : k = 27 := by omega
          subst hk'
          have HI2 : Hid (LX 50 3 cl9 w wr w.heap.size [] u3 (named9 (l.take (j + 1)))) := by rw [HN.out]; exact HI.out.drop (fun e he => by cases he)
          go_wp2
          go_roundw
          case rel => exact ⟨j + 1, by omega, by go_num, HI2⟩
          case measure => simp [intOf]; omega
    · have hj' : j = l.length := by omega
      subst hj'
      have HE : Hid (OwnX 50 3 cl9 wr w.heap.size u3 (named9 l)) := by have := HS.out.row; rwa [List.take_length] at this
      go_wp2
      go_ret
      exact ⟨_, rfl, HE.out, HS.out.below⟩
end

section
open Go.RowKit
theorem neqRr_guard (u v : Array Value) : ∀ (p q : Operand) (W : World), (eqGuard .neq 50 p q (.agg u) (.agg v)).run Tryz.prog W = .ok () W := by
  intro p q W; kernel_rfl
theorem neqRr (a b c : Int) : ∀ W : World, (binOp .neq 50 (.agg #[.int .u64 a, .int .u64 b, .int .i64 c]) (.agg #[.int .u64 a, .int .u64 b, .int .i64 c])).run Tryz.prog W = .ok (.bool false) W := by
  intro W
  have e1 : (Op.equal 50 (.agg #[.int .u64 a, .int .u64 b, .int .i64 c]) (.agg #[.int .u64 a, .int .u64 b, .int .i64 c])).run Tryz.prog W = .ok true W := by
    show (Op.equalIn 10000 50 _ _).run Tryz.prog W = _
    rw [run_equalIn_struct W 9999 50 _ _ (by kernel_rfl) (by kernel_rfl)]
    simp [Program.fieldsOf, Tryz.underlying50, Op.eqFields, go_sem, part, Tryz.sizeOf22, Tryz.isAgg22, Tryz.underlying22, Tryz.sizeOf3, Tryz.isAgg3, Tryz.underlying3]
  show ((Op.equal _ _ _ >>= fun b => pure (Value.bool !b)) : Sem Value).run _ _ = _
  rw [Sem.run_bind, e1]; rfl
theorem row9_at {w : World} {ao : Option Addr} {l : List R9} (h : RowX 3 cl9 w ao l) {j : Nat} (hj : j < l.length) :
    ∃ (ad : Addr) (_ : ao = some ad) (x : R9), l[j]? = some x ∧ w.cell? (ad.add (j * 3)) = some (.int .u64 (hiN x.W : Nat)) ∧ w.cell? ⟨(ad.add (j * 3)).block, (ad.add (j * 3)).off + 1, none⟩ = some (.int .u64 (loN x.W : Nat)) ∧ w.cell? ⟨(ad.add (j * 3)).block, (ad.add (j * 3)).off + 2, none⟩ = some (.int .i64 (x.n : Nat)) := by
  obtain ⟨ad, ha, hc⟩ := h j l[j] (List.getElem?_eq_getElem hj)
  have s1 : ad.add (j * 3 + 1) = ⟨(ad.add (j * 3)).block, (ad.add (j * 3)).off + 1, none⟩ := by rw [← Go.Deep.add_add]; rfl
  have s2 : ad.add (j * 3 + 2) = ⟨(ad.add (j * 3)).block, (ad.add (j * 3)).off + 2, none⟩ := by rw [← Go.Deep.add_add]; rfl
  exact ⟨ad, ha, l[j], List.getElem?_eq_getElem hj, hc 0 (by omega), by rw [← s1]; exact hc 1 (by omega), by rw [← s2]; exact hc 2 (by omega)⟩
set_option maxRecDepth 100000 in
set_option maxHeartbeats 8000000 in
theorem specialNamed_walk (a0 : Option Addr) (len0 cap0 : Nat) (z0 : List ByteArray) (w : World) (w0 : IsSRow w a0 len0 cap0 z0) (hbru : BruTab w) (hmax : MaxVar w) :
    Calls Tryz.prog 4 #[.slice a0 len0 cap0] w fun e w' => e = .returned (.bool true) ∧ Below w.heap.size w w' := by
  have hl0 : z0.length = len0 := w0.1
  subst hl0
  have HT := Lib.hid hbru
  have HX := Lib.hid hmax
  have HROW := Lib.hid w0
  clear w0 hbru hmax
  go_enter Tryz.func4, Tryz.ntmps4
  go_wp2_with fail
  refine (awake09_any _ HT.out HX.out).mono ?_
  rintro e x1 ⟨rfl, hb1⟩
  have HW1 := Lib.hid hb1
  clear hb1
  by_cases hbig : 100 < z0.length
  · have hd : decide (100 < (z0.length : Int)) = true := by simp; omega
    go_wp2
    go_ret
    exact ⟨rfl, HW1.out⟩
  have hd : decide (100 < (z0.length : Int)) = false := by simp; omega
  go_wp2_with fail
  refine (named9_any a0 cap0 z0 _ (maxVar_below HX.out HW1.out) (by omega) (HROW.out.keep HW1.out)).mono ?_
  rintro e x2 ⟨v2, rfl, ho2, hb2⟩
  have HW2 := Lib.hid (below_chain7 HW1.out hb2)
  have HO2 := Lib.hid ho2
  clear ho2 hb2
  go_wp2_with fail
  refine (refNamed9_any a0 cap0 z0 _ (by omega) (HROW.out.keep HW2.out)).mono ?_
  rintro e x3 ⟨v3, rfl, ho3, hb3⟩
  have HW3 := Lib.hid (below_chain7 HW2.out hb3)
  obtain ⟨p2, c2, rfl⟩ := HO2.out.form
  obtain ⟨p3, c3, rfl⟩ := ho3.form
  have HR2 := Lib.hid ((HO2.out.row cl9_len).keep cl9_len hb3)
  have HR3 := Lib.hid (ho3.row cl9_len)
  clear ho3 hb3 HO2 HW1 HW2
  have hll : (named9 z0).length ≤ 2700 := by have := named9_len z0; omega
  generalize named9 z0 = l at *
  go_wp2
  go_loopw [23] (fun i wr => ∃ j : Nat, j ≤ l.length ∧ i = .int .i64 j ∧ Hid (Below x3.heap.size x3 wr)) (fun i _ => l.length - (intOf i).toNat)
  case atStart => exact ⟨0, Nat.zero_le _, rfl, Below.refl _ _⟩
  case round =>
    obtain ⟨j, hj, rfl, hbw⟩ := hrel
    by_cases hlt : j < l.length
    · have hjl : (j : Int) < l.length := by omega
      obtain ⟨ad2, rfl, x, hx, r0, r1, r2⟩ := row9_at (HR2.out.keep cl9_len hbw.out) hlt
      have HL : Hid (Below wr.heap.size wr (wr.alloc (.cells #[.int .u64 (hiN x.W : Nat), .int .u64 (loN x.W : Nat), .int .i64 (x.n : Nat)] 37))) := (Below.refl _ _).alloc (Nat.le_refl _) _
      obtain ⟨ad3, rfl, y, hy, q0, q1, q2⟩ := row9_at (HR3.out.keep cl9_len (below_chain7 hbw.out HL.out)) hlt
      rw [hx] at hy
      obtain rfl := Option.some.inj hy
      have hne := neqRr (hiN x.W) (loN x.W) x.n
      have hng := neqRr_guard
      go_wp2_with fail
      go_quiet (fail)
      go_wp2
      go_roundw
      case rel => exact ⟨j + 1, by omega, by go_num, below_chain7 hbw.out (below_drewN HL.out _)⟩
      case measure => simp [intOf]; omega
    · have hj' : j = l.length := by omega
      subst hj'
      go_wp2
      go_ret
      exact ⟨rfl, below_chain7 HW3.out hbw.out⟩
end

end Go.Proofs.YtoobiaifogackaaGreatDoor
