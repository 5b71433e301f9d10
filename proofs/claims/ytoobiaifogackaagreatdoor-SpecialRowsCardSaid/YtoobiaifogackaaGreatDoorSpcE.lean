/-
  Layer 9: the name of an address, by the program and by the document; the table laid in a trie; the chapter's example.
-/
import Derived.Test.YtoobiaifogackaaGreatDoorSpcD
import Derived.Test.YtoobiaifogackaaGreatDoorSpcM
namespace Go.Proofs.YtoobiaifogackaaGreatDoor
open Go.RowKit


set_option maxRecDepth 100000 in
set_option maxHeartbeats 2000000 in
theorem name9_gen (va : Value) (p : Nat → Nat → Bool) (w : World) (hmax : MaxVar w) (HH : Hid (∀ (hi lo n : Nat) (W : World), hi < 18446744073709551616 → lo < 18446744073709551616 → Calls Tryz.prog 21 #[.agg #[.int .u64 hi, .int .u64 lo, .int .i64 n], va] W fun e w' => e = .returned (.bool (p (wideN hi lo) n)) ∧ Below W.heap.size W w')) :
    Calls Tryz.prog 13 #[va] w fun e w' => e = .returned (nameV (name9 p)) ∧ Below w.heap.size w w' := by
  have HX := Lib.hid hmax
  clear hmax
  go_enter Tryz.func13, Tryz.ntmps13
  go_wp2_with fail
  refine (rows9_any _ HX.out).mono ?_
  rintro e x1 ⟨b, rfl, hbl, hblk, hb1⟩
  have HB := Lib.hid (fun (W : World) (h : Below x1.heap.size x1 W) => (h.block b (block_lt hblk)).trans hblk)
  have HW := Lib.hid hb1
  clear hb1 hblk hbl
  go_wp2
  go_loopw [8] (fun i wr => ∃ j : Nat, j ≤ 27 ∧ i = .int .i64 j ∧ Hid (Below x1.heap.size x1 wr) ∧ Hid (∀ i y, i < j → T9[i]? = some y → p y.W y.n = false)) (fun i _ => 27 - (intOf i).toNat)
  case atStart => exact ⟨0, by omega, rfl, Below.refl _ _, fun i y hi => absurd hi (Nat.not_lt_zero _)⟩
  case round =>
    obtain ⟨j, hj, rfl, hbw, hno⟩ := hrel
    by_cases hlt : j < 27
    · obtain ⟨x, hx⟩ := T9_get hlt
      obtain ⟨c0, c1, c2, c3⟩ := tab_at (HB.out wr hbw.out) hx
      obtain ⟨_, _, hx3⟩ := T9_in hx
      have HC : Hid (∀ W, Calls Tryz.prog 21 #[.agg #[.int .u64 (hiN x.W : Nat), .int .u64 (loN x.W : Nat), .int .i64 (x.n : Nat)], va] W fun e w' => e = .returned (.bool (p x.W x.n)) ∧ Below W.heap.size W w') := fun W => by
        have := HH.out (hiN x.W) (loN x.W) x.n W (hiN_lt hx3) (loN_lt _)
        rwa [wide_split] at this
      have hjl : (j : Int) < 27 := by omega
      have HN : Hid (Below wr.heap.size wr (wr.alloc (.cells #[.int .u64 (hiN x.W : Nat), .int .u64 (loN x.W : Nat), .int .i64 (x.n : Nat), .string ⟨x.s.toArray⟩] 55))) := (Below.refl _ _).alloc (Nat.le_refl _) _
      have HL := Lib.hid ((Blks.empty wr).new #[.int .u64 (hiN x.W : Nat), .int .u64 (loN x.W : Nat), .int .i64 (x.n : Nat), .string ⟨x.s.toArray⟩] 55)
      go_wp2_with fail
      refine (HC.out _).mono ?_
      rintro e x2 ⟨rfl, hb2⟩
      have HB2 := Lib.hid (HN.out.trans (hb2.mono HN.out.size))
      obtain ⟨l1, d0, d1, d2, d3⟩ := (HL.out.keep hb2).q4 (.head _)
      clear hb2 HL HN HC c0 c1 c2 c3
      cases hp : p x.W x.n with
      | true =>
        have hn : name9 p = some x := find_here hx (fun i y hi hy => hno.out i y hi hy) hp
        go_wp2
        go_ret2
        rw [hn]
        exact ⟨rfl, HW.out.trans ((hbw.out.trans (HB2.out.mono hbw.out.size)).mono HW.out.size)⟩
      | false =>
        have HNO : Hid (∀ i y, i < j + 1 → T9[i]? = some y → p y.W y.n = false) := fun i y hi hy => by
          by_cases c : i < j
          · exact hno.out i y c hy
          · rw [show i = j from by omega, hx] at hy
            injection hy with hy
            rw [← hy]; exact hp
        go_wp2
        go_roundw
        case rel => exact ⟨j + 1, by omega, by go_num, hbw.out.trans (HB2.out.mono hbw.out.size), HNO⟩
        case measure => simp [intOf]; omega
    · have hj' : j = 27 := by omega
      subst hj'
      have hn : name9 p = none := find_not (fun i y hl hy => hno.out i y (by rw [T9_len] at hl; exact hl) hy)
      go_wp2
      go_ret2
      rw [hn]
      exact ⟨rfl, HW.out.trans (hbw.out.mono HW.out.size)⟩
theorem name9_any (a : AZ) (w : World) (hmax : MaxVar w) (ha : a.Ok) :
    Calls Tryz.prog 13 #[a.val] w fun e w' => e = .returned (nameV (name9 fun W n => pHasB W n a.wd)) ∧ Below w.heap.size w w' :=
  name9_gen a.val _ w hmax (fun hi lo n W h1 h2 => pHas_any hi lo n a W h1 h2 ha)
theorem name9_none : name9 (fun _ _ => false) = none := find_not (fun _ _ _ _ => rfl)
theorem name9_nil (w : World) (hmax : MaxVar w) :
    Calls Tryz.prog 13 #[.nilIface] w fun e w' => e = .returned (.tuple #[.string ⟨#[]⟩, .bool false]) ∧ Below w.heap.size w w' := by
  have := name9_gen .nilIface (fun _ _ => false) w hmax (fun hi lo n W _ _ => pHas_nil hi lo n W)
  rwa [name9_none] at this

set_option maxRecDepth 100000 in
set_option maxHeartbeats 2000000 in
theorem refName9_any (s : Bool) (ah al : Nat) (w : World) (h3 : ah < 18446744073709551616) (h4 : al < 18446744073709551616) :
    Calls Tryz.prog 14 #[.agg #[.bool s, .int .u64 (ah : Nat), .int .u64 (al : Nat)]] w fun e w' => e = .returned (nameV (name9 fun W n => pHasB W n (wideN ah al))) ∧ Below w.heap.size w w' := by
  have HH : Hid (∀ (hi lo n : Nat) (W : World), hi < 18446744073709551616 → lo < 18446744073709551616 → Calls Tryz.prog 49 #[.agg #[.int .u64 hi, .int .u64 lo, .int .i64 n], .agg #[.bool s, .int .u64 (ah : Nat), .int .u64 (al : Nat)]] W fun e w' => e = .returned (.bool (pHasB (wideN hi lo) n (wideN ah al))) ∧ Below W.heap.size W w') := fun hi lo n W h1 h2 => refHas_any hi lo n ah al s W h1 h2 h3 h4
  obtain ⟨p, hp⟩ : ∃ p : Nat → Nat → Bool, (fun (W n : Nat) => pHasB W n (wideN ah al)) = p := ⟨_, rfl⟩
  have HP : ∀ W n : Nat, pHasB W n (wideN ah al) = p W n := fun W n => by rw [← hp]
  rw [hp]
  simp only [HP] at HH
  clear h3 h4 HP hp
  go_enter Tryz.func14, Tryz.ntmps14
  go_wp2_with fail
  refine (refRows9_any _).mono ?_
  rintro e x1 ⟨b, rfl, hbl, hblk, hb1⟩
  have HB := Lib.hid (fun (W : World) (h : Below x1.heap.size x1 W) => (h.block b (block_lt hblk)).trans hblk)
  have HW := Lib.hid (alloc_then hb1)
  have HA := Lib.hid (fun (W : World) (h : Below x1.heap.size x1 W) => ((((Blks.empty w).new #[.bool s, .int .u64 (ah : Nat), .int .u64 (al : Nat)] 31).keep hb1).keep h).r3 (.head _))
  clear hb1 hblk hbl
  go_wp2
  go_loopw [8] (fun i wr => ∃ j : Nat, j ≤ 27 ∧ i = .int .i64 j ∧ Hid (Below x1.heap.size x1 wr) ∧ Hid (∀ i y, i < j → T9[i]? = some y → p y.W y.n = false)) (fun i _ => 27 - (intOf i).toNat)
  case atStart => exact ⟨0, by omega, rfl, Below.refl _ _, fun i y hi => absurd hi (Nat.not_lt_zero _)⟩
  case round =>
    obtain ⟨j, hj, rfl, hbw, hno⟩ := hrel
    by_cases hlt : j < 27
    · obtain ⟨x, hx⟩ := T9_get hlt
      obtain ⟨c0, c1, c2, c3⟩ := tab_at (HB.out wr hbw.out) hx
      obtain ⟨lq, q0, q1, q2⟩ := HA.out wr hbw.out
      obtain ⟨_, _, hx3⟩ := T9_in hx
      have HC : Hid (∀ W, Calls Tryz.prog 49 #[.agg #[.int .u64 (hiN x.W : Nat), .int .u64 (loN x.W : Nat), .int .i64 (x.n : Nat)], .agg #[.bool s, .int .u64 (ah : Nat), .int .u64 (al : Nat)]] W fun e w' => e = .returned (.bool (p x.W x.n)) ∧ Below W.heap.size W w') := fun W => by
        have := HH.out (hiN x.W) (loN x.W) x.n W (hiN_lt hx3) (loN_lt _)
        rwa [wide_split] at this
      have hjl : (j : Int) < 27 := by omega
      have HN : Hid (Below wr.heap.size wr (wr.alloc (.cells #[.int .u64 (hiN x.W : Nat), .int .u64 (loN x.W : Nat), .int .i64 (x.n : Nat), .string ⟨x.s.toArray⟩] 57))) := (Below.refl _ _).alloc (Nat.le_refl _) _
      have HL := Lib.hid ((Blks.empty wr).new #[.int .u64 (hiN x.W : Nat), .int .u64 (loN x.W : Nat), .int .i64 (x.n : Nat), .string ⟨x.s.toArray⟩] 57)
      go_wp2_with fail
      refine (HC.out _).mono ?_
      rintro e x2 ⟨rfl, hb2⟩
      have HB2 := Lib.hid (HN.out.trans (hb2.mono HN.out.size))
      obtain ⟨l1, d0, d1, d2, d3⟩ := (HL.out.keep hb2).q4 (.head _)
      clear hb2 HL HN HC c0 c1 c2 c3 lq q0 q1 q2
      cases hp : p x.W x.n with
      | true =>
        have hn : name9 p = some x := find_here hx (fun i y hi hy => hno.out i y hi hy) hp
        go_wp2
        go_ret2
        rw [hn]
        exact ⟨rfl, HW.out.trans ((hbw.out.trans (HB2.out.mono hbw.out.size)).mono HW.out.size)⟩
      | false =>
        have HNO : Hid (∀ i y, i < j + 1 → T9[i]? = some y → p y.W y.n = false) := fun i y hi hy => by
          by_cases c : i < j
          · exact hno.out i y c hy
          · rw [show i = j from by omega, hx] at hy
            injection hy with hy
            rw [← hy]; exact hp
        go_wp2
        go_roundw
        case rel => exact ⟨j + 1, by omega, by go_num, hbw.out.trans (HB2.out.mono hbw.out.size), HNO⟩
        case measure => simp [intOf]; omega
    · have hj' : j = 27 := by omega
      subst hj'
      have hn : name9 p = none := find_not (fun i y hl hy => hno.out i y (by rw [T9_len] at hl; exact hl) hy)
      go_wp2
      go_ret2
      rw [hn]
      exact ⟨rfl, HW.out.trans (hbw.out.mono HW.out.size)⟩

set_option maxRecDepth 100000 in
set_option maxHeartbeats 2000000 in
theorem lay9_any (g : Nat) (T : HT) (v : Int) (w : World) (hmax : MaxVar w) (ht : IsTrie w g T) (hlen : T.pt.list.length < 900000) :
    Calls Tryz.prog 17 #[.pointer (some ⟨g, 0, none⟩), .int .i64 v] w fun e w' => ∃ T', e = .returned (.int .i64 27) ∧ Moved w w' g T T' ∧ T'.pt = lay9 v T.pt := by
  have HX := Lib.hid hmax
  have HI := Lib.hid ht
  clear hmax ht
  go_enter Tryz.func17, Tryz.ntmps17
  go_wp2_with fail
  refine (rows9_any _ HX.out).mono ?_
  rintro e x1 ⟨b, rfl, hbl, hblk, hb1⟩
  have HM := Lib.hid (Mt.first HI.out hb1 hbl hblk)
  clear hb1 hblk hbl
  go_wp2
  go_loopw [5, 10] (fun c i wr => ∃ (j : Nat) (T' : HT), j ≤ 27 ∧ c = .int .i64 j ∧ i = .int .i64 j ∧ Hid (Mt w wr g T T' [(b, flat9, 55)]) ∧ Hid (T'.pt = layTo v j T.pt)) (fun _ i _ => 27 - (intOf i).toNat)
  case atStart => exact ⟨0, T, by omega, rfl, rfl, HM, rfl⟩
  case round =>
    obtain ⟨j, T', hj, rfl, rfl, HS, HP⟩ := hrel
    by_cases hlt : j < 27
    · obtain ⟨x, hx⟩ := T9_get hlt
      obtain ⟨c0, c1, c2, c3⟩ := tab_at (HS.out.blks _ (.head _)) hx
      obtain ⟨hx1, hx2, hx3⟩ := T9_in hx
      have hlen' : T'.pt.list.length < 1000000 := by
        rw [HP.out]
        have := layTo_len (v := v) HI.out.inv j
        omega
      have HS1 := Lib.hid (HS.out.keep ((Below.refl _ _).alloc (Nat.le_refl _) (.cells #[.int .u64 (hiN x.W : Nat), .int .u64 (loN x.W : Nat), .int .i64 (x.n : Nat), .string ⟨x.s.toArray⟩] 55)))
      have HPU := Lib.hid (put_any g T' (hiN x.W) (loN x.W) x.n v _ HS1.out.mv.trie (hiN_lt hx3) (loN_lt _) hx1 (by rw [wide_split]; exact hx2) hlen')
      rw [wide_split] at HPU
      have hjl : (j : Int) < 27 := by omega
      have hj2 : decide ((j : Int) + 1 < 1000) = true := by simp; omega
      clear hlen' hx1 hx2 hx3
      go_wp2_with fail
      refine HPU.out.mono ?_
      rintro e x2 ⟨T2, rfl, hm, hp⟩
      have HS2 := Lib.hid (HS1.out.moved hm)
      have HP2 : Hid (T2.pt = layTo v (j + 1) T.pt) := by rw [layTo_succ hx, ← HP.out]; exact hp
      clear hm hp HPU HS1 c0 c1 c2 c3
      go_wp2
      go_roundw
      case rel => exact ⟨j + 1, T2, by omega, by go_num, by go_num, HS2, HP2⟩
      case measure => simp [intOf]; omega
    · have hj' : j = 27 := by omega
      subst hj'
      go_wp2
      go_ret
      exact ⟨T', rfl, HS.out.mv, by rw [HP.out, layTo_end]⟩
set_option maxRecDepth 100000 in
set_option maxHeartbeats 2000000 in
theorem lay9_nil (v : Int) (w : World) (hmax : MaxVar w) :
    Calls Tryz.prog 17 #[.pointer none, .int .i64 v] w fun e w' => e = .returned (.int .i64 0) ∧ Below w.heap.size w w' := by
  have HX := Lib.hid hmax
  clear hmax
  go_enter Tryz.func17, Tryz.ntmps17
  go_wp2_with fail
  refine (rows9_any _ HX.out).mono ?_
  rintro e x1 ⟨b, rfl, hbl, hblk, hb1⟩
  have HB := Lib.hid (fun (W : World) (h : Below x1.heap.size x1 W) => (h.block b (block_lt hblk)).trans hblk)
  have HW := Lib.hid hb1
  clear hb1 hblk hbl
  go_wp2
  go_loopw [5, 10] (fun c i wr => ∃ j : Nat, j ≤ 27 ∧ c = .int .i64 0 ∧ i = .int .i64 j ∧ Hid (Below x1.heap.size x1 wr)) (fun _ i _ => 27 - (intOf i).toNat)
  case atStart => exact ⟨0, by omega, rfl, rfl, Below.refl _ _⟩
  case round =>
    obtain ⟨j, hj, rfl, rfl, hbw⟩ := hrel
    by_cases hlt : j < 27
    · obtain ⟨x, hx⟩ := T9_get hlt
      obtain ⟨c0, c1, c2, c3⟩ := tab_at (HB.out wr hbw.out) hx
      have hjl : (j : Int) < 27 := by omega
      have HN : Hid (Below wr.heap.size wr (wr.alloc (.cells #[.int .u64 (hiN x.W : Nat), .int .u64 (loN x.W : Nat), .int .i64 (x.n : Nat), .string ⟨x.s.toArray⟩] 55))) := (Below.refl _ _).alloc (Nat.le_refl _) _
      go_wp2_with fail
      refine (put_nil _ _ _).mono ?_
      rintro e x2 ⟨rfl, hb2⟩
      have HB2 := Lib.hid (HN.out.trans (hb2.mono HN.out.size))
      clear hb2 HN c0 c1 c2 c3
      go_wp2
      go_roundw
      case rel => exact ⟨j + 1, by omega, rfl, by go_num, hbw.out.trans (HB2.out.mono hbw.out.size)⟩
      case measure => simp [intOf]; omega
    · have hj' : j = 27 := by omega
      subst hj'
      go_wp2
      go_ret
      exact ⟨rfl, HW.out.trans (hbw.out.mono HW.out.size)⟩
end Go.Proofs.YtoobiaifogackaaGreatDoor
