/-
  Layer 8: shared: the longest prefix that covers both.
-/
import Derived.Test.YtoobiaifogackaaGreatDoorTriF
namespace Go.Proofs.YtoobiaifogackaaGreatDoor
open Go.RowKit


theorem common_end {W n P k i : Nat} (h : commonGo W P i (min n k - i) = common W n P k) (he : i = min n k ∨ bitW W i ≠ bitW P i) : common W n P k = i := by
  rw [← h]
  rcases he with e | e
  · rw [e, Nat.sub_self]; rfl
  · cases f : min n k - i with
    | zero => rfl
    | succ f => show (if bitW W i = bitW P i then _ else i) = i; rw [if_neg e]
theorem common_step {W n P k i : Nat} (hi : i < min n k) (h : commonGo W P i (min n k - i) = common W n P k) (he : bitW W i = bitW P i) : commonGo W P (i + 1) (min n k - (i + 1)) = common W n P k := by
  rw [← h, show min n k - i = (min n k - (i + 1)) + 1 from by omega]
  show _ = if bitW W i = bitW P i then _ else i
  rw [if_pos he]
theorem row3_set {w : World} {b : Nat} {x y z x' y' z' : Value} {t : TypeId} (h : w.heap[b]? = some (.cells #[x, y, z] t)) :
    (((w.setCell ⟨b, 0, none⟩ x').setCell ⟨b, 1, none⟩ y').setCell ⟨b, 2, none⟩ z').heap[b]? = some (.cells #[x', y', z'] t) := by
  have h1 := set_row h 0 x'
  have h2 := set_row h1 1 y'
  have h3 := set_row h2 2 z'
  exact h3
theorem set3_other {w : World} {b b' : Nat} (hb : b ≠ b') (x' y' z' : Value) : (((w.setCell ⟨b', 0, none⟩ x').setCell ⟨b', 1, none⟩ y').setCell ⟨b', 2, none⟩ z').heap[b]? = w.heap[b]? := by
  rw [set_other hb, set_other hb, set_other hb]
theorem Blks.set3 {L : List (Nat × Array Value × TypeId)} {w : World} {b' : Nat} (h : Blks L w) (hb : ∀ e ∈ L, e.1 ≠ b') (x' y' z' : Value) : Blks L (((w.setCell ⟨b', 0, none⟩ x').setCell ⟨b', 1, none⟩ y').setCell ⟨b', 2, none⟩ z') := fun e he => by
  rw [set3_other (hb e he)]; exact h e he
theorem Below.set3 {a w : World} (h : Below a.heap.size a w) {b : Nat} (hb : a.heap.size ≤ b) (x y z : Value) : Below a.heap.size a (((w.setCell ⟨b, 0, none⟩ x).setCell ⟨b, 1, none⟩ y).setCell ⟨b, 2, none⟩ z) :=
  ((h.setCell (p := ⟨b, 0, none⟩) hb x).setCell (p := ⟨b, 1, none⟩) hb y).setCell (p := ⟨b, 2, none⟩) hb z

set_option maxRecDepth 100000 in
set_option maxHeartbeats 4000000 in
theorem shared_any (hi lo n ph pl k : Nat) (w : World) (h1 : hi < 18446744073709551616) (h2 : lo < 18446744073709551616) (h3 : ph < 18446744073709551616) (h4 : pl < 18446744073709551616) (hn : n ≤ 128) (hk : k ≤ 128) :
    Calls Tryz.prog 110 #[.agg #[.int .u64 (hi : Nat), .int .u64 (lo : Nat), .int .i64 (n : Nat)], .agg #[.int .u64 (ph : Nat), .int .u64 (pl : Nat), .int .i64 (k : Nat)]] w
      fun e w' => e = .returned (pfW (ofW (wideN ph pl) (common (wideN hi lo) n (wideN ph pl) k)) (common (wideN hi lo) n (wideN ph pl) k : Nat)) ∧ Below w.heap.size w w' := by
  obtain ⟨W, hW⟩ : ∃ W, wideN hi lo = W := ⟨_, rfl⟩
  obtain ⟨P, hP⟩ : ∃ P, wideN ph pl = P := ⟨_, rfl⟩
  have hPl : P < 2 ^ 128 := hP ▸ wide_lt h3 h4
  have HBW : Hid (∀ (i : Nat) V, i < 128 → Calls Tryz.prog 53 #[.agg #[.int .u64 (hi : Nat), .int .u64 (lo : Nat), .int .i64 (n : Nat)], .int .i64 (i : Nat)] V fun e w' => e = .returned (.int .i64 (bitW W i : Nat)) ∧ Below V.heap.size V w') := fun i V h => by
    have := bit_in hi lo n i V h1 h2 h; rwa [hW] at this
  have HBP : Hid (∀ (i : Nat) V, i < 128 → Calls Tryz.prog 53 #[.agg #[.int .u64 (ph : Nat), .int .u64 (pl : Nat), .int .i64 (k : Nat)], .int .i64 (i : Nat)] V fun e w' => e = .returned (.int .i64 (bitW P i : Nat)) ∧ Below V.heap.size V w') := fun i V h => by
    have := bit_in ph pl k i V h3 h4 h; rwa [hP] at this
  have HLG : Hid (∀ (i : Nat) V, i < 128 → Calls Tryz.prog 131 #[.agg #[.int .u64 (hiN (ofW P i) : Nat), .int .u64 (loN (ofW P i) : Nat), .int .i64 (i : Nat)], .int .i64 (bitW P i : Nat)] V fun e w' => e = .returned (.agg #[.int .u64 (hiN (ofW P (i + 1)) : Nat), .int .u64 (loN (ofW P (i + 1)) : Nat), .int .i64 ((i + 1 : Nat) : Int)]) ∧ Below V.heap.size V w') := fun i V h => longer_of P i V hPl h
  have HZ : Hid (hiN (ofW P 0) = 0 ∧ loN (ofW P 0) = 0) := by
    have e : ofW P 0 = 0 := by show qt P 0 * _ = 0; rw [qt_lt hPl, Nat.zero_mul]
    exact ⟨by rw [e]; rfl, by rw [e]; rfl⟩
  rw [hW, hP]
  clear hW hP
  obtain ⟨L, hL⟩ : ∃ L, min n k = L := ⟨_, rfl⟩
  have HL := Lib.hid hL
  have hmin : min (n : Int) (k : Int) = (L : Nat) := by omega
  have hL8 : L ≤ 128 := by omega
  clear hL
  go_enter Tryz.func110, Tryz.ntmps110
  go_wp2
  go_loopw [13] (fun x wr => ∃ i : Nat, i ≤ L ∧ x = .int .i64 i ∧ Hid (Blks [(w.heap.size + 1 + 1, #[.int .u64 0, .int .u64 0, .int .i64 0], 37), (w.heap.size + 1, #[.int .u64 (ph : Nat), .int .u64 (pl : Nat), .int .i64 (k : Nat)], 37), (w.heap.size, #[.int .u64 (hi : Nat), .int .u64 (lo : Nat), .int .i64 (n : Nat)], 37)] wr) ∧ Hid (wr.heap[w.heap.size + 1 + 1 + 1]? = some (.cells #[.int .u64 (hiN (ofW P i) : Nat), .int .u64 (loN (ofW P i) : Nat), .int .i64 (i : Nat)] 37)) ∧ Below w.heap.size w wr ∧ Hid (commonGo W P i (min n k - i) = common W n P k)) (fun x _ => L - (intOf x).toNat)
  case atStart =>
    refine ⟨0, by omega, rfl, ?_, ?_, ?_, rfl⟩
    · have h := (((Blks.empty w).new #[.int .u64 (hi : Nat), .int .u64 (lo : Nat), .int .i64 (n : Nat)] 37).new #[.int .u64 (ph : Nat), .int .u64 (pl : Nat), .int .i64 (k : Nat)] 37).new #[.int .u64 0, .int .u64 0, .int .i64 0] 37
      simp only [World.size_alloc] at h
      exact h.keep ((Below.refl _ _).alloc (Nat.le_refl _) _)
    · show _ = _
      rw [HZ.out.1, HZ.out.2]
      have h := (((((Blks.empty w).new #[.int .u64 (hi : Nat), .int .u64 (lo : Nat), .int .i64 (n : Nat)] 37).new #[.int .u64 (ph : Nat), .int .u64 (pl : Nat), .int .i64 (k : Nat)] 37).new #[.int .u64 0, .int .u64 0, .int .i64 0] 37).new #[.int .u64 0, .int .u64 0, .int .i64 0] 37) _ (.head _)
      simp only [World.size_alloc] at h
      exact h
    · exact ((((Below.refl _ _).alloc (Nat.le_refl _) _).alloc (by simp) _).alloc (by simp; omega) _).alloc (by simp; omega) _
  case round =>
    obtain ⟨i, hi2, rfl, HB, HR, hc, HC⟩ := hrel
    by_cases hlt : i < L
    · have hi8 : i < 128 := by omega
      by_cases he : bitW W i = bitW P i
      · have HS := Lib.hid (common_step (by rw [HL.out]; exact hlt) HC.out he)
        have q1 := Lib.hid (fun V => HBW.out i V hi8)
        rw [he] at q1
        have q2 := Lib.hid (fun V => HBP.out i V hi8)
        have q3 := Lib.hid (fun V => HLG.out i V hi8)
        clear he
        obtain ⟨la, a0, a1, a2⟩ := HB.out.r3 (b := w.heap.size) (by repeat first | exact .head _ | apply List.Mem.tail)
        obtain ⟨lb, b0, b1, b2⟩ := HB.out.r3 (b := w.heap.size + 1) (by repeat first | exact .head _ | apply List.Mem.tail)
        obtain ⟨⟨r0, r1, r2⟩, f0, f1, f2⟩ := row3 HR.out
        go_wp2_with fail
        refine (q1.out _).mono ?_
        rintro e y1 ⟨rfl, hy1⟩
        have HB1 := Lib.hid (HB.out.keep hy1)
        have HR1 : Hid (y1.heap[w.heap.size + 1 + 1 + 1]? = _) := (hy1.block _ (block_lt HR.out)).trans HR.out
        have hc1 := below_chain7 hc hy1
        clear la a0 a1 a2 lb b0 b1 b2 r0 r1 r2 f0 f1 f2
        obtain ⟨la1, a01, a11, a21⟩ := HB1.out.r3 (b := w.heap.size) (by repeat first | exact .head _ | apply List.Mem.tail)
        obtain ⟨lb1, b01, b11, b21⟩ := HB1.out.r3 (b := w.heap.size + 1) (by repeat first | exact .head _ | apply List.Mem.tail)
        obtain ⟨⟨r01, r11, r21⟩, f01, f11, f21⟩ := row3 HR1.out
        go_wp2_with fail
        refine (q2.out _).mono ?_
        rintro e y2 ⟨rfl, hy2⟩
        have HB2 := Lib.hid (HB1.out.keep hy2)
        have HR2 : Hid (y2.heap[w.heap.size + 1 + 1 + 1]? = _) := (hy2.block _ (block_lt HR1.out)).trans HR1.out
        have hc2 := below_chain7 hc1 hy2
        clear la1 a01 a11 a21 lb1 b01 b11 b21 r01 r11 r21 f01 f11 f21
        obtain ⟨la2, a02, a12, a22⟩ := HB2.out.r3 (b := w.heap.size) (by repeat first | exact .head _ | apply List.Mem.tail)
        obtain ⟨lb2, b02, b12, b22⟩ := HB2.out.r3 (b := w.heap.size + 1) (by repeat first | exact .head _ | apply List.Mem.tail)
        obtain ⟨⟨r02, r12, r22⟩, f02, f12, f22⟩ := row3 HR2.out
        go_wp2_with fail
        refine (q3.out _).mono ?_
        rintro e y3 ⟨rfl, hy3⟩
        have HB3 := Lib.hid (HB2.out.keep hy3)
        have HR3 : Hid (y3.heap[w.heap.size + 1 + 1 + 1]? = _) := (hy3.block _ (block_lt HR2.out)).trans HR2.out
        have hc3 := below_chain7 hc2 hy3
        clear la2 a02 a12 a22 lb2 b02 b12 b22 r02 r12 r22 f02 f12 f22
        obtain ⟨la3, a03, a13, a23⟩ := HB3.out.r3 (b := w.heap.size) (by repeat first | exact .head _ | apply List.Mem.tail)
        obtain ⟨lb3, b03, b13, b23⟩ := HB3.out.r3 (b := w.heap.size + 1) (by repeat first | exact .head _ | apply List.Mem.tail)
        obtain ⟨⟨r03, r13, r23⟩, f03, f13, f23⟩ := row3 HR3.out
        go_wp2
        go_roundw
        case rel => exact ⟨i + 1, by omega, by go_num, HB3.out.set3 (fun e he => by simp at he; rcases he with rfl | rfl | rfl <;> simp <;> omega) _ _ _, row3_set HR3.out, Below.set3 hc3 (by omega) _ _ _, HS.out⟩
        case measure => simp [intOf]; omega
      · have HE := Lib.hid (common_end HC.out (.inr he))
        have q1 := Lib.hid (fun V => HBW.out i V hi8)
        have q2 := Lib.hid (fun V => HBP.out i V hi8)
        have t1 : ((bitW W i : Int) != (bitW P i : Int)) = true := by
          have : (bitW W i : Int) ≠ (bitW P i : Int) := by omega
          simp [this]
        clear he
        obtain ⟨la, a0, a1, a2⟩ := HB.out.r3 (b := w.heap.size) (by repeat first | exact .head _ | apply List.Mem.tail)
        obtain ⟨lb, b0, b1, b2⟩ := HB.out.r3 (b := w.heap.size + 1) (by repeat first | exact .head _ | apply List.Mem.tail)
        obtain ⟨⟨r0, r1, r2⟩, f0, f1, f2⟩ := row3 HR.out
        go_wp2_with fail
        refine (q1.out _).mono ?_
        rintro e y1 ⟨rfl, hy1⟩
        have HB1 := Lib.hid (HB.out.keep hy1)
        have HR1 : Hid (y1.heap[w.heap.size + 1 + 1 + 1]? = _) := (hy1.block _ (block_lt HR.out)).trans HR.out
        have hc1 := below_chain7 hc hy1
        clear la a0 a1 a2 lb b0 b1 b2 r0 r1 r2 f0 f1 f2
        obtain ⟨la1, a01, a11, a21⟩ := HB1.out.r3 (b := w.heap.size) (by repeat first | exact .head _ | apply List.Mem.tail)
        obtain ⟨lb1, b01, b11, b21⟩ := HB1.out.r3 (b := w.heap.size + 1) (by repeat first | exact .head _ | apply List.Mem.tail)
        obtain ⟨⟨r01, r11, r21⟩, f01, f11, f21⟩ := row3 HR1.out
        go_wp2_with fail
        refine (q2.out _).mono ?_
        rintro e y2 ⟨rfl, hy2⟩
        have HB2 := Lib.hid (HB1.out.keep hy2)
        have HR2 : Hid (y2.heap[w.heap.size + 1 + 1 + 1]? = _) := (hy2.block _ (block_lt HR1.out)).trans HR1.out
        have hc2 := below_chain7 hc1 hy2
        clear la1 a01 a11 a21 lb1 b01 b11 b21 r01 r11 r21 f01 f11 f21
        obtain ⟨la2, a02, a12, a22⟩ := HB2.out.r3 (b := w.heap.size) (by repeat first | exact .head _ | apply List.Mem.tail)
        obtain ⟨lb2, b02, b12, b22⟩ := HB2.out.r3 (b := w.heap.size + 1) (by repeat first | exact .head _ | apply List.Mem.tail)
        obtain ⟨⟨r02, r12, r22⟩, f02, f12, f22⟩ := row3 HR2.out
        obtain ⟨lz, z0, z1, z2⟩ := HB2.out.r3 (b := w.heap.size + 1 + 1) (by repeat first | exact .head _ | apply List.Mem.tail)
        obtain ⟨_, g0, g1, g2⟩ := row3 (HB2.out _ (List.Mem.head _))
        go_wp2
        refine bodyPost_ret (v := .agg #[.int .u64 (hiN (ofW P i) : Nat), .int .u64 (loN (ofW P i) : Nat), .int .i64 (i : Nat)]) (by simp [results, Tryz.results110, go_sem, z0, z1, z2]) rfl ⟨?_, ?_⟩
        · rw [HE.out]; rfl
        · exact Below.set3 hc2 (by omega) _ _ _
    · have e3 : i = L := by omega
      have HE := Lib.hid (common_end HC.out (.inl (by rw [HL.out]; exact e3)))
      subst e3
      obtain ⟨la, a0, a1, a2⟩ := HB.out.r3 (b := w.heap.size) (by repeat first | exact .head _ | apply List.Mem.tail)
      obtain ⟨lb, b0, b1, b2⟩ := HB.out.r3 (b := w.heap.size + 1) (by repeat first | exact .head _ | apply List.Mem.tail)
      obtain ⟨⟨r0, r1, r2⟩, f0, f1, f2⟩ := row3 HR.out
      obtain ⟨lz, z0, z1, z2⟩ := HB.out.r3 (b := w.heap.size + 1 + 1) (by repeat first | exact .head _ | apply List.Mem.tail)
      obtain ⟨_, g0, g1, g2⟩ := row3 (HB.out _ (List.Mem.head _))
      go_wp2
      refine bodyPost_ret (v := .agg #[.int .u64 (hiN (ofW P i) : Nat), .int .u64 (loN (ofW P i) : Nat), .int .i64 (i : Nat)]) (by simp [results, Tryz.results110, go_sem, z0, z1, z2]) rfl ⟨?_, ?_⟩
      · rw [HE.out]; rfl
      · exact Below.set3 hc (by omega) _ _ _
end Go.Proofs.YtoobiaifogackaaGreatDoor
