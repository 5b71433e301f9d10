/-
  The law TriePlays: its Go text returns true, where the library's tables read as they are laid; nothing that lay in memory before is changed.
-/
import Derived.Test.YthdcldkcmnpkiaaGreatDoorTrkC
import Derived.Test.YthdcldkcmnpkiaaGreatDoorTrjB
namespace Go.Proofs.YthdcldkcmnpkiaaGreatDoor
open Go.RowKit


set_option maxRecDepth 100000 in
set_option maxHeartbeats 16000000 in
theorem triePlays_walk (a0 : Option Addr) (len0 cap0 : Nat) (z0 : List (Int × (Int × Int × Int) × Int)) (a1 : Bool) (a2 a3 : Int) (w2 : (Lit.int .u64 a2).wf = true) (w3 : (Lit.int .u64 a3).wf = true) (w : World) (w0 : IsARow w a0 len0 cap0 z0) (hbru : BruTab w) (hmax : MaxVar w) :
    Calls Tryz.prog 5 #[.slice a0 len0 cap0, .bool a1, .int .u64 a2, .int .u64 a3] w fun e w' => e = .returned (.bool true) ∧ Below w.heap.size w w' := by
  have HAW : Hid (∀ X, Below w.heap.size w X → Calls Tryz.prog 26 #[] X fun e w' => e = .returned (.bool true) ∧ Below X.heap.size X w') := fun X hX =>
    awake08_any X (bruTab_below hbru hX) (maxVar_below hmax hX)
  have HROW := Lib.hid w0
  obtain ⟨hh, rfl, b5⟩ := bounds_u64r w2
  obtain ⟨hl, rfl, b6⟩ := bounds_u64r w3
  have hok : (AZ.make a1 hh hl).Ok := make_ok a1 hh hl (by omega) (by omega) (by omega) (by omega)
  obtain ⟨a, ea⟩ : ∃ a, AZ.make a1 hh hl = a := ⟨_, rfl⟩
  rw [ea] at hok
  obtain ⟨va, hva⟩ : ∃ v, a.val = v := ⟨_, rfl⟩
  have HM : Hid (∀ W, Calls Tryz.prog 10 #[.bool a1, .int .u64 (hh : Nat), .int .u64 (hl : Nat)] W fun e w' => e = .returned va ∧ W = w') := fun W => by
    have := make6_any a1 hh hl W; rwa [ea, hva] at this
  have HOK := Lib.hid hok
  have HVA := Lib.hid hva
  clear hok hva ea b5 b6
  have hl0 : z0.length = len0 := w0.1
  clear hbru hmax w0
  subst hl0
  go_enter Tryz.func5, Tryz.ntmps5
  go_wp2_with fail
  refine (HAW.out _ (Below.refl _ _)).mono ?_
  rintro e x1 ⟨rfl, hb1⟩
  clear HAW
  by_cases h60 : 60 < z0.length
  · have hd : decide (60 < (z0.length : Int)) = true := by simp; omega
    go_wp2
    go_ret
    exact ⟨rfl, hb1⟩
  have hd : decide (60 < (z0.length : Int)) = false := by simp; omega
  go_wp2_with fail
  refine (new_any _).mono ?_
  rintro e x2 ⟨rfl, hb2, ht2⟩
  have HS2 := Lib.hid (SE.first hb1 hb1.size hb2 ht2)
  clear hb2 ht2 hb1
  generalize x1.heap.size = g0 at *
  go_wp2_with fail
  refine (HM.out _).mono ?_
  rintro e x3 ⟨rfl, rfl⟩
  clear HM hd
  go_wp2
  go_loopw [29, 9, 10] (fun i t q wr => ∃ (j g : Nat) (T : HT), j ≤ z0.length ∧ i = .int .i64 j ∧ t = .pointer (some ⟨g, 0, none⟩) ∧ Hid (SE w wr g T q T.pt.list []) ∧ T.pt.list.length ≤ j) (fun i _ _ _ => z0.length - (intOf i).toNat)
  case atStart => exact ⟨0, g0, .nil, Nat.zero_le _, rfl, rfl, HS2, Nat.zero_le _⟩
  case round =>
    clear HS2
    obtain ⟨j, g, T, hj, rfl, rfl, HS, hTl⟩ := hrel
    by_cases hlt : j < z0.length
    · have hjl : (j : Int) < z0.length := by omega
      obtain ⟨ad, rfl, d, qh, ql, qk, v, ⟨r0, r1, r2, r3, r4⟩, bd, b3, b4, wv⟩ := HROW.out.at (wr := wr) HS.out.st.below hlt
      have HS1 := Lib.hid (HS.out.new #[.int .u8 (d : Nat), .int .u64 (qh : Nat), .int .u64 (ql : Nat), .int .i64 qk, .int .i64 v] 55)
      have HTOLD : Hid (∀ X g T q (k : Int) L, SE w X g T q T.pt.list L → T.pt.list.length < 100000 → Calls Tryz.prog 33 #[.pointer (some ⟨g, 0, none⟩), q, va, .agg #[.int .u64 (qh : Nat), .int .u64 (ql : Nat), .int .i64 k]] X fun e w' => e = .returned (.bool true) ∧ Below X.heap.size X w') := fun X g T q k L h hn => by
        have := told_any g T q a qh ql k X h.st.trie h.row.row hn HOK.out b3 b4; rwa [HVA.out] at this
      have hr : d % 4 = 2 ∨ d % 4 = 3 ∨ (d % 4 ≠ 2 ∧ d % 4 ≠ 3) := by omega
      clear HROW HOK HVA
      rcases hr with hr | hr | hr
      · have hm : (d : Int) % 4 = 2 := by omega
        have hm2 : (d : Int).tmod 4 = 2 := by rw [Int.tmod_eq_emod_of_nonneg (by omega)]; exact hm
        obtain ⟨b, hb⟩ : ∃ b, (getL T.pt.list (wideN qh ql) qk).isSome = b := ⟨_, rfl⟩
        have HDR : Hid (∀ X, SE w X g T u10 T.pt.list [(wr.heap.size, #[.int .u8 (d : Nat), .int .u64 (qh : Nat), .int .u64 (ql : Nat), .int .i64 qk, .int .i64 v], 55)] → Calls Tryz.prog 28 #[.pointer (some ⟨g, 0, none⟩), .agg #[.int .u64 (qh : Nat), .int .u64 (ql : Nat), .int .i64 qk]] X fun e w' => ∃ T', e = .returned (.bool b) ∧ Hid (SE w w' g T' u10 T.pt.list [(wr.heap.size, #[.int .u8 (d : Nat), .int .u64 (qh : Nat), .int .u64 (ql : Nat), .int .i64 qk, .int .i64 v], 55)]) ∧ T'.pt.list = dropL T.pt.list (wideN qh ql) qk) := fun X h =>
          (drop_full g T qh ql qk X h.st.trie b3 b4 (by omega)).mono fun _ _ ⟨T', p1, p2, p3⟩ => ⟨T', by rw [p1, hb], h.moved p2, p3⟩
        have HRD : Hid (∀ X T', SE w X g T' u10 T.pt.list [(wr.heap.size, #[.int .u8 (d : Nat), .int .u64 (qh : Nat), .int .u64 (ql : Nat), .int .i64 qk, .int .i64 v], 55)] → Calls Tryz.prog 29 #[u10, .agg #[.int .u64 (qh : Nat), .int .u64 (ql : Nat), .int .i64 qk]] X fun e w' => ∃ v', e = .returned (.tuple #[v', .bool b]) ∧ Hid (SE w w' g T' v' (dropL T.pt.list (wideN qh ql) qk) [(wr.heap.size, #[.int .u8 (d : Nat), .int .u64 (qh : Nat), .int .u64 (ql : Nat), .int .i64 qk, .int .i64 v], 55)])) := fun X T' h =>
          (refDrop8_any u10 T.pt.list qh ql qk X b4 (by omega) h.row.row).mono fun _ _ ⟨v', p1, p2, p3⟩ => ⟨v', by rw [p1, dropL_shortI (PT.sorted HS.out.st.trie.inv), hb], h.turn p3 p2⟩
        have HLE := Lib.hid (dropL_le T.pt.list (wideN qh ql) qk)
        clear hb
        go_wp2_with fail
        refine (HDR.out _ HS1.out).mono ?_
        rintro e z1 ⟨T1, rfl, HZ1, hl1⟩
        obtain ⟨lb, k0, k1, k2, k3, k4⟩ := HZ1.out.st.blks.r5 (b := wr.heap.size) (.head _)
        go_wp2_with fail
        refine (HRD.out _ _ HZ1.out).mono ?_
        rintro e z2 ⟨v2, rfl, HZ2⟩
        rw [← hl1] at HZ2 HLE
        have hle : T1.pt.list.length ≤ j := Nat.le_trans HLE.out hTl
        clear HDR HRD HZ1 HLE hl1 lb k0 k1 k2 k3 k4
        obtain ⟨lb, k0, k1, k2, k3, k4⟩ := HZ2.out.st.blks.r5 (b := wr.heap.size) (.head _)
        go_wp2_with fail
        refine (HTOLD.out _ _ T1 _ qk [(wr.heap.size, #[.int .u8 (d : Nat), .int .u64 (qh : Nat), .int .u64 (ql : Nat), .int .i64 qk, .int .i64 v], 55)] HZ2.out (by omega)).mono ?_
        rintro e z9 ⟨rfl, hz9⟩
        have HS9 := Lib.hid ((HZ2.out.keep hz9).drop (L' := []) (fun e he => by cases he))
        clear hz9
        go_wp2
        go_roundw
        case rel => exact ⟨j + 1, g, T1, by omega, by go_num, rfl, HS9, by omega⟩
        case measure => simp [intOf]; omega
      · have hm : (d : Int) % 4 = 3 := by omega
        have hm2 : (d : Int).tmod 4 = 3 := by rw [Int.tmod_eq_emod_of_nonneg (by omega)]; exact hm
        have HCL : Hid (∀ X, SE w X g T u10 T.pt.list [(wr.heap.size, #[.int .u8 (d : Nat), .int .u64 (qh : Nat), .int .u64 (ql : Nat), .int .i64 qk, .int .i64 v], 55)] → Calls Tryz.prog 30 #[.pointer (some ⟨g, 0, none⟩)] X fun e w' => ∃ g' T', e = .returned (.pointer (some ⟨g', 0, none⟩)) ∧ Hid (S2 w w' g T g' T' u10 T.pt.list [(wr.heap.size, #[.int .u8 (d : Nat), .int .u64 (qh : Nat), .int .u64 (ql : Nat), .int .i64 qk, .int .i64 v], 55)]) ∧ T'.pt = T.pt) := fun X h =>
          (clone_trie g T X h.st.trie).mono fun _ _ ⟨g', T', p1, p2, p3, p4, p5⟩ => ⟨g', T', p1, S2.begin h p2 p3 p5, p4⟩
        have HPU : Hid (∀ X g' T' (q : Int), S2 w X g T g' T' u10 T.pt.list [(wr.heap.size, #[.int .u8 (d : Nat), .int .u64 (qh : Nat), .int .u64 (ql : Nat), .int .i64 qk, .int .i64 v], 55)] → Calls Tryz.prog 31 #[.pointer (some ⟨g, 0, none⟩), .agg #[.int .u64 (qh : Nat), .int .u64 (ql : Nat), .int .i64 qk], .int .i64 q] X fun e w' => ∃ T2 b, e = .returned (.bool b) ∧ Hid (S2 w w' g T2 g' T' u10 T.pt.list [(wr.heap.size, #[.int .u8 (d : Nat), .int .u64 (qh : Nat), .int .u64 (ql : Nat), .int .i64 qk, .int .i64 v], 55)]) ∧ T2.pt.list.length ≤ 61) := fun X g' T' q h =>
          (put_full g T qh ql qk q X h.se.st.trie b3 b4 (by omega)).mono fun _ _ ⟨T2, p1, p2, p3⟩ => ⟨T2, _, p1, h.moved p2, by omega⟩
        have HDR : Hid (∀ X T2 g' T', S2 w X g T2 g' T' u10 T.pt.list [(wr.heap.size, #[.int .u8 (d : Nat), .int .u64 (qh : Nat), .int .u64 (ql : Nat), .int .i64 qk, .int .i64 v], 55)] → T2.pt.list.length ≤ 61 → Calls Tryz.prog 28 #[.pointer (some ⟨g, 0, none⟩), .agg #[.int .u64 (qh : Nat), .int .u64 (ql : Nat), .int .i64 qk]] X fun e w' => ∃ b, e = .returned (.bool b) ∧ Hid (SE w w' g' T' u10 T.pt.list [(wr.heap.size, #[.int .u8 (d : Nat), .int .u64 (qh : Nat), .int .u64 (ql : Nat), .int .i64 qk, .int .i64 v], 55)])) := fun X T2 g' T' h hn =>
          (drop_full g T2 qh ql qk X h.se.st.trie b3 b4 (by omega)).mono fun _ _ ⟨T3, p1, p2, p3⟩ => ⟨_, p1, (h.moved p2).on⟩
        go_wp2_with fail
        refine (HCL.out _ HS1.out).mono ?_
        rintro e z1 ⟨g', T', rfl, HZ1, hpt⟩
        obtain ⟨lb, k0, k1, k2, k3, k4⟩ := HZ1.out.se.st.blks.r5 (b := wr.heap.size) (.head _)
        go_wp2_with fail
        refine (HPU.out _ _ _ _ HZ1.out).mono ?_
        rintro e z2 ⟨T2, b2, rfl, HZ2, h61⟩
        clear lb k0 k1 k2 k3 k4
        obtain ⟨lb, k0, k1, k2, k3, k4⟩ := HZ2.out.se.st.blks.r5 (b := wr.heap.size) (.head _)
        go_wp2_with fail
        refine (HDR.out _ _ _ _ HZ2.out h61).mono ?_
        rintro e z3 ⟨b8, rfl, HZ3⟩
        rw [← hpt] at HZ3 hTl
        clear HCL HPU HDR HZ1 HZ2 hpt lb k0 k1 k2 k3 k4
        obtain ⟨lb, k0, k1, k2, k3, k4⟩ := HZ3.out.st.blks.r5 (b := wr.heap.size) (.head _)
        go_wp2_with fail
        refine (HTOLD.out _ _ T' _ qk [(wr.heap.size, #[.int .u8 (d : Nat), .int .u64 (qh : Nat), .int .u64 (ql : Nat), .int .i64 qk, .int .i64 v], 55)] HZ3.out (by omega)).mono ?_
        rintro e z9 ⟨rfl, hz9⟩
        have HS9 := Lib.hid ((HZ3.out.keep hz9).drop (L' := []) (fun e he => by cases he))
        clear hz9
        go_wp2
        go_roundw
        case rel => exact ⟨j + 1, g', T', by omega, by go_num, rfl, HS9, by omega⟩
        case measure => simp [intOf]; omega
      · have hm1 : ((d : Int) % 4 == 2) = false := by simp; omega
        have hm3 : ((d : Int) % 4 == 3) = false := by simp; omega
        have hn1 : ((d : Int).tmod 4 == 2) = false := by rw [Int.tmod_eq_emod_of_nonneg (by omega)]; exact hm1
        have hn3 : ((d : Int).tmod 4 == 3) = false := by rw [Int.tmod_eq_emod_of_nonneg (by omega)]; exact hm3
        cases hR : pRightB (wideN qh ql) qk with
        | false =>
          have HPU : Hid (∀ X, SE w X g T u10 T.pt.list [(wr.heap.size, #[.int .u8 (d : Nat), .int .u64 (qh : Nat), .int .u64 (ql : Nat), .int .i64 qk, .int .i64 v], 55)] → Calls Tryz.prog 31 #[.pointer (some ⟨g, 0, none⟩), .agg #[.int .u64 (qh : Nat), .int .u64 (ql : Nat), .int .i64 qk], .int .i64 v] X fun e w' => e = .returned (.bool false) ∧ Hid (SE w w' g T u10 T.pt.list [(wr.heap.size, #[.int .u8 (d : Nat), .int .u64 (qh : Nat), .int .u64 (ql : Nat), .int .i64 qk, .int .i64 v], 55)])) := fun X h =>
            (put_wrong g qh ql qk v X b3 b4 hR).mono fun _ _ p => ⟨p.1, h.keep p.2⟩
          have HRP : Hid (∀ X, SE w X g T u10 T.pt.list [(wr.heap.size, #[.int .u8 (d : Nat), .int .u64 (qh : Nat), .int .u64 (ql : Nat), .int .i64 qk, .int .i64 v], 55)] → Calls Tryz.prog 32 #[u10, .agg #[.int .u64 (qh : Nat), .int .u64 (ql : Nat), .int .i64 qk], .int .i64 v] X fun e w' => e = .returned (.tuple #[u10, .bool false]) ∧ Hid (SE w w' g T u10 T.pt.list [(wr.heap.size, #[.int .u8 (d : Nat), .int .u64 (qh : Nat), .int .u64 (ql : Nat), .int .i64 qk, .int .i64 v], 55)])) := fun X h =>
            (refPut8_wrong u10 qh ql qk v X b3 b4 hR).mono fun _ _ p => ⟨p.1, h.keep p.2⟩
          clear hR
          go_wp2_with fail
          refine (HPU.out _ HS1.out).mono ?_
          rintro e z1 ⟨rfl, HZ1⟩
          obtain ⟨lb, k0, k1, k2, k3, k4⟩ := HZ1.out.st.blks.r5 (b := wr.heap.size) (.head _)
          go_wp2_with fail
          refine (HRP.out _ HZ1.out).mono ?_
          rintro e z2 ⟨rfl, HZ2⟩
          clear HPU HRP HZ1 lb k0 k1 k2 k3 k4
          obtain ⟨lb, k0, k1, k2, k3, k4⟩ := HZ2.out.st.blks.r5 (b := wr.heap.size) (.head _)
          go_wp2_with fail
          refine (HTOLD.out _ _ T _ qk [(wr.heap.size, #[.int .u8 (d : Nat), .int .u64 (qh : Nat), .int .u64 (ql : Nat), .int .i64 qk, .int .i64 v], 55)] HZ2.out (by omega)).mono ?_
          rintro e z9 ⟨rfl, hz9⟩
          have HS9 := Lib.hid ((HZ2.out.keep hz9).drop (L' := []) (fun e he => by cases he))
          clear hz9
          go_wp2
          go_roundw
          case rel => exact ⟨j + 1, g, T, by omega, by go_num, rfl, HS9, by omega⟩
          case measure => simp [intOf]; omega
        | true =>
          obtain ⟨m, rfl, hm1', hm2'⟩ := pRightB_ex hR
          have HPU : Hid (∀ X, SE w X g T u10 T.pt.list [(wr.heap.size, #[.int .u8 (d : Nat), .int .u64 (qh : Nat), .int .u64 (ql : Nat), .int .i64 (m : Nat), .int .i64 v], 55)] → Calls Tryz.prog 31 #[.pointer (some ⟨g, 0, none⟩), .agg #[.int .u64 (qh : Nat), .int .u64 (ql : Nat), .int .i64 (m : Nat)], .int .i64 v] X fun e w' => ∃ T', e = .returned (.bool true) ∧ Hid (SE w w' g T' u10 T.pt.list [(wr.heap.size, #[.int .u8 (d : Nat), .int .u64 (qh : Nat), .int .u64 (ql : Nat), .int .i64 (m : Nat), .int .i64 v], 55)]) ∧ T'.pt = T.pt.put (wideN qh ql) m v) := fun X h =>
            (put_any g T qh ql m v X h.st.trie b3 b4 hm1' hm2' (by omega)).mono fun _ _ ⟨T', p1, p2, p3⟩ => ⟨T', p1, h.moved p2, p3⟩
          have HRP : Hid (∀ X T', SE w X g T' u10 T.pt.list [(wr.heap.size, #[.int .u8 (d : Nat), .int .u64 (qh : Nat), .int .u64 (ql : Nat), .int .i64 (m : Nat), .int .i64 v], 55)] → Calls Tryz.prog 32 #[u10, .agg #[.int .u64 (qh : Nat), .int .u64 (ql : Nat), .int .i64 (m : Nat)], .int .i64 v] X fun e w' => ∃ v', e = .returned (.tuple #[v', .bool true]) ∧ Hid (SE w w' g T' v' (putL T.pt.list (wideN qh ql) m v) [(wr.heap.size, #[.int .u8 (d : Nat), .int .u64 (qh : Nat), .int .u64 (ql : Nat), .int .i64 (m : Nat), .int .i64 v], 55)])) := fun X T' h =>
            (refPut8_any u10 T.pt.list qh ql m v X b3 b4 hR (by omega) h.row.row).mono fun _ _ ⟨v', p1, p2, p3⟩ => ⟨v', p1, h.turn p3 p2⟩
          have HLS := Lib.hid (PT.put_list (v := v) HS.out.st.trie.inv hm1' hm2' (wide_lt b3 b4))
          have HLE := Lib.hid (put_len_le (v := v) HS.out.st.trie.inv hm1' hm2' (wide_lt b3 b4))
          clear hR hm2'
          go_wp2_with fail
          refine (HPU.out _ HS1.out).mono ?_
          rintro e z1 ⟨T1, rfl, HZ1, hp1⟩
          obtain ⟨lb, k0, k1, k2, k3, k4⟩ := HZ1.out.st.blks.r5 (b := wr.heap.size) (.head _)
          go_wp2_with fail
          refine (HRP.out _ _ HZ1.out).mono ?_
          rintro e z2 ⟨v2, rfl, HZ2⟩
          rw [← HLS.out, ← hp1] at HZ2
          rw [← hp1] at HLE
          have hle : T1.pt.list.length ≤ j + 1 := by have := HLE.out; omega
          clear HPU HRP HZ1 HLE HLS hp1 lb k0 k1 k2 k3 k4
          obtain ⟨lb, k0, k1, k2, k3, k4⟩ := HZ2.out.st.blks.r5 (b := wr.heap.size) (.head _)
          go_wp2_with fail
          refine (HTOLD.out _ _ T1 _ (m : Nat) [(wr.heap.size, #[.int .u8 (d : Nat), .int .u64 (qh : Nat), .int .u64 (ql : Nat), .int .i64 (m : Nat), .int .i64 v], 55)] HZ2.out (by omega)).mono ?_
          rintro e z9 ⟨rfl, hz9⟩
          have HS9 := Lib.hid ((HZ2.out.keep hz9).drop (L' := []) (fun e he => by cases he))
          clear hz9
          go_wp2
          go_roundw
          case rel => exact ⟨j + 1, g, T1, by omega, by go_num, rfl, HS9, by omega⟩
          case measure => simp [intOf]; omega
    · have hjl : ¬ (j : Int) < z0.length := by omega
      go_wp2
      go_ret
      exact ⟨rfl, HS.out.st.below⟩
end Go.Proofs.YthdcldkcmnpkiaaGreatDoor
