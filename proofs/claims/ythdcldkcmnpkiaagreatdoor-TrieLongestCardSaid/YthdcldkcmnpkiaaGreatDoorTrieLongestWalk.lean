/-
  The law TrieLongest: its Go text returns true, where the library's tables read as they are laid; nothing that lay in memory before is changed.
-/
import Derived.Test.YthdcldkcmnpkiaaGreatDoorTriZ
import Derived.Test.YthdcldkcmnpkiaaGreatDoorTriS
namespace Go.Proofs.YthdcldkcmnpkiaaGreatDoor
open Go.RowKit


set_option maxRecDepth 100000 in
set_option maxHeartbeats 8000000 in
theorem trieLongest_walk (a0 : Option Addr) (len0 cap0 : Nat) (z0 : List (Int × Int × Int)) (a1 : Bool) (a2 a3 : Int) (w2 : (Lit.int .u64 a2).wf = true) (w3 : (Lit.int .u64 a3).wf = true) (w : World) (w0 : IsPRow w a0 len0 cap0 z0) (hbru : BruTab w) (hmax : MaxVar w) :
    Calls Tryz.prog 6 #[.slice a0 len0 cap0, .bool a1, .int .u64 a2, .int .u64 a3] w fun e w' => e = .returned (.bool true) ∧ Below w.heap.size w w' := by
  have HAW : Hid (∀ X, Below w.heap.size w X → Calls Tryz.prog 26 #[] X fun e w' => e = .returned (.bool true) ∧ Below X.heap.size X w') := fun X hX =>
    awake08_any X (bruTab_below hbru hX) (maxVar_below hmax hX)
  have HROW := Lib.hid w0
  obtain ⟨hh, rfl, b5⟩ := bounds_u64r w2
  obtain ⟨hl, rfl, b6⟩ := bounds_u64r w3
  have hok : (AZ.make a1 hh hl).Ok := make_ok a1 hh hl (by omega) (by omega) (by omega) (by omega)
  obtain ⟨a, ea⟩ : ∃ a, AZ.make a1 hh hl = a := ⟨_, rfl⟩
  rw [ea] at hok
  obtain ⟨va, hva⟩ : ∃ v, a.val = v := ⟨_, rfl⟩
  have HM : Hid (∀ W, Calls Tryz.prog 10 #[.bool a1, .int .u64 (hh : Nat), .int .u64 (hl : Nat)] W fun e w' => e = .returned va ∧ W = w') := fun W => by
    have := make6_any a1 hh hl W; rwa [ea, hva] at this
  have HOK := Lib.hid hok
  have HVA := Lib.hid hva
  clear hok hva ea b5 b6
  have hl0 : z0.length = len0 := w0.1
  clear hbru hmax w0
  subst hl0
  have hmm := @run_makeMap Tryz.prog
  go_enter Tryz.func6, Tryz.ntmps6
  go_wp2_with fail
  refine (HAW.out _ (Below.refl _ _)).mono ?_
  rintro e x1 ⟨rfl, hb1⟩
  clear HAW
  by_cases h60 : 60 < z0.length
  · have hd : decide (60 < (z0.length : Int)) = true := by simp; omega
    go_wp2
    go_ret
    exact ⟨rfl, hb1⟩
  have hd : decide (60 < (z0.length : Int)) = false := by simp; omega
  go_wp2_with fail
  refine (new_any _).mono ?_
  rintro e x2 ⟨rfl, hb2, ht2⟩
  have HS2 := Lib.hid (SM.first (St.first hb1 hb1.size hb2 ht2))
  clear hb2 ht2 hb1
  generalize x1.heap.size = g at *
  go_wp2
  generalize x2.heap.size = B at *
  go_loopw [29] (fun i wr => ∃ (j n : Nat) (T : HT), j ≤ z0.length ∧ i = .int .i64 j ∧ n ≤ j ∧ Hid (SM w wr g T B n T.pt.list []) ∧ Hid (HeldZ z0 j T.pt.list) ∧ T.pt.list.length ≤ j) (fun i _ => z0.length - (intOf i).toNat)
  case atStart => exact ⟨0, 0, .nil, Nat.zero_le _, rfl, Nat.le_refl _, HS2, held_nil _, Nat.zero_le _⟩
  case round =>
    obtain ⟨j, n, T, hj, rfl, hnj, HS, HH, hTl⟩ := hrel
    by_cases hlt : j < z0.length
    · obtain ⟨ad, rfl, qh, ql, qk, eq, r0, r1, r2, b3, b4⟩ := HROW.out.at (wr := wr) HS.out.st.below hlt
      have hjl : (j : Int) < z0.length := by omega
      have HEQ := Lib.hid eq
      clear eq
      cases hR : pRightB (wideN qh ql) qk with
      | false =>
        have HS1 := Lib.hid (HS.out.new #[.int .u64 (qh : Nat), .int .u64 (ql : Nat), .int .i64 qk] 24)
        obtain ⟨gb, hgb⟩ : ∃ b, wr.heap.size = b := ⟨_, rfl⟩
        obtain ⟨Y, hY⟩ : ∃ Y, wr.alloc (.cells #[.int .u64 (qh : Nat), .int .u64 (ql : Nat), .int .i64 qk] 24) = Y := ⟨_, rfl⟩
        rw [hgb, hY] at HS1
        have HPU : Hid (∀ X, Below Y.heap.size Y X → Calls Tryz.prog 31 #[.pointer (some ⟨g, 0, none⟩), .agg #[.int .u64 (qh : Nat), .int .u64 (ql : Nat), .int .i64 qk], .int .i64 j] X fun e w' => e = .returned (.bool false) ∧ Hid (SM w w' g T B n T.pt.list [(gb, #[.int .u64 (qh : Nat), .int .u64 (ql : Nat), .int .i64 qk], 24)])) := fun X hX => (put_wrong g qh ql qk j X b3 b4 hR).mono fun _ _ h => ⟨h.1, (HS1.out.keep hX).keep h.2⟩
        have HRI : Hid (∀ X, Hid (SM w X g T B n T.pt.list [(gb, #[.int .u64 (qh : Nat), .int .u64 (ql : Nat), .int .i64 qk], 24)]) → Calls Tryz.prog 15 #[.agg #[.int .u64 (qh : Nat), .int .u64 (ql : Nat), .int .i64 qk]] X fun e w' => e = .returned (.bool false) ∧ Hid (SM w w' g T B n T.pt.list [(gb, #[.int .u64 (qh : Nat), .int .u64 (ql : Nat), .int .i64 qk], 24)])) := fun X hX => (pRight_any qh ql qk X b3 b4).mono fun _ _ h => ⟨by rw [h.1, hR], hX.out.keep h.2⟩
        have HK1 : Hid (∀ W T', Hid (SM w W g T' B n T.pt.list [(gb, #[.int .u64 (qh : Nat), .int .u64 (ql : Nat), .int .i64 qk], 24)]) → (fun W : World => W.cell? ⟨gb, 0, none⟩ = some (.int .u64 (qh : Nat)) ∧ W.cell? ⟨gb, 1, none⟩ = some (.int .u64 (ql : Nat)) ∧ W.cell? ⟨gb, 2, none⟩ = some (.int .i64 qk)) W) := fun W T' h => (h.out.st.blks.r3 (.head _)).2
        have HK0 : Hid (∀ W, Below Y.heap.size Y W → (fun W : World => W.cell? ⟨gb, 0, none⟩ = some (.int .u64 (qh : Nat)) ∧ W.cell? ⟨gb, 1, none⟩ = some (.int .u64 (ql : Nat)) ∧ W.cell? ⟨gb, 2, none⟩ = some (.int .i64 qk)) W) := fun W h => HK1.out W T (HS1.out.keep h)
        have HH2 := Lib.hid (held_wrong HH.out HEQ.out hR)
        clear hR HH HROW HEQ HM
        go_wp2
        (try rw [hgb])
        (try rw [hY])
        go_region_held3 (fun W => W.cell? ⟨gb, 0, none⟩ = some (.int .u64 (qh : Nat)) ∧ W.cell? ⟨gb, 1, none⟩ = some (.int .u64 (ql : Nat)) ∧ W.cell? ⟨gb, 2, none⟩ = some (.int .i64 qk))
          (first | exact HK0.out _ ((Below.refl _ _).drew) | exact HK1.out _ _ hz1 | exact HK1.out _ _ hz2)
          (first
            | (go_simp; go_at_call 31; ((with_reducible refine (HPU.out _ ((Below.refl _ _).drew)).mono ?_); rintro e y1 ⟨rfl, hz1⟩))
            | (go_simp; go_at_call 15; ((with_reducible refine (HRI.out _ hz1).mono ?_); rintro e y2 ⟨rfl, hz2⟩)))
        obtain ⟨k0, k1, k2⟩ := HK1.out _ _ hz2
        go_wp2_with fail
        refine (HRI.out _ hz2).mono ?_
        rintro e y3 ⟨rfl, hz3⟩
        go_wp2
        go_roundw
        case rel => exact ⟨j + 1, n, T, by omega, by go_num, by omega, hz3.out.drop (fun e he => by cases he), HH2, by omega⟩
        case measure => simp [intOf]; omega
      | true =>
        obtain ⟨m, rfl, hm1, hm2⟩ := pRightB_ex hR
        have HS1 := Lib.hid (HS.out.new #[.int .u64 (qh : Nat), .int .u64 (ql : Nat), .int .i64 (m : Nat)] 24)
        obtain ⟨gb, hgb⟩ : ∃ b, wr.heap.size = b := ⟨_, rfl⟩
        obtain ⟨Y, hY⟩ : ∃ Y, wr.alloc (.cells #[.int .u64 (qh : Nat), .int .u64 (ql : Nat), .int .i64 (m : Nat)] 24) = Y := ⟨_, rfl⟩
        rw [hgb, hY] at HS1
        have HPU : Hid (∀ X, Below Y.heap.size Y X → Calls Tryz.prog 31 #[.pointer (some ⟨g, 0, none⟩), .agg #[.int .u64 (qh : Nat), .int .u64 (ql : Nat), .int .i64 (m : Nat)], .int .i64 j] X fun e w' => ∃ T', e = .returned (.bool true) ∧ Hid (SM w w' g T' B n T.pt.list [(gb, #[.int .u64 (qh : Nat), .int .u64 (ql : Nat), .int .i64 (m : Nat)], 24)]) ∧ T'.pt = T.pt.put (wideN qh ql) m j) := fun X hX => (put_any g T qh ql m j X (HS1.out.keep hX).st.trie b3 b4 hm1 hm2 (by omega)).mono fun _ _ ⟨T', h1, h2, h3⟩ => ⟨T', h1, (HS1.out.keep hX).moved h2, h3⟩
        have HRI : Hid (∀ X T', Hid (SM w X g T' B n T.pt.list [(gb, #[.int .u64 (qh : Nat), .int .u64 (ql : Nat), .int .i64 (m : Nat)], 24)]) → Calls Tryz.prog 15 #[.agg #[.int .u64 (qh : Nat), .int .u64 (ql : Nat), .int .i64 (m : Nat)]] X fun e w' => e = .returned (.bool true) ∧ Hid (SM w w' g T' B n T.pt.list [(gb, #[.int .u64 (qh : Nat), .int .u64 (ql : Nat), .int .i64 (m : Nat)], 24)])) := fun X T' hX => (pRight_any qh ql m X b3 b4).mono fun _ _ h => ⟨by rw [h.1, hR], hX.out.keep h.2⟩
        have HK1 : Hid (∀ W T', Hid (SM w W g T' B n T.pt.list [(gb, #[.int .u64 (qh : Nat), .int .u64 (ql : Nat), .int .i64 (m : Nat)], 24)]) → (fun W : World => W.cell? ⟨gb, 0, none⟩ = some (.int .u64 (qh : Nat)) ∧ W.cell? ⟨gb, 1, none⟩ = some (.int .u64 (ql : Nat)) ∧ W.cell? ⟨gb, 2, none⟩ = some (.int .i64 (m : Nat))) W) := fun W T' h => (h.out.st.blks.r3 (.head _)).2
        have HK0 : Hid (∀ W, Below Y.heap.size Y W → (fun W : World => W.cell? ⟨gb, 0, none⟩ = some (.int .u64 (qh : Nat)) ∧ W.cell? ⟨gb, 1, none⟩ = some (.int .u64 (ql : Nat)) ∧ W.cell? ⟨gb, 2, none⟩ = some (.int .i64 (m : Nat))) W) := fun W h => HK1.out W T (HS1.out.keep h)
        have HKEY := Lib.hid (pfKey_wide b3 b4 hm1)
        have HLS := Lib.hid (PT.put_list (v := j) HS.out.st.trie.inv hm1 hm2 (wide_lt b3 b4))
        have HLE := Lib.hid (put_len_le (v := j) HS.out.st.trie.inv hm1 hm2 (wide_lt b3 b4))
        have HSO := Lib.hid (PT.sorted HS.out.st.trie.inv)
        have HW := Lib.hid (wide_lt b3 b4)
        have HH2 := Lib.hid (held_put (v := j) HH.out b3 b4 HEQ.out)
        clear hR HH HROW HEQ HM hm2 b3 b4
        go_wp2
        (try rw [hgb])
        (try rw [hY])
        go_region_held3 (fun W => W.cell? ⟨gb, 0, none⟩ = some (.int .u64 (qh : Nat)) ∧ W.cell? ⟨gb, 1, none⟩ = some (.int .u64 (ql : Nat)) ∧ W.cell? ⟨gb, 2, none⟩ = some (.int .i64 (m : Nat)))
          (first | exact HK0.out _ ((Below.refl _ _).drew) | exact HK1.out _ _ hz1 | exact HK1.out _ _ hz2)
          (first
            | (go_simp; go_at_call 31; ((with_reducible refine (HPU.out _ ((Below.refl _ _).drew)).mono ?_); rintro e y1 ⟨T1, rfl, hz1, hp1⟩))
            | (go_simp; go_at_call 15; ((with_reducible refine (HRI.out _ _ hz1).mono ?_); rintro e y2 ⟨rfl, hz2⟩)))
        obtain ⟨k0, k1, k2⟩ := HK1.out _ _ hz2
        go_wp2_with fail
        refine (HRI.out _ _ hz2).mono ?_
        rintro e y3 ⟨rfl, hz3⟩
        obtain ⟨k0, k1, k2⟩ := HK1.out _ _ hz3
        obtain ⟨D, hown, hD⟩ := hz3.out.map
        have HD := Lib.hid hD
        have HKY := HKEY.out
        clear hz1 hz2 HPU HRI HK0 HK1 hD
        go_wp2_with (first
          | (at_mapUpdate; refine wpList_mapUpdate_own _ rfl _ _ _ 63 rfl 24 3 pfxLaw Tryz.underlying63 _ B n D rfl hown (by unfold maxLen; omega) _ _ _ rfl rfl HKY _ [] (plainElem_int Tryz.underlying3 (WalkArith.wf_i64 (by omega))) ?_; intro y4 hown4 hgrow4)
          | go_in)
        have HS4 := Lib.hid ((hz3.out.store HD.out hown HSO.out HW.out hm1 hown4 hgrow4).drop (L' := []) (fun e he => by cases he))
        rw [← HLS.out, ← hp1] at HS4 HH2
        rw [← hp1] at HLE
        have hle : T1.pt.list.length ≤ j + 1 := by have := HLE.out; omega
        clear hown4 hgrow4 hown HD hz3
        go_wp2
        go_roundw
        case rel => exact ⟨j + 1, n + 1, T1, by omega, by go_num, by omega, HS4, HH2, hle⟩
        case measure => simp [intOf]; omega
    · have hjl : ¬ (j : Int) < z0.length := by omega
      have hjz : j = z0.length := by omega
      rw [hjz] at HH
      clear hjz
      have HHAS : Hid (∀ (qh ql : Nat) (qk : Int) X, qh < 18446744073709551616 → ql < 18446744073709551616 → Calls Tryz.prog 17 #[.agg #[.int .u64 (qh : Nat), .int .u64 (ql : Nat), .int .i64 qk], va] X fun e w' => e = .returned (.bool (pHasB (wideN qh ql) qk a.wd)) ∧ Below X.heap.size X w') := fun qh ql qk X h1 h2 => by
        have := pHas_any qh ql qk a X h1 h2 HOK.out; rwa [HVA.out] at this
      obtain ⟨N, hN⟩ : ∃ N, T.pt.list.length = N := ⟨_, rfl⟩
      have HLN : Hid (∀ X, IsTrie X g T → Calls Tryz.prog 35 #[.pointer (some ⟨g, 0, none⟩)] X fun e w' => e = .returned (.int .i64 (N : Nat)) ∧ X = w') := fun X hX => by
        have := len_any g T X hX; rwa [hN] at this
      have HML : Hid (∀ W L, SM w W g T B n T.pt.list L → (Builtin.len_ #[63] 3 #[.map (some B)]).run Tryz.prog W = .ok (.int .i64 (N : Nat)) W) := fun W L h => by
        obtain ⟨D, h1, h2⟩ := h.map
        have := h1.len Tryz.underlying63 3
        rwa [h2.size, hN] at this
      clear hTl hnj
      cases hF : T.pt.find a.wd none with
      | none =>
        have HFI : Hid (∀ X, IsTrie X g T → Calls Tryz.prog 34 #[.pointer (some ⟨g, 0, none⟩), va] X fun e w' => e = .returned (.tuple #[.agg #[.int .u64 0, .int .u64 0, .int .i64 0], .int .i64 0, .bool false]) ∧ Below X.heap.size X w') := fun X hX => by
          have := find_any g T a X hX HOK.out; unfold RetF at this; rw [HVA.out, hF] at this; exact this
        have HNO : Hid (∀ (i qh ql : Nat) (qk : Int), z0[i]? = some ((qh : Int), (ql : Int), qk) → pHasB (wideN qh ql) qk a.wd = false) := fun i qh ql qk hz => longest_none HS.out.st.trie.inv HH.out hF hz
        clear HH hF HVA HOK
        go_wp2_with fail
        refine (HM.out _).mono ?_
        rintro e x3 ⟨rfl, rfl⟩
        go_wp2_with fail
        refine (HFI.out _ HS.out.st.trie).mono ?_
        rintro e x4 ⟨rfl, hb4⟩
        have HS4 := Lib.hid ((HS.out.keep hb4).new #[.int .u64 0, .int .u64 0, .int .i64 0] 24)
        clear HS hb4 HM HFI
        go_wp2
        generalize x4.heap.size = gp at *
        go_loopw [60, 17] (fun i s wr => ∃ j : Nat, j ≤ z0.length ∧ i = .int .i64 j ∧ s = .bool false ∧ Hid (SM w wr g T B n T.pt.list [(gp, #[.int .u64 0, .int .u64 0, .int .i64 0], 24)])) (fun i _ _ => z0.length - (intOf i).toNat)
        case atStart => exact ⟨0, Nat.zero_le _, rfl, rfl, HS4⟩
        case round =>
          clear HS4 hjl
          obtain ⟨i, hi, rfl, rfl, HS⟩ := hrel
          by_cases hlt2 : i < z0.length
          · obtain ⟨ad, rfl, qh, ql, qk, eq, r0, r1, r2, b3, b4⟩ := HROW.out.at (wr := wr) HS.out.st.below hlt2
            have hil : (i : Int) < z0.length := by omega
            have HHA := Lib.hid (fun X => HHAS.out qh ql qk X b3 b4)
            rw [HNO.out i qh ql qk eq] at HHA
            clear eq
            go_wp2_with fail
            refine (HHA.out _).mono ?_
            rintro e y1 ⟨rfl, hc1⟩
            have HS5 := Lib.hid ((HS.out.keep ((Below.refl _ _).alloc (Nat.le_refl _) _)).keep hc1)
            go_wp2
            go_roundw
            case rel => exact ⟨i + 1, by omega, by go_num, rfl, HS5⟩
            case measure => simp [intOf]; omega
          · have hil : ¬ (i : Int) < z0.length := by omega
            obtain ⟨l1, c0, c1, c2⟩ := HS.out.st.blks.r3 (.head _)
            go_wp2_with fail
            refine (HLN.out _ HS.out.st.trie).mono ?_
            rintro e y1 ⟨rfl, hy1⟩
            subst hy1
            have hml := HML.out _ _ HS.out
            go_wp2
            go_ret
            exact ⟨rfl, HS.out.st.below⟩
      | some y =>
        obtain ⟨y1, y2, y3, y4, y5, y6⟩ := longest_in HS.out.st.trie.inv HH.out hF
        have HFI : Hid (∀ X, IsTrie X g T → Calls Tryz.prog 34 #[.pointer (some ⟨g, 0, none⟩), va] X fun e w' => e = .returned (.tuple #[.agg #[.int .u64 (hiN y.W : Nat), .int .u64 (loN y.W : Nat), .int .i64 (y.n : Nat)], .int .i64 y.v, .bool true]) ∧ Below X.heap.size X w') := fun X hX => by
          have := find_any g T a X hX HOK.out; unfold RetF at this; rw [HVA.out, hF] at this; exact this
        have HLE : Hid (∀ (i qh ql : Nat) (qk : Int), z0[i]? = some ((qh : Int), (ql : Int), qk) → pHasB (wideN qh ql) qk a.wd = true → qk ≤ y.n) := fun i qh ql qk hz hp => longest_some HS.out.st.trie.inv HH.out hF hz hp
        have HEND := Lib.hid y6
        have HPH : Hid (∀ X, Calls Tryz.prog 17 #[.agg #[.int .u64 (hiN y.W : Nat), .int .u64 (loN y.W : Nat), .int .i64 (y.n : Nat)], va] X fun e w' => e = .returned (.bool true) ∧ Below X.heap.size X w') := fun X => by
          have := HHAS.out (hiN y.W) (loN y.W) y.n X (hiN_lt y2) (loN_lt y.W); rwa [wide_split, y5] at this
        have HLK : Hid (∀ W L, SM w W g T B n T.pt.list L → (Instr.lookup 63 (.map (some B)) (.agg #[.int .u64 (hiN y.W : Nat), .int .u64 (loN y.W : Nat), .int .i64 (y.n : Nat)]) false).run Tryz.prog W = .ok (.int .i64 y.v) W) := fun W L h => by
          obtain ⟨D, h1, h2⟩ := h.map
          obtain ⟨c, e1, e2, _⟩ := h1.lookup_int pfxLaw Tryz.underlying63 Tryz.underlying3 (zeroI _) (pfKey_ok y2 y3)
          rw [h2.val y.W y.n y.v y2 y3 (getL_of (PT.sorted h.st.trie.inv) y1)] at e2
          have : y.v = c := by simpa using e2
          rw [this]; exact e1
        clear HH hF HVA HOK y1 y2 y3 y4 y5 y6
        generalize hiN y.W = yh at *
        generalize loN y.W = yl at *
        generalize y.n = yn at *
        generalize y.v = yv at *
        go_wp2_with fail
        refine (HM.out _).mono ?_
        rintro e x3 ⟨rfl, rfl⟩
        go_wp2_with fail
        refine (HFI.out _ HS.out.st.trie).mono ?_
        rintro e x4 ⟨rfl, hb4⟩
        have HS4 := Lib.hid ((HS.out.keep hb4).new #[.int .u64 (yh : Nat), .int .u64 (yl : Nat), .int .i64 (yn : Nat)] 24)
        clear HS hb4 HM HFI
        go_wp2
        generalize x4.heap.size = gp at *
        go_loopw [60, 17] (fun i s wr => ∃ j : Nat, j ≤ z0.length ∧ i = .int .i64 j ∧ s = .bool (someB z0 j a.wd) ∧ Hid (SM w wr g T B n T.pt.list [(gp, #[.int .u64 (yh : Nat), .int .u64 (yl : Nat), .int .i64 (yn : Nat)], 24)])) (fun i _ _ => z0.length - (intOf i).toNat)
        case atStart => exact ⟨0, Nat.zero_le _, rfl, rfl, HS4⟩
        case round =>
          clear HS4 hjl
          obtain ⟨i, hi, rfl, rfl, HS⟩ := hrel
          by_cases hlt2 : i < z0.length
          · obtain ⟨ad, rfl, qh, ql, qk, eq, r0, r1, r2, b3, b4⟩ := HROW.out.at (wr := wr) HS.out.st.below hlt2
            have hil : (i : Int) < z0.length := by omega
            have HHA := Lib.hid (fun X => HHAS.out qh ql qk X b3 b4)
            have HSU := Lib.hid (someB_succ (A := a.wd) eq)
            have HQ := Lib.hid (HLE.out i qh ql qk eq)
            clear eq
            cases hp : pHasB (wideN qh ql) qk a.wd with
            | false =>
              rw [hp] at HHA HSU
              have hsu : someB z0 (i + 1) a.wd = someB z0 i a.wd := by rw [HSU.out]; simp
              go_wp2_with fail
              refine (HHA.out _).mono ?_
              rintro e y1 ⟨rfl, hc1⟩
              have HS5 := Lib.hid ((HS.out.keep ((Below.refl _ _).alloc (Nat.le_refl _) _)).keep hc1)
              go_wp2
              go_roundw
              case rel => exact ⟨i + 1, by omega, by go_num, by rw [hsu], HS5⟩
              case measure => simp [intOf]; omega
            | true =>
              have hle : qk ≤ yn := HQ.out hp
              rw [hp] at HHA HSU
              have hsu : someB z0 (i + 1) a.wd = true := by rw [HSU.out]; simp
              have hgt : decide ((yn : Int) < qk) = false := by simp; omega
              clear hp HQ
              go_wp2_with fail
              refine (HHA.out _).mono ?_
              rintro e y1 ⟨rfl, hc1⟩
              have HS5 := Lib.hid ((HS.out.new #[.int .u64 (qh : Nat), .int .u64 (ql : Nat), .int .i64 qk] 24).keep hc1)
              have HS6 := Lib.hid (HS5.out.drop (L' := [(gp, #[.int .u64 (yh : Nat), .int .u64 (yl : Nat), .int .i64 (yn : Nat)], 24)]) (fun e he => List.mem_cons_of_mem _ he))
              obtain ⟨l1, c0, c1, c2⟩ := HS5.out.st.blks.r3 (b := wr.heap.size) (.head _)
              obtain ⟨l2, d0, d1, d2⟩ := HS5.out.st.blks.r3 (b := gp) (.tail _ (.head _))
              go_wp2
              go_roundw
              case rel => exact ⟨i + 1, by omega, by go_num, by rw [hsu], HS6⟩
              case measure => simp [intOf]; omega
          · have hil : ¬ (i : Int) < z0.length := by omega
            have hiz : i = z0.length := by omega
            have hend : someB z0 i a.wd = true := by rw [hiz]; exact HEND.out
            clear hiz
            obtain ⟨l1, c0, c1, c2⟩ := HS.out.st.blks.r3 (.head _)
            rw [hend]
            go_wp2_with fail
            refine (HPH.out _).mono ?_
            rintro e y1 ⟨rfl, hc1⟩
            have HS5 := Lib.hid (HS.out.keep hc1)
            obtain ⟨l2, d0, d1, d2⟩ := HS5.out.st.blks.r3 (.head _)
            have hlk := HLK.out _ _ HS5.out
            go_wp2_with fail
            refine (HLN.out _ HS5.out.st.trie).mono ?_
            rintro e y2 ⟨rfl, hy2⟩
            subst hy2
            have hml := HML.out _ _ HS5.out
            go_wp2
            go_ret
            exact ⟨rfl, HS5.out.st.below⟩
end Go.Proofs.YthdcldkcmnpkiaaGreatDoor
