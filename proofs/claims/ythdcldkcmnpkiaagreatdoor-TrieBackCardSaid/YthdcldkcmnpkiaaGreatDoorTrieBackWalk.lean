/-
  The law TrieBack: its Go text returns true, where the library's tables read as they are laid; nothing that lay in memory before is changed.
-/
import Derived.Test.YthdcldkcmnpkiaaGreatDoorTriR
namespace Go.Proofs.YthdcldkcmnpkiaaGreatDoor
open Go.RowKit


set_option maxRecDepth 100000 in
set_option maxHeartbeats 8000000 in
theorem trieBack_walk (a0 : Option Addr) (len0 cap0 : Nat) (z0 : List (Int × Int × Int)) (a1_0 a1_1 a1_2 : Int) (a2 : Bool) (a3 a4 : Int) (w1_0 : (Lit.int .u64 a1_0).wf = true) (w1_1 : (Lit.int .u64 a1_1).wf = true) (w1_2 : (Lit.int .i64 a1_2).wf = true) (w3 : (Lit.int .u64 a3).wf = true) (w4 : (Lit.int .u64 a4).wf = true) (w : World) (w0 : IsPRow w a0 len0 cap0 z0) (hbru : BruTab w) (hmax : MaxVar w) :
    Calls Tryz.prog 8 #[.slice a0 len0 cap0, .agg #[.int .u64 a1_0, .int .u64 a1_1, .int .i64 a1_2], .bool a2, .int .u64 a3, .int .u64 a4] w fun e w' => e = .returned (.bool true) ∧ Below w.heap.size w w' := by
  obtain ⟨hi, rfl, b1⟩ := bounds_u64r w1_0
  obtain ⟨lo, rfl, b2⟩ := bounds_u64r w1_1
  obtain ⟨k, rfl⟩ : ∃ k, k = a1_2 := ⟨_, rfl⟩
  have HAW : Hid (∀ X, Below w.heap.size w X → Calls Tryz.prog 26 #[] X fun e w' => e = .returned (.bool true) ∧ Below X.heap.size X w') := fun X hX =>
    awake08_any X (bruTab_below hbru hX) (maxVar_below hmax hX)
  have HROW := Lib.hid w0
  obtain ⟨hh, rfl, b5⟩ := bounds_u64r w3
  obtain ⟨hl, rfl, b6⟩ := bounds_u64r w4
  have hok : (AZ.make a2 hh hl).Ok := make_ok a2 hh hl (by omega) (by omega) (by omega) (by omega)
  obtain ⟨a, ea⟩ : ∃ a, AZ.make a2 hh hl = a := ⟨_, rfl⟩
  rw [ea] at hok
  obtain ⟨va, hva⟩ : ∃ v, a.val = v := ⟨_, rfl⟩
  have HM : Hid (∀ W, Calls Tryz.prog 10 #[.bool a2, .int .u64 (hh : Nat), .int .u64 (hl : Nat)] W fun e w' => e = .returned va ∧ W = w') := fun W => by
    have := make6_any a2 hh hl W; rwa [ea, hva] at this
  have HOK := Lib.hid hok
  have HVA := Lib.hid hva
  clear hok hva ea b5 b6
  have hl0 : z0.length = len0 := w0.1
  clear hbru hmax w0
  subst hl0
  go_enter Tryz.func8, Tryz.ntmps8
  go_wp2_with fail
  refine (HAW.out _ ((Below.refl _ _).alloc (Nat.le_refl _) _)).mono ?_
  rintro e x1 ⟨rfl, hb1⟩
  have HB1 := Lib.hid (((Blks.empty w).new #[.int .u64 (hi : Nat), .int .u64 (lo : Nat), .int .i64 k] 24).keep hb1)
  have hx1 := alloc_then hb1
  clear hb1 HAW
  by_cases h60 : 60 < z0.length
  · have hd : decide (60 < (z0.length : Int)) = true := by simp; omega
    go_wp2
    go_ret
    exact ⟨rfl, hx1⟩
  have hd : decide (60 < (z0.length : Int)) = false := by simp; omega
  go_wp2_with fail
  refine (new_any _).mono ?_
  rintro e x2 ⟨rfl, hb2, ht2⟩
  have HS2 := Lib.hid (St.first1 hx1 HB1.out hb2 ht2)
  clear hb2 ht2 HB1 hx1
  generalize x1.heap.size = g at *
  go_wp2
  go_loopw [35] (fun i wr => ∃ (j : Nat) (T : HT), j ≤ z0.length ∧ i = .int .i64 j ∧ Hid (St w wr g T [(w.heap.size, #[.int .u64 (hi : Nat), .int .u64 (lo : Nat), .int .i64 k], 24)]) ∧ T.pt.list.length ≤ j) (fun i _ => z0.length - (intOf i).toNat)
  case atStart => exact ⟨0, .nil, Nat.zero_le _, rfl, HS2, Nat.zero_le _⟩
  case round =>
    obtain ⟨j, T, hj, rfl, HS, hTl⟩ := hrel
    by_cases hlt : j < z0.length
    · obtain ⟨ad, rfl, qh, ql, qk, eq, r0, r1, r2, b3, b4⟩ := HROW.out.at (wr := wr) HS.out.below hlt
      have hjl : (j : Int) < z0.length := by omega
      cases hR : pRightB (wideN qh ql) qk with
      | false =>
        have HPU : Hid (∀ X, Calls Tryz.prog 31 #[.pointer (some ⟨g, 0, none⟩), .agg #[.int .u64 (qh : Nat), .int .u64 (ql : Nat), .int .i64 qk], .int .i64 j] X fun e w' => e = .returned (.bool false) ∧ Below X.heap.size X w') := fun X => put_wrong g qh ql qk j X b3 b4 hR
        clear hR
        go_wp2_with fail
        refine (HPU.out _).mono ?_
        rintro e x4 ⟨rfl, hb4⟩
        have HS4 := Lib.hid (HS.out.keep (alloc_then hb4))
        go_wp2
        go_roundw
        case rel => exact ⟨j + 1, T, by omega, by go_num, HS4, by omega⟩
        case measure => simp [intOf]; omega
      | true =>
        obtain ⟨m, rfl, hm1, hm2⟩ := pRightB_ex hR
        have HPU : Hid (∀ X, IsTrie X g T → Calls Tryz.prog 31 #[.pointer (some ⟨g, 0, none⟩), .agg #[.int .u64 (qh : Nat), .int .u64 (ql : Nat), .int .i64 (m : Nat)], .int .i64 j] X fun e w' => ∃ T', e = .returned (.bool true) ∧ Moved X w' g T T' ∧ T'.pt = T.pt.put (wideN qh ql) m j) := fun X hX => put_any g T qh ql m j X hX b3 b4 hm1 hm2 (by omega)
        have HLE : Hid ((T.pt.put (wideN qh ql) m j).list.length ≤ T.pt.list.length + 1) := put_len_le HS.out.trie.inv hm1 hm2 (wide_lt b3 b4)
        clear hR hm2
        go_wp2_with fail
        refine (HPU.out _ (HS.out.keep ((Below.refl _ _).alloc (Nat.le_refl _) _)).trie).mono ?_
        rintro e x4 ⟨T', rfl, hm4, hpt⟩
        have HS4 := Lib.hid ((HS.out.keep ((Below.refl _ _).alloc (Nat.le_refl _) _)).moved hm4)
        have hle : T'.pt.list.length ≤ j + 1 := by rw [hpt]; have := HLE.out; omega
        go_wp2
        go_roundw
        case rel => exact ⟨j + 1, T', by omega, by go_num, HS4, hle⟩
        case measure => simp [intOf]; omega
    · have hjl : ¬ (j : Int) < z0.length := by omega
      have hn : T.pt.list.length ≤ 60 := by omega
      obtain ⟨l1, c0, c1, c2⟩ := HS.out.blks.r3 (.head _)
      have HGT : Hid (∀ X, IsTrie X g T → Calls Tryz.prog 37 #[.pointer (some ⟨g, 0, none⟩), .agg #[.int .u64 (hi : Nat), .int .u64 (lo : Nat), .int .i64 k]] X (RetG X (T.pt.get (wideN hi lo) k))) := fun X hX => get_any g T hi lo k X hX b1 b2
      clear HROW hTl hj
      cases hG : T.pt.get (wideN hi lo) k with
      | some v =>
        have HG2 : Hid (∀ X, IsTrie X g T → Calls Tryz.prog 37 #[.pointer (some ⟨g, 0, none⟩), .agg #[.int .u64 (hi : Nat), .int .u64 (lo : Nat), .int .i64 k]] X fun e w' => e = .returned (.tuple #[.int .i64 v, .bool true]) ∧ Below X.heap.size X w') := fun X hX => by
          have := HGT.out X hX; rw [hG] at this; exact this
        clear HGT
        go_wp2_with fail
        refine (HM.out _).mono ?_
        rintro e x3 ⟨rfl, rfl⟩
        go_wp2_with fail
        refine (HG2.out _ HS.out.trie).mono ?_
        rintro e x4 ⟨rfl, hb4⟩
        go_wp2
        go_ret
        exact ⟨rfl, below_chain7 HS.out.below hb4⟩
      | none =>
        have HG2 : Hid (∀ X, IsTrie X g T → Calls Tryz.prog 37 #[.pointer (some ⟨g, 0, none⟩), .agg #[.int .u64 (hi : Nat), .int .u64 (lo : Nat), .int .i64 k]] X fun e w' => e = .returned (.tuple #[.int .i64 0, .bool false]) ∧ Below X.heap.size X w') := fun X hX => by
          have := HGT.out X hX; rw [hG] at this; exact this
        clear HGT
        cases hR : pRightB (wideN hi lo) k with
        | false =>
          have HR : Hid (∀ X, Calls Tryz.prog 15 #[.agg #[.int .u64 (hi : Nat), .int .u64 (lo : Nat), .int .i64 k]] X fun e w' => e = .returned (.bool false) ∧ Below X.heap.size X w') := fun X => by
            have := pRight_any hi lo k X b1 b2; rwa [hR] at this
          clear hR hG
          go_wp2_with fail
          refine (HM.out _).mono ?_
          rintro e x3 ⟨rfl, rfl⟩
          go_wp2_with fail
          refine (HG2.out _ HS.out.trie).mono ?_
          rintro e x4 ⟨rfl, hb4⟩
          have HS4 := Lib.hid (HS.out.keep hb4)
          clear HS hb4 l1 c0 c1 c2
          obtain ⟨l1, c0, c1, c2⟩ := HS4.out.blks.r3 (.head _)
          go_wp2_with fail
          refine (HR.out _).mono ?_
          rintro e x5 ⟨rfl, hb5⟩
          go_wp2
          go_ret
          exact ⟨rfl, below_chain7 HS4.out.below hb5⟩
        | true =>
          obtain ⟨m, rfl, hm1, hm2⟩ := pRightB_ex hR
          have HR : Hid (∀ X, Calls Tryz.prog 15 #[.agg #[.int .u64 (hi : Nat), .int .u64 (lo : Nat), .int .i64 (m : Nat)]] X fun e w' => e = .returned (.bool true) ∧ Below X.heap.size X w') := fun X => by
            have := pRight_any hi lo m X b1 b2; rwa [hR] at this
          have hinv := HS.out.trie.inv
          have hPl := wide_lt b1 b2
          obtain ⟨n, hnn⟩ : ∃ n, T.pt.list.length = n := ⟨_, rfl⟩
          have HL1 : Hid (∀ X, IsTrie X g T → Calls Tryz.prog 35 #[.pointer (some ⟨g, 0, none⟩)] X fun e w' => e = .returned (.int .i64 (n : Nat)) ∧ X = w') := fun X hX => by
            have := len_any g T X hX; rwa [hnn] at this
          have HL2 : Hid (∀ X T', IsTrie X g T' → T'.pt = T.pt.put (wideN hi lo) m 99 → Calls Tryz.prog 35 #[.pointer (some ⟨g, 0, none⟩)] X fun e w' => e = .returned (.int .i64 ((n : Int) + 1)) ∧ X = w') := fun X T' hX hp => by
            have := len_any g T' X hX; rw [hp, back_len hinv hm1 hm2 hPl hG, hnn] at this; exact this
          have HL3 : Hid (∀ X T', IsTrie X g T' → T'.pt = (T.pt.put (wideN hi lo) m 99).drop (wideN hi lo) m → Calls Tryz.prog 35 #[.pointer (some ⟨g, 0, none⟩)] X fun e w' => e = .returned (.int .i64 (n : Nat)) ∧ X = w') := fun X T' hX hp => by
            have := len_any g T' X hX; rw [hp, back_list hinv hm1 hm2 hPl hG, hnn] at this; exact this
          have HPT : Hid (∀ X, IsTrie X g T → Calls Tryz.prog 31 #[.pointer (some ⟨g, 0, none⟩), .agg #[.int .u64 (hi : Nat), .int .u64 (lo : Nat), .int .i64 (m : Nat)], .int .i64 99] X fun e w' => ∃ T', e = .returned (.bool true) ∧ Moved X w' g T T' ∧ T'.pt = T.pt.put (wideN hi lo) m 99) := fun X hX => put_any g T hi lo m 99 X hX b1 b2 hm1 hm2 (by omega)
          have HD1 : Hid (∀ X T', IsTrie X g T' → T'.pt = T.pt.put (wideN hi lo) m 99 → Calls Tryz.prog 28 #[.pointer (some ⟨g, 0, none⟩), .agg #[.int .u64 (hi : Nat), .int .u64 (lo : Nat), .int .i64 (m : Nat)]] X fun e w' => ∃ T2, e = .returned (.bool true) ∧ Moved X w' g T' T2 ∧ T2.pt = (T.pt.put (wideN hi lo) m 99).drop (wideN hi lo) m) := fun X T' hX hp => by
            have := drop_some g T' hi lo m 99 X hX b1 b2 hm1 hm2 (by rw [hp, back_len hinv hm1 hm2 hPl hG]; omega) (by rw [hp]; exact back_get hinv hm1 hm2 hPl)
            rw [hp] at this; exact this
          have HD2 : Hid (∀ X T', IsTrie X g T' → T'.pt = (T.pt.put (wideN hi lo) m 99).drop (wideN hi lo) m → Calls Tryz.prog 28 #[.pointer (some ⟨g, 0, none⟩), .agg #[.int .u64 (hi : Nat), .int .u64 (lo : Nat), .int .i64 (m : Nat)]] X fun e w' => e = .returned (.bool false) ∧ Below X.heap.size X w') := fun X T' hX hp =>
            drop_none g T' hi lo m X hX b1 b2 (by rw [hp]; exact back_none hinv hm1 hm2 hPl hG)
          obtain ⟨fh, fl, fn, fv, hf, hfn⟩ := entV_form (T.pt.find a.wd none)
          have HF1 : Hid (∀ X, IsTrie X g T → Calls Tryz.prog 34 #[.pointer (some ⟨g, 0, none⟩), va] X fun e w' => e = .returned (.tuple #[.agg #[.int .u64 (fh : Nat), .int .u64 (fl : Nat), .int .i64 (fn : Nat)], .int .i64 fv, .bool (T.pt.find a.wd none).isSome]) ∧ Below X.heap.size X w') := fun X hX => by
            have := find_any g T a X hX HOK.out; unfold RetF at this; rwa [HVA.out, hf] at this
          have HF3 : Hid (∀ X T', IsTrie X g T' → T'.pt = (T.pt.put (wideN hi lo) m 99).drop (wideN hi lo) m → Calls Tryz.prog 34 #[.pointer (some ⟨g, 0, none⟩), va] X fun e w' => e = .returned (.tuple #[.agg #[.int .u64 (fh : Nat), .int .u64 (fl : Nat), .int .i64 (fn : Nat)], .int .i64 fv, .bool (T.pt.find a.wd none).isSome]) ∧ Below X.heap.size X w') := fun X T' hX hp => by
            have := find_any g T' a X hX HOK.out; unfold RetF at this; rwa [HVA.out, hp, back_find hinv hm1 hm2 hPl hG, hf] at this
          have HHS : Hid (∀ X, Calls Tryz.prog 17 #[.agg #[.int .u64 (hi : Nat), .int .u64 (lo : Nat), .int .i64 (m : Nat)], va] X fun e w' => e = .returned (.bool (pHasB (wideN hi lo) m a.wd)) ∧ Below X.heap.size X w') := fun X => by
            have := pHas_any hi lo m a X b1 b2 HOK.out; rwa [HVA.out] at this
          have hq := eqPf_guard
          have hq2 := neqPf_guard
          have hP1 : ∀ W : World, (binOp .neq 24 (.agg #[.int .u64 (hi : Nat), .int .u64 (lo : Nat), .int .i64 (m : Nat)]) (.agg #[.int .u64 (hi : Nat), .int .u64 (lo : Nat), .int .i64 (m : Nat)])).run Tryz.prog W = .ok (.bool false) W := fun W => by rw [neqPf]; simp
          have hP2 : ∀ W : World, (binOp .neq 24 (.agg #[.int .u64 (fh : Nat), .int .u64 (fl : Nat), .int .i64 (fn : Nat)]) (.agg #[.int .u64 (fh : Nat), .int .u64 (fl : Nat), .int .i64 (fn : Nat)])).run Tryz.prog W = .ok (.bool false) W := fun W => by rw [neqPf]; simp
          have hP3 : ∀ W : World, (binOp .eql 24 (.agg #[.int .u64 (fh : Nat), .int .u64 (fl : Nat), .int .i64 (fn : Nat)]) (.agg #[.int .u64 (fh : Nat), .int .u64 (fl : Nat), .int .i64 (fn : Nat)])).run Tryz.prog W = .ok (.bool true) W := fun W => by rw [eqPf]; simp
          have hn6 : n ≤ 60 := by omega
          obtain ⟨fo, hfo⟩ : ∃ b, (T.pt.find a.wd none).isSome = b := ⟨_, rfl⟩
          obtain ⟨hs, hhs⟩ : ∃ b, pHasB (wideN hi lo) m a.wd = b := ⟨_, rfl⟩
          have HHIT : Hid (hs = true → (fo = false ∨ fn < m) → ∀ X T', IsTrie X g T' → T'.pt = T.pt.put (wideN hi lo) m 99 → Calls Tryz.prog 34 #[.pointer (some ⟨g, 0, none⟩), va] X fun e w' => e = .returned (.tuple #[.agg #[.int .u64 (hi : Nat), .int .u64 (lo : Nat), .int .i64 (m : Nat)], .int .i64 99, .bool true]) ∧ Below X.heap.size X w') := fun q1 q2 X T' hX hp => by
            have := find_any g T' a X hX HOK.out; unfold RetF at this
            rw [HVA.out, hp, back_hit (v := 99) hinv hm1 hm2 hPl (by rw [hhs, q1]) (fun y hy => by
              rcases q2 with q | q
              · rw [q] at hfo; rw [hy] at hfo; cases hfo
              · rw [← hfn y hy]; exact q)] at this
            simp only [entV, hiN_wide b2, loN_wide b2] at this
            exact this
          have HMISS : Hid (¬ (hs = true ∧ (fo = false ∨ fn < m)) → ∀ X T', IsTrie X g T' → T'.pt = T.pt.put (wideN hi lo) m 99 → Calls Tryz.prog 34 #[.pointer (some ⟨g, 0, none⟩), va] X fun e w' => e = .returned (.tuple #[.agg #[.int .u64 (fh : Nat), .int .u64 (fl : Nat), .int .i64 (fn : Nat)], .int .i64 fv, .bool fo]) ∧ Below X.heap.size X w') := fun q X T' hX hp => by
            have := find_any g T' a X hX HOK.out; unfold RetF at this
            rw [HVA.out, hp, back_miss (v := 99) hinv hm1 hm2 hPl hG (fun c => q ⟨by rw [← hhs]; exact c.1, by
              cases e : T.pt.find a.wd none with
              | none => rw [e] at hfo; exact .inl hfo.symm
              | some y => exact .inr (by rw [hfn y e]; exact c.2 y e)⟩), hf, hfo] at this
            exact this
          rw [hfo] at HF1 HF3
          rw [hhs] at HHS
          clear hf hfn hfo hhs hPl hinv hG hR hnn hm2 HOK HVA hn
          cases hs with
          | true =>
            by_cases hlt2 : fo = false ∨ fn < m
            · have HFX := Lib.hid (HHIT.out rfl hlt2)
              clear HHIT HMISS
              cases fo with
              | false =>
                go_wp2_with fail
                refine (HM.out _).mono ?_
                rintro e x3 ⟨rfl, rfl⟩
                go_wp2_with fail
                refine (HG2.out _ HS.out.trie).mono ?_
                rintro e x4 ⟨rfl, hb4⟩
                have HS4 := Lib.hid (HS.out.keep hb4)
                clear HS hb4 l1 c0 c1 c2
                obtain ⟨l1, c0, c1, c2⟩ := HS4.out.blks.r3 (.head _)
                go_wp2_with fail
                refine (HR.out _).mono ?_
                rintro e x5 ⟨rfl, hb5⟩
                have HS5 := Lib.hid (HS4.out.keep hb5)
                clear HS4 hb5 l1 c0 c1 c2
                obtain ⟨l1, c0, c1, c2⟩ := HS5.out.blks.r3 (.head _)
                go_wp2_with fail
                refine (HF1.out _ HS5.out.trie).mono ?_
                rintro e x6 ⟨rfl, hb6⟩
                have HS6 := Lib.hid ((HS5.out.keep hb6).new #[.int .u64 (fh : Nat), .int .u64 (fl : Nat), .int .i64 (fn : Nat)] 24)
                clear HS5 hb6 l1 c0 c1 c2
                obtain ⟨l1, c0, c1, c2⟩ := HS6.out.blks.r3 (b := w.heap.size) (.tail _ (.head _))
                obtain ⟨k1, d0, d1, d2⟩ := HS6.out.blks.r3 (b := x6.heap.size) (.head _)
                go_wp2_with fail
                refine (HL1.out _ HS6.out.trie).mono ?_
                rintro e x7 ⟨rfl, hx7⟩
                subst hx7
                generalize x6.heap.size = gf at *
                go_wp2_with fail
                refine (HPT.out _ HS6.out.trie).mono ?_
                rintro e x8 ⟨T8, rfl, hm8, hp8⟩
                have HS8 := Lib.hid (HS6.out.moved hm8)
                clear HS6 hm8 l1 c0 c1 c2 k1 d0 d1 d2
                obtain ⟨l1, c0, c1, c2⟩ := HS8.out.blks.r3 (b := w.heap.size) (.tail _ (.head _))
                obtain ⟨k1, d0, d1, d2⟩ := HS8.out.blks.r3 (b := gf) (.head _)
                go_wp2_with fail
                refine (HL2.out _ _ HS8.out.trie hp8).mono ?_
                rintro e x9 ⟨rfl, hx9⟩
                subst hx9
                go_wp2_with fail
                refine (HFX.out _ _ HS8.out.trie hp8).mono ?_
                rintro e x10 ⟨rfl, hb10⟩
                have HS10 := Lib.hid ((HS8.out.keep hb10).new #[.int .u64 (hi : Nat), .int .u64 (lo : Nat), .int .i64 (m : Nat)] 24)
                clear HS8 hb10 l1 c0 c1 c2 k1 d0 d1 d2
                obtain ⟨l1, c0, c1, c2⟩ := HS10.out.blks.r3 (b := w.heap.size) (.tail _ (.tail _ (.head _)))
                go_wp2_with fail
                refine (HHS.out _).mono ?_
                rintro e x11 ⟨rfl, hb11⟩
                have HS11 := Lib.hid (HS10.out.keep hb11)
                clear HS10 hb11 l1 c0 c1 c2
                generalize x10.heap.size = gs at *
                obtain ⟨l1, c0, c1, c2⟩ := HS11.out.blks.r3 (b := w.heap.size) (.tail _ (.tail _ (.head _)))
                obtain ⟨k1, d0, d1, d2⟩ := HS11.out.blks.r3 (b := gf) (.tail _ (.head _))
                obtain ⟨j1, e0, e1, e2⟩ := HS11.out.blks.r3 (b := gs) (.head _)
                go_wp2_with fail
                refine (HD1.out _ _ HS11.out.trie hp8).mono ?_
                rintro e x12 ⟨T12, rfl, hm12, hp12⟩
                have HS12 := Lib.hid (HS11.out.moved hm12)
                clear HS11 hm12 l1 c0 c1 c2 k1 d0 d1 d2 j1 e0 e1 e2
                obtain ⟨l1, c0, c1, c2⟩ := HS12.out.blks.r3 (b := w.heap.size) (.tail _ (.tail _ (.head _)))
                go_wp2_with fail
                refine (HD2.out _ _ HS12.out.trie hp12).mono ?_
                rintro e x13 ⟨rfl, hb13⟩
                have HS13 := Lib.hid (HS12.out.keep hb13)
                clear HS12 hb13 l1 c0 c1 c2
                go_wp2_with fail
                refine (HL3.out _ _ HS13.out.trie hp12).mono ?_
                rintro e x14 ⟨rfl, hx14⟩
                subst hx14
                go_wp2_with fail
                refine (HF3.out _ _ HS13.out.trie hp12).mono ?_
                rintro e x15 ⟨rfl, hb15⟩
                have HS15 := Lib.hid ((HS13.out.keep hb15).new #[.int .u64 (fh : Nat), .int .u64 (fl : Nat), .int .i64 (fn : Nat)] 24)
                clear HS13 hb15
                obtain ⟨k1, d0, d1, d2⟩ := HS15.out.blks.r3 (b := gf) (.tail _ (.tail _ (.head _)))
                obtain ⟨j1, e0, e1, e2⟩ := HS15.out.blks.r3 (b := x15.heap.size) (.head _)
                go_wp2
                go_ret
                exact ⟨rfl, HS15.out.below⟩
              | true =>
                have hfl : (fn : Int) < m := by simp at hlt2; omega
                clear hlt2
                go_wp2_with fail
                refine (HM.out _).mono ?_
                rintro e x3 ⟨rfl, rfl⟩
                go_wp2_with fail
                refine (HG2.out _ HS.out.trie).mono ?_
                rintro e x4 ⟨rfl, hb4⟩
                have HS4 := Lib.hid (HS.out.keep hb4)
                clear HS hb4 l1 c0 c1 c2
                obtain ⟨l1, c0, c1, c2⟩ := HS4.out.blks.r3 (.head _)
                go_wp2_with fail
                refine (HR.out _).mono ?_
                rintro e x5 ⟨rfl, hb5⟩
                have HS5 := Lib.hid (HS4.out.keep hb5)
                clear HS4 hb5 l1 c0 c1 c2
                obtain ⟨l1, c0, c1, c2⟩ := HS5.out.blks.r3 (.head _)
                go_wp2_with fail
                refine (HF1.out _ HS5.out.trie).mono ?_
                rintro e x6 ⟨rfl, hb6⟩
                have HS6 := Lib.hid ((HS5.out.keep hb6).new #[.int .u64 (fh : Nat), .int .u64 (fl : Nat), .int .i64 (fn : Nat)] 24)
                clear HS5 hb6 l1 c0 c1 c2
                obtain ⟨l1, c0, c1, c2⟩ := HS6.out.blks.r3 (b := w.heap.size) (.tail _ (.head _))
                obtain ⟨k1, d0, d1, d2⟩ := HS6.out.blks.r3 (b := x6.heap.size) (.head _)
                go_wp2_with fail
                refine (HL1.out _ HS6.out.trie).mono ?_
                rintro e x7 ⟨rfl, hx7⟩
                subst hx7
                generalize x6.heap.size = gf at *
                go_wp2_with fail
                refine (HPT.out _ HS6.out.trie).mono ?_
                rintro e x8 ⟨T8, rfl, hm8, hp8⟩
                have HS8 := Lib.hid (HS6.out.moved hm8)
                clear HS6 hm8 l1 c0 c1 c2 k1 d0 d1 d2
                obtain ⟨l1, c0, c1, c2⟩ := HS8.out.blks.r3 (b := w.heap.size) (.tail _ (.head _))
                obtain ⟨k1, d0, d1, d2⟩ := HS8.out.blks.r3 (b := gf) (.head _)
                go_wp2_with fail
                refine (HL2.out _ _ HS8.out.trie hp8).mono ?_
                rintro e x9 ⟨rfl, hx9⟩
                subst hx9
                go_wp2_with fail
                refine (HFX.out _ _ HS8.out.trie hp8).mono ?_
                rintro e x10 ⟨rfl, hb10⟩
                have HS10 := Lib.hid ((HS8.out.keep hb10).new #[.int .u64 (hi : Nat), .int .u64 (lo : Nat), .int .i64 (m : Nat)] 24)
                clear HS8 hb10 l1 c0 c1 c2 k1 d0 d1 d2
                obtain ⟨l1, c0, c1, c2⟩ := HS10.out.blks.r3 (b := w.heap.size) (.tail _ (.tail _ (.head _)))
                go_wp2_with fail
                refine (HHS.out _).mono ?_
                rintro e x11 ⟨rfl, hb11⟩
                have HS11 := Lib.hid (HS10.out.keep hb11)
                clear HS10 hb11 l1 c0 c1 c2
                generalize x10.heap.size = gs at *
                obtain ⟨l1, c0, c1, c2⟩ := HS11.out.blks.r3 (b := w.heap.size) (.tail _ (.tail _ (.head _)))
                obtain ⟨k1, d0, d1, d2⟩ := HS11.out.blks.r3 (b := gf) (.tail _ (.head _))
                obtain ⟨j1, e0, e1, e2⟩ := HS11.out.blks.r3 (b := gs) (.head _)
                go_wp2_with fail
                refine (HD1.out _ _ HS11.out.trie hp8).mono ?_
                rintro e x12 ⟨T12, rfl, hm12, hp12⟩
                have HS12 := Lib.hid (HS11.out.moved hm12)
                clear HS11 hm12 l1 c0 c1 c2 k1 d0 d1 d2 j1 e0 e1 e2
                obtain ⟨l1, c0, c1, c2⟩ := HS12.out.blks.r3 (b := w.heap.size) (.tail _ (.tail _ (.head _)))
                go_wp2_with fail
                refine (HD2.out _ _ HS12.out.trie hp12).mono ?_
                rintro e x13 ⟨rfl, hb13⟩
                have HS13 := Lib.hid (HS12.out.keep hb13)
                clear HS12 hb13 l1 c0 c1 c2
                go_wp2_with fail
                refine (HL3.out _ _ HS13.out.trie hp12).mono ?_
                rintro e x14 ⟨rfl, hx14⟩
                subst hx14
                go_wp2_with fail
                refine (HF3.out _ _ HS13.out.trie hp12).mono ?_
                rintro e x15 ⟨rfl, hb15⟩
                have HS15 := Lib.hid ((HS13.out.keep hb15).new #[.int .u64 (fh : Nat), .int .u64 (fl : Nat), .int .i64 (fn : Nat)] 24)
                clear HS13 hb15
                obtain ⟨k1, d0, d1, d2⟩ := HS15.out.blks.r3 (b := gf) (.tail _ (.tail _ (.head _)))
                obtain ⟨j1, e0, e1, e2⟩ := HS15.out.blks.r3 (b := x15.heap.size) (.head _)
                go_wp2
                go_ret
                exact ⟨rfl, HS15.out.below⟩
            · have HFX := Lib.hid (HMISS.out (fun q => hlt2 q.2))
              clear HHIT HMISS
              cases fo with
              | false => exact absurd (.inl rfl) hlt2
              | true =>
                have hfl : ¬ (fn : Int) < m := by simp at hlt2; omega
                clear hlt2
                go_wp2_with fail
                refine (HM.out _).mono ?_
                rintro e x3 ⟨rfl, rfl⟩
                go_wp2_with fail
                refine (HG2.out _ HS.out.trie).mono ?_
                rintro e x4 ⟨rfl, hb4⟩
                have HS4 := Lib.hid (HS.out.keep hb4)
                clear HS hb4 l1 c0 c1 c2
                obtain ⟨l1, c0, c1, c2⟩ := HS4.out.blks.r3 (.head _)
                go_wp2_with fail
                refine (HR.out _).mono ?_
                rintro e x5 ⟨rfl, hb5⟩
                have HS5 := Lib.hid (HS4.out.keep hb5)
                clear HS4 hb5 l1 c0 c1 c2
                obtain ⟨l1, c0, c1, c2⟩ := HS5.out.blks.r3 (.head _)
                go_wp2_with fail
                refine (HF1.out _ HS5.out.trie).mono ?_
                rintro e x6 ⟨rfl, hb6⟩
                have HS6 := Lib.hid ((HS5.out.keep hb6).new #[.int .u64 (fh : Nat), .int .u64 (fl : Nat), .int .i64 (fn : Nat)] 24)
                clear HS5 hb6 l1 c0 c1 c2
                obtain ⟨l1, c0, c1, c2⟩ := HS6.out.blks.r3 (b := w.heap.size) (.tail _ (.head _))
                obtain ⟨k1, d0, d1, d2⟩ := HS6.out.blks.r3 (b := x6.heap.size) (.head _)
                go_wp2_with fail
                refine (HL1.out _ HS6.out.trie).mono ?_
                rintro e x7 ⟨rfl, hx7⟩
                subst hx7
                generalize x6.heap.size = gf at *
                go_wp2_with fail
                refine (HPT.out _ HS6.out.trie).mono ?_
                rintro e x8 ⟨T8, rfl, hm8, hp8⟩
                have HS8 := Lib.hid (HS6.out.moved hm8)
                clear HS6 hm8 l1 c0 c1 c2 k1 d0 d1 d2
                obtain ⟨l1, c0, c1, c2⟩ := HS8.out.blks.r3 (b := w.heap.size) (.tail _ (.head _))
                obtain ⟨k1, d0, d1, d2⟩ := HS8.out.blks.r3 (b := gf) (.head _)
                go_wp2_with fail
                refine (HL2.out _ _ HS8.out.trie hp8).mono ?_
                rintro e x9 ⟨rfl, hx9⟩
                subst hx9
                go_wp2_with fail
                refine (HFX.out _ _ HS8.out.trie hp8).mono ?_
                rintro e x10 ⟨rfl, hb10⟩
                have HS10 := Lib.hid ((HS8.out.keep hb10).new #[.int .u64 (fh : Nat), .int .u64 (fl : Nat), .int .i64 (fn : Nat)] 24)
                clear HS8 hb10 l1 c0 c1 c2 k1 d0 d1 d2
                obtain ⟨l1, c0, c1, c2⟩ := HS10.out.blks.r3 (b := w.heap.size) (.tail _ (.tail _ (.head _)))
                go_wp2_with fail
                refine (HHS.out _).mono ?_
                rintro e x11 ⟨rfl, hb11⟩
                have HS11 := Lib.hid (HS10.out.keep hb11)
                clear HS10 hb11 l1 c0 c1 c2
                generalize x10.heap.size = gs at *
                obtain ⟨l1, c0, c1, c2⟩ := HS11.out.blks.r3 (b := w.heap.size) (.tail _ (.tail _ (.head _)))
                obtain ⟨k1, d0, d1, d2⟩ := HS11.out.blks.r3 (b := gf) (.tail _ (.head _))
                obtain ⟨j1, e0, e1, e2⟩ := HS11.out.blks.r3 (b := gs) (.head _)
                go_wp2_with fail
                refine (HD1.out _ _ HS11.out.trie hp8).mono ?_
                rintro e x12 ⟨T12, rfl, hm12, hp12⟩
                have HS12 := Lib.hid (HS11.out.moved hm12)
                clear HS11 hm12 l1 c0 c1 c2 k1 d0 d1 d2 j1 e0 e1 e2
                obtain ⟨l1, c0, c1, c2⟩ := HS12.out.blks.r3 (b := w.heap.size) (.tail _ (.tail _ (.head _)))
                go_wp2_with fail
                refine (HD2.out _ _ HS12.out.trie hp12).mono ?_
                rintro e x13 ⟨rfl, hb13⟩
                have HS13 := Lib.hid (HS12.out.keep hb13)
                clear HS12 hb13 l1 c0 c1 c2
                go_wp2_with fail
                refine (HL3.out _ _ HS13.out.trie hp12).mono ?_
                rintro e x14 ⟨rfl, hx14⟩
                subst hx14
                go_wp2_with fail
                refine (HF3.out _ _ HS13.out.trie hp12).mono ?_
                rintro e x15 ⟨rfl, hb15⟩
                have HS15 := Lib.hid ((HS13.out.keep hb15).new #[.int .u64 (fh : Nat), .int .u64 (fl : Nat), .int .i64 (fn : Nat)] 24)
                clear HS13 hb15
                obtain ⟨k1, d0, d1, d2⟩ := HS15.out.blks.r3 (b := gf) (.tail _ (.tail _ (.head _)))
                obtain ⟨j1, e0, e1, e2⟩ := HS15.out.blks.r3 (b := x15.heap.size) (.head _)
                go_wp2
                go_ret
                exact ⟨rfl, HS15.out.below⟩
          | false =>
            have HFX := Lib.hid (HMISS.out (fun q => by cases q.1))
            clear HHIT HMISS
            go_wp2_with fail
            refine (HM.out _).mono ?_
            rintro e x3 ⟨rfl, rfl⟩
            go_wp2_with fail
            refine (HG2.out _ HS.out.trie).mono ?_
            rintro e x4 ⟨rfl, hb4⟩
            have HS4 := Lib.hid (HS.out.keep hb4)
            clear HS hb4 l1 c0 c1 c2
            obtain ⟨l1, c0, c1, c2⟩ := HS4.out.blks.r3 (.head _)
            go_wp2_with fail
            refine (HR.out _).mono ?_
            rintro e x5 ⟨rfl, hb5⟩
            have HS5 := Lib.hid (HS4.out.keep hb5)
            clear HS4 hb5 l1 c0 c1 c2
            obtain ⟨l1, c0, c1, c2⟩ := HS5.out.blks.r3 (.head _)
            go_wp2_with fail
            refine (HF1.out _ HS5.out.trie).mono ?_
            rintro e x6 ⟨rfl, hb6⟩
            have HS6 := Lib.hid ((HS5.out.keep hb6).new #[.int .u64 (fh : Nat), .int .u64 (fl : Nat), .int .i64 (fn : Nat)] 24)
            clear HS5 hb6 l1 c0 c1 c2
            obtain ⟨l1, c0, c1, c2⟩ := HS6.out.blks.r3 (b := w.heap.size) (.tail _ (.head _))
            obtain ⟨k1, d0, d1, d2⟩ := HS6.out.blks.r3 (b := x6.heap.size) (.head _)
            go_wp2_with fail
            refine (HL1.out _ HS6.out.trie).mono ?_
            rintro e x7 ⟨rfl, hx7⟩
            subst hx7
            generalize x6.heap.size = gf at *
            go_wp2_with fail
            refine (HPT.out _ HS6.out.trie).mono ?_
            rintro e x8 ⟨T8, rfl, hm8, hp8⟩
            have HS8 := Lib.hid (HS6.out.moved hm8)
            clear HS6 hm8 l1 c0 c1 c2 k1 d0 d1 d2
            obtain ⟨l1, c0, c1, c2⟩ := HS8.out.blks.r3 (b := w.heap.size) (.tail _ (.head _))
            obtain ⟨k1, d0, d1, d2⟩ := HS8.out.blks.r3 (b := gf) (.head _)
            go_wp2_with fail
            refine (HL2.out _ _ HS8.out.trie hp8).mono ?_
            rintro e x9 ⟨rfl, hx9⟩
            subst hx9
            go_wp2_with fail
            refine (HFX.out _ _ HS8.out.trie hp8).mono ?_
            rintro e x10 ⟨rfl, hb10⟩
            have HS10 := Lib.hid ((HS8.out.keep hb10).new #[.int .u64 (fh : Nat), .int .u64 (fl : Nat), .int .i64 (fn : Nat)] 24)
            clear HS8 hb10 l1 c0 c1 c2 k1 d0 d1 d2
            obtain ⟨l1, c0, c1, c2⟩ := HS10.out.blks.r3 (b := w.heap.size) (.tail _ (.tail _ (.head _)))
            go_wp2_with fail
            refine (HHS.out _).mono ?_
            rintro e x11 ⟨rfl, hb11⟩
            have HS11 := Lib.hid (HS10.out.keep hb11)
            clear HS10 hb11 l1 c0 c1 c2
            generalize x10.heap.size = gs at *
            obtain ⟨l1, c0, c1, c2⟩ := HS11.out.blks.r3 (b := w.heap.size) (.tail _ (.tail _ (.head _)))
            obtain ⟨k1, d0, d1, d2⟩ := HS11.out.blks.r3 (b := gf) (.tail _ (.head _))
            obtain ⟨j1, e0, e1, e2⟩ := HS11.out.blks.r3 (b := gs) (.head _)
            go_wp2_with fail
            refine (HD1.out _ _ HS11.out.trie hp8).mono ?_
            rintro e x12 ⟨T12, rfl, hm12, hp12⟩
            have HS12 := Lib.hid (HS11.out.moved hm12)
            clear HS11 hm12 l1 c0 c1 c2 k1 d0 d1 d2 j1 e0 e1 e2
            obtain ⟨l1, c0, c1, c2⟩ := HS12.out.blks.r3 (b := w.heap.size) (.tail _ (.tail _ (.head _)))
            go_wp2_with fail
            refine (HD2.out _ _ HS12.out.trie hp12).mono ?_
            rintro e x13 ⟨rfl, hb13⟩
            have HS13 := Lib.hid (HS12.out.keep hb13)
            clear HS12 hb13 l1 c0 c1 c2
            go_wp2_with fail
            refine (HL3.out _ _ HS13.out.trie hp12).mono ?_
            rintro e x14 ⟨rfl, hx14⟩
            subst hx14
            go_wp2_with fail
            refine (HF3.out _ _ HS13.out.trie hp12).mono ?_
            rintro e x15 ⟨rfl, hb15⟩
            have HS15 := Lib.hid ((HS13.out.keep hb15).new #[.int .u64 (fh : Nat), .int .u64 (fl : Nat), .int .i64 (fn : Nat)] 24)
            clear HS13 hb15
            obtain ⟨k1, d0, d1, d2⟩ := HS15.out.blks.r3 (b := gf) (.tail _ (.tail _ (.head _)))
            obtain ⟨j1, e0, e1, e2⟩ := HS15.out.blks.r3 (b := x15.heap.size) (.head _)
            go_wp2
            go_ret
            exact ⟨rfl, HS15.out.below⟩
end Go.Proofs.YthdcldkcmnpkiaaGreatDoor
