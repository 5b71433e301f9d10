/-
  Layer 4: FourShort, walked.
-/
import Derived.Test.YtaojjkknmaldiaaDoorFourN
namespace Go.Proofs.YtaojjkknmaldiaaDoor
open Go.RowKit


set_option linter.unusedSimpArgs false in
set_option maxRecDepth 100000 in
set_option maxHeartbeats 60000000 in
theorem fourShort_in (n pv a b c d : Int) (pt : Bool) (w : World) (hn0 : 0 ≤ n) (hn1 : n ≤ 4294967295) (hp0 : 0 ≤ pv) (hp1 : pv ≤ 255)
    (ha : 0 ≤ a ∧ a ≤ 255) (hb : 0 ≤ b ∧ b ≤ 255) (hc : 0 ≤ c ∧ c ≤ 255) (hd : 0 ≤ d ∧ d ≤ 255) (hpow : PowTab w) (hbru : BruTab w) :
    Calls Tryd.prog 5 #[.int .u32 n, .int .u8 pv, .agg #[.int .u8 a, .int .u8 b, .int .u8 c, .int .u8 d], .bool pt] w fun e w' => e = .returned (.bool true) ∧ Below w.heap.size w w' := by
  obtain ⟨L, hL, hL3⟩ : ∃ L : Nat, pv % 4 = (L : Int) ∧ L ≤ 3 := ⟨(pv % 4).toNat, by omega, by omega⟩
  obtain ⟨N, hN⟩ : ∃ N : Nat, n = (N : Int) := ⟨n.toNat, by omega⟩
  subst hN
  have HP0 := Lib.hid (show PowTab (w.alloc (.cells #[.int .u8 a, .int .u8 b, .int .u8 c, .int .u8 d] 33)) from Lib.tabIs_alloc hpow _)
  have HR0 := Lib.hid (show BruTab (w.alloc (.cells #[.int .u8 a, .int .u8 b, .int .u8 c, .int .u8 d] 33)) from Lib.tabIs_alloc hbru _)
  have hb0 : Below w.heap.size w (w.alloc (.cells #[.int .u8 a, .int .u8 b, .int .u8 c, .int .u8 d] 33)) := (Below.refl _ _).alloc (Nat.le_refl _) _
  have hcell : ∀ i, i < 4 → (w.alloc (.cells #[.int .u8 a, .int .u8 b, .int .u8 c, .int .u8 d] 33)).cell? ⟨w.heap.size, i, none⟩ = some (.int .u8 (nth4 a b c d i)) := by
    intro i hi
    rcases (show i = 0 ∨ i = 1 ∨ i = 2 ∨ i = 3 from by omega) with rfl | rfl | rfl | rfl <;> simp [nth4]
  have hg : w.heap.size < (w.alloc (.cells #[.int .u8 a, .int .u8 b, .int .u8 c, .int .u8 d] 33)).heap.size := by simp
  have HC := Lib.hid hcell
  have HBB := Lib.hid (show ∀ i, i < 4 → 0 ≤ nth4 a b c d i ∧ nth4 a b c d i ≤ 255 from by
    intro i hi
    rcases (show i = 0 ∨ i = 1 ∨ i = 2 ∨ i = 3 from by omega) with rfl | rfl | rfl | rfl <;> simp only [nth4] <;> assumption)
  clear hpow hbru hcell ha hb hc hd
  go_enter Tryd.func5, Tryd.ntmps5
  go_wp2_with fail
  refine (awake04_any _).mono ?_
  rintro e x1 ⟨rfl, hb1⟩
  have hb2 := hb1
  have HP1 := Lib.hid (powTab_below HP0.out hb1)
  have HR1 := Lib.hid (bruTab_below HR0.out hb1)
  have hc1 : Below w.heap.size w x1 := hb0.trans (hb1.mono hb0.size)
  have HC0 := Lib.hid hc1
  clear hc1
  have HC1 := Lib.hid (show ∀ i, i < 4 → x1.cell? ⟨w.heap.size, i, none⟩ = some (.int .u8 (nth4 a b c d i)) from fun i hi => (hb2.cell (p := ⟨w.heap.size, i, none⟩) hg).trans (HC.out i hi))
  have hg1 : w.heap.size < x1.heap.size := Nat.lt_of_lt_of_le hg hb2.size
  generalize hgB : w.heap.size = gB at *
  clear hb0 hb1 hb2 hg
  have HL := Lib.hid hL
  go_wp2
  clear hL
  go_loopw [10, 11, 25] (fun s rv iv wr => ∃ (i r : Nat) (T : List UInt8), s = .string ⟨T.toArray⟩ ∧ rv = .int .u64 r ∧ iv = .int .i64 i ∧ i ≤ L + 1 ∧ r ≤ 4294967295 ∧ T.length ≤ 300 ∧ Hid (ShRel L N i r T) ∧ Hid (PowTab wr) ∧ Hid (BruTab wr) ∧ Below x1.heap.size x1 wr) (fun _ _ iv _ => L + 1 - (intOf iv).toNat)
  case atStart => exact ⟨0, N, [], rfl, rfl, rfl, by omega, by omega, by simp, ⟨fun _ => ⟨short_start _ _, by show N < 256 ^ 4; omega⟩, fun h => by omega, by simp⟩, HP1, HR1, Below.refl _ _⟩
  case round =>
    obtain ⟨i, r, T, rfl, rfl, rfl, hi, hr, hT, HS, HP, HR, hbw⟩ := hrel
    by_cases hiL : i ≤ L
    · have hcx : wr.cell? ⟨gB, i, none⟩ = some (.int .u8 (nth4 a b c d i)) := (hbw.cell (p := ⟨gB, i, none⟩) hg1).trans (HC1.out i (by omega))
      obtain ⟨bv, hbv⟩ : ∃ bv, nth4 a b c d i = bv := ⟨_, rfl⟩
      have hbb := HBB.out i (by omega)
      rw [hbv] at hcx hbb
      obtain ⟨hb0, hb1⟩ := hbb
      have hgw : gB < wr.heap.size := Nat.lt_of_lt_of_le hg1 hbw.size
      clear hbv
      by_cases hl : i = L
      · have hlL : L ≤ i := by omega
        have hlt : ¬ (i : Int) < (L : Int) := by omega
        clear hl
        rcases (show bv % 3 = 0 ∨ bv % 3 = 1 ∨ bv % 3 = 2 from by omega) with hq | hq | hq
        · have hi4 : (i : Int) < 4 := by omega
          have hi0 : (0 : Int) ≤ (i : Int) := by omega
          have htm : bv.tmod 3 = 0 := by rw [Int.tmod_eq_emod_of_nonneg hb0]; exact hq
          go_wp2
          refine wp_region_held_drew (S := fun w' => w'.cell? ⟨gB, i, none⟩ = some (.int .u8 bv)) (by kernel_rfl) ?_ (fun hHeld => ?_)
          · (try dsimp only)
            go_keep
          refine wpAnyH_take (i := 0) (v := ?_) rfl (by kernel_rfl) (by kernel_rfl) (by kernel_rfl) (fun _ _ _ h => h) (Or.inl ⟨by rfl, ?_⟩) hHeld ?_
          rotate_left
          · intro w hSw
            (try dsimp only at hSw)
            go_simp
            try with_reducible rfl
          try simp only [Act.put, List.setIfInBounds_toArray, List.set_cons_zero, List.set_cons_succ]
          refine wpAnyH_take (i := 2) (v := ?_) rfl (by kernel_rfl) (by kernel_rfl) (by kernel_rfl) (fun _ _ _ h => h) (Or.inl ⟨by rfl, ?_⟩) hHeld ?_
          rotate_left
          · intro w hSw
            (try dsimp only at hSw)
            go_simp
            try with_reducible rfl
          try simp only [Act.put, List.setIfInBounds_toArray, List.set_cons_zero, List.set_cons_succ]
          refine wpAnyH_take (i := 3) (v := ?_) rfl (by kernel_rfl) (by kernel_rfl) (by kernel_rfl) (fun _ _ _ h => h) (Or.inl ⟨by rfl, ?_⟩) hHeld ?_
          rotate_left
          · intro w hSw
            (try dsimp only at hSw)
            go_simp
            try with_reducible rfl
          try simp only [Act.put, List.setIfInBounds_toArray, List.set_cons_zero, List.set_cons_succ]
          refine wpAnyH_take (i := 4) (v := ?_) rfl (by kernel_rfl) (by kernel_rfl) (by kernel_rfl) (fun _ _ _ h => h) (Or.inl ⟨by rfl, ?_⟩) hHeld ?_
          rotate_left
          · intro w hSw
            (try dsimp only at hSw)
            go_simp
            try with_reducible rfl
          try simp only [Act.put, List.setIfInBounds_toArray, List.set_cons_zero, List.set_cons_succ]
          refine wpAnyH_take (i := 5) (v := ?_) rfl (by kernel_rfl) (by kernel_rfl) (by kernel_rfl) (fun _ _ _ h => h) (Or.inl ⟨by rfl, ?_⟩) hHeld ?_
          rotate_left
          · intro w hSw
            (try dsimp only at hSw)
            go_simp
            try with_reducible rfl
          try simp only [Act.put, List.setIfInBounds_toArray, List.set_cons_zero, List.set_cons_succ]
          refine wpAnyH_take (i := 8) (v := ?_) rfl (by kernel_rfl) (by kernel_rfl) (by kernel_rfl) (fun _ _ _ h => h) (Or.inl ⟨by rfl, ?_⟩) hHeld ?_
          rotate_left
          · intro w hSw
            (try dsimp only at hSw)
            go_simp
            try with_reducible rfl
          try simp only [Act.put, List.setIfInBounds_toArray, List.set_cons_zero, List.set_cons_succ]
          refine wpAnyH_take (i := 10) (v := ?_) rfl (by kernel_rfl) (by kernel_rfl) (by kernel_rfl) (fun _ _ _ h => h) (Or.inl ⟨by rfl, ?_⟩) hHeld ?_
          rotate_left
          · intro w hSw
            (try dsimp only at hSw)
            go_simp
            try with_reducible rfl
          try simp only [Act.put, List.setIfInBounds_toArray, List.set_cons_zero, List.set_cons_succ]
          refine wpAnyH_take (i := 11) (v := ?_) rfl (by kernel_rfl) (by kernel_rfl) (by kernel_rfl) (fun _ _ _ h => h) (Or.inl ⟨by rfl, ?_⟩) hHeld ?_
          rotate_left
          · intro w hSw
            (try dsimp only at hSw)
            go_simp
            try with_reducible rfl
          try simp only [Act.put, List.setIfInBounds_toArray, List.set_cons_zero, List.set_cons_succ]
          refine wpAnyH_take (i := 12) (v := ?_) rfl (by kernel_rfl) (by kernel_rfl) (by kernel_rfl) (fun _ _ _ h => h) (Or.inl ⟨by rfl, ?_⟩) hHeld ?_
          rotate_left
          · intro w hSw
            (try dsimp only at hSw)
            go_simp
            try with_reducible rfl
          try simp only [Act.put, List.setIfInBounds_toArray, List.set_cons_zero, List.set_cons_succ]
          refine wpAnyH_take (i := 13) (v := ?_) rfl (by kernel_rfl) (by kernel_rfl) (by kernel_rfl) (fun _ _ _ h => h) (Or.inl ⟨by rfl, ?_⟩) hHeld ?_
          rotate_left
          · intro w hSw
            (try dsimp only at hSw)
            go_simp
            try with_reducible rfl
          try simp only [Act.put, List.setIfInBounds_toArray, List.set_cons_zero, List.set_cons_succ]
          refine wpAnyH_ready (rs := [1, 9]) (by kernel_rfl) (by simp) ?_
          refine AllReadyH.cons rfl (fun K hK => ?_) ?_
          · go_simp
            refine hK.out _ _ ?_ (fun h1 => ?_)
            · (try dsimp only); go_keep
            clear hK K
            try simp only [Act.put, List.setIfInBounds_toArray, List.set_cons_zero, List.set_cons_succ]
            have h1s : (wr.drew.alloc (Obj.cells #[.string ⟨#[]⟩, .string ⟨#[48]⟩, .string ⟨#[48, 120]⟩] 9)).cell? ⟨gB, i, none⟩ = some (.int .u8 bv) ∧ (wr.drew.alloc (Obj.cells #[.string ⟨#[]⟩, .string ⟨#[48]⟩, .string ⟨#[48, 120]⟩] 9)).cell? ⟨wr.heap.size, 0, none⟩ = some (.string ⟨#[]⟩) := ⟨h1, cell_new1 _ _ _ _ _ rfl⟩
            refine wpAnyH_weaken (S' := fun w' => (w'.cell? ⟨gB, i, none⟩ = some (.int .u8 bv)) ∧ w'.cell? ⟨wr.heap.size, 0, none⟩ = some (.string ⟨#[]⟩)) (fun w' h => h.1) _ _ _ _ ?_
            refine wpAnyH_take (i := 6) (v := ?_) rfl (by kernel_rfl) (by kernel_rfl) (by kernel_rfl) (fun _ _ _ h => h) (Or.inl ⟨by rfl, ?_⟩) h1s ?_
            rotate_left
            · intro w hSw
              (try dsimp only at hSw)
              go_simp
              try with_reducible rfl
            try simp only [Act.put, List.setIfInBounds_toArray, List.set_cons_zero, List.set_cons_succ]
            refine wpAnyH_take (i := 7) (v := ?_) rfl (by kernel_rfl) (by kernel_rfl) (by kernel_rfl) (fun _ _ _ h => h) (Or.inl ⟨by rfl, ?_⟩) h1s ?_
            rotate_left
            · intro w hSw
              (try dsimp only at hSw)
              go_simp
              try with_reducible rfl
            try simp only [Act.put, List.setIfInBounds_toArray, List.set_cons_zero, List.set_cons_succ]
            refine wpAnyH_ready (rs := [9]) (by kernel_rfl) (by simp) ?_
            refine AllReadyH.cons rfl (fun K hK => ?_) AllReadyH.nil
            go_simp
            refine hK.out _ _ ?_ (fun h2 => ?_)
            · (try dsimp only); exact ⟨by simp [*, World.cell?_alloc_some], by simp [*, World.cell?_alloc_some]⟩
            clear hK K
            try simp only [Act.put, List.setIfInBounds_toArray, List.set_cons_zero, List.set_cons_succ]
            have h2s : (((wr.drew.alloc (Obj.cells #[.string ⟨#[]⟩, .string ⟨#[48]⟩, .string ⟨#[48, 120]⟩] 9)).alloc (Obj.cells #[.int .i64 10, .int .i64 8, .int .i64 16] 3)).cell? ⟨gB, i, none⟩ = some (.int .u8 bv) ∧ ((wr.drew.alloc (Obj.cells #[.string ⟨#[]⟩, .string ⟨#[48]⟩, .string ⟨#[48, 120]⟩] 9)).alloc (Obj.cells #[.int .i64 10, .int .i64 8, .int .i64 16] 3)).cell? ⟨wr.heap.size, 0, none⟩ = some (.string ⟨#[]⟩)) ∧ ((wr.drew.alloc (Obj.cells #[.string ⟨#[]⟩, .string ⟨#[48]⟩, .string ⟨#[48, 120]⟩] 9)).alloc (Obj.cells #[.int .i64 10, .int .i64 8, .int .i64 16] 3)).cell? ⟨wr.heap.size + 1, 0, none⟩ = some (.int .i64 10) := ⟨h2, cell_new2 _ _ _ _ _ _ rfl⟩
            refine wpAnyH_weaken (S' := fun w' => ((w'.cell? ⟨gB, i, none⟩ = some (.int .u8 bv)) ∧ w'.cell? ⟨wr.heap.size, 0, none⟩ = some (.string ⟨#[]⟩)) ∧ w'.cell? ⟨wr.heap.size + 1, 0, none⟩ = some (.int .i64 10)) (fun w' h => h.1) _ _ _ _ ?_
            refine wpAnyH_take (i := 14) (v := ?_) rfl (by kernel_rfl) (by kernel_rfl) (by kernel_rfl) (fun _ _ _ h => h) (Or.inl ⟨by rfl, ?_⟩) h2s ?_
            rotate_left
            · intro w hSw
              (try dsimp only at hSw)
              go_simp
              try with_reducible rfl
            try simp only [Act.put, List.setIfInBounds_toArray, List.set_cons_zero, List.set_cons_succ]
            refine wpAnyH_take (i := 15) (v := ?_) rfl (by kernel_rfl) (by kernel_rfl) (by kernel_rfl) (fun _ _ _ h => h) (Or.inl ⟨by rfl, ?_⟩) h2s ?_
            rotate_left
            · intro w hSw
              (try dsimp only at hSw)
              go_simp
              try with_reducible rfl
            try simp only [Act.put, List.setIfInBounds_toArray, List.set_cons_zero, List.set_cons_succ]
            refine wpAnyH_ready (rs := [16]) (by kernel_rfl) (by simp) ?_
            refine AllReadyH.cons rfl (fun K hK => ?_) AllReadyH.nil
            go_simp
            go_at_call 8
            refine (fmtP0 r (by omega) _ (Lib.tabIs_alloc (Lib.tabIs_alloc (show PowTab wr.drew from HP.out) _) _) (Lib.tabIs_alloc (Lib.tabIs_alloc (show BruTab wr.drew from HR.out) _) _)).mono ?_
            rintro e w2 ⟨D, rfl, hD, hDl, hbc⟩
            have HD := Lib.hid hD
            clear hD
            (try go_wp2_with fail)
            refine hK.out _ _ ?_ (fun h3 => ?_)
            · exact ⟨⟨(hbc.cell (p := ⟨gB, i, none⟩) (by simp; omega)).trans h2s.1.1, (hbc.cell (p := ⟨wr.heap.size, 0, none⟩) (by simp; omega)).trans h2s.1.2⟩, (hbc.cell (p := ⟨wr.heap.size + 1, 0, none⟩) (by simp)).trans h2s.2⟩
            clear hK K
            try simp only [Act.put, List.setIfInBounds_toArray, List.set_cons_zero, List.set_cons_succ]
            refine wpAnyH_take (i := 17) (v := ?_) rfl (by kernel_rfl) (by kernel_rfl) (by kernel_rfl) (fun _ _ _ h => h) (Or.inl ⟨by rfl, ?_⟩) h3 ?_
            rotate_left
            · intro w hSw
              (try dsimp only at hSw)
              go_simp
              first | with_reducible rfl | (rw [if_neg (by omega)]) | (rw [if_neg (by simp; omega)])
            try simp only [Act.put, List.setIfInBounds_toArray, List.set_cons_zero, List.set_cons_succ]
            refine wpAnyH_take (i := 18) (v := ?_) rfl (by kernel_rfl) (by kernel_rfl) (by kernel_rfl) (fun _ _ _ h => h) (Or.inl ⟨by rfl, ?_⟩) h3 ?_
            rotate_left
            · intro w hSw
              (try dsimp only at hSw)
              go_simp
              first | with_reducible rfl | (rw [if_neg (by omega)]) | (rw [if_neg (by simp; omega)])
            try simp only [Act.put, List.setIfInBounds_toArray, List.set_cons_zero, List.set_cons_succ]
            refine wpAnyH_take (i := 19) (v := ?_) rfl (by kernel_rfl) (by kernel_rfl) (by kernel_rfl) (fun _ _ _ h => h) (Or.inl ⟨by rfl, ?_⟩) h3 ?_
            rotate_left
            · intro w hSw
              (try dsimp only at hSw)
              go_simp
              try with_reducible rfl
            try simp only [Act.put, List.setIfInBounds_toArray, List.set_cons_zero, List.set_cons_succ]
            refine wpAnyH_done (by kernel_rfl) ?_ _
            have hfin : Below wr.heap.size wr w2 := bl1 hbc
            have HP2 := Lib.hid (powTab_below HP.out hfin)
            have HR2 := Lib.hid (bruTab_below HR.out hfin)
            have hbw2 : Below x1.heap.size x1 w2 := hbw.trans (hfin.mono hbw.size)
            have HS2 := Lib.hid (sh_last HS.out (by omega) hL3 HD.out)
            have hcat : ByteArray.mk T.toArray ++ (ByteArray.mk #[] ++ ByteArray.mk D.toArray) = ⟨(T ++ ([] ++ D)).toArray⟩ := by rw [show ByteArray.mk #[] = ByteArray.mk ([] : List UInt8).toArray from rfl, mk_append, mk_append]
            have hTl : (T ++ ([] ++ D)).length ≤ 300 := HS2.out.2.2
            clear hbc
            go_wp2
            go_roundw
            case rel => exact ⟨i + 1, r, T ++ ([] ++ D), (by first | exact congrArg Value.string hcat | (rw [← hcat]; rfl)), rfl, by go_num, by omega, hr, hTl, HS2, HP2, HR2, hbw2⟩
            case measure => simp [intOf]; omega
          · refine AllReadyH.cons rfl (fun K hK => ?_) AllReadyH.nil
            go_simp
            refine hK.out _ _ ?_ (fun h1 => ?_)
            · (try dsimp only); go_keep
            clear hK K
            try simp only [Act.put, List.setIfInBounds_toArray, List.set_cons_zero, List.set_cons_succ]
            have h1s : (wr.drew.alloc (Obj.cells #[.int .i64 10, .int .i64 8, .int .i64 16] 3)).cell? ⟨gB, i, none⟩ = some (.int .u8 bv) ∧ (wr.drew.alloc (Obj.cells #[.int .i64 10, .int .i64 8, .int .i64 16] 3)).cell? ⟨wr.heap.size, 0, none⟩ = some (.int .i64 10) := ⟨h1, cell_new1 _ _ _ _ _ rfl⟩
            refine wpAnyH_weaken (S' := fun w' => (w'.cell? ⟨gB, i, none⟩ = some (.int .u8 bv)) ∧ w'.cell? ⟨wr.heap.size, 0, none⟩ = some (.int .i64 10)) (fun w' h => h.1) _ _ _ _ ?_
            refine wpAnyH_take (i := 14) (v := ?_) rfl (by kernel_rfl) (by kernel_rfl) (by kernel_rfl) (fun _ _ _ h => h) (Or.inl ⟨by rfl, ?_⟩) h1s ?_
            rotate_left
            · intro w hSw
              (try dsimp only at hSw)
              go_simp
              try with_reducible rfl
            try simp only [Act.put, List.setIfInBounds_toArray, List.set_cons_zero, List.set_cons_succ]
            refine wpAnyH_take (i := 15) (v := ?_) rfl (by kernel_rfl) (by kernel_rfl) (by kernel_rfl) (fun _ _ _ h => h) (Or.inl ⟨by rfl, ?_⟩) h1s ?_
            rotate_left
            · intro w hSw
              (try dsimp only at hSw)
              go_simp
              try with_reducible rfl
            try simp only [Act.put, List.setIfInBounds_toArray, List.set_cons_zero, List.set_cons_succ]
            refine wpAnyH_ready (rs := [1, 16]) (by kernel_rfl) (by simp) ?_
            refine AllReadyH.cons rfl (fun K hK => ?_) ?_
            · go_simp
              refine hK.out _ _ ?_ (fun h2 => ?_)
              · (try dsimp only); exact ⟨by simp [*, World.cell?_alloc_some], by simp [*, World.cell?_alloc_some]⟩
              clear hK K
              try simp only [Act.put, List.setIfInBounds_toArray, List.set_cons_zero, List.set_cons_succ]
              have h2s : (((wr.drew.alloc (Obj.cells #[.int .i64 10, .int .i64 8, .int .i64 16] 3)).alloc (Obj.cells #[.string ⟨#[]⟩, .string ⟨#[48]⟩, .string ⟨#[48, 120]⟩] 9)).cell? ⟨gB, i, none⟩ = some (.int .u8 bv) ∧ ((wr.drew.alloc (Obj.cells #[.int .i64 10, .int .i64 8, .int .i64 16] 3)).alloc (Obj.cells #[.string ⟨#[]⟩, .string ⟨#[48]⟩, .string ⟨#[48, 120]⟩] 9)).cell? ⟨wr.heap.size, 0, none⟩ = some (.int .i64 10)) ∧ ((wr.drew.alloc (Obj.cells #[.int .i64 10, .int .i64 8, .int .i64 16] 3)).alloc (Obj.cells #[.string ⟨#[]⟩, .string ⟨#[48]⟩, .string ⟨#[48, 120]⟩] 9)).cell? ⟨wr.heap.size + 1, 0, none⟩ = some (.string ⟨#[]⟩) := ⟨h2, cell_new2 _ _ _ _ _ _ rfl⟩
              refine wpAnyH_weaken (S' := fun w' => ((w'.cell? ⟨gB, i, none⟩ = some (.int .u8 bv)) ∧ w'.cell? ⟨wr.heap.size, 0, none⟩ = some (.int .i64 10)) ∧ w'.cell? ⟨wr.heap.size + 1, 0, none⟩ = some (.string ⟨#[]⟩)) (fun w' h => h.1) _ _ _ _ ?_
              refine wpAnyH_take (i := 6) (v := ?_) rfl (by kernel_rfl) (by kernel_rfl) (by kernel_rfl) (fun _ _ _ h => h) (Or.inl ⟨by rfl, ?_⟩) h2s ?_
              rotate_left
              · intro w hSw
                (try dsimp only at hSw)
                go_simp
                try with_reducible rfl
              try simp only [Act.put, List.setIfInBounds_toArray, List.set_cons_zero, List.set_cons_succ]
              refine wpAnyH_take (i := 7) (v := ?_) rfl (by kernel_rfl) (by kernel_rfl) (by kernel_rfl) (fun _ _ _ h => h) (Or.inl ⟨by rfl, ?_⟩) h2s ?_
              rotate_left
              · intro w hSw
                (try dsimp only at hSw)
                go_simp
                try with_reducible rfl
              try simp only [Act.put, List.setIfInBounds_toArray, List.set_cons_zero, List.set_cons_succ]
              refine wpAnyH_ready (rs := [16]) (by kernel_rfl) (by simp) ?_
              refine AllReadyH.cons rfl (fun K hK => ?_) AllReadyH.nil
              go_simp
              go_at_call 8
              refine (fmtP0 r (by omega) _ (Lib.tabIs_alloc (Lib.tabIs_alloc (show PowTab wr.drew from HP.out) _) _) (Lib.tabIs_alloc (Lib.tabIs_alloc (show BruTab wr.drew from HR.out) _) _)).mono ?_
              rintro e w2 ⟨D, rfl, hD, hDl, hbc⟩
              have HD := Lib.hid hD
              clear hD
              (try go_wp2_with fail)
              refine hK.out _ _ ?_ (fun h3 => ?_)
              · exact ⟨⟨(hbc.cell (p := ⟨gB, i, none⟩) (by simp; omega)).trans h2s.1.1, (hbc.cell (p := ⟨wr.heap.size, 0, none⟩) (by simp; omega)).trans h2s.1.2⟩, (hbc.cell (p := ⟨wr.heap.size + 1, 0, none⟩) (by simp)).trans h2s.2⟩
              clear hK K
              try simp only [Act.put, List.setIfInBounds_toArray, List.set_cons_zero, List.set_cons_succ]
              refine wpAnyH_take (i := 17) (v := ?_) rfl (by kernel_rfl) (by kernel_rfl) (by kernel_rfl) (fun _ _ _ h => h) (Or.inl ⟨by rfl, ?_⟩) h3 ?_
              rotate_left
              · intro w hSw
                (try dsimp only at hSw)
                go_simp
                first | with_reducible rfl | (rw [if_neg (by omega)]) | (rw [if_neg (by simp; omega)])
              try simp only [Act.put, List.setIfInBounds_toArray, List.set_cons_zero, List.set_cons_succ]
              refine wpAnyH_take (i := 18) (v := ?_) rfl (by kernel_rfl) (by kernel_rfl) (by kernel_rfl) (fun _ _ _ h => h) (Or.inl ⟨by rfl, ?_⟩) h3 ?_
              rotate_left
              · intro w hSw
                (try dsimp only at hSw)
                go_simp
                first | with_reducible rfl | (rw [if_neg (by omega)]) | (rw [if_neg (by simp; omega)])
              try simp only [Act.put, List.setIfInBounds_toArray, List.set_cons_zero, List.set_cons_succ]
              refine wpAnyH_take (i := 19) (v := ?_) rfl (by kernel_rfl) (by kernel_rfl) (by kernel_rfl) (fun _ _ _ h => h) (Or.inl ⟨by rfl, ?_⟩) h3 ?_
              rotate_left
              · intro w hSw
                (try dsimp only at hSw)
                go_simp
                try with_reducible rfl
              try simp only [Act.put, List.setIfInBounds_toArray, List.set_cons_zero, List.set_cons_succ]
              refine wpAnyH_done (by kernel_rfl) ?_ _
              have hfin : Below wr.heap.size wr w2 := bl1 hbc
              have HP2 := Lib.hid (powTab_below HP.out hfin)
              have HR2 := Lib.hid (bruTab_below HR.out hfin)
              have hbw2 : Below x1.heap.size x1 w2 := hbw.trans (hfin.mono hbw.size)
              have HS2 := Lib.hid (sh_last HS.out (by omega) hL3 HD.out)
              have hcat : ByteArray.mk T.toArray ++ (ByteArray.mk #[] ++ ByteArray.mk D.toArray) = ⟨(T ++ ([] ++ D)).toArray⟩ := by rw [show ByteArray.mk #[] = ByteArray.mk ([] : List UInt8).toArray from rfl, mk_append, mk_append]
              have hTl : (T ++ ([] ++ D)).length ≤ 300 := HS2.out.2.2
              clear hbc
              go_wp2
              go_roundw
              case rel => exact ⟨i + 1, r, T ++ ([] ++ D), (by first | exact congrArg Value.string hcat | (rw [← hcat]; rfl)), rfl, by go_num, by omega, hr, hTl, HS2, HP2, HR2, hbw2⟩
              case measure => simp [intOf]; omega
            · refine AllReadyH.cons rfl (fun K hK => ?_) AllReadyH.nil
              go_simp
              go_at_call 8
              refine (fmtP0 r (by omega) _ (Lib.tabIs_alloc (show PowTab wr.drew from HP.out) _) (Lib.tabIs_alloc (show BruTab wr.drew from HR.out) _)).mono ?_
              rintro e w2 ⟨D, rfl, hD, hDl, hbc⟩
              have HD := Lib.hid hD
              clear hD
              (try go_wp2_with fail)
              refine hK.out _ _ ?_ (fun h2 => ?_)
              · exact ⟨(hbc.cell (p := ⟨gB, i, none⟩) (by simp; omega)).trans h1s.1, (hbc.cell (p := ⟨wr.heap.size, 0, none⟩) (by simp)).trans h1s.2⟩
              clear hK K
              try simp only [Act.put, List.setIfInBounds_toArray, List.set_cons_zero, List.set_cons_succ]
              refine wpAnyH_ready (rs := [1]) (by kernel_rfl) (by simp) ?_
              refine AllReadyH.cons rfl (fun K hK => ?_) AllReadyH.nil
              go_simp
              refine hK.out _ _ ?_ (fun h3 => ?_)
              · (try dsimp only); exact ⟨by simp [*, World.cell?_alloc_some], by simp [*, World.cell?_alloc_some]⟩
              clear hK K
              try simp only [Act.put, List.setIfInBounds_toArray, List.set_cons_zero, List.set_cons_succ]
              have h3s : ((w2.alloc (Obj.cells #[.string ⟨#[]⟩, .string ⟨#[48]⟩, .string ⟨#[48, 120]⟩] 9)).cell? ⟨gB, i, none⟩ = some (.int .u8 bv) ∧ (w2.alloc (Obj.cells #[.string ⟨#[]⟩, .string ⟨#[48]⟩, .string ⟨#[48, 120]⟩] 9)).cell? ⟨wr.heap.size, 0, none⟩ = some (.int .i64 10)) ∧ (w2.alloc (Obj.cells #[.string ⟨#[]⟩, .string ⟨#[48]⟩, .string ⟨#[48, 120]⟩] 9)).cell? ⟨w2.heap.size, 0, none⟩ = some (.string ⟨#[]⟩) := ⟨h3, cell_new0 _ _ _ _ _ rfl⟩
              refine wpAnyH_weaken (S' := fun w' => ((w'.cell? ⟨gB, i, none⟩ = some (.int .u8 bv)) ∧ w'.cell? ⟨wr.heap.size, 0, none⟩ = some (.int .i64 10)) ∧ w'.cell? ⟨w2.heap.size, 0, none⟩ = some (.string ⟨#[]⟩)) (fun w' h => h.1) _ _ _ _ ?_
              refine wpAnyH_take (i := 6) (v := ?_) rfl (by kernel_rfl) (by kernel_rfl) (by kernel_rfl) (fun _ _ _ h => h) (Or.inl ⟨by rfl, ?_⟩) h3s ?_
              rotate_left
              · intro w hSw
                (try dsimp only at hSw)
                go_simp
                try with_reducible rfl
              try simp only [Act.put, List.setIfInBounds_toArray, List.set_cons_zero, List.set_cons_succ]
              refine wpAnyH_take (i := 7) (v := ?_) rfl (by kernel_rfl) (by kernel_rfl) (by kernel_rfl) (fun _ _ _ h => h) (Or.inl ⟨by rfl, ?_⟩) h3s ?_
              rotate_left
              · intro w hSw
                (try dsimp only at hSw)
                go_simp
                try with_reducible rfl
              try simp only [Act.put, List.setIfInBounds_toArray, List.set_cons_zero, List.set_cons_succ]
              refine wpAnyH_take (i := 17) (v := ?_) rfl (by kernel_rfl) (by kernel_rfl) (by kernel_rfl) (fun _ _ _ h => h) (Or.inl ⟨by rfl, ?_⟩) h3s ?_
              rotate_left
              · intro w hSw
                (try dsimp only at hSw)
                go_simp
                first | with_reducible rfl | (rw [if_neg (by omega)]) | (rw [if_neg (by simp; omega)])
              try simp only [Act.put, List.setIfInBounds_toArray, List.set_cons_zero, List.set_cons_succ]
              refine wpAnyH_take (i := 18) (v := ?_) rfl (by kernel_rfl) (by kernel_rfl) (by kernel_rfl) (fun _ _ _ h => h) (Or.inl ⟨by rfl, ?_⟩) h3s ?_
              rotate_left
              · intro w hSw
                (try dsimp only at hSw)
                go_simp
                first | with_reducible rfl | (rw [if_neg (by omega)]) | (rw [if_neg (by simp; omega)])
              try simp only [Act.put, List.setIfInBounds_toArray, List.set_cons_zero, List.set_cons_succ]
              refine wpAnyH_take (i := 19) (v := ?_) rfl (by kernel_rfl) (by kernel_rfl) (by kernel_rfl) (fun _ _ _ h => h) (Or.inl ⟨by rfl, ?_⟩) h3s ?_
              rotate_left
              · intro w hSw
                (try dsimp only at hSw)
                go_simp
                try with_reducible rfl
              try simp only [Act.put, List.setIfInBounds_toArray, List.set_cons_zero, List.set_cons_succ]
              refine wpAnyH_done (by kernel_rfl) ?_ _
              have hfin : Below wr.heap.size wr (w2.alloc (Obj.cells #[.string ⟨#[]⟩, .string ⟨#[48]⟩, .string ⟨#[48, 120]⟩] 9)) := bl2 _ hbc
              have HP2 := Lib.hid (powTab_below HP.out hfin)
              have HR2 := Lib.hid (bruTab_below HR.out hfin)
              have hbw2 : Below x1.heap.size x1 (w2.alloc (Obj.cells #[.string ⟨#[]⟩, .string ⟨#[48]⟩, .string ⟨#[48, 120]⟩] 9)) := hbw.trans (hfin.mono hbw.size)
              have HS2 := Lib.hid (sh_last HS.out (by omega) hL3 HD.out)
              have hcat : ByteArray.mk T.toArray ++ (ByteArray.mk #[] ++ ByteArray.mk D.toArray) = ⟨(T ++ ([] ++ D)).toArray⟩ := by rw [show ByteArray.mk #[] = ByteArray.mk ([] : List UInt8).toArray from rfl, mk_append, mk_append]
              have hTl : (T ++ ([] ++ D)).length ≤ 300 := HS2.out.2.2
              clear hbc
              go_wp2
              go_roundw
              case rel => exact ⟨i + 1, r, T ++ ([] ++ D), (by first | exact congrArg Value.string hcat | (rw [← hcat]; rfl)), rfl, by go_num, by omega, hr, hTl, HS2, HP2, HR2, hbw2⟩
              case measure => simp [intOf]; omega
        · have hi4 : (i : Int) < 4 := by omega
          have hi0 : (0 : Int) ≤ (i : Int) := by omega
          have htm : bv.tmod 3 = 1 := by rw [Int.tmod_eq_emod_of_nonneg hb0]; exact hq
          go_wp2
          refine wp_region_held_drew (S := fun w' => w'.cell? ⟨gB, i, none⟩ = some (.int .u8 bv)) (by kernel_rfl) ?_ (fun hHeld => ?_)
          · (try dsimp only)
            go_keep
          refine wpAnyH_take (i := 0) (v := ?_) rfl (by kernel_rfl) (by kernel_rfl) (by kernel_rfl) (fun _ _ _ h => h) (Or.inl ⟨by rfl, ?_⟩) hHeld ?_
          rotate_left
          · intro w hSw
            (try dsimp only at hSw)
            go_simp
            try with_reducible rfl
          try simp only [Act.put, List.setIfInBounds_toArray, List.set_cons_zero, List.set_cons_succ]
          refine wpAnyH_take (i := 2) (v := ?_) rfl (by kernel_rfl) (by kernel_rfl) (by kernel_rfl) (fun _ _ _ h => h) (Or.inl ⟨by rfl, ?_⟩) hHeld ?_
          rotate_left
          · intro w hSw
            (try dsimp only at hSw)
            go_simp
            try with_reducible rfl
          try simp only [Act.put, List.setIfInBounds_toArray, List.set_cons_zero, List.set_cons_succ]
          refine wpAnyH_take (i := 3) (v := ?_) rfl (by kernel_rfl) (by kernel_rfl) (by kernel_rfl) (fun _ _ _ h => h) (Or.inl ⟨by rfl, ?_⟩) hHeld ?_
          rotate_left
          · intro w hSw
            (try dsimp only at hSw)
            go_simp
            try with_reducible rfl
          try simp only [Act.put, List.setIfInBounds_toArray, List.set_cons_zero, List.set_cons_succ]
          refine wpAnyH_take (i := 4) (v := ?_) rfl (by kernel_rfl) (by kernel_rfl) (by kernel_rfl) (fun _ _ _ h => h) (Or.inl ⟨by rfl, ?_⟩) hHeld ?_
          rotate_left
          · intro w hSw
            (try dsimp only at hSw)
            go_simp
            try with_reducible rfl
          try simp only [Act.put, List.setIfInBounds_toArray, List.set_cons_zero, List.set_cons_succ]
          refine wpAnyH_take (i := 5) (v := ?_) rfl (by kernel_rfl) (by kernel_rfl) (by kernel_rfl) (fun _ _ _ h => h) (Or.inl ⟨by rfl, ?_⟩) hHeld ?_
          rotate_left
          · intro w hSw
            (try dsimp only at hSw)
            go_simp
            try with_reducible rfl
          try simp only [Act.put, List.setIfInBounds_toArray, List.set_cons_zero, List.set_cons_succ]
          refine wpAnyH_take (i := 8) (v := ?_) rfl (by kernel_rfl) (by kernel_rfl) (by kernel_rfl) (fun _ _ _ h => h) (Or.inl ⟨by rfl, ?_⟩) hHeld ?_
          rotate_left
          · intro w hSw
            (try dsimp only at hSw)
            go_simp
            try with_reducible rfl
          try simp only [Act.put, List.setIfInBounds_toArray, List.set_cons_zero, List.set_cons_succ]
          refine wpAnyH_take (i := 10) (v := ?_) rfl (by kernel_rfl) (by kernel_rfl) (by kernel_rfl) (fun _ _ _ h => h) (Or.inl ⟨by rfl, ?_⟩) hHeld ?_
          rotate_left
          · intro w hSw
            (try dsimp only at hSw)
            go_simp
            try with_reducible rfl
          try simp only [Act.put, List.setIfInBounds_toArray, List.set_cons_zero, List.set_cons_succ]
          refine wpAnyH_take (i := 11) (v := ?_) rfl (by kernel_rfl) (by kernel_rfl) (by kernel_rfl) (fun _ _ _ h => h) (Or.inl ⟨by rfl, ?_⟩) hHeld ?_
          rotate_left
          · intro w hSw
            (try dsimp only at hSw)
            go_simp
            try with_reducible rfl
          try simp only [Act.put, List.setIfInBounds_toArray, List.set_cons_zero, List.set_cons_succ]
          refine wpAnyH_take (i := 12) (v := ?_) rfl (by kernel_rfl) (by kernel_rfl) (by kernel_rfl) (fun _ _ _ h => h) (Or.inl ⟨by rfl, ?_⟩) hHeld ?_
          rotate_left
          · intro w hSw
            (try dsimp only at hSw)
            go_simp
            try with_reducible rfl
          try simp only [Act.put, List.setIfInBounds_toArray, List.set_cons_zero, List.set_cons_succ]
          refine wpAnyH_take (i := 13) (v := ?_) rfl (by kernel_rfl) (by kernel_rfl) (by kernel_rfl) (fun _ _ _ h => h) (Or.inl ⟨by rfl, ?_⟩) hHeld ?_
          rotate_left
          · intro w hSw
            (try dsimp only at hSw)
            go_simp
            try with_reducible rfl
          try simp only [Act.put, List.setIfInBounds_toArray, List.set_cons_zero, List.set_cons_succ]
          refine wpAnyH_ready (rs := [1, 9]) (by kernel_rfl) (by simp) ?_
          refine AllReadyH.cons rfl (fun K hK => ?_) ?_
          · go_simp
            refine hK.out _ _ ?_ (fun h1 => ?_)
            · (try dsimp only); go_keep
            clear hK K
            try simp only [Act.put, List.setIfInBounds_toArray, List.set_cons_zero, List.set_cons_succ]
            have h1s : (wr.drew.alloc (Obj.cells #[.string ⟨#[]⟩, .string ⟨#[48]⟩, .string ⟨#[48, 120]⟩] 9)).cell? ⟨gB, i, none⟩ = some (.int .u8 bv) ∧ (wr.drew.alloc (Obj.cells #[.string ⟨#[]⟩, .string ⟨#[48]⟩, .string ⟨#[48, 120]⟩] 9)).cell? ⟨wr.heap.size, 1, none⟩ = some (.string ⟨#[48]⟩) := ⟨h1, cell_new1 _ _ _ _ _ rfl⟩
            refine wpAnyH_weaken (S' := fun w' => (w'.cell? ⟨gB, i, none⟩ = some (.int .u8 bv)) ∧ w'.cell? ⟨wr.heap.size, 1, none⟩ = some (.string ⟨#[48]⟩)) (fun w' h => h.1) _ _ _ _ ?_
            refine wpAnyH_take (i := 6) (v := ?_) rfl (by kernel_rfl) (by kernel_rfl) (by kernel_rfl) (fun _ _ _ h => h) (Or.inl ⟨by rfl, ?_⟩) h1s ?_
            rotate_left
            · intro w hSw
              (try dsimp only at hSw)
              go_simp
              try with_reducible rfl
            try simp only [Act.put, List.setIfInBounds_toArray, List.set_cons_zero, List.set_cons_succ]
            refine wpAnyH_take (i := 7) (v := ?_) rfl (by kernel_rfl) (by kernel_rfl) (by kernel_rfl) (fun _ _ _ h => h) (Or.inl ⟨by rfl, ?_⟩) h1s ?_
            rotate_left
            · intro w hSw
              (try dsimp only at hSw)
              go_simp
              try with_reducible rfl
            try simp only [Act.put, List.setIfInBounds_toArray, List.set_cons_zero, List.set_cons_succ]
            refine wpAnyH_ready (rs := [9]) (by kernel_rfl) (by simp) ?_
            refine AllReadyH.cons rfl (fun K hK => ?_) AllReadyH.nil
            go_simp
            refine hK.out _ _ ?_ (fun h2 => ?_)
            · (try dsimp only); exact ⟨by simp [*, World.cell?_alloc_some], by simp [*, World.cell?_alloc_some]⟩
            clear hK K
            try simp only [Act.put, List.setIfInBounds_toArray, List.set_cons_zero, List.set_cons_succ]
            have h2s : (((wr.drew.alloc (Obj.cells #[.string ⟨#[]⟩, .string ⟨#[48]⟩, .string ⟨#[48, 120]⟩] 9)).alloc (Obj.cells #[.int .i64 10, .int .i64 8, .int .i64 16] 3)).cell? ⟨gB, i, none⟩ = some (.int .u8 bv) ∧ ((wr.drew.alloc (Obj.cells #[.string ⟨#[]⟩, .string ⟨#[48]⟩, .string ⟨#[48, 120]⟩] 9)).alloc (Obj.cells #[.int .i64 10, .int .i64 8, .int .i64 16] 3)).cell? ⟨wr.heap.size, 1, none⟩ = some (.string ⟨#[48]⟩)) ∧ ((wr.drew.alloc (Obj.cells #[.string ⟨#[]⟩, .string ⟨#[48]⟩, .string ⟨#[48, 120]⟩] 9)).alloc (Obj.cells #[.int .i64 10, .int .i64 8, .int .i64 16] 3)).cell? ⟨wr.heap.size + 1, 1, none⟩ = some (.int .i64 8) := ⟨h2, cell_new2 _ _ _ _ _ _ rfl⟩
            refine wpAnyH_weaken (S' := fun w' => ((w'.cell? ⟨gB, i, none⟩ = some (.int .u8 bv)) ∧ w'.cell? ⟨wr.heap.size, 1, none⟩ = some (.string ⟨#[48]⟩)) ∧ w'.cell? ⟨wr.heap.size + 1, 1, none⟩ = some (.int .i64 8)) (fun w' h => h.1) _ _ _ _ ?_
            refine wpAnyH_take (i := 14) (v := ?_) rfl (by kernel_rfl) (by kernel_rfl) (by kernel_rfl) (fun _ _ _ h => h) (Or.inl ⟨by rfl, ?_⟩) h2s ?_
            rotate_left
            · intro w hSw
              (try dsimp only at hSw)
              go_simp
              try with_reducible rfl
            try simp only [Act.put, List.setIfInBounds_toArray, List.set_cons_zero, List.set_cons_succ]
            refine wpAnyH_take (i := 15) (v := ?_) rfl (by kernel_rfl) (by kernel_rfl) (by kernel_rfl) (fun _ _ _ h => h) (Or.inl ⟨by rfl, ?_⟩) h2s ?_
            rotate_left
            · intro w hSw
              (try dsimp only at hSw)
              go_simp
              try with_reducible rfl
            try simp only [Act.put, List.setIfInBounds_toArray, List.set_cons_zero, List.set_cons_succ]
            refine wpAnyH_ready (rs := [16]) (by kernel_rfl) (by simp) ?_
            refine AllReadyH.cons rfl (fun K hK => ?_) AllReadyH.nil
            go_simp
            go_at_call 8
            refine (fmtP1 r (by omega) _ (Lib.tabIs_alloc (Lib.tabIs_alloc (show PowTab wr.drew from HP.out) _) _) (Lib.tabIs_alloc (Lib.tabIs_alloc (show BruTab wr.drew from HR.out) _) _)).mono ?_
            rintro e w2 ⟨D, rfl, hD, hDl, hbc⟩
            have HD := Lib.hid hD
            clear hD
            (try go_wp2_with fail)
            refine hK.out _ _ ?_ (fun h3 => ?_)
            · exact ⟨⟨(hbc.cell (p := ⟨gB, i, none⟩) (by simp; omega)).trans h2s.1.1, (hbc.cell (p := ⟨wr.heap.size, 1, none⟩) (by simp; omega)).trans h2s.1.2⟩, (hbc.cell (p := ⟨wr.heap.size + 1, 1, none⟩) (by simp)).trans h2s.2⟩
            clear hK K
            try simp only [Act.put, List.setIfInBounds_toArray, List.set_cons_zero, List.set_cons_succ]
            refine wpAnyH_take (i := 17) (v := ?_) rfl (by kernel_rfl) (by kernel_rfl) (by kernel_rfl) (fun _ _ _ h => h) (Or.inl ⟨by rfl, ?_⟩) h3 ?_
            rotate_left
            · intro w hSw
              (try dsimp only at hSw)
              go_simp
              first | with_reducible rfl | (rw [if_neg (by omega)]) | (rw [if_neg (by simp; omega)])
            try simp only [Act.put, List.setIfInBounds_toArray, List.set_cons_zero, List.set_cons_succ]
            refine wpAnyH_take (i := 18) (v := ?_) rfl (by kernel_rfl) (by kernel_rfl) (by kernel_rfl) (fun _ _ _ h => h) (Or.inl ⟨by rfl, ?_⟩) h3 ?_
            rotate_left
            · intro w hSw
              (try dsimp only at hSw)
              go_simp
              first | with_reducible rfl | (rw [if_neg (by omega)]) | (rw [if_neg (by simp; omega)])
            try simp only [Act.put, List.setIfInBounds_toArray, List.set_cons_zero, List.set_cons_succ]
            refine wpAnyH_take (i := 19) (v := ?_) rfl (by kernel_rfl) (by kernel_rfl) (by kernel_rfl) (fun _ _ _ h => h) (Or.inl ⟨by rfl, ?_⟩) h3 ?_
            rotate_left
            · intro w hSw
              (try dsimp only at hSw)
              go_simp
              try with_reducible rfl
            try simp only [Act.put, List.setIfInBounds_toArray, List.set_cons_zero, List.set_cons_succ]
            refine wpAnyH_done (by kernel_rfl) ?_ _
            have hfin : Below wr.heap.size wr w2 := bl1 hbc
            have HP2 := Lib.hid (powTab_below HP.out hfin)
            have HR2 := Lib.hid (bruTab_below HR.out hfin)
            have hbw2 : Below x1.heap.size x1 w2 := hbw.trans (hfin.mono hbw.size)
            have HS2 := Lib.hid (sh_last HS.out (by omega) hL3 HD.out)
            have hcat : ByteArray.mk T.toArray ++ (ByteArray.mk #[48] ++ ByteArray.mk D.toArray) = ⟨(T ++ ([48] ++ D)).toArray⟩ := by rw [show ByteArray.mk #[48] = ByteArray.mk ([48] : List UInt8).toArray from rfl, mk_append, mk_append]
            have hTl : (T ++ ([48] ++ D)).length ≤ 300 := HS2.out.2.2
            clear hbc
            go_wp2
            go_roundw
            case rel => exact ⟨i + 1, r, T ++ ([48] ++ D), (by first | exact congrArg Value.string hcat | (rw [← hcat]; rfl)), rfl, by go_num, by omega, hr, hTl, HS2, HP2, HR2, hbw2⟩
            case measure => simp [intOf]; omega
          · refine AllReadyH.cons rfl (fun K hK => ?_) AllReadyH.nil
            go_simp
            refine hK.out _ _ ?_ (fun h1 => ?_)
            · (try dsimp only); go_keep
            clear hK K
            try simp only [Act.put, List.setIfInBounds_toArray, List.set_cons_zero, List.set_cons_succ]
            have h1s : (wr.drew.alloc (Obj.cells #[.int .i64 10, .int .i64 8, .int .i64 16] 3)).cell? ⟨gB, i, none⟩ = some (.int .u8 bv) ∧ (wr.drew.alloc (Obj.cells #[.int .i64 10, .int .i64 8, .int .i64 16] 3)).cell? ⟨wr.heap.size, 1, none⟩ = some (.int .i64 8) := ⟨h1, cell_new1 _ _ _ _ _ rfl⟩
            refine wpAnyH_weaken (S' := fun w' => (w'.cell? ⟨gB, i, none⟩ = some (.int .u8 bv)) ∧ w'.cell? ⟨wr.heap.size, 1, none⟩ = some (.int .i64 8)) (fun w' h => h.1) _ _ _ _ ?_
            refine wpAnyH_take (i := 14) (v := ?_) rfl (by kernel_rfl) (by kernel_rfl) (by kernel_rfl) (fun _ _ _ h => h) (Or.inl ⟨by rfl, ?_⟩) h1s ?_
            rotate_left
            · intro w hSw
              (try dsimp only at hSw)
              go_simp
              try with_reducible rfl
            try simp only [Act.put, List.setIfInBounds_toArray, List.set_cons_zero, List.set_cons_succ]
            refine wpAnyH_take (i := 15) (v := ?_) rfl (by kernel_rfl) (by kernel_rfl) (by kernel_rfl) (fun _ _ _ h => h) (Or.inl ⟨by rfl, ?_⟩) h1s ?_
            rotate_left
            · intro w hSw
              (try dsimp only at hSw)
              go_simp
              try with_reducible rfl
            try simp only [Act.put, List.setIfInBounds_toArray, List.set_cons_zero, List.set_cons_succ]
            refine wpAnyH_ready (rs := [1, 16]) (by kernel_rfl) (by simp) ?_
            refine AllReadyH.cons rfl (fun K hK => ?_) ?_
            · go_simp
              refine hK.out _ _ ?_ (fun h2 => ?_)
              · (try dsimp only); exact ⟨by simp [*, World.cell?_alloc_some], by simp [*, World.cell?_alloc_some]⟩
              clear hK K
              try simp only [Act.put, List.setIfInBounds_toArray, List.set_cons_zero, List.set_cons_succ]
              have h2s : (((wr.drew.alloc (Obj.cells #[.int .i64 10, .int .i64 8, .int .i64 16] 3)).alloc (Obj.cells #[.string ⟨#[]⟩, .string ⟨#[48]⟩, .string ⟨#[48, 120]⟩] 9)).cell? ⟨gB, i, none⟩ = some (.int .u8 bv) ∧ ((wr.drew.alloc (Obj.cells #[.int .i64 10, .int .i64 8, .int .i64 16] 3)).alloc (Obj.cells #[.string ⟨#[]⟩, .string ⟨#[48]⟩, .string ⟨#[48, 120]⟩] 9)).cell? ⟨wr.heap.size, 1, none⟩ = some (.int .i64 8)) ∧ ((wr.drew.alloc (Obj.cells #[.int .i64 10, .int .i64 8, .int .i64 16] 3)).alloc (Obj.cells #[.string ⟨#[]⟩, .string ⟨#[48]⟩, .string ⟨#[48, 120]⟩] 9)).cell? ⟨wr.heap.size + 1, 1, none⟩ = some (.string ⟨#[48]⟩) := ⟨h2, cell_new2 _ _ _ _ _ _ rfl⟩
              refine wpAnyH_weaken (S' := fun w' => ((w'.cell? ⟨gB, i, none⟩ = some (.int .u8 bv)) ∧ w'.cell? ⟨wr.heap.size, 1, none⟩ = some (.int .i64 8)) ∧ w'.cell? ⟨wr.heap.size + 1, 1, none⟩ = some (.string ⟨#[48]⟩)) (fun w' h => h.1) _ _ _ _ ?_
              refine wpAnyH_take (i := 6) (v := ?_) rfl (by kernel_rfl) (by kernel_rfl) (by kernel_rfl) (fun _ _ _ h => h) (Or.inl ⟨by rfl, ?_⟩) h2s ?_
              rotate_left
              · intro w hSw
                (try dsimp only at hSw)
                go_simp
                try with_reducible rfl
              try simp only [Act.put, List.setIfInBounds_toArray, List.set_cons_zero, List.set_cons_succ]
              refine wpAnyH_take (i := 7) (v := ?_) rfl (by kernel_rfl) (by kernel_rfl) (by kernel_rfl) (fun _ _ _ h => h) (Or.inl ⟨by rfl, ?_⟩) h2s ?_
              rotate_left
              · intro w hSw
                (try dsimp only at hSw)
                go_simp
                try with_reducible rfl
              try simp only [Act.put, List.setIfInBounds_toArray, List.set_cons_zero, List.set_cons_succ]
              refine wpAnyH_ready (rs := [16]) (by kernel_rfl) (by simp) ?_
              refine AllReadyH.cons rfl (fun K hK => ?_) AllReadyH.nil
              go_simp
              go_at_call 8
              refine (fmtP1 r (by omega) _ (Lib.tabIs_alloc (Lib.tabIs_alloc (show PowTab wr.drew from HP.out) _) _) (Lib.tabIs_alloc (Lib.tabIs_alloc (show BruTab wr.drew from HR.out) _) _)).mono ?_
              rintro e w2 ⟨D, rfl, hD, hDl, hbc⟩
              have HD := Lib.hid hD
              clear hD
              (try go_wp2_with fail)
              refine hK.out _ _ ?_ (fun h3 => ?_)
              · exact ⟨⟨(hbc.cell (p := ⟨gB, i, none⟩) (by simp; omega)).trans h2s.1.1, (hbc.cell (p := ⟨wr.heap.size, 1, none⟩) (by simp; omega)).trans h2s.1.2⟩, (hbc.cell (p := ⟨wr.heap.size + 1, 1, none⟩) (by simp)).trans h2s.2⟩
              clear hK K
              try simp only [Act.put, List.setIfInBounds_toArray, List.set_cons_zero, List.set_cons_succ]
              refine wpAnyH_take (i := 17) (v := ?_) rfl (by kernel_rfl) (by kernel_rfl) (by kernel_rfl) (fun _ _ _ h => h) (Or.inl ⟨by rfl, ?_⟩) h3 ?_
              rotate_left
              · intro w hSw
                (try dsimp only at hSw)
                go_simp
                first | with_reducible rfl | (rw [if_neg (by omega)]) | (rw [if_neg (by simp; omega)])
              try simp only [Act.put, List.setIfInBounds_toArray, List.set_cons_zero, List.set_cons_succ]
              refine wpAnyH_take (i := 18) (v := ?_) rfl (by kernel_rfl) (by kernel_rfl) (by kernel_rfl) (fun _ _ _ h => h) (Or.inl ⟨by rfl, ?_⟩) h3 ?_
              rotate_left
              · intro w hSw
                (try dsimp only at hSw)
                go_simp
                first | with_reducible rfl | (rw [if_neg (by omega)]) | (rw [if_neg (by simp; omega)])
              try simp only [Act.put, List.setIfInBounds_toArray, List.set_cons_zero, List.set_cons_succ]
              refine wpAnyH_take (i := 19) (v := ?_) rfl (by kernel_rfl) (by kernel_rfl) (by kernel_rfl) (fun _ _ _ h => h) (Or.inl ⟨by rfl, ?_⟩) h3 ?_
              rotate_left
              · intro w hSw
                (try dsimp only at hSw)
                go_simp
                try with_reducible rfl
              try simp only [Act.put, List.setIfInBounds_toArray, List.set_cons_zero, List.set_cons_succ]
              refine wpAnyH_done (by kernel_rfl) ?_ _
              have hfin : Below wr.heap.size wr w2 := bl1 hbc
              have HP2 := Lib.hid (powTab_below HP.out hfin)
              have HR2 := Lib.hid (bruTab_below HR.out hfin)
              have hbw2 : Below x1.heap.size x1 w2 := hbw.trans (hfin.mono hbw.size)
              have HS2 := Lib.hid (sh_last HS.out (by omega) hL3 HD.out)
              have hcat : ByteArray.mk T.toArray ++ (ByteArray.mk #[48] ++ ByteArray.mk D.toArray) = ⟨(T ++ ([48] ++ D)).toArray⟩ := by rw [show ByteArray.mk #[48] = ByteArray.mk ([48] : List UInt8).toArray from rfl, mk_append, mk_append]
              have hTl : (T ++ ([48] ++ D)).length ≤ 300 := HS2.out.2.2
              clear hbc
              go_wp2
              go_roundw
              case rel => exact ⟨i + 1, r, T ++ ([48] ++ D), (by first | exact congrArg Value.string hcat | (rw [← hcat]; rfl)), rfl, by go_num, by omega, hr, hTl, HS2, HP2, HR2, hbw2⟩
              case measure => simp [intOf]; omega
            · refine AllReadyH.cons rfl (fun K hK => ?_) AllReadyH.nil
              go_simp
              go_at_call 8
              refine (fmtP1 r (by omega) _ (Lib.tabIs_alloc (show PowTab wr.drew from HP.out) _) (Lib.tabIs_alloc (show BruTab wr.drew from HR.out) _)).mono ?_
              rintro e w2 ⟨D, rfl, hD, hDl, hbc⟩
              have HD := Lib.hid hD
              clear hD
              (try go_wp2_with fail)
              refine hK.out _ _ ?_ (fun h2 => ?_)
              · exact ⟨(hbc.cell (p := ⟨gB, i, none⟩) (by simp; omega)).trans h1s.1, (hbc.cell (p := ⟨wr.heap.size, 1, none⟩) (by simp)).trans h1s.2⟩
              clear hK K
              try simp only [Act.put, List.setIfInBounds_toArray, List.set_cons_zero, List.set_cons_succ]
              refine wpAnyH_ready (rs := [1]) (by kernel_rfl) (by simp) ?_
              refine AllReadyH.cons rfl (fun K hK => ?_) AllReadyH.nil
              go_simp
              refine hK.out _ _ ?_ (fun h3 => ?_)
              · (try dsimp only); exact ⟨by simp [*, World.cell?_alloc_some], by simp [*, World.cell?_alloc_some]⟩
              clear hK K
              try simp only [Act.put, List.setIfInBounds_toArray, List.set_cons_zero, List.set_cons_succ]
              have h3s : ((w2.alloc (Obj.cells #[.string ⟨#[]⟩, .string ⟨#[48]⟩, .string ⟨#[48, 120]⟩] 9)).cell? ⟨gB, i, none⟩ = some (.int .u8 bv) ∧ (w2.alloc (Obj.cells #[.string ⟨#[]⟩, .string ⟨#[48]⟩, .string ⟨#[48, 120]⟩] 9)).cell? ⟨wr.heap.size, 1, none⟩ = some (.int .i64 8)) ∧ (w2.alloc (Obj.cells #[.string ⟨#[]⟩, .string ⟨#[48]⟩, .string ⟨#[48, 120]⟩] 9)).cell? ⟨w2.heap.size, 1, none⟩ = some (.string ⟨#[48]⟩) := ⟨h3, cell_new0 _ _ _ _ _ rfl⟩
              refine wpAnyH_weaken (S' := fun w' => ((w'.cell? ⟨gB, i, none⟩ = some (.int .u8 bv)) ∧ w'.cell? ⟨wr.heap.size, 1, none⟩ = some (.int .i64 8)) ∧ w'.cell? ⟨w2.heap.size, 1, none⟩ = some (.string ⟨#[48]⟩)) (fun w' h => h.1) _ _ _ _ ?_
              refine wpAnyH_take (i := 6) (v := ?_) rfl (by kernel_rfl) (by kernel_rfl) (by kernel_rfl) (fun _ _ _ h => h) (Or.inl ⟨by rfl, ?_⟩) h3s ?_
              rotate_left
              · intro w hSw
                (try dsimp only at hSw)
                go_simp
                try with_reducible rfl
              try simp only [Act.put, List.setIfInBounds_toArray, List.set_cons_zero, List.set_cons_succ]
              refine wpAnyH_take (i := 7) (v := ?_) rfl (by kernel_rfl) (by kernel_rfl) (by kernel_rfl) (fun _ _ _ h => h) (Or.inl ⟨by rfl, ?_⟩) h3s ?_
              rotate_left
              · intro w hSw
                (try dsimp only at hSw)
                go_simp
                try with_reducible rfl
              try simp only [Act.put, List.setIfInBounds_toArray, List.set_cons_zero, List.set_cons_succ]
              refine wpAnyH_take (i := 17) (v := ?_) rfl (by kernel_rfl) (by kernel_rfl) (by kernel_rfl) (fun _ _ _ h => h) (Or.inl ⟨by rfl, ?_⟩) h3s ?_
              rotate_left
              · intro w hSw
                (try dsimp only at hSw)
                go_simp
                first | with_reducible rfl | (rw [if_neg (by omega)]) | (rw [if_neg (by simp; omega)])
              try simp only [Act.put, List.setIfInBounds_toArray, List.set_cons_zero, List.set_cons_succ]
              refine wpAnyH_take (i := 18) (v := ?_) rfl (by kernel_rfl) (by kernel_rfl) (by kernel_rfl) (fun _ _ _ h => h) (Or.inl ⟨by rfl, ?_⟩) h3s ?_
              rotate_left
              · intro w hSw
                (try dsimp only at hSw)
                go_simp
                first | with_reducible rfl | (rw [if_neg (by omega)]) | (rw [if_neg (by simp; omega)])
              try simp only [Act.put, List.setIfInBounds_toArray, List.set_cons_zero, List.set_cons_succ]
              refine wpAnyH_take (i := 19) (v := ?_) rfl (by kernel_rfl) (by kernel_rfl) (by kernel_rfl) (fun _ _ _ h => h) (Or.inl ⟨by rfl, ?_⟩) h3s ?_
              rotate_left
              · intro w hSw
                (try dsimp only at hSw)
                go_simp
                try with_reducible rfl
              try simp only [Act.put, List.setIfInBounds_toArray, List.set_cons_zero, List.set_cons_succ]
              refine wpAnyH_done (by kernel_rfl) ?_ _
              have hfin : Below wr.heap.size wr (w2.alloc (Obj.cells #[.string ⟨#[]⟩, .string ⟨#[48]⟩, .string ⟨#[48, 120]⟩] 9)) := bl2 _ hbc
              have HP2 := Lib.hid (powTab_below HP.out hfin)
              have HR2 := Lib.hid (bruTab_below HR.out hfin)
              have hbw2 : Below x1.heap.size x1 (w2.alloc (Obj.cells #[.string ⟨#[]⟩, .string ⟨#[48]⟩, .string ⟨#[48, 120]⟩] 9)) := hbw.trans (hfin.mono hbw.size)
              have HS2 := Lib.hid (sh_last HS.out (by omega) hL3 HD.out)
              have hcat : ByteArray.mk T.toArray ++ (ByteArray.mk #[48] ++ ByteArray.mk D.toArray) = ⟨(T ++ ([48] ++ D)).toArray⟩ := by rw [show ByteArray.mk #[48] = ByteArray.mk ([48] : List UInt8).toArray from rfl, mk_append, mk_append]
              have hTl : (T ++ ([48] ++ D)).length ≤ 300 := HS2.out.2.2
              clear hbc
              go_wp2
              go_roundw
              case rel => exact ⟨i + 1, r, T ++ ([48] ++ D), (by first | exact congrArg Value.string hcat | (rw [← hcat]; rfl)), rfl, by go_num, by omega, hr, hTl, HS2, HP2, HR2, hbw2⟩
              case measure => simp [intOf]; omega
        · have hi4 : (i : Int) < 4 := by omega
          have hi0 : (0 : Int) ≤ (i : Int) := by omega
          have htm : bv.tmod 3 = 2 := by rw [Int.tmod_eq_emod_of_nonneg hb0]; exact hq
          go_wp2
          refine wp_region_held_drew (S := fun w' => w'.cell? ⟨gB, i, none⟩ = some (.int .u8 bv)) (by kernel_rfl) ?_ (fun hHeld => ?_)
          · (try dsimp only)
            go_keep
          refine wpAnyH_take (i := 0) (v := ?_) rfl (by kernel_rfl) (by kernel_rfl) (by kernel_rfl) (fun _ _ _ h => h) (Or.inl ⟨by rfl, ?_⟩) hHeld ?_
          rotate_left
          · intro w hSw
            (try dsimp only at hSw)
            go_simp
            try with_reducible rfl
          try simp only [Act.put, List.setIfInBounds_toArray, List.set_cons_zero, List.set_cons_succ]
          refine wpAnyH_take (i := 2) (v := ?_) rfl (by kernel_rfl) (by kernel_rfl) (by kernel_rfl) (fun _ _ _ h => h) (Or.inl ⟨by rfl, ?_⟩) hHeld ?_
          rotate_left
          · intro w hSw
            (try dsimp only at hSw)
            go_simp
            try with_reducible rfl
          try simp only [Act.put, List.setIfInBounds_toArray, List.set_cons_zero, List.set_cons_succ]
          refine wpAnyH_take (i := 3) (v := ?_) rfl (by kernel_rfl) (by kernel_rfl) (by kernel_rfl) (fun _ _ _ h => h) (Or.inl ⟨by rfl, ?_⟩) hHeld ?_
          rotate_left
          · intro w hSw
            (try dsimp only at hSw)
            go_simp
            try with_reducible rfl
          try simp only [Act.put, List.setIfInBounds_toArray, List.set_cons_zero, List.set_cons_succ]
          refine wpAnyH_take (i := 4) (v := ?_) rfl (by kernel_rfl) (by kernel_rfl) (by kernel_rfl) (fun _ _ _ h => h) (Or.inl ⟨by rfl, ?_⟩) hHeld ?_
          rotate_left
          · intro w hSw
            (try dsimp only at hSw)
            go_simp
            try with_reducible rfl
          try simp only [Act.put, List.setIfInBounds_toArray, List.set_cons_zero, List.set_cons_succ]
          refine wpAnyH_take (i := 5) (v := ?_) rfl (by kernel_rfl) (by kernel_rfl) (by kernel_rfl) (fun _ _ _ h => h) (Or.inl ⟨by rfl, ?_⟩) hHeld ?_
          rotate_left
          · intro w hSw
            (try dsimp only at hSw)
            go_simp
            try with_reducible rfl
          try simp only [Act.put, List.setIfInBounds_toArray, List.set_cons_zero, List.set_cons_succ]
          refine wpAnyH_take (i := 8) (v := ?_) rfl (by kernel_rfl) (by kernel_rfl) (by kernel_rfl) (fun _ _ _ h => h) (Or.inl ⟨by rfl, ?_⟩) hHeld ?_
          rotate_left
          · intro w hSw
            (try dsimp only at hSw)
            go_simp
            try with_reducible rfl
          try simp only [Act.put, List.setIfInBounds_toArray, List.set_cons_zero, List.set_cons_succ]
          refine wpAnyH_take (i := 10) (v := ?_) rfl (by kernel_rfl) (by kernel_rfl) (by kernel_rfl) (fun _ _ _ h => h) (Or.inl ⟨by rfl, ?_⟩) hHeld ?_
          rotate_left
          · intro w hSw
            (try dsimp only at hSw)
            go_simp
            try with_reducible rfl
          try simp only [Act.put, List.setIfInBounds_toArray, List.set_cons_zero, List.set_cons_succ]
          refine wpAnyH_take (i := 11) (v := ?_) rfl (by kernel_rfl) (by kernel_rfl) (by kernel_rfl) (fun _ _ _ h => h) (Or.inl ⟨by rfl, ?_⟩) hHeld ?_
          rotate_left
          · intro w hSw
            (try dsimp only at hSw)
            go_simp
            try with_reducible rfl
          try simp only [Act.put, List.setIfInBounds_toArray, List.set_cons_zero, List.set_cons_succ]
          refine wpAnyH_take (i := 12) (v := ?_) rfl (by kernel_rfl) (by kernel_rfl) (by kernel_rfl) (fun _ _ _ h => h) (Or.inl ⟨by rfl, ?_⟩) hHeld ?_
          rotate_left
          · intro w hSw
            (try dsimp only at hSw)
            go_simp
            try with_reducible rfl
          try simp only [Act.put, List.setIfInBounds_toArray, List.set_cons_zero, List.set_cons_succ]
          refine wpAnyH_take (i := 13) (v := ?_) rfl (by kernel_rfl) (by kernel_rfl) (by kernel_rfl) (fun _ _ _ h => h) (Or.inl ⟨by rfl, ?_⟩) hHeld ?_
          rotate_left
          · intro w hSw
            (try dsimp only at hSw)
            go_simp
            try with_reducible rfl
          try simp only [Act.put, List.setIfInBounds_toArray, List.set_cons_zero, List.set_cons_succ]
          refine wpAnyH_ready (rs := [1, 9]) (by kernel_rfl) (by simp) ?_
          refine AllReadyH.cons rfl (fun K hK => ?_) ?_
          · go_simp
            refine hK.out _ _ ?_ (fun h1 => ?_)
            · (try dsimp only); go_keep
            clear hK K
            try simp only [Act.put, List.setIfInBounds_toArray, List.set_cons_zero, List.set_cons_succ]
            have h1s : (wr.drew.alloc (Obj.cells #[.string ⟨#[]⟩, .string ⟨#[48]⟩, .string ⟨#[48, 120]⟩] 9)).cell? ⟨gB, i, none⟩ = some (.int .u8 bv) ∧ (wr.drew.alloc (Obj.cells #[.string ⟨#[]⟩, .string ⟨#[48]⟩, .string ⟨#[48, 120]⟩] 9)).cell? ⟨wr.heap.size, 2, none⟩ = some (.string ⟨#[48, 120]⟩) := ⟨h1, cell_new1 _ _ _ _ _ rfl⟩
            refine wpAnyH_weaken (S' := fun w' => (w'.cell? ⟨gB, i, none⟩ = some (.int .u8 bv)) ∧ w'.cell? ⟨wr.heap.size, 2, none⟩ = some (.string ⟨#[48, 120]⟩)) (fun w' h => h.1) _ _ _ _ ?_
            refine wpAnyH_take (i := 6) (v := ?_) rfl (by kernel_rfl) (by kernel_rfl) (by kernel_rfl) (fun _ _ _ h => h) (Or.inl ⟨by rfl, ?_⟩) h1s ?_
            rotate_left
            · intro w hSw
              (try dsimp only at hSw)
              go_simp
              try with_reducible rfl
            try simp only [Act.put, List.setIfInBounds_toArray, List.set_cons_zero, List.set_cons_succ]
            refine wpAnyH_take (i := 7) (v := ?_) rfl (by kernel_rfl) (by kernel_rfl) (by kernel_rfl) (fun _ _ _ h => h) (Or.inl ⟨by rfl, ?_⟩) h1s ?_
            rotate_left
            · intro w hSw
              (try dsimp only at hSw)
              go_simp
              try with_reducible rfl
            try simp only [Act.put, List.setIfInBounds_toArray, List.set_cons_zero, List.set_cons_succ]
            refine wpAnyH_ready (rs := [9]) (by kernel_rfl) (by simp) ?_
            refine AllReadyH.cons rfl (fun K hK => ?_) AllReadyH.nil
            go_simp
            refine hK.out _ _ ?_ (fun h2 => ?_)
            · (try dsimp only); exact ⟨by simp [*, World.cell?_alloc_some], by simp [*, World.cell?_alloc_some]⟩
            clear hK K
            try simp only [Act.put, List.setIfInBounds_toArray, List.set_cons_zero, List.set_cons_succ]
            have h2s : (((wr.drew.alloc (Obj.cells #[.string ⟨#[]⟩, .string ⟨#[48]⟩, .string ⟨#[48, 120]⟩] 9)).alloc (Obj.cells #[.int .i64 10, .int .i64 8, .int .i64 16] 3)).cell? ⟨gB, i, none⟩ = some (.int .u8 bv) ∧ ((wr.drew.alloc (Obj.cells #[.string ⟨#[]⟩, .string ⟨#[48]⟩, .string ⟨#[48, 120]⟩] 9)).alloc (Obj.cells #[.int .i64 10, .int .i64 8, .int .i64 16] 3)).cell? ⟨wr.heap.size, 2, none⟩ = some (.string ⟨#[48, 120]⟩)) ∧ ((wr.drew.alloc (Obj.cells #[.string ⟨#[]⟩, .string ⟨#[48]⟩, .string ⟨#[48, 120]⟩] 9)).alloc (Obj.cells #[.int .i64 10, .int .i64 8, .int .i64 16] 3)).cell? ⟨wr.heap.size + 1, 2, none⟩ = some (.int .i64 16) := ⟨h2, cell_new2 _ _ _ _ _ _ rfl⟩
            refine wpAnyH_weaken (S' := fun w' => ((w'.cell? ⟨gB, i, none⟩ = some (.int .u8 bv)) ∧ w'.cell? ⟨wr.heap.size, 2, none⟩ = some (.string ⟨#[48, 120]⟩)) ∧ w'.cell? ⟨wr.heap.size + 1, 2, none⟩ = some (.int .i64 16)) (fun w' h => h.1) _ _ _ _ ?_
            refine wpAnyH_take (i := 14) (v := ?_) rfl (by kernel_rfl) (by kernel_rfl) (by kernel_rfl) (fun _ _ _ h => h) (Or.inl ⟨by rfl, ?_⟩) h2s ?_
            rotate_left
            · intro w hSw
              (try dsimp only at hSw)
              go_simp
              try with_reducible rfl
            try simp only [Act.put, List.setIfInBounds_toArray, List.set_cons_zero, List.set_cons_succ]
            refine wpAnyH_take (i := 15) (v := ?_) rfl (by kernel_rfl) (by kernel_rfl) (by kernel_rfl) (fun _ _ _ h => h) (Or.inl ⟨by rfl, ?_⟩) h2s ?_
            rotate_left
            · intro w hSw
              (try dsimp only at hSw)
              go_simp
              try with_reducible rfl
            try simp only [Act.put, List.setIfInBounds_toArray, List.set_cons_zero, List.set_cons_succ]
            refine wpAnyH_ready (rs := [16]) (by kernel_rfl) (by simp) ?_
            refine AllReadyH.cons rfl (fun K hK => ?_) AllReadyH.nil
            go_simp
            go_at_call 8
            refine (fmtP2 r (by omega) _ (Lib.tabIs_alloc (Lib.tabIs_alloc (show PowTab wr.drew from HP.out) _) _) (Lib.tabIs_alloc (Lib.tabIs_alloc (show BruTab wr.drew from HR.out) _) _)).mono ?_
            rintro e w2 ⟨D, rfl, hD, hDl, hbc⟩
            have HD := Lib.hid hD
            clear hD
            (try go_wp2_with fail)
            refine hK.out _ _ ?_ (fun h3 => ?_)
            · exact ⟨⟨(hbc.cell (p := ⟨gB, i, none⟩) (by simp; omega)).trans h2s.1.1, (hbc.cell (p := ⟨wr.heap.size, 2, none⟩) (by simp; omega)).trans h2s.1.2⟩, (hbc.cell (p := ⟨wr.heap.size + 1, 2, none⟩) (by simp)).trans h2s.2⟩
            clear hK K
            try simp only [Act.put, List.setIfInBounds_toArray, List.set_cons_zero, List.set_cons_succ]
            refine wpAnyH_take (i := 17) (v := ?_) rfl (by kernel_rfl) (by kernel_rfl) (by kernel_rfl) (fun _ _ _ h => h) (Or.inl ⟨by rfl, ?_⟩) h3 ?_
            rotate_left
            · intro w hSw
              (try dsimp only at hSw)
              go_simp
              first | with_reducible rfl | (rw [if_neg (by omega)]) | (rw [if_neg (by simp; omega)])
            try simp only [Act.put, List.setIfInBounds_toArray, List.set_cons_zero, List.set_cons_succ]
            refine wpAnyH_take (i := 18) (v := ?_) rfl (by kernel_rfl) (by kernel_rfl) (by kernel_rfl) (fun _ _ _ h => h) (Or.inl ⟨by rfl, ?_⟩) h3 ?_
            rotate_left
            · intro w hSw
              (try dsimp only at hSw)
              go_simp
              first | with_reducible rfl | (rw [if_neg (by omega)]) | (rw [if_neg (by simp; omega)])
            try simp only [Act.put, List.setIfInBounds_toArray, List.set_cons_zero, List.set_cons_succ]
            refine wpAnyH_take (i := 19) (v := ?_) rfl (by kernel_rfl) (by kernel_rfl) (by kernel_rfl) (fun _ _ _ h => h) (Or.inl ⟨by rfl, ?_⟩) h3 ?_
            rotate_left
            · intro w hSw
              (try dsimp only at hSw)
              go_simp
              try with_reducible rfl
            try simp only [Act.put, List.setIfInBounds_toArray, List.set_cons_zero, List.set_cons_succ]
            refine wpAnyH_done (by kernel_rfl) ?_ _
            have hfin : Below wr.heap.size wr w2 := bl1 hbc
            have HP2 := Lib.hid (powTab_below HP.out hfin)
            have HR2 := Lib.hid (bruTab_below HR.out hfin)
            have hbw2 : Below x1.heap.size x1 w2 := hbw.trans (hfin.mono hbw.size)
            have HS2 := Lib.hid (sh_last HS.out (by omega) hL3 HD.out)
            have hcat : ByteArray.mk T.toArray ++ (ByteArray.mk #[48, 120] ++ ByteArray.mk D.toArray) = ⟨(T ++ ([48, 120] ++ D)).toArray⟩ := by rw [show ByteArray.mk #[48, 120] = ByteArray.mk ([48, 120] : List UInt8).toArray from rfl, mk_append, mk_append]
            have hTl : (T ++ ([48, 120] ++ D)).length ≤ 300 := HS2.out.2.2
            clear hbc
            go_wp2
            go_roundw
            case rel => exact ⟨i + 1, r, T ++ ([48, 120] ++ D), (by first | exact congrArg Value.string hcat | (rw [← hcat]; rfl)), rfl, by go_num, by omega, hr, hTl, HS2, HP2, HR2, hbw2⟩
            case measure => simp [intOf]; omega
          · refine AllReadyH.cons rfl (fun K hK => ?_) AllReadyH.nil
            go_simp
            refine hK.out _ _ ?_ (fun h1 => ?_)
            · (try dsimp only); go_keep
            clear hK K
            try simp only [Act.put, List.setIfInBounds_toArray, List.set_cons_zero, List.set_cons_succ]
            have h1s : (wr.drew.alloc (Obj.cells #[.int .i64 10, .int .i64 8, .int .i64 16] 3)).cell? ⟨gB, i, none⟩ = some (.int .u8 bv) ∧ (wr.drew.alloc (Obj.cells #[.int .i64 10, .int .i64 8, .int .i64 16] 3)).cell? ⟨wr.heap.size, 2, none⟩ = some (.int .i64 16) := ⟨h1, cell_new1 _ _ _ _ _ rfl⟩
            refine wpAnyH_weaken (S' := fun w' => (w'.cell? ⟨gB, i, none⟩ = some (.int .u8 bv)) ∧ w'.cell? ⟨wr.heap.size, 2, none⟩ = some (.int .i64 16)) (fun w' h => h.1) _ _ _ _ ?_
            refine wpAnyH_take (i := 14) (v := ?_) rfl (by kernel_rfl) (by kernel_rfl) (by kernel_rfl) (fun _ _ _ h => h) (Or.inl ⟨by rfl, ?_⟩) h1s ?_
            rotate_left
            · intro w hSw
              (try dsimp only at hSw)
              go_simp
              try with_reducible rfl
            try simp only [Act.put, List.setIfInBounds_toArray, List.set_cons_zero, List.set_cons_succ]
            refine wpAnyH_take (i := 15) (v := ?_) rfl (by kernel_rfl) (by kernel_rfl) (by kernel_rfl) (fun _ _ _ h => h) (Or.inl ⟨by rfl, ?_⟩) h1s ?_
            rotate_left
            · intro w hSw
              (try dsimp only at hSw)
              go_simp
              try with_reducible rfl
            try simp only [Act.put, List.setIfInBounds_toArray, List.set_cons_zero, List.set_cons_succ]
            refine wpAnyH_ready (rs := [1, 16]) (by kernel_rfl) (by simp) ?_
            refine AllReadyH.cons rfl (fun K hK => ?_) ?_
            · go_simp
              refine hK.out _ _ ?_ (fun h2 => ?_)
              · (try dsimp only); exact ⟨by simp [*, World.cell?_alloc_some], by simp [*, World.cell?_alloc_some]⟩
              clear hK K
              try simp only [Act.put, List.setIfInBounds_toArray, List.set_cons_zero, List.set_cons_succ]
              have h2s : (((wr.drew.alloc (Obj.cells #[.int .i64 10, .int .i64 8, .int .i64 16] 3)).alloc (Obj.cells #[.string ⟨#[]⟩, .string ⟨#[48]⟩, .string ⟨#[48, 120]⟩] 9)).cell? ⟨gB, i, none⟩ = some (.int .u8 bv) ∧ ((wr.drew.alloc (Obj.cells #[.int .i64 10, .int .i64 8, .int .i64 16] 3)).alloc (Obj.cells #[.string ⟨#[]⟩, .string ⟨#[48]⟩, .string ⟨#[48, 120]⟩] 9)).cell? ⟨wr.heap.size, 2, none⟩ = some (.int .i64 16)) ∧ ((wr.drew.alloc (Obj.cells #[.int .i64 10, .int .i64 8, .int .i64 16] 3)).alloc (Obj.cells #[.string ⟨#[]⟩, .string ⟨#[48]⟩, .string ⟨#[48, 120]⟩] 9)).cell? ⟨wr.heap.size + 1, 2, none⟩ = some (.string ⟨#[48, 120]⟩) := ⟨h2, cell_new2 _ _ _ _ _ _ rfl⟩
              refine wpAnyH_weaken (S' := fun w' => ((w'.cell? ⟨gB, i, none⟩ = some (.int .u8 bv)) ∧ w'.cell? ⟨wr.heap.size, 2, none⟩ = some (.int .i64 16)) ∧ w'.cell? ⟨wr.heap.size + 1, 2, none⟩ = some (.string ⟨#[48, 120]⟩)) (fun w' h => h.1) _ _ _ _ ?_
              refine wpAnyH_take (i := 6) (v := ?_) rfl (by kernel_rfl) (by kernel_rfl) (by kernel_rfl) (fun _ _ _ h => h) (Or.inl ⟨by rfl, ?_⟩) h2s ?_
              rotate_left
              · intro w hSw
                (try dsimp only at hSw)
                go_simp
                try with_reducible rfl
              try simp only [Act.put, List.setIfInBounds_toArray, List.set_cons_zero, List.set_cons_succ]
              refine wpAnyH_take (i := 7) (v := ?_) rfl (by kernel_rfl) (by kernel_rfl) (by kernel_rfl) (fun _ _ _ h => h) (Or.inl ⟨by rfl, ?_⟩) h2s ?_
              rotate_left
              · intro w hSw
                (try dsimp only at hSw)
                go_simp
                try with_reducible rfl
              try simp only [Act.put, List.setIfInBounds_toArray, List.set_cons_zero, List.set_cons_succ]
              refine wpAnyH_ready (rs := [16]) (by kernel_rfl) (by simp) ?_
              refine AllReadyH.cons rfl (fun K hK => ?_) AllReadyH.nil
              go_simp
              go_at_call 8
              refine (fmtP2 r (by omega) _ (Lib.tabIs_alloc (Lib.tabIs_alloc (show PowTab wr.drew from HP.out) _) _) (Lib.tabIs_alloc (Lib.tabIs_alloc (show BruTab wr.drew from HR.out) _) _)).mono ?_
              rintro e w2 ⟨D, rfl, hD, hDl, hbc⟩
              have HD := Lib.hid hD
              clear hD
              (try go_wp2_with fail)
              refine hK.out _ _ ?_ (fun h3 => ?_)
              · exact ⟨⟨(hbc.cell (p := ⟨gB, i, none⟩) (by simp; omega)).trans h2s.1.1, (hbc.cell (p := ⟨wr.heap.size, 2, none⟩) (by simp; omega)).trans h2s.1.2⟩, (hbc.cell (p := ⟨wr.heap.size + 1, 2, none⟩) (by simp)).trans h2s.2⟩
              clear hK K
              try simp only [Act.put, List.setIfInBounds_toArray, List.set_cons_zero, List.set_cons_succ]
              refine wpAnyH_take (i := 17) (v := ?_) rfl (by kernel_rfl) (by kernel_rfl) (by kernel_rfl) (fun _ _ _ h => h) (Or.inl ⟨by rfl, ?_⟩) h3 ?_
              rotate_left
              · intro w hSw
                (try dsimp only at hSw)
                go_simp
                first | with_reducible rfl | (rw [if_neg (by omega)]) | (rw [if_neg (by simp; omega)])
              try simp only [Act.put, List.setIfInBounds_toArray, List.set_cons_zero, List.set_cons_succ]
              refine wpAnyH_take (i := 18) (v := ?_) rfl (by kernel_rfl) (by kernel_rfl) (by kernel_rfl) (fun _ _ _ h => h) (Or.inl ⟨by rfl, ?_⟩) h3 ?_
              rotate_left
              · intro w hSw
                (try dsimp only at hSw)
                go_simp
                first | with_reducible rfl | (rw [if_neg (by omega)]) | (rw [if_neg (by simp; omega)])
              try simp only [Act.put, List.setIfInBounds_toArray, List.set_cons_zero, List.set_cons_succ]
              refine wpAnyH_take (i := 19) (v := ?_) rfl (by kernel_rfl) (by kernel_rfl) (by kernel_rfl) (fun _ _ _ h => h) (Or.inl ⟨by rfl, ?_⟩) h3 ?_
              rotate_left
              · intro w hSw
                (try dsimp only at hSw)
                go_simp
                try with_reducible rfl
              try simp only [Act.put, List.setIfInBounds_toArray, List.set_cons_zero, List.set_cons_succ]
              refine wpAnyH_done (by kernel_rfl) ?_ _
              have hfin : Below wr.heap.size wr w2 := bl1 hbc
              have HP2 := Lib.hid (powTab_below HP.out hfin)
              have HR2 := Lib.hid (bruTab_below HR.out hfin)
              have hbw2 : Below x1.heap.size x1 w2 := hbw.trans (hfin.mono hbw.size)
              have HS2 := Lib.hid (sh_last HS.out (by omega) hL3 HD.out)
              have hcat : ByteArray.mk T.toArray ++ (ByteArray.mk #[48, 120] ++ ByteArray.mk D.toArray) = ⟨(T ++ ([48, 120] ++ D)).toArray⟩ := by rw [show ByteArray.mk #[48, 120] = ByteArray.mk ([48, 120] : List UInt8).toArray from rfl, mk_append, mk_append]
              have hTl : (T ++ ([48, 120] ++ D)).length ≤ 300 := HS2.out.2.2
              clear hbc
              go_wp2
              go_roundw
              case rel => exact ⟨i + 1, r, T ++ ([48, 120] ++ D), (by first | exact congrArg Value.string hcat | (rw [← hcat]; rfl)), rfl, by go_num, by omega, hr, hTl, HS2, HP2, HR2, hbw2⟩
              case measure => simp [intOf]; omega
            · refine AllReadyH.cons rfl (fun K hK => ?_) AllReadyH.nil
              go_simp
              go_at_call 8
              refine (fmtP2 r (by omega) _ (Lib.tabIs_alloc (show PowTab wr.drew from HP.out) _) (Lib.tabIs_alloc (show BruTab wr.drew from HR.out) _)).mono ?_
              rintro e w2 ⟨D, rfl, hD, hDl, hbc⟩
              have HD := Lib.hid hD
              clear hD
              (try go_wp2_with fail)
              refine hK.out _ _ ?_ (fun h2 => ?_)
              · exact ⟨(hbc.cell (p := ⟨gB, i, none⟩) (by simp; omega)).trans h1s.1, (hbc.cell (p := ⟨wr.heap.size, 2, none⟩) (by simp)).trans h1s.2⟩
              clear hK K
              try simp only [Act.put, List.setIfInBounds_toArray, List.set_cons_zero, List.set_cons_succ]
              refine wpAnyH_ready (rs := [1]) (by kernel_rfl) (by simp) ?_
              refine AllReadyH.cons rfl (fun K hK => ?_) AllReadyH.nil
              go_simp
              refine hK.out _ _ ?_ (fun h3 => ?_)
              · (try dsimp only); exact ⟨by simp [*, World.cell?_alloc_some], by simp [*, World.cell?_alloc_some]⟩
              clear hK K
              try simp only [Act.put, List.setIfInBounds_toArray, List.set_cons_zero, List.set_cons_succ]
              have h3s : ((w2.alloc (Obj.cells #[.string ⟨#[]⟩, .string ⟨#[48]⟩, .string ⟨#[48, 120]⟩] 9)).cell? ⟨gB, i, none⟩ = some (.int .u8 bv) ∧ (w2.alloc (Obj.cells #[.string ⟨#[]⟩, .string ⟨#[48]⟩, .string ⟨#[48, 120]⟩] 9)).cell? ⟨wr.heap.size, 2, none⟩ = some (.int .i64 16)) ∧ (w2.alloc (Obj.cells #[.string ⟨#[]⟩, .string ⟨#[48]⟩, .string ⟨#[48, 120]⟩] 9)).cell? ⟨w2.heap.size, 2, none⟩ = some (.string ⟨#[48, 120]⟩) := ⟨h3, cell_new0 _ _ _ _ _ rfl⟩
              refine wpAnyH_weaken (S' := fun w' => ((w'.cell? ⟨gB, i, none⟩ = some (.int .u8 bv)) ∧ w'.cell? ⟨wr.heap.size, 2, none⟩ = some (.int .i64 16)) ∧ w'.cell? ⟨w2.heap.size, 2, none⟩ = some (.string ⟨#[48, 120]⟩)) (fun w' h => h.1) _ _ _ _ ?_
              refine wpAnyH_take (i := 6) (v := ?_) rfl (by kernel_rfl) (by kernel_rfl) (by kernel_rfl) (fun _ _ _ h => h) (Or.inl ⟨by rfl, ?_⟩) h3s ?_
              rotate_left
              · intro w hSw
                (try dsimp only at hSw)
                go_simp
                try with_reducible rfl
              try simp only [Act.put, List.setIfInBounds_toArray, List.set_cons_zero, List.set_cons_succ]
              refine wpAnyH_take (i := 7) (v := ?_) rfl (by kernel_rfl) (by kernel_rfl) (by kernel_rfl) (fun _ _ _ h => h) (Or.inl ⟨by rfl, ?_⟩) h3s ?_
              rotate_left
              · intro w hSw
                (try dsimp only at hSw)
                go_simp
                try with_reducible rfl
              try simp only [Act.put, List.setIfInBounds_toArray, List.set_cons_zero, List.set_cons_succ]
              refine wpAnyH_take (i := 17) (v := ?_) rfl (by kernel_rfl) (by kernel_rfl) (by kernel_rfl) (fun _ _ _ h => h) (Or.inl ⟨by rfl, ?_⟩) h3s ?_
              rotate_left
              · intro w hSw
                (try dsimp only at hSw)
                go_simp
                first | with_reducible rfl | (rw [if_neg (by omega)]) | (rw [if_neg (by simp; omega)])
              try simp only [Act.put, List.setIfInBounds_toArray, List.set_cons_zero, List.set_cons_succ]
              refine wpAnyH_take (i := 18) (v := ?_) rfl (by kernel_rfl) (by kernel_rfl) (by kernel_rfl) (fun _ _ _ h => h) (Or.inl ⟨by rfl, ?_⟩) h3s ?_
              rotate_left
              · intro w hSw
                (try dsimp only at hSw)
                go_simp
                first | with_reducible rfl | (rw [if_neg (by omega)]) | (rw [if_neg (by simp; omega)])
              try simp only [Act.put, List.setIfInBounds_toArray, List.set_cons_zero, List.set_cons_succ]
              refine wpAnyH_take (i := 19) (v := ?_) rfl (by kernel_rfl) (by kernel_rfl) (by kernel_rfl) (fun _ _ _ h => h) (Or.inl ⟨by rfl, ?_⟩) h3s ?_
              rotate_left
              · intro w hSw
                (try dsimp only at hSw)
                go_simp
                try with_reducible rfl
              try simp only [Act.put, List.setIfInBounds_toArray, List.set_cons_zero, List.set_cons_succ]
              refine wpAnyH_done (by kernel_rfl) ?_ _
              have hfin : Below wr.heap.size wr (w2.alloc (Obj.cells #[.string ⟨#[]⟩, .string ⟨#[48]⟩, .string ⟨#[48, 120]⟩] 9)) := bl2 _ hbc
              have HP2 := Lib.hid (powTab_below HP.out hfin)
              have HR2 := Lib.hid (bruTab_below HR.out hfin)
              have hbw2 : Below x1.heap.size x1 (w2.alloc (Obj.cells #[.string ⟨#[]⟩, .string ⟨#[48]⟩, .string ⟨#[48, 120]⟩] 9)) := hbw.trans (hfin.mono hbw.size)
              have HS2 := Lib.hid (sh_last HS.out (by omega) hL3 HD.out)
              have hcat : ByteArray.mk T.toArray ++ (ByteArray.mk #[48, 120] ++ ByteArray.mk D.toArray) = ⟨(T ++ ([48, 120] ++ D)).toArray⟩ := by rw [show ByteArray.mk #[48, 120] = ByteArray.mk ([48, 120] : List UInt8).toArray from rfl, mk_append, mk_append]
              have hTl : (T ++ ([48, 120] ++ D)).length ≤ 300 := HS2.out.2.2
              clear hbc
              go_wp2
              go_roundw
              case rel => exact ⟨i + 1, r, T ++ ([48, 120] ++ D), (by first | exact congrArg Value.string hcat | (rw [← hcat]; rfl)), rfl, by go_num, by omega, hr, hTl, HS2, HP2, HR2, hbw2⟩
              case measure => simp [intOf]; omega
      · have hlt : (i : Int) < (L : Int) := by omega
        obtain ⟨P, hPd⟩ : ∃ P : Nat, 2 ^ (8 * (3 - i)) = P := ⟨_, rfl⟩
        have hP0 : 0 < P := by rw [← hPd]; exact Nat.two_pow_pos _
        have hsh : (2 : Int) ^ (8 * (3 - (i : Int))).toNat = (P : Int) := by
          rw [← hPd, show (8 * (3 - (i : Int))).toNat = 8 * (3 - i) from by omega]
          simp
        obtain ⟨X, hXd⟩ : ∃ X : Nat, r / P = X := ⟨_, rfl⟩
        have hX1 : (r : Int) / (P : Int) = (X : Int) := by rw [← hXd]; simp
        have hXP : X * P ≤ r := by rw [← hXd]; exact Nat.div_mul_le_self _ _
        have hXr : X ≤ r := by rw [← hXd]; exact Nat.div_le_self _ _
        obtain ⟨R, hRd⟩ : ∃ R : Nat, r - X * P = R := ⟨_, rfl⟩
        have hXPi : (X : Int) * (P : Int) ≤ (r : Int) := by exact_mod_cast hXP
        have hXP0 : 0 ≤ (X : Int) * (P : Int) := Int.mul_nonneg (by omega) (by omega)
        have hR1 : (r : Int) - (X : Int) * (P : Int) = (R : Int) := by rw [← hRd, Int.natCast_sub hXP]; simp
        have hRr : R ≤ r := by omega
        have HNX := Lib.hid (show ∀ p, IsPart (X : Int) p → ShRel L N (i + 1) R (T ++ (p ++ [46])) from fun p hp => by
          have := sh_next HS.out (show i < L from by omega) hL3 (x := X) (by rw [hPd]; exact hXd.symm) hp
          rw [hPd, hRd] at this
          exact this)
        have hs1 : (0 : Int) ≤ 8 * (3 - (i : Int)) := by omega
        have hs2 : 8 * (3 - (i : Int)) ≤ 64 := by omega
        clear hl hPd hXd hRd hXP
        rcases (show bv % 3 = 0 ∨ bv % 3 = 1 ∨ bv % 3 = 2 from by omega) with hq | hq | hq
        · have hi4 : (i : Int) < 4 := by omega
          have hi0 : (0 : Int) ≤ (i : Int) := by omega
          have htm : bv.tmod 3 = 0 := by rw [Int.tmod_eq_emod_of_nonneg hb0]; exact hq
          go_wp2
          clear hX1 hsh hR1
          refine wp_region_held_drew (S := fun w' => w'.cell? ⟨gB, i, none⟩ = some (.int .u8 bv)) (by kernel_rfl) ?_ (fun hHeld => ?_)
          · (try dsimp only)
            go_keep
          refine wpAnyH_take (i := 0) (v := ?_) rfl (by kernel_rfl) (by kernel_rfl) (by kernel_rfl) (fun _ _ _ h => h) (Or.inl ⟨by rfl, ?_⟩) hHeld ?_
          rotate_left
          · intro w hSw
            (try dsimp only at hSw)
            go_simp
            try with_reducible rfl
          try simp only [Act.put, List.setIfInBounds_toArray, List.set_cons_zero, List.set_cons_succ]
          refine wpAnyH_take (i := 2) (v := ?_) rfl (by kernel_rfl) (by kernel_rfl) (by kernel_rfl) (fun _ _ _ h => h) (Or.inl ⟨by rfl, ?_⟩) hHeld ?_
          rotate_left
          · intro w hSw
            (try dsimp only at hSw)
            go_simp
            try with_reducible rfl
          try simp only [Act.put, List.setIfInBounds_toArray, List.set_cons_zero, List.set_cons_succ]
          refine wpAnyH_take (i := 3) (v := ?_) rfl (by kernel_rfl) (by kernel_rfl) (by kernel_rfl) (fun _ _ _ h => h) (Or.inl ⟨by rfl, ?_⟩) hHeld ?_
          rotate_left
          · intro w hSw
            (try dsimp only at hSw)
            go_simp
            try with_reducible rfl
          try simp only [Act.put, List.setIfInBounds_toArray, List.set_cons_zero, List.set_cons_succ]
          refine wpAnyH_take (i := 4) (v := ?_) rfl (by kernel_rfl) (by kernel_rfl) (by kernel_rfl) (fun _ _ _ h => h) (Or.inl ⟨by rfl, ?_⟩) hHeld ?_
          rotate_left
          · intro w hSw
            (try dsimp only at hSw)
            go_simp
            try with_reducible rfl
          try simp only [Act.put, List.setIfInBounds_toArray, List.set_cons_zero, List.set_cons_succ]
          refine wpAnyH_take (i := 5) (v := ?_) rfl (by kernel_rfl) (by kernel_rfl) (by kernel_rfl) (fun _ _ _ h => h) (Or.inl ⟨by rfl, ?_⟩) hHeld ?_
          rotate_left
          · intro w hSw
            (try dsimp only at hSw)
            go_simp
            try with_reducible rfl
          try simp only [Act.put, List.setIfInBounds_toArray, List.set_cons_zero, List.set_cons_succ]
          refine wpAnyH_take (i := 8) (v := ?_) rfl (by kernel_rfl) (by kernel_rfl) (by kernel_rfl) (fun _ _ _ h => h) (Or.inl ⟨by rfl, ?_⟩) hHeld ?_
          rotate_left
          · intro w hSw
            (try dsimp only at hSw)
            go_simp
            try with_reducible rfl
          try simp only [Act.put, List.setIfInBounds_toArray, List.set_cons_zero, List.set_cons_succ]
          refine wpAnyH_take (i := 10) (v := ?_) rfl (by kernel_rfl) (by kernel_rfl) (by kernel_rfl) (fun _ _ _ h => h) (Or.inl ⟨by rfl, ?_⟩) hHeld ?_
          rotate_left
          · intro w hSw
            (try dsimp only at hSw)
            go_simp
            try with_reducible rfl
          try simp only [Act.put, List.setIfInBounds_toArray, List.set_cons_zero, List.set_cons_succ]
          refine wpAnyH_take (i := 11) (v := ?_) rfl (by kernel_rfl) (by kernel_rfl) (by kernel_rfl) (fun _ _ _ h => h) (Or.inl ⟨by rfl, ?_⟩) hHeld ?_
          rotate_left
          · intro w hSw
            (try dsimp only at hSw)
            go_simp
            try with_reducible rfl
          try simp only [Act.put, List.setIfInBounds_toArray, List.set_cons_zero, List.set_cons_succ]
          refine wpAnyH_take (i := 12) (v := ?_) rfl (by kernel_rfl) (by kernel_rfl) (by kernel_rfl) (fun _ _ _ h => h) (Or.inl ⟨by rfl, ?_⟩) hHeld ?_
          rotate_left
          · intro w hSw
            (try dsimp only at hSw)
            go_simp
            try with_reducible rfl
          try simp only [Act.put, List.setIfInBounds_toArray, List.set_cons_zero, List.set_cons_succ]
          refine wpAnyH_take (i := 13) (v := ?_) rfl (by kernel_rfl) (by kernel_rfl) (by kernel_rfl) (fun _ _ _ h => h) (Or.inl ⟨by rfl, ?_⟩) hHeld ?_
          rotate_left
          · intro w hSw
            (try dsimp only at hSw)
            go_simp
            try with_reducible rfl
          try simp only [Act.put, List.setIfInBounds_toArray, List.set_cons_zero, List.set_cons_succ]
          refine wpAnyH_ready (rs := [1, 9]) (by kernel_rfl) (by simp) ?_
          refine AllReadyH.cons rfl (fun K hK => ?_) ?_
          · go_simp
            refine hK.out _ _ ?_ (fun h1 => ?_)
            · (try dsimp only); go_keep
            clear hK K
            try simp only [Act.put, List.setIfInBounds_toArray, List.set_cons_zero, List.set_cons_succ]
            have h1s : (wr.drew.alloc (Obj.cells #[.string ⟨#[]⟩, .string ⟨#[48]⟩, .string ⟨#[48, 120]⟩] 9)).cell? ⟨gB, i, none⟩ = some (.int .u8 bv) ∧ (wr.drew.alloc (Obj.cells #[.string ⟨#[]⟩, .string ⟨#[48]⟩, .string ⟨#[48, 120]⟩] 9)).cell? ⟨wr.heap.size, 0, none⟩ = some (.string ⟨#[]⟩) := ⟨h1, cell_new1 _ _ _ _ _ rfl⟩
            refine wpAnyH_weaken (S' := fun w' => (w'.cell? ⟨gB, i, none⟩ = some (.int .u8 bv)) ∧ w'.cell? ⟨wr.heap.size, 0, none⟩ = some (.string ⟨#[]⟩)) (fun w' h => h.1) _ _ _ _ ?_
            refine wpAnyH_take (i := 6) (v := ?_) rfl (by kernel_rfl) (by kernel_rfl) (by kernel_rfl) (fun _ _ _ h => h) (Or.inl ⟨by rfl, ?_⟩) h1s ?_
            rotate_left
            · intro w hSw
              (try dsimp only at hSw)
              go_simp
              try with_reducible rfl
            try simp only [Act.put, List.setIfInBounds_toArray, List.set_cons_zero, List.set_cons_succ]
            refine wpAnyH_take (i := 7) (v := ?_) rfl (by kernel_rfl) (by kernel_rfl) (by kernel_rfl) (fun _ _ _ h => h) (Or.inl ⟨by rfl, ?_⟩) h1s ?_
            rotate_left
            · intro w hSw
              (try dsimp only at hSw)
              go_simp
              try with_reducible rfl
            try simp only [Act.put, List.setIfInBounds_toArray, List.set_cons_zero, List.set_cons_succ]
            refine wpAnyH_ready (rs := [9]) (by kernel_rfl) (by simp) ?_
            refine AllReadyH.cons rfl (fun K hK => ?_) AllReadyH.nil
            go_simp
            refine hK.out _ _ ?_ (fun h2 => ?_)
            · (try dsimp only); exact ⟨by simp [*, World.cell?_alloc_some], by simp [*, World.cell?_alloc_some]⟩
            clear hK K
            try simp only [Act.put, List.setIfInBounds_toArray, List.set_cons_zero, List.set_cons_succ]
            have h2s : (((wr.drew.alloc (Obj.cells #[.string ⟨#[]⟩, .string ⟨#[48]⟩, .string ⟨#[48, 120]⟩] 9)).alloc (Obj.cells #[.int .i64 10, .int .i64 8, .int .i64 16] 3)).cell? ⟨gB, i, none⟩ = some (.int .u8 bv) ∧ ((wr.drew.alloc (Obj.cells #[.string ⟨#[]⟩, .string ⟨#[48]⟩, .string ⟨#[48, 120]⟩] 9)).alloc (Obj.cells #[.int .i64 10, .int .i64 8, .int .i64 16] 3)).cell? ⟨wr.heap.size, 0, none⟩ = some (.string ⟨#[]⟩)) ∧ ((wr.drew.alloc (Obj.cells #[.string ⟨#[]⟩, .string ⟨#[48]⟩, .string ⟨#[48, 120]⟩] 9)).alloc (Obj.cells #[.int .i64 10, .int .i64 8, .int .i64 16] 3)).cell? ⟨wr.heap.size + 1, 0, none⟩ = some (.int .i64 10) := ⟨h2, cell_new2 _ _ _ _ _ _ rfl⟩
            refine wpAnyH_weaken (S' := fun w' => ((w'.cell? ⟨gB, i, none⟩ = some (.int .u8 bv)) ∧ w'.cell? ⟨wr.heap.size, 0, none⟩ = some (.string ⟨#[]⟩)) ∧ w'.cell? ⟨wr.heap.size + 1, 0, none⟩ = some (.int .i64 10)) (fun w' h => h.1) _ _ _ _ ?_
            refine wpAnyH_take (i := 14) (v := ?_) rfl (by kernel_rfl) (by kernel_rfl) (by kernel_rfl) (fun _ _ _ h => h) (Or.inl ⟨by rfl, ?_⟩) h2s ?_
            rotate_left
            · intro w hSw
              (try dsimp only at hSw)
              go_simp
              try with_reducible rfl
            try simp only [Act.put, List.setIfInBounds_toArray, List.set_cons_zero, List.set_cons_succ]
            refine wpAnyH_take (i := 15) (v := ?_) rfl (by kernel_rfl) (by kernel_rfl) (by kernel_rfl) (fun _ _ _ h => h) (Or.inl ⟨by rfl, ?_⟩) h2s ?_
            rotate_left
            · intro w hSw
              (try dsimp only at hSw)
              go_simp
              try with_reducible rfl
            try simp only [Act.put, List.setIfInBounds_toArray, List.set_cons_zero, List.set_cons_succ]
            refine wpAnyH_ready (rs := [16]) (by kernel_rfl) (by simp) ?_
            refine AllReadyH.cons rfl (fun K hK => ?_) AllReadyH.nil
            go_simp
            go_at_call 8
            refine (fmtP0 X (by omega) _ (Lib.tabIs_alloc (Lib.tabIs_alloc (show PowTab wr.drew from HP.out) _) _) (Lib.tabIs_alloc (Lib.tabIs_alloc (show BruTab wr.drew from HR.out) _) _)).mono ?_
            rintro e w2 ⟨D, rfl, hD, hDl, hbc⟩
            have HD := Lib.hid hD
            clear hD
            (try go_wp2_with fail)
            refine hK.out _ _ ?_ (fun h3 => ?_)
            · exact ⟨⟨(hbc.cell (p := ⟨gB, i, none⟩) (by simp; omega)).trans h2s.1.1, (hbc.cell (p := ⟨wr.heap.size, 0, none⟩) (by simp; omega)).trans h2s.1.2⟩, (hbc.cell (p := ⟨wr.heap.size + 1, 0, none⟩) (by simp)).trans h2s.2⟩
            clear hK K
            try simp only [Act.put, List.setIfInBounds_toArray, List.set_cons_zero, List.set_cons_succ]
            refine wpAnyH_take (i := 17) (v := ?_) rfl (by kernel_rfl) (by kernel_rfl) (by kernel_rfl) (fun _ _ _ h => h) (Or.inl ⟨by rfl, ?_⟩) h3 ?_
            rotate_left
            · intro w hSw
              (try dsimp only at hSw)
              go_simp
              first | with_reducible rfl | (rw [if_neg (by omega)]) | (rw [if_neg (by simp; omega)])
            try simp only [Act.put, List.setIfInBounds_toArray, List.set_cons_zero, List.set_cons_succ]
            refine wpAnyH_take (i := 18) (v := ?_) rfl (by kernel_rfl) (by kernel_rfl) (by kernel_rfl) (fun _ _ _ h => h) (Or.inl ⟨by rfl, ?_⟩) h3 ?_
            rotate_left
            · intro w hSw
              (try dsimp only at hSw)
              go_simp
              first | with_reducible rfl | (rw [if_neg (by omega)]) | (rw [if_neg (by simp; omega)])
            try simp only [Act.put, List.setIfInBounds_toArray, List.set_cons_zero, List.set_cons_succ]
            refine wpAnyH_take (i := 19) (v := ?_) rfl (by kernel_rfl) (by kernel_rfl) (by kernel_rfl) (fun _ _ _ h => h) (Or.inl ⟨by rfl, ?_⟩) h3 ?_
            rotate_left
            · intro w hSw
              (try dsimp only at hSw)
              go_simp
              first | with_reducible rfl | (rw [if_neg (by omega)]) | (rw [if_neg (by simp; omega)])
            try simp only [Act.put, List.setIfInBounds_toArray, List.set_cons_zero, List.set_cons_succ]
            refine wpAnyH_take (i := 20) (v := ?_) rfl (by kernel_rfl) (by kernel_rfl) (by kernel_rfl) (fun _ _ _ h => h) (Or.inl ⟨by rfl, ?_⟩) h3 ?_
            rotate_left
            · intro w hSw
              (try dsimp only at hSw)
              go_simp
              try with_reducible rfl
            try simp only [Act.put, List.setIfInBounds_toArray, List.set_cons_zero, List.set_cons_succ]
            refine wpAnyH_done (by kernel_rfl) ?_ _
            have hfin : Below wr.heap.size wr w2 := bl1 hbc
            have HP2 := Lib.hid (powTab_below HP.out hfin)
            have HR2 := Lib.hid (bruTab_below HR.out hfin)
            have hbw2 : Below x1.heap.size x1 w2 := hbw.trans (hfin.mono hbw.size)
            have HS2 := Lib.hid (HNX.out _ HD.out)
            have hcat : ByteArray.mk T.toArray ++ ((ByteArray.mk #[] ++ ByteArray.mk D.toArray) ++ ByteArray.mk #[46]) = ⟨(T ++ (([] ++ D) ++ [46])).toArray⟩ := by rw [show ByteArray.mk #[] = ByteArray.mk ([] : List UInt8).toArray from rfl, show ByteArray.mk #[46] = ByteArray.mk ([46] : List UInt8).toArray from rfl, mk_append, mk_append, mk_append]
            have hTl : (T ++ (([] ++ D) ++ [46])).length ≤ 300 := HS2.out.2.2
            clear hbc
            go_wp2
            go_roundw
            case rel => exact ⟨i + 1, R, T ++ (([] ++ D) ++ [46]), (by first | exact congrArg Value.string hcat | (rw [← hcat]; rfl)), rfl, by go_num, by omega, by omega, hTl, HS2, HP2, HR2, hbw2⟩
            case measure => simp [intOf]; omega
          · refine AllReadyH.cons rfl (fun K hK => ?_) AllReadyH.nil
            go_simp
            refine hK.out _ _ ?_ (fun h1 => ?_)
            · (try dsimp only); go_keep
            clear hK K
            try simp only [Act.put, List.setIfInBounds_toArray, List.set_cons_zero, List.set_cons_succ]
            have h1s : (wr.drew.alloc (Obj.cells #[.int .i64 10, .int .i64 8, .int .i64 16] 3)).cell? ⟨gB, i, none⟩ = some (.int .u8 bv) ∧ (wr.drew.alloc (Obj.cells #[.int .i64 10, .int .i64 8, .int .i64 16] 3)).cell? ⟨wr.heap.size, 0, none⟩ = some (.int .i64 10) := ⟨h1, cell_new1 _ _ _ _ _ rfl⟩
            refine wpAnyH_weaken (S' := fun w' => (w'.cell? ⟨gB, i, none⟩ = some (.int .u8 bv)) ∧ w'.cell? ⟨wr.heap.size, 0, none⟩ = some (.int .i64 10)) (fun w' h => h.1) _ _ _ _ ?_
            refine wpAnyH_take (i := 14) (v := ?_) rfl (by kernel_rfl) (by kernel_rfl) (by kernel_rfl) (fun _ _ _ h => h) (Or.inl ⟨by rfl, ?_⟩) h1s ?_
            rotate_left
            · intro w hSw
              (try dsimp only at hSw)
              go_simp
              try with_reducible rfl
            try simp only [Act.put, List.setIfInBounds_toArray, List.set_cons_zero, List.set_cons_succ]
            refine wpAnyH_take (i := 15) (v := ?_) rfl (by kernel_rfl) (by kernel_rfl) (by kernel_rfl) (fun _ _ _ h => h) (Or.inl ⟨by rfl, ?_⟩) h1s ?_
            rotate_left
            · intro w hSw
              (try dsimp only at hSw)
              go_simp
              try with_reducible rfl
            try simp only [Act.put, List.setIfInBounds_toArray, List.set_cons_zero, List.set_cons_succ]
            refine wpAnyH_ready (rs := [1, 16]) (by kernel_rfl) (by simp) ?_
            refine AllReadyH.cons rfl (fun K hK => ?_) ?_
            · go_simp
              refine hK.out _ _ ?_ (fun h2 => ?_)
              · (try dsimp only); exact ⟨by simp [*, World.cell?_alloc_some], by simp [*, World.cell?_alloc_some]⟩
              clear hK K
              try simp only [Act.put, List.setIfInBounds_toArray, List.set_cons_zero, List.set_cons_succ]
              have h2s : (((wr.drew.alloc (Obj.cells #[.int .i64 10, .int .i64 8, .int .i64 16] 3)).alloc (Obj.cells #[.string ⟨#[]⟩, .string ⟨#[48]⟩, .string ⟨#[48, 120]⟩] 9)).cell? ⟨gB, i, none⟩ = some (.int .u8 bv) ∧ ((wr.drew.alloc (Obj.cells #[.int .i64 10, .int .i64 8, .int .i64 16] 3)).alloc (Obj.cells #[.string ⟨#[]⟩, .string ⟨#[48]⟩, .string ⟨#[48, 120]⟩] 9)).cell? ⟨wr.heap.size, 0, none⟩ = some (.int .i64 10)) ∧ ((wr.drew.alloc (Obj.cells #[.int .i64 10, .int .i64 8, .int .i64 16] 3)).alloc (Obj.cells #[.string ⟨#[]⟩, .string ⟨#[48]⟩, .string ⟨#[48, 120]⟩] 9)).cell? ⟨wr.heap.size + 1, 0, none⟩ = some (.string ⟨#[]⟩) := ⟨h2, cell_new2 _ _ _ _ _ _ rfl⟩
              refine wpAnyH_weaken (S' := fun w' => ((w'.cell? ⟨gB, i, none⟩ = some (.int .u8 bv)) ∧ w'.cell? ⟨wr.heap.size, 0, none⟩ = some (.int .i64 10)) ∧ w'.cell? ⟨wr.heap.size + 1, 0, none⟩ = some (.string ⟨#[]⟩)) (fun w' h => h.1) _ _ _ _ ?_
              refine wpAnyH_take (i := 6) (v := ?_) rfl (by kernel_rfl) (by kernel_rfl) (by kernel_rfl) (fun _ _ _ h => h) (Or.inl ⟨by rfl, ?_⟩) h2s ?_
              rotate_left
              · intro w hSw
                (try dsimp only at hSw)
                go_simp
                try with_reducible rfl
              try simp only [Act.put, List.setIfInBounds_toArray, List.set_cons_zero, List.set_cons_succ]
              refine wpAnyH_take (i := 7) (v := ?_) rfl (by kernel_rfl) (by kernel_rfl) (by kernel_rfl) (fun _ _ _ h => h) (Or.inl ⟨by rfl, ?_⟩) h2s ?_
              rotate_left
              · intro w hSw
                (try dsimp only at hSw)
                go_simp
                try with_reducible rfl
              try simp only [Act.put, List.setIfInBounds_toArray, List.set_cons_zero, List.set_cons_succ]
              refine wpAnyH_ready (rs := [16]) (by kernel_rfl) (by simp) ?_
              refine AllReadyH.cons rfl (fun K hK => ?_) AllReadyH.nil
              go_simp
              go_at_call 8
              refine (fmtP0 X (by omega) _ (Lib.tabIs_alloc (Lib.tabIs_alloc (show PowTab wr.drew from HP.out) _) _) (Lib.tabIs_alloc (Lib.tabIs_alloc (show BruTab wr.drew from HR.out) _) _)).mono ?_
              rintro e w2 ⟨D, rfl, hD, hDl, hbc⟩
              have HD := Lib.hid hD
              clear hD
              (try go_wp2_with fail)
              refine hK.out _ _ ?_ (fun h3 => ?_)
              · exact ⟨⟨(hbc.cell (p := ⟨gB, i, none⟩) (by simp; omega)).trans h2s.1.1, (hbc.cell (p := ⟨wr.heap.size, 0, none⟩) (by simp; omega)).trans h2s.1.2⟩, (hbc.cell (p := ⟨wr.heap.size + 1, 0, none⟩) (by simp)).trans h2s.2⟩
              clear hK K
              try simp only [Act.put, List.setIfInBounds_toArray, List.set_cons_zero, List.set_cons_succ]
              refine wpAnyH_take (i := 17) (v := ?_) rfl (by kernel_rfl) (by kernel_rfl) (by kernel_rfl) (fun _ _ _ h => h) (Or.inl ⟨by rfl, ?_⟩) h3 ?_
              rotate_left
              · intro w hSw
                (try dsimp only at hSw)
                go_simp
                first | with_reducible rfl | (rw [if_neg (by omega)]) | (rw [if_neg (by simp; omega)])
              try simp only [Act.put, List.setIfInBounds_toArray, List.set_cons_zero, List.set_cons_succ]
              refine wpAnyH_take (i := 18) (v := ?_) rfl (by kernel_rfl) (by kernel_rfl) (by kernel_rfl) (fun _ _ _ h => h) (Or.inl ⟨by rfl, ?_⟩) h3 ?_
              rotate_left
              · intro w hSw
                (try dsimp only at hSw)
                go_simp
                first | with_reducible rfl | (rw [if_neg (by omega)]) | (rw [if_neg (by simp; omega)])
              try simp only [Act.put, List.setIfInBounds_toArray, List.set_cons_zero, List.set_cons_succ]
              refine wpAnyH_take (i := 19) (v := ?_) rfl (by kernel_rfl) (by kernel_rfl) (by kernel_rfl) (fun _ _ _ h => h) (Or.inl ⟨by rfl, ?_⟩) h3 ?_
              rotate_left
              · intro w hSw
                (try dsimp only at hSw)
                go_simp
                first | with_reducible rfl | (rw [if_neg (by omega)]) | (rw [if_neg (by simp; omega)])
              try simp only [Act.put, List.setIfInBounds_toArray, List.set_cons_zero, List.set_cons_succ]
              refine wpAnyH_take (i := 20) (v := ?_) rfl (by kernel_rfl) (by kernel_rfl) (by kernel_rfl) (fun _ _ _ h => h) (Or.inl ⟨by rfl, ?_⟩) h3 ?_
              rotate_left
              · intro w hSw
                (try dsimp only at hSw)
                go_simp
                try with_reducible rfl
              try simp only [Act.put, List.setIfInBounds_toArray, List.set_cons_zero, List.set_cons_succ]
              refine wpAnyH_done (by kernel_rfl) ?_ _
              have hfin : Below wr.heap.size wr w2 := bl1 hbc
              have HP2 := Lib.hid (powTab_below HP.out hfin)
              have HR2 := Lib.hid (bruTab_below HR.out hfin)
              have hbw2 : Below x1.heap.size x1 w2 := hbw.trans (hfin.mono hbw.size)
              have HS2 := Lib.hid (HNX.out _ HD.out)
              have hcat : ByteArray.mk T.toArray ++ ((ByteArray.mk #[] ++ ByteArray.mk D.toArray) ++ ByteArray.mk #[46]) = ⟨(T ++ (([] ++ D) ++ [46])).toArray⟩ := by rw [show ByteArray.mk #[] = ByteArray.mk ([] : List UInt8).toArray from rfl, show ByteArray.mk #[46] = ByteArray.mk ([46] : List UInt8).toArray from rfl, mk_append, mk_append, mk_append]
              have hTl : (T ++ (([] ++ D) ++ [46])).length ≤ 300 := HS2.out.2.2
              clear hbc
              go_wp2
              go_roundw
              case rel => exact ⟨i + 1, R, T ++ (([] ++ D) ++ [46]), (by first | exact congrArg Value.string hcat | (rw [← hcat]; rfl)), rfl, by go_num, by omega, by omega, hTl, HS2, HP2, HR2, hbw2⟩
              case measure => simp [intOf]; omega
            · refine AllReadyH.cons rfl (fun K hK => ?_) AllReadyH.nil
              go_simp
              go_at_call 8
              refine (fmtP0 X (by omega) _ (Lib.tabIs_alloc (show PowTab wr.drew from HP.out) _) (Lib.tabIs_alloc (show BruTab wr.drew from HR.out) _)).mono ?_
              rintro e w2 ⟨D, rfl, hD, hDl, hbc⟩
              have HD := Lib.hid hD
              clear hD
              (try go_wp2_with fail)
              refine hK.out _ _ ?_ (fun h2 => ?_)
              · exact ⟨(hbc.cell (p := ⟨gB, i, none⟩) (by simp; omega)).trans h1s.1, (hbc.cell (p := ⟨wr.heap.size, 0, none⟩) (by simp)).trans h1s.2⟩
              clear hK K
              try simp only [Act.put, List.setIfInBounds_toArray, List.set_cons_zero, List.set_cons_succ]
              refine wpAnyH_ready (rs := [1]) (by kernel_rfl) (by simp) ?_
              refine AllReadyH.cons rfl (fun K hK => ?_) AllReadyH.nil
              go_simp
              refine hK.out _ _ ?_ (fun h3 => ?_)
              · (try dsimp only); exact ⟨by simp [*, World.cell?_alloc_some], by simp [*, World.cell?_alloc_some]⟩
              clear hK K
              try simp only [Act.put, List.setIfInBounds_toArray, List.set_cons_zero, List.set_cons_succ]
              have h3s : ((w2.alloc (Obj.cells #[.string ⟨#[]⟩, .string ⟨#[48]⟩, .string ⟨#[48, 120]⟩] 9)).cell? ⟨gB, i, none⟩ = some (.int .u8 bv) ∧ (w2.alloc (Obj.cells #[.string ⟨#[]⟩, .string ⟨#[48]⟩, .string ⟨#[48, 120]⟩] 9)).cell? ⟨wr.heap.size, 0, none⟩ = some (.int .i64 10)) ∧ (w2.alloc (Obj.cells #[.string ⟨#[]⟩, .string ⟨#[48]⟩, .string ⟨#[48, 120]⟩] 9)).cell? ⟨w2.heap.size, 0, none⟩ = some (.string ⟨#[]⟩) := ⟨h3, cell_new0 _ _ _ _ _ rfl⟩
              refine wpAnyH_weaken (S' := fun w' => ((w'.cell? ⟨gB, i, none⟩ = some (.int .u8 bv)) ∧ w'.cell? ⟨wr.heap.size, 0, none⟩ = some (.int .i64 10)) ∧ w'.cell? ⟨w2.heap.size, 0, none⟩ = some (.string ⟨#[]⟩)) (fun w' h => h.1) _ _ _ _ ?_
              refine wpAnyH_take (i := 6) (v := ?_) rfl (by kernel_rfl) (by kernel_rfl) (by kernel_rfl) (fun _ _ _ h => h) (Or.inl ⟨by rfl, ?_⟩) h3s ?_
              rotate_left
              · intro w hSw
                (try dsimp only at hSw)
                go_simp
                try with_reducible rfl
              try simp only [Act.put, List.setIfInBounds_toArray, List.set_cons_zero, List.set_cons_succ]
              refine wpAnyH_take (i := 7) (v := ?_) rfl (by kernel_rfl) (by kernel_rfl) (by kernel_rfl) (fun _ _ _ h => h) (Or.inl ⟨by rfl, ?_⟩) h3s ?_
              rotate_left
              · intro w hSw
                (try dsimp only at hSw)
                go_simp
                try with_reducible rfl
              try simp only [Act.put, List.setIfInBounds_toArray, List.set_cons_zero, List.set_cons_succ]
              refine wpAnyH_take (i := 17) (v := ?_) rfl (by kernel_rfl) (by kernel_rfl) (by kernel_rfl) (fun _ _ _ h => h) (Or.inl ⟨by rfl, ?_⟩) h3s ?_
              rotate_left
              · intro w hSw
                (try dsimp only at hSw)
                go_simp
                first | with_reducible rfl | (rw [if_neg (by omega)]) | (rw [if_neg (by simp; omega)])
              try simp only [Act.put, List.setIfInBounds_toArray, List.set_cons_zero, List.set_cons_succ]
              refine wpAnyH_take (i := 18) (v := ?_) rfl (by kernel_rfl) (by kernel_rfl) (by kernel_rfl) (fun _ _ _ h => h) (Or.inl ⟨by rfl, ?_⟩) h3s ?_
              rotate_left
              · intro w hSw
                (try dsimp only at hSw)
                go_simp
                first | with_reducible rfl | (rw [if_neg (by omega)]) | (rw [if_neg (by simp; omega)])
              try simp only [Act.put, List.setIfInBounds_toArray, List.set_cons_zero, List.set_cons_succ]
              refine wpAnyH_take (i := 19) (v := ?_) rfl (by kernel_rfl) (by kernel_rfl) (by kernel_rfl) (fun _ _ _ h => h) (Or.inl ⟨by rfl, ?_⟩) h3s ?_
              rotate_left
              · intro w hSw
                (try dsimp only at hSw)
                go_simp
                first | with_reducible rfl | (rw [if_neg (by omega)]) | (rw [if_neg (by simp; omega)])
              try simp only [Act.put, List.setIfInBounds_toArray, List.set_cons_zero, List.set_cons_succ]
              refine wpAnyH_take (i := 20) (v := ?_) rfl (by kernel_rfl) (by kernel_rfl) (by kernel_rfl) (fun _ _ _ h => h) (Or.inl ⟨by rfl, ?_⟩) h3s ?_
              rotate_left
              · intro w hSw
                (try dsimp only at hSw)
                go_simp
                try with_reducible rfl
              try simp only [Act.put, List.setIfInBounds_toArray, List.set_cons_zero, List.set_cons_succ]
              refine wpAnyH_done (by kernel_rfl) ?_ _
              have hfin : Below wr.heap.size wr (w2.alloc (Obj.cells #[.string ⟨#[]⟩, .string ⟨#[48]⟩, .string ⟨#[48, 120]⟩] 9)) := bl2 _ hbc
              have HP2 := Lib.hid (powTab_below HP.out hfin)
              have HR2 := Lib.hid (bruTab_below HR.out hfin)
              have hbw2 : Below x1.heap.size x1 (w2.alloc (Obj.cells #[.string ⟨#[]⟩, .string ⟨#[48]⟩, .string ⟨#[48, 120]⟩] 9)) := hbw.trans (hfin.mono hbw.size)
              have HS2 := Lib.hid (HNX.out _ HD.out)
              have hcat : ByteArray.mk T.toArray ++ ((ByteArray.mk #[] ++ ByteArray.mk D.toArray) ++ ByteArray.mk #[46]) = ⟨(T ++ (([] ++ D) ++ [46])).toArray⟩ := by rw [show ByteArray.mk #[] = ByteArray.mk ([] : List UInt8).toArray from rfl, show ByteArray.mk #[46] = ByteArray.mk ([46] : List UInt8).toArray from rfl, mk_append, mk_append, mk_append]
              have hTl : (T ++ (([] ++ D) ++ [46])).length ≤ 300 := HS2.out.2.2
              clear hbc
              go_wp2
              go_roundw
              case rel => exact ⟨i + 1, R, T ++ (([] ++ D) ++ [46]), (by first | exact congrArg Value.string hcat | (rw [← hcat]; rfl)), rfl, by go_num, by omega, by omega, hTl, HS2, HP2, HR2, hbw2⟩
              case measure => simp [intOf]; omega
        · have hi4 : (i : Int) < 4 := by omega
          have hi0 : (0 : Int) ≤ (i : Int) := by omega
          have htm : bv.tmod 3 = 1 := by rw [Int.tmod_eq_emod_of_nonneg hb0]; exact hq
          go_wp2
          clear hX1 hsh hR1
          refine wp_region_held_drew (S := fun w' => w'.cell? ⟨gB, i, none⟩ = some (.int .u8 bv)) (by kernel_rfl) ?_ (fun hHeld => ?_)
          · (try dsimp only)
            go_keep
          refine wpAnyH_take (i := 0) (v := ?_) rfl (by kernel_rfl) (by kernel_rfl) (by kernel_rfl) (fun _ _ _ h => h) (Or.inl ⟨by rfl, ?_⟩) hHeld ?_
          rotate_left
          · intro w hSw
            (try dsimp only at hSw)
            go_simp
            try with_reducible rfl
          try simp only [Act.put, List.setIfInBounds_toArray, List.set_cons_zero, List.set_cons_succ]
          refine wpAnyH_take (i := 2) (v := ?_) rfl (by kernel_rfl) (by kernel_rfl) (by kernel_rfl) (fun _ _ _ h => h) (Or.inl ⟨by rfl, ?_⟩) hHeld ?_
          rotate_left
          · intro w hSw
            (try dsimp only at hSw)
            go_simp
            try with_reducible rfl
          try simp only [Act.put, List.setIfInBounds_toArray, List.set_cons_zero, List.set_cons_succ]
          refine wpAnyH_take (i := 3) (v := ?_) rfl (by kernel_rfl) (by kernel_rfl) (by kernel_rfl) (fun _ _ _ h => h) (Or.inl ⟨by rfl, ?_⟩) hHeld ?_
          rotate_left
          · intro w hSw
            (try dsimp only at hSw)
            go_simp
            try with_reducible rfl
          try simp only [Act.put, List.setIfInBounds_toArray, List.set_cons_zero, List.set_cons_succ]
          refine wpAnyH_take (i := 4) (v := ?_) rfl (by kernel_rfl) (by kernel_rfl) (by kernel_rfl) (fun _ _ _ h => h) (Or.inl ⟨by rfl, ?_⟩) hHeld ?_
          rotate_left
          · intro w hSw
            (try dsimp only at hSw)
            go_simp
            try with_reducible rfl
          try simp only [Act.put, List.setIfInBounds_toArray, List.set_cons_zero, List.set_cons_succ]
          refine wpAnyH_take (i := 5) (v := ?_) rfl (by kernel_rfl) (by kernel_rfl) (by kernel_rfl) (fun _ _ _ h => h) (Or.inl ⟨by rfl, ?_⟩) hHeld ?_
          rotate_left
          · intro w hSw
            (try dsimp only at hSw)
            go_simp
            try with_reducible rfl
          try simp only [Act.put, List.setIfInBounds_toArray, List.set_cons_zero, List.set_cons_succ]
          refine wpAnyH_take (i := 8) (v := ?_) rfl (by kernel_rfl) (by kernel_rfl) (by kernel_rfl) (fun _ _ _ h => h) (Or.inl ⟨by rfl, ?_⟩) hHeld ?_
          rotate_left
          · intro w hSw
            (try dsimp only at hSw)
            go_simp
            try with_reducible rfl
          try simp only [Act.put, List.setIfInBounds_toArray, List.set_cons_zero, List.set_cons_succ]
          refine wpAnyH_take (i := 10) (v := ?_) rfl (by kernel_rfl) (by kernel_rfl) (by kernel_rfl) (fun _ _ _ h => h) (Or.inl ⟨by rfl, ?_⟩) hHeld ?_
          rotate_left
          · intro w hSw
            (try dsimp only at hSw)
            go_simp
            try with_reducible rfl
          try simp only [Act.put, List.setIfInBounds_toArray, List.set_cons_zero, List.set_cons_succ]
          refine wpAnyH_take (i := 11) (v := ?_) rfl (by kernel_rfl) (by kernel_rfl) (by kernel_rfl) (fun _ _ _ h => h) (Or.inl ⟨by rfl, ?_⟩) hHeld ?_
          rotate_left
          · intro w hSw
            (try dsimp only at hSw)
            go_simp
            try with_reducible rfl
          try simp only [Act.put, List.setIfInBounds_toArray, List.set_cons_zero, List.set_cons_succ]
          refine wpAnyH_take (i := 12) (v := ?_) rfl (by kernel_rfl) (by kernel_rfl) (by kernel_rfl) (fun _ _ _ h => h) (Or.inl ⟨by rfl, ?_⟩) hHeld ?_
          rotate_left
          · intro w hSw
            (try dsimp only at hSw)
            go_simp
            try with_reducible rfl
          try simp only [Act.put, List.setIfInBounds_toArray, List.set_cons_zero, List.set_cons_succ]
          refine wpAnyH_take (i := 13) (v := ?_) rfl (by kernel_rfl) (by kernel_rfl) (by kernel_rfl) (fun _ _ _ h => h) (Or.inl ⟨by rfl, ?_⟩) hHeld ?_
          rotate_left
          · intro w hSw
            (try dsimp only at hSw)
            go_simp
            try with_reducible rfl
          try simp only [Act.put, List.setIfInBounds_toArray, List.set_cons_zero, List.set_cons_succ]
          refine wpAnyH_ready (rs := [1, 9]) (by kernel_rfl) (by simp) ?_
          refine AllReadyH.cons rfl (fun K hK => ?_) ?_
          · go_simp
            refine hK.out _ _ ?_ (fun h1 => ?_)
            · (try dsimp only); go_keep
            clear hK K
            try simp only [Act.put, List.setIfInBounds_toArray, List.set_cons_zero, List.set_cons_succ]
            have h1s : (wr.drew.alloc (Obj.cells #[.string ⟨#[]⟩, .string ⟨#[48]⟩, .string ⟨#[48, 120]⟩] 9)).cell? ⟨gB, i, none⟩ = some (.int .u8 bv) ∧ (wr.drew.alloc (Obj.cells #[.string ⟨#[]⟩, .string ⟨#[48]⟩, .string ⟨#[48, 120]⟩] 9)).cell? ⟨wr.heap.size, 1, none⟩ = some (.string ⟨#[48]⟩) := ⟨h1, cell_new1 _ _ _ _ _ rfl⟩
            refine wpAnyH_weaken (S' := fun w' => (w'.cell? ⟨gB, i, none⟩ = some (.int .u8 bv)) ∧ w'.cell? ⟨wr.heap.size, 1, none⟩ = some (.string ⟨#[48]⟩)) (fun w' h => h.1) _ _ _ _ ?_
            refine wpAnyH_take (i := 6) (v := ?_) rfl (by kernel_rfl) (by kernel_rfl) (by kernel_rfl) (fun _ _ _ h => h) (Or.inl ⟨by rfl, ?_⟩) h1s ?_
            rotate_left
            · intro w hSw
              (try dsimp only at hSw)
              go_simp
              try with_reducible rfl
            try simp only [Act.put, List.setIfInBounds_toArray, List.set_cons_zero, List.set_cons_succ]
            refine wpAnyH_take (i := 7) (v := ?_) rfl (by kernel_rfl) (by kernel_rfl) (by kernel_rfl) (fun _ _ _ h => h) (Or.inl ⟨by rfl, ?_⟩) h1s ?_
            rotate_left
            · intro w hSw
              (try dsimp only at hSw)
              go_simp
              try with_reducible rfl
            try simp only [Act.put, List.setIfInBounds_toArray, List.set_cons_zero, List.set_cons_succ]
            refine wpAnyH_ready (rs := [9]) (by kernel_rfl) (by simp) ?_
            refine AllReadyH.cons rfl (fun K hK => ?_) AllReadyH.nil
            go_simp
            refine hK.out _ _ ?_ (fun h2 => ?_)
            · (try dsimp only); exact ⟨by simp [*, World.cell?_alloc_some], by simp [*, World.cell?_alloc_some]⟩
            clear hK K
            try simp only [Act.put, List.setIfInBounds_toArray, List.set_cons_zero, List.set_cons_succ]
            have h2s : (((wr.drew.alloc (Obj.cells #[.string ⟨#[]⟩, .string ⟨#[48]⟩, .string ⟨#[48, 120]⟩] 9)).alloc (Obj.cells #[.int .i64 10, .int .i64 8, .int .i64 16] 3)).cell? ⟨gB, i, none⟩ = some (.int .u8 bv) ∧ ((wr.drew.alloc (Obj.cells #[.string ⟨#[]⟩, .string ⟨#[48]⟩, .string ⟨#[48, 120]⟩] 9)).alloc (Obj.cells #[.int .i64 10, .int .i64 8, .int .i64 16] 3)).cell? ⟨wr.heap.size, 1, none⟩ = some (.string ⟨#[48]⟩)) ∧ ((wr.drew.alloc (Obj.cells #[.string ⟨#[]⟩, .string ⟨#[48]⟩, .string ⟨#[48, 120]⟩] 9)).alloc (Obj.cells #[.int .i64 10, .int .i64 8, .int .i64 16] 3)).cell? ⟨wr.heap.size + 1, 1, none⟩ = some (.int .i64 8) := ⟨h2, cell_new2 _ _ _ _ _ _ rfl⟩
            refine wpAnyH_weaken (S' := fun w' => ((w'.cell? ⟨gB, i, none⟩ = some (.int .u8 bv)) ∧ w'.cell? ⟨wr.heap.size, 1, none⟩ = some (.string ⟨#[48]⟩)) ∧ w'.cell? ⟨wr.heap.size + 1, 1, none⟩ = some (.int .i64 8)) (fun w' h => h.1) _ _ _ _ ?_
            refine wpAnyH_take (i := 14) (v := ?_) rfl (by kernel_rfl) (by kernel_rfl) (by kernel_rfl) (fun _ _ _ h => h) (Or.inl ⟨by rfl, ?_⟩) h2s ?_
            rotate_left
            · intro w hSw
              (try dsimp only at hSw)
              go_simp
              try with_reducible rfl
            try simp only [Act.put, List.setIfInBounds_toArray, List.set_cons_zero, List.set_cons_succ]
            refine wpAnyH_take (i := 15) (v := ?_) rfl (by kernel_rfl) (by kernel_rfl) (by kernel_rfl) (fun _ _ _ h => h) (Or.inl ⟨by rfl, ?_⟩) h2s ?_
            rotate_left
            · intro w hSw
              (try dsimp only at hSw)
              go_simp
              try with_reducible rfl
            try simp only [Act.put, List.setIfInBounds_toArray, List.set_cons_zero, List.set_cons_succ]
            refine wpAnyH_ready (rs := [16]) (by kernel_rfl) (by simp) ?_
            refine AllReadyH.cons rfl (fun K hK => ?_) AllReadyH.nil
            go_simp
            go_at_call 8
            refine (fmtP1 X (by omega) _ (Lib.tabIs_alloc (Lib.tabIs_alloc (show PowTab wr.drew from HP.out) _) _) (Lib.tabIs_alloc (Lib.tabIs_alloc (show BruTab wr.drew from HR.out) _) _)).mono ?_
            rintro e w2 ⟨D, rfl, hD, hDl, hbc⟩
            have HD := Lib.hid hD
            clear hD
            (try go_wp2_with fail)
            refine hK.out _ _ ?_ (fun h3 => ?_)
            · exact ⟨⟨(hbc.cell (p := ⟨gB, i, none⟩) (by simp; omega)).trans h2s.1.1, (hbc.cell (p := ⟨wr.heap.size, 1, none⟩) (by simp; omega)).trans h2s.1.2⟩, (hbc.cell (p := ⟨wr.heap.size + 1, 1, none⟩) (by simp)).trans h2s.2⟩
            clear hK K
            try simp only [Act.put, List.setIfInBounds_toArray, List.set_cons_zero, List.set_cons_succ]
            refine wpAnyH_take (i := 17) (v := ?_) rfl (by kernel_rfl) (by kernel_rfl) (by kernel_rfl) (fun _ _ _ h => h) (Or.inl ⟨by rfl, ?_⟩) h3 ?_
            rotate_left
            · intro w hSw
              (try dsimp only at hSw)
              go_simp
              first | with_reducible rfl | (rw [if_neg (by omega)]) | (rw [if_neg (by simp; omega)])
            try simp only [Act.put, List.setIfInBounds_toArray, List.set_cons_zero, List.set_cons_succ]
            refine wpAnyH_take (i := 18) (v := ?_) rfl (by kernel_rfl) (by kernel_rfl) (by kernel_rfl) (fun _ _ _ h => h) (Or.inl ⟨by rfl, ?_⟩) h3 ?_
            rotate_left
            · intro w hSw
              (try dsimp only at hSw)
              go_simp
              first | with_reducible rfl | (rw [if_neg (by omega)]) | (rw [if_neg (by simp; omega)])
            try simp only [Act.put, List.setIfInBounds_toArray, List.set_cons_zero, List.set_cons_succ]
            refine wpAnyH_take (i := 19) (v := ?_) rfl (by kernel_rfl) (by kernel_rfl) (by kernel_rfl) (fun _ _ _ h => h) (Or.inl ⟨by rfl, ?_⟩) h3 ?_
            rotate_left
            · intro w hSw
              (try dsimp only at hSw)
              go_simp
              first | with_reducible rfl | (rw [if_neg (by omega)]) | (rw [if_neg (by simp; omega)])
            try simp only [Act.put, List.setIfInBounds_toArray, List.set_cons_zero, List.set_cons_succ]
            refine wpAnyH_take (i := 20) (v := ?_) rfl (by kernel_rfl) (by kernel_rfl) (by kernel_rfl) (fun _ _ _ h => h) (Or.inl ⟨by rfl, ?_⟩) h3 ?_
            rotate_left
            · intro w hSw
              (try dsimp only at hSw)
              go_simp
              try with_reducible rfl
            try simp only [Act.put, List.setIfInBounds_toArray, List.set_cons_zero, List.set_cons_succ]
            refine wpAnyH_done (by kernel_rfl) ?_ _
            have hfin : Below wr.heap.size wr w2 := bl1 hbc
            have HP2 := Lib.hid (powTab_below HP.out hfin)
            have HR2 := Lib.hid (bruTab_below HR.out hfin)
            have hbw2 : Below x1.heap.size x1 w2 := hbw.trans (hfin.mono hbw.size)
            have HS2 := Lib.hid (HNX.out _ HD.out)
            have hcat : ByteArray.mk T.toArray ++ ((ByteArray.mk #[48] ++ ByteArray.mk D.toArray) ++ ByteArray.mk #[46]) = ⟨(T ++ (([48] ++ D) ++ [46])).toArray⟩ := by rw [show ByteArray.mk #[48] = ByteArray.mk ([48] : List UInt8).toArray from rfl, show ByteArray.mk #[46] = ByteArray.mk ([46] : List UInt8).toArray from rfl, mk_append, mk_append, mk_append]
            have hTl : (T ++ (([48] ++ D) ++ [46])).length ≤ 300 := HS2.out.2.2
            clear hbc
            go_wp2
            go_roundw
            case rel => exact ⟨i + 1, R, T ++ (([48] ++ D) ++ [46]), (by first | exact congrArg Value.string hcat | (rw [← hcat]; rfl)), rfl, by go_num, by omega, by omega, hTl, HS2, HP2, HR2, hbw2⟩
            case measure => simp [intOf]; omega
          · refine AllReadyH.cons rfl (fun K hK => ?_) AllReadyH.nil
            go_simp
            refine hK.out _ _ ?_ (fun h1 => ?_)
            · (try dsimp only); go_keep
            clear hK K
            try simp only [Act.put, List.setIfInBounds_toArray, List.set_cons_zero, List.set_cons_succ]
            have h1s : (wr.drew.alloc (Obj.cells #[.int .i64 10, .int .i64 8, .int .i64 16] 3)).cell? ⟨gB, i, none⟩ = some (.int .u8 bv) ∧ (wr.drew.alloc (Obj.cells #[.int .i64 10, .int .i64 8, .int .i64 16] 3)).cell? ⟨wr.heap.size, 1, none⟩ = some (.int .i64 8) := ⟨h1, cell_new1 _ _ _ _ _ rfl⟩
            refine wpAnyH_weaken (S' := fun w' => (w'.cell? ⟨gB, i, none⟩ = some (.int .u8 bv)) ∧ w'.cell? ⟨wr.heap.size, 1, none⟩ = some (.int .i64 8)) (fun w' h => h.1) _ _ _ _ ?_
            refine wpAnyH_take (i := 14) (v := ?_) rfl (by kernel_rfl) (by kernel_rfl) (by kernel_rfl) (fun _ _ _ h => h) (Or.inl ⟨by rfl, ?_⟩) h1s ?_
            rotate_left
            · intro w hSw
              (try dsimp only at hSw)
              go_simp
              try with_reducible rfl
            try simp only [Act.put, List.setIfInBounds_toArray, List.set_cons_zero, List.set_cons_succ]
            refine wpAnyH_take (i := 15) (v := ?_) rfl (by kernel_rfl) (by kernel_rfl) (by kernel_rfl) (fun _ _ _ h => h) (Or.inl ⟨by rfl, ?_⟩) h1s ?_
            rotate_left
            · intro w hSw
              (try dsimp only at hSw)
              go_simp
              try with_reducible rfl
            try simp only [Act.put, List.setIfInBounds_toArray, List.set_cons_zero, List.set_cons_succ]
            refine wpAnyH_ready (rs := [1, 16]) (by kernel_rfl) (by simp) ?_
            refine AllReadyH.cons rfl (fun K hK => ?_) ?_
            · go_simp
              refine hK.out _ _ ?_ (fun h2 => ?_)
              · (try dsimp only); exact ⟨by simp [*, World.cell?_alloc_some], by simp [*, World.cell?_alloc_some]⟩
              clear hK K
              try simp only [Act.put, List.setIfInBounds_toArray, List.set_cons_zero, List.set_cons_succ]
              have h2s : (((wr.drew.alloc (Obj.cells #[.int .i64 10, .int .i64 8, .int .i64 16] 3)).alloc (Obj.cells #[.string ⟨#[]⟩, .string ⟨#[48]⟩, .string ⟨#[48, 120]⟩] 9)).cell? ⟨gB, i, none⟩ = some (.int .u8 bv) ∧ ((wr.drew.alloc (Obj.cells #[.int .i64 10, .int .i64 8, .int .i64 16] 3)).alloc (Obj.cells #[.string ⟨#[]⟩, .string ⟨#[48]⟩, .string ⟨#[48, 120]⟩] 9)).cell? ⟨wr.heap.size, 1, none⟩ = some (.int .i64 8)) ∧ ((wr.drew.alloc (Obj.cells #[.int .i64 10, .int .i64 8, .int .i64 16] 3)).alloc (Obj.cells #[.string ⟨#[]⟩, .string ⟨#[48]⟩, .string ⟨#[48, 120]⟩] 9)).cell? ⟨wr.heap.size + 1, 1, none⟩ = some (.string ⟨#[48]⟩) := ⟨h2, cell_new2 _ _ _ _ _ _ rfl⟩
              refine wpAnyH_weaken (S' := fun w' => ((w'.cell? ⟨gB, i, none⟩ = some (.int .u8 bv)) ∧ w'.cell? ⟨wr.heap.size, 1, none⟩ = some (.int .i64 8)) ∧ w'.cell? ⟨wr.heap.size + 1, 1, none⟩ = some (.string ⟨#[48]⟩)) (fun w' h => h.1) _ _ _ _ ?_
              refine wpAnyH_take (i := 6) (v := ?_) rfl (by kernel_rfl) (by kernel_rfl) (by kernel_rfl) (fun _ _ _ h => h) (Or.inl ⟨by rfl, ?_⟩) h2s ?_
              rotate_left
              · intro w hSw
                (try dsimp only at hSw)
                go_simp
                try with_reducible rfl
              try simp only [Act.put, List.setIfInBounds_toArray, List.set_cons_zero, List.set_cons_succ]
              refine wpAnyH_take (i := 7) (v := ?_) rfl (by kernel_rfl) (by kernel_rfl) (by kernel_rfl) (fun _ _ _ h => h) (Or.inl ⟨by rfl, ?_⟩) h2s ?_
              rotate_left
              · intro w hSw
                (try dsimp only at hSw)
                go_simp
                try with_reducible rfl
              try simp only [Act.put, List.setIfInBounds_toArray, List.set_cons_zero, List.set_cons_succ]
              refine wpAnyH_ready (rs := [16]) (by kernel_rfl) (by simp) ?_
              refine AllReadyH.cons rfl (fun K hK => ?_) AllReadyH.nil
              go_simp
              go_at_call 8
              refine (fmtP1 X (by omega) _ (Lib.tabIs_alloc (Lib.tabIs_alloc (show PowTab wr.drew from HP.out) _) _) (Lib.tabIs_alloc (Lib.tabIs_alloc (show BruTab wr.drew from HR.out) _) _)).mono ?_
              rintro e w2 ⟨D, rfl, hD, hDl, hbc⟩
              have HD := Lib.hid hD
              clear hD
              (try go_wp2_with fail)
              refine hK.out _ _ ?_ (fun h3 => ?_)
              · exact ⟨⟨(hbc.cell (p := ⟨gB, i, none⟩) (by simp; omega)).trans h2s.1.1, (hbc.cell (p := ⟨wr.heap.size, 1, none⟩) (by simp; omega)).trans h2s.1.2⟩, (hbc.cell (p := ⟨wr.heap.size + 1, 1, none⟩) (by simp)).trans h2s.2⟩
              clear hK K
              try simp only [Act.put, List.setIfInBounds_toArray, List.set_cons_zero, List.set_cons_succ]
              refine wpAnyH_take (i := 17) (v := ?_) rfl (by kernel_rfl) (by kernel_rfl) (by kernel_rfl) (fun _ _ _ h => h) (Or.inl ⟨by rfl, ?_⟩) h3 ?_
              rotate_left
              · intro w hSw
                (try dsimp only at hSw)
                go_simp
                first | with_reducible rfl | (rw [if_neg (by omega)]) | (rw [if_neg (by simp; omega)])
              try simp only [Act.put, List.setIfInBounds_toArray, List.set_cons_zero, List.set_cons_succ]
              refine wpAnyH_take (i := 18) (v := ?_) rfl (by kernel_rfl) (by kernel_rfl) (by kernel_rfl) (fun _ _ _ h => h) (Or.inl ⟨by rfl, ?_⟩) h3 ?_
              rotate_left
              · intro w hSw
                (try dsimp only at hSw)
                go_simp
                first | with_reducible rfl | (rw [if_neg (by omega)]) | (rw [if_neg (by simp; omega)])
              try simp only [Act.put, List.setIfInBounds_toArray, List.set_cons_zero, List.set_cons_succ]
              refine wpAnyH_take (i := 19) (v := ?_) rfl (by kernel_rfl) (by kernel_rfl) (by kernel_rfl) (fun _ _ _ h => h) (Or.inl ⟨by rfl, ?_⟩) h3 ?_
              rotate_left
              · intro w hSw
                (try dsimp only at hSw)
                go_simp
                first | with_reducible rfl | (rw [if_neg (by omega)]) | (rw [if_neg (by simp; omega)])
              try simp only [Act.put, List.setIfInBounds_toArray, List.set_cons_zero, List.set_cons_succ]
              refine wpAnyH_take (i := 20) (v := ?_) rfl (by kernel_rfl) (by kernel_rfl) (by kernel_rfl) (fun _ _ _ h => h) (Or.inl ⟨by rfl, ?_⟩) h3 ?_
              rotate_left
              · intro w hSw
                (try dsimp only at hSw)
                go_simp
                try with_reducible rfl
              try simp only [Act.put, List.setIfInBounds_toArray, List.set_cons_zero, List.set_cons_succ]
              refine wpAnyH_done (by kernel_rfl) ?_ _
              have hfin : Below wr.heap.size wr w2 := bl1 hbc
              have HP2 := Lib.hid (powTab_below HP.out hfin)
              have HR2 := Lib.hid (bruTab_below HR.out hfin)
              have hbw2 : Below x1.heap.size x1 w2 := hbw.trans (hfin.mono hbw.size)
              have HS2 := Lib.hid (HNX.out _ HD.out)
              have hcat : ByteArray.mk T.toArray ++ ((ByteArray.mk #[48] ++ ByteArray.mk D.toArray) ++ ByteArray.mk #[46]) = ⟨(T ++ (([48] ++ D) ++ [46])).toArray⟩ := by rw [show ByteArray.mk #[48] = ByteArray.mk ([48] : List UInt8).toArray from rfl, show ByteArray.mk #[46] = ByteArray.mk ([46] : List UInt8).toArray from rfl, mk_append, mk_append, mk_append]
              have hTl : (T ++ (([48] ++ D) ++ [46])).length ≤ 300 := HS2.out.2.2
              clear hbc
              go_wp2
              go_roundw
              case rel => exact ⟨i + 1, R, T ++ (([48] ++ D) ++ [46]), (by first | exact congrArg Value.string hcat | (rw [← hcat]; rfl)), rfl, by go_num, by omega, by omega, hTl, HS2, HP2, HR2, hbw2⟩
              case measure => simp [intOf]; omega
            · refine AllReadyH.cons rfl (fun K hK => ?_) AllReadyH.nil
              go_simp
              go_at_call 8
              refine (fmtP1 X (by omega) _ (Lib.tabIs_alloc (show PowTab wr.drew from HP.out) _) (Lib.tabIs_alloc (show BruTab wr.drew from HR.out) _)).mono ?_
              rintro e w2 ⟨D, rfl, hD, hDl, hbc⟩
              have HD := Lib.hid hD
              clear hD
              (try go_wp2_with fail)
              refine hK.out _ _ ?_ (fun h2 => ?_)
              · exact ⟨(hbc.cell (p := ⟨gB, i, none⟩) (by simp; omega)).trans h1s.1, (hbc.cell (p := ⟨wr.heap.size, 1, none⟩) (by simp)).trans h1s.2⟩
              clear hK K
              try simp only [Act.put, List.setIfInBounds_toArray, List.set_cons_zero, List.set_cons_succ]
              refine wpAnyH_ready (rs := [1]) (by kernel_rfl) (by simp) ?_
              refine AllReadyH.cons rfl (fun K hK => ?_) AllReadyH.nil
              go_simp
              refine hK.out _ _ ?_ (fun h3 => ?_)
              · (try dsimp only); exact ⟨by simp [*, World.cell?_alloc_some], by simp [*, World.cell?_alloc_some]⟩
              clear hK K
              try simp only [Act.put, List.setIfInBounds_toArray, List.set_cons_zero, List.set_cons_succ]
              have h3s : ((w2.alloc (Obj.cells #[.string ⟨#[]⟩, .string ⟨#[48]⟩, .string ⟨#[48, 120]⟩] 9)).cell? ⟨gB, i, none⟩ = some (.int .u8 bv) ∧ (w2.alloc (Obj.cells #[.string ⟨#[]⟩, .string ⟨#[48]⟩, .string ⟨#[48, 120]⟩] 9)).cell? ⟨wr.heap.size, 1, none⟩ = some (.int .i64 8)) ∧ (w2.alloc (Obj.cells #[.string ⟨#[]⟩, .string ⟨#[48]⟩, .string ⟨#[48, 120]⟩] 9)).cell? ⟨w2.heap.size, 1, none⟩ = some (.string ⟨#[48]⟩) := ⟨h3, cell_new0 _ _ _ _ _ rfl⟩
              refine wpAnyH_weaken (S' := fun w' => ((w'.cell? ⟨gB, i, none⟩ = some (.int .u8 bv)) ∧ w'.cell? ⟨wr.heap.size, 1, none⟩ = some (.int .i64 8)) ∧ w'.cell? ⟨w2.heap.size, 1, none⟩ = some (.string ⟨#[48]⟩)) (fun w' h => h.1) _ _ _ _ ?_
              refine wpAnyH_take (i := 6) (v := ?_) rfl (by kernel_rfl) (by kernel_rfl) (by kernel_rfl) (fun _ _ _ h => h) (Or.inl ⟨by rfl, ?_⟩) h3s ?_
              rotate_left
              · intro w hSw
                (try dsimp only at hSw)
                go_simp
                try with_reducible rfl
              try simp only [Act.put, List.setIfInBounds_toArray, List.set_cons_zero, List.set_cons_succ]
              refine wpAnyH_take (i := 7) (v := ?_) rfl (by kernel_rfl) (by kernel_rfl) (by kernel_rfl) (fun _ _ _ h => h) (Or.inl ⟨by rfl, ?_⟩) h3s ?_
              rotate_left
              · intro w hSw
                (try dsimp only at hSw)
                go_simp
                try with_reducible rfl
              try simp only [Act.put, List.setIfInBounds_toArray, List.set_cons_zero, List.set_cons_succ]
              refine wpAnyH_take (i := 17) (v := ?_) rfl (by kernel_rfl) (by kernel_rfl) (by kernel_rfl) (fun _ _ _ h => h) (Or.inl ⟨by rfl, ?_⟩) h3s ?_
              rotate_left
              · intro w hSw
                (try dsimp only at hSw)
                go_simp
                first | with_reducible rfl | (rw [if_neg (by omega)]) | (rw [if_neg (by simp; omega)])
              try simp only [Act.put, List.setIfInBounds_toArray, List.set_cons_zero, List.set_cons_succ]
              refine wpAnyH_take (i := 18) (v := ?_) rfl (by kernel_rfl) (by kernel_rfl) (by kernel_rfl) (fun _ _ _ h => h) (Or.inl ⟨by rfl, ?_⟩) h3s ?_
              rotate_left
              · intro w hSw
                (try dsimp only at hSw)
                go_simp
                first | with_reducible rfl | (rw [if_neg (by omega)]) | (rw [if_neg (by simp; omega)])
              try simp only [Act.put, List.setIfInBounds_toArray, List.set_cons_zero, List.set_cons_succ]
              refine wpAnyH_take (i := 19) (v := ?_) rfl (by kernel_rfl) (by kernel_rfl) (by kernel_rfl) (fun _ _ _ h => h) (Or.inl ⟨by rfl, ?_⟩) h3s ?_
              rotate_left
              · intro w hSw
                (try dsimp only at hSw)
                go_simp
                first | with_reducible rfl | (rw [if_neg (by omega)]) | (rw [if_neg (by simp; omega)])
              try simp only [Act.put, List.setIfInBounds_toArray, List.set_cons_zero, List.set_cons_succ]
              refine wpAnyH_take (i := 20) (v := ?_) rfl (by kernel_rfl) (by kernel_rfl) (by kernel_rfl) (fun _ _ _ h => h) (Or.inl ⟨by rfl, ?_⟩) h3s ?_
              rotate_left
              · intro w hSw
                (try dsimp only at hSw)
                go_simp
                try with_reducible rfl
              try simp only [Act.put, List.setIfInBounds_toArray, List.set_cons_zero, List.set_cons_succ]
              refine wpAnyH_done (by kernel_rfl) ?_ _
              have hfin : Below wr.heap.size wr (w2.alloc (Obj.cells #[.string ⟨#[]⟩, .string ⟨#[48]⟩, .string ⟨#[48, 120]⟩] 9)) := bl2 _ hbc
              have HP2 := Lib.hid (powTab_below HP.out hfin)
              have HR2 := Lib.hid (bruTab_below HR.out hfin)
              have hbw2 : Below x1.heap.size x1 (w2.alloc (Obj.cells #[.string ⟨#[]⟩, .string ⟨#[48]⟩, .string ⟨#[48, 120]⟩] 9)) := hbw.trans (hfin.mono hbw.size)
              have HS2 := Lib.hid (HNX.out _ HD.out)
              have hcat : ByteArray.mk T.toArray ++ ((ByteArray.mk #[48] ++ ByteArray.mk D.toArray) ++ ByteArray.mk #[46]) = ⟨(T ++ (([48] ++ D) ++ [46])).toArray⟩ := by rw [show ByteArray.mk #[48] = ByteArray.mk ([48] : List UInt8).toArray from rfl, show ByteArray.mk #[46] = ByteArray.mk ([46] : List UInt8).toArray from rfl, mk_append, mk_append, mk_append]
              have hTl : (T ++ (([48] ++ D) ++ [46])).length ≤ 300 := HS2.out.2.2
              clear hbc
              go_wp2
              go_roundw
              case rel => exact ⟨i + 1, R, T ++ (([48] ++ D) ++ [46]), (by first | exact congrArg Value.string hcat | (rw [← hcat]; rfl)), rfl, by go_num, by omega, by omega, hTl, HS2, HP2, HR2, hbw2⟩
              case measure => simp [intOf]; omega
        · have hi4 : (i : Int) < 4 := by omega
          have hi0 : (0 : Int) ≤ (i : Int) := by omega
          have htm : bv.tmod 3 = 2 := by rw [Int.tmod_eq_emod_of_nonneg hb0]; exact hq
          go_wp2
          clear hX1 hsh hR1
          refine wp_region_held_drew (S := fun w' => w'.cell? ⟨gB, i, none⟩ = some (.int .u8 bv)) (by kernel_rfl) ?_ (fun hHeld => ?_)
          · (try dsimp only)
            go_keep
          refine wpAnyH_take (i := 0) (v := ?_) rfl (by kernel_rfl) (by kernel_rfl) (by kernel_rfl) (fun _ _ _ h => h) (Or.inl ⟨by rfl, ?_⟩) hHeld ?_
          rotate_left
          · intro w hSw
            (try dsimp only at hSw)
            go_simp
            try with_reducible rfl
          try simp only [Act.put, List.setIfInBounds_toArray, List.set_cons_zero, List.set_cons_succ]
          refine wpAnyH_take (i := 2) (v := ?_) rfl (by kernel_rfl) (by kernel_rfl) (by kernel_rfl) (fun _ _ _ h => h) (Or.inl ⟨by rfl, ?_⟩) hHeld ?_
          rotate_left
          · intro w hSw
            (try dsimp only at hSw)
            go_simp
            try with_reducible rfl
          try simp only [Act.put, List.setIfInBounds_toArray, List.set_cons_zero, List.set_cons_succ]
          refine wpAnyH_take (i := 3) (v := ?_) rfl (by kernel_rfl) (by kernel_rfl) (by kernel_rfl) (fun _ _ _ h => h) (Or.inl ⟨by rfl, ?_⟩) hHeld ?_
          rotate_left
          · intro w hSw
            (try dsimp only at hSw)
            go_simp
            try with_reducible rfl
          try simp only [Act.put, List.setIfInBounds_toArray, List.set_cons_zero, List.set_cons_succ]
          refine wpAnyH_take (i := 4) (v := ?_) rfl (by kernel_rfl) (by kernel_rfl) (by kernel_rfl) (fun _ _ _ h => h) (Or.inl ⟨by rfl, ?_⟩) hHeld ?_
          rotate_left
          · intro w hSw
            (try dsimp only at hSw)
            go_simp
            try with_reducible rfl
          try simp only [Act.put, List.setIfInBounds_toArray, List.set_cons_zero, List.set_cons_succ]
          refine wpAnyH_take (i := 5) (v := ?_) rfl (by kernel_rfl) (by kernel_rfl) (by kernel_rfl) (fun _ _ _ h => h) (Or.inl ⟨by rfl, ?_⟩) hHeld ?_
          rotate_left
          · intro w hSw
            (try dsimp only at hSw)
            go_simp
            try with_reducible rfl
          try simp only [Act.put, List.setIfInBounds_toArray, List.set_cons_zero, List.set_cons_succ]
          refine wpAnyH_take (i := 8) (v := ?_) rfl (by kernel_rfl) (by kernel_rfl) (by kernel_rfl) (fun _ _ _ h => h) (Or.inl ⟨by rfl, ?_⟩) hHeld ?_
          rotate_left
          · intro w hSw
            (try dsimp only at hSw)
            go_simp
            try with_reducible rfl
          try simp only [Act.put, List.setIfInBounds_toArray, List.set_cons_zero, List.set_cons_succ]
          refine wpAnyH_take (i := 10) (v := ?_) rfl (by kernel_rfl) (by kernel_rfl) (by kernel_rfl) (fun _ _ _ h => h) (Or.inl ⟨by rfl, ?_⟩) hHeld ?_
          rotate_left
          · intro w hSw
            (try dsimp only at hSw)
            go_simp
            try with_reducible rfl
          try simp only [Act.put, List.setIfInBounds_toArray, List.set_cons_zero, List.set_cons_succ]
          refine wpAnyH_take (i := 11) (v := ?_) rfl (by kernel_rfl) (by kernel_rfl) (by kernel_rfl) (fun _ _ _ h => h) (Or.inl ⟨by rfl, ?_⟩) hHeld ?_
          rotate_left
          · intro w hSw
            (try dsimp only at hSw)
            go_simp
            try with_reducible rfl
          try simp only [Act.put, List.setIfInBounds_toArray, List.set_cons_zero, List.set_cons_succ]
          refine wpAnyH_take (i := 12) (v := ?_) rfl (by kernel_rfl) (by kernel_rfl) (by kernel_rfl) (fun _ _ _ h => h) (Or.inl ⟨by rfl, ?_⟩) hHeld ?_
          rotate_left
          · intro w hSw
            (try dsimp only at hSw)
            go_simp
            try with_reducible rfl
          try simp only [Act.put, List.setIfInBounds_toArray, List.set_cons_zero, List.set_cons_succ]
          refine wpAnyH_take (i := 13) (v := ?_) rfl (by kernel_rfl) (by kernel_rfl) (by kernel_rfl) (fun _ _ _ h => h) (Or.inl ⟨by rfl, ?_⟩) hHeld ?_
          rotate_left
          · intro w hSw
            (try dsimp only at hSw)
            go_simp
            try with_reducible rfl
          try simp only [Act.put, List.setIfInBounds_toArray, List.set_cons_zero, List.set_cons_succ]
          refine wpAnyH_ready (rs := [1, 9]) (by kernel_rfl) (by simp) ?_
          refine AllReadyH.cons rfl (fun K hK => ?_) ?_
          · go_simp
            refine hK.out _ _ ?_ (fun h1 => ?_)
            · (try dsimp only); go_keep
            clear hK K
            try simp only [Act.put, List.setIfInBounds_toArray, List.set_cons_zero, List.set_cons_succ]
            have h1s : (wr.drew.alloc (Obj.cells #[.string ⟨#[]⟩, .string ⟨#[48]⟩, .string ⟨#[48, 120]⟩] 9)).cell? ⟨gB, i, none⟩ = some (.int .u8 bv) ∧ (wr.drew.alloc (Obj.cells #[.string ⟨#[]⟩, .string ⟨#[48]⟩, .string ⟨#[48, 120]⟩] 9)).cell? ⟨wr.heap.size, 2, none⟩ = some (.string ⟨#[48, 120]⟩) := ⟨h1, cell_new1 _ _ _ _ _ rfl⟩
            refine wpAnyH_weaken (S' := fun w' => (w'.cell? ⟨gB, i, none⟩ = some (.int .u8 bv)) ∧ w'.cell? ⟨wr.heap.size, 2, none⟩ = some (.string ⟨#[48, 120]⟩)) (fun w' h => h.1) _ _ _ _ ?_
            refine wpAnyH_take (i := 6) (v := ?_) rfl (by kernel_rfl) (by kernel_rfl) (by kernel_rfl) (fun _ _ _ h => h) (Or.inl ⟨by rfl, ?_⟩) h1s ?_
            rotate_left
            · intro w hSw
              (try dsimp only at hSw)
              go_simp
              try with_reducible rfl
            try simp only [Act.put, List.setIfInBounds_toArray, List.set_cons_zero, List.set_cons_succ]
            refine wpAnyH_take (i := 7) (v := ?_) rfl (by kernel_rfl) (by kernel_rfl) (by kernel_rfl) (fun _ _ _ h => h) (Or.inl ⟨by rfl, ?_⟩) h1s ?_
            rotate_left
            · intro w hSw
              (try dsimp only at hSw)
              go_simp
              try with_reducible rfl
            try simp only [Act.put, List.setIfInBounds_toArray, List.set_cons_zero, List.set_cons_succ]
            refine wpAnyH_ready (rs := [9]) (by kernel_rfl) (by simp) ?_
            refine AllReadyH.cons rfl (fun K hK => ?_) AllReadyH.nil
            go_simp
            refine hK.out _ _ ?_ (fun h2 => ?_)
            · (try dsimp only); exact ⟨by simp [*, World.cell?_alloc_some], by simp [*, World.cell?_alloc_some]⟩
            clear hK K
            try simp only [Act.put, List.setIfInBounds_toArray, List.set_cons_zero, List.set_cons_succ]
            have h2s : (((wr.drew.alloc (Obj.cells #[.string ⟨#[]⟩, .string ⟨#[48]⟩, .string ⟨#[48, 120]⟩] 9)).alloc (Obj.cells #[.int .i64 10, .int .i64 8, .int .i64 16] 3)).cell? ⟨gB, i, none⟩ = some (.int .u8 bv) ∧ ((wr.drew.alloc (Obj.cells #[.string ⟨#[]⟩, .string ⟨#[48]⟩, .string ⟨#[48, 120]⟩] 9)).alloc (Obj.cells #[.int .i64 10, .int .i64 8, .int .i64 16] 3)).cell? ⟨wr.heap.size, 2, none⟩ = some (.string ⟨#[48, 120]⟩)) ∧ ((wr.drew.alloc (Obj.cells #[.string ⟨#[]⟩, .string ⟨#[48]⟩, .string ⟨#[48, 120]⟩] 9)).alloc (Obj.cells #[.int .i64 10, .int .i64 8, .int .i64 16] 3)).cell? ⟨wr.heap.size + 1, 2, none⟩ = some (.int .i64 16) := ⟨h2, cell_new2 _ _ _ _ _ _ rfl⟩
            refine wpAnyH_weaken (S' := fun w' => ((w'.cell? ⟨gB, i, none⟩ = some (.int .u8 bv)) ∧ w'.cell? ⟨wr.heap.size, 2, none⟩ = some (.string ⟨#[48, 120]⟩)) ∧ w'.cell? ⟨wr.heap.size + 1, 2, none⟩ = some (.int .i64 16)) (fun w' h => h.1) _ _ _ _ ?_
            refine wpAnyH_take (i := 14) (v := ?_) rfl (by kernel_rfl) (by kernel_rfl) (by kernel_rfl) (fun _ _ _ h => h) (Or.inl ⟨by rfl, ?_⟩) h2s ?_
            rotate_left
            · intro w hSw
              (try dsimp only at hSw)
              go_simp
              try with_reducible rfl
            try simp only [Act.put, List.setIfInBounds_toArray, List.set_cons_zero, List.set_cons_succ]
            refine wpAnyH_take (i := 15) (v := ?_) rfl (by kernel_rfl) (by kernel_rfl) (by kernel_rfl) (fun _ _ _ h => h) (Or.inl ⟨by rfl, ?_⟩) h2s ?_
            rotate_left
            · intro w hSw
              (try dsimp only at hSw)
              go_simp
              try with_reducible rfl
            try simp only [Act.put, List.setIfInBounds_toArray, List.set_cons_zero, List.set_cons_succ]
            refine wpAnyH_ready (rs := [16]) (by kernel_rfl) (by simp) ?_
            refine AllReadyH.cons rfl (fun K hK => ?_) AllReadyH.nil
            go_simp
            go_at_call 8
            refine (fmtP2 X (by omega) _ (Lib.tabIs_alloc (Lib.tabIs_alloc (show PowTab wr.drew from HP.out) _) _) (Lib.tabIs_alloc (Lib.tabIs_alloc (show BruTab wr.drew from HR.out) _) _)).mono ?_
            rintro e w2 ⟨D, rfl, hD, hDl, hbc⟩
            have HD := Lib.hid hD
            clear hD
            (try go_wp2_with fail)
            refine hK.out _ _ ?_ (fun h3 => ?_)
            · exact ⟨⟨(hbc.cell (p := ⟨gB, i, none⟩) (by simp; omega)).trans h2s.1.1, (hbc.cell (p := ⟨wr.heap.size, 2, none⟩) (by simp; omega)).trans h2s.1.2⟩, (hbc.cell (p := ⟨wr.heap.size + 1, 2, none⟩) (by simp)).trans h2s.2⟩
            clear hK K
            try simp only [Act.put, List.setIfInBounds_toArray, List.set_cons_zero, List.set_cons_succ]
            refine wpAnyH_take (i := 17) (v := ?_) rfl (by kernel_rfl) (by kernel_rfl) (by kernel_rfl) (fun _ _ _ h => h) (Or.inl ⟨by rfl, ?_⟩) h3 ?_
            rotate_left
            · intro w hSw
              (try dsimp only at hSw)
              go_simp
              first | with_reducible rfl | (rw [if_neg (by omega)]) | (rw [if_neg (by simp; omega)])
            try simp only [Act.put, List.setIfInBounds_toArray, List.set_cons_zero, List.set_cons_succ]
            refine wpAnyH_take (i := 18) (v := ?_) rfl (by kernel_rfl) (by kernel_rfl) (by kernel_rfl) (fun _ _ _ h => h) (Or.inl ⟨by rfl, ?_⟩) h3 ?_
            rotate_left
            · intro w hSw
              (try dsimp only at hSw)
              go_simp
              first | with_reducible rfl | (rw [if_neg (by omega)]) | (rw [if_neg (by simp; omega)])
            try simp only [Act.put, List.setIfInBounds_toArray, List.set_cons_zero, List.set_cons_succ]
            refine wpAnyH_take (i := 19) (v := ?_) rfl (by kernel_rfl) (by kernel_rfl) (by kernel_rfl) (fun _ _ _ h => h) (Or.inl ⟨by rfl, ?_⟩) h3 ?_
            rotate_left
            · intro w hSw
              (try dsimp only at hSw)
              go_simp
              first | with_reducible rfl | (rw [if_neg (by omega)]) | (rw [if_neg (by simp; omega)])
            try simp only [Act.put, List.setIfInBounds_toArray, List.set_cons_zero, List.set_cons_succ]
            refine wpAnyH_take (i := 20) (v := ?_) rfl (by kernel_rfl) (by kernel_rfl) (by kernel_rfl) (fun _ _ _ h => h) (Or.inl ⟨by rfl, ?_⟩) h3 ?_
            rotate_left
            · intro w hSw
              (try dsimp only at hSw)
              go_simp
              try with_reducible rfl
            try simp only [Act.put, List.setIfInBounds_toArray, List.set_cons_zero, List.set_cons_succ]
            refine wpAnyH_done (by kernel_rfl) ?_ _
            have hfin : Below wr.heap.size wr w2 := bl1 hbc
            have HP2 := Lib.hid (powTab_below HP.out hfin)
            have HR2 := Lib.hid (bruTab_below HR.out hfin)
            have hbw2 : Below x1.heap.size x1 w2 := hbw.trans (hfin.mono hbw.size)
            have HS2 := Lib.hid (HNX.out _ HD.out)
            have hcat : ByteArray.mk T.toArray ++ ((ByteArray.mk #[48, 120] ++ ByteArray.mk D.toArray) ++ ByteArray.mk #[46]) = ⟨(T ++ (([48, 120] ++ D) ++ [46])).toArray⟩ := by rw [show ByteArray.mk #[48, 120] = ByteArray.mk ([48, 120] : List UInt8).toArray from rfl, show ByteArray.mk #[46] = ByteArray.mk ([46] : List UInt8).toArray from rfl, mk_append, mk_append, mk_append]
            have hTl : (T ++ (([48, 120] ++ D) ++ [46])).length ≤ 300 := HS2.out.2.2
            clear hbc
            go_wp2
            go_roundw
            case rel => exact ⟨i + 1, R, T ++ (([48, 120] ++ D) ++ [46]), (by first | exact congrArg Value.string hcat | (rw [← hcat]; rfl)), rfl, by go_num, by omega, by omega, hTl, HS2, HP2, HR2, hbw2⟩
            case measure => simp [intOf]; omega
          · refine AllReadyH.cons rfl (fun K hK => ?_) AllReadyH.nil
            go_simp
            refine hK.out _ _ ?_ (fun h1 => ?_)
            · (try dsimp only); go_keep
            clear hK K
            try simp only [Act.put, List.setIfInBounds_toArray, List.set_cons_zero, List.set_cons_succ]
            have h1s : (wr.drew.alloc (Obj.cells #[.int .i64 10, .int .i64 8, .int .i64 16] 3)).cell? ⟨gB, i, none⟩ = some (.int .u8 bv) ∧ (wr.drew.alloc (Obj.cells #[.int .i64 10, .int .i64 8, .int .i64 16] 3)).cell? ⟨wr.heap.size, 2, none⟩ = some (.int .i64 16) := ⟨h1, cell_new1 _ _ _ _ _ rfl⟩
            refine wpAnyH_weaken (S' := fun w' => (w'.cell? ⟨gB, i, none⟩ = some (.int .u8 bv)) ∧ w'.cell? ⟨wr.heap.size, 2, none⟩ = some (.int .i64 16)) (fun w' h => h.1) _ _ _ _ ?_
            refine wpAnyH_take (i := 14) (v := ?_) rfl (by kernel_rfl) (by kernel_rfl) (by kernel_rfl) (fun _ _ _ h => h) (Or.inl ⟨by rfl, ?_⟩) h1s ?_
            rotate_left
            · intro w hSw
              (try dsimp only at hSw)
              go_simp
              try with_reducible rfl
            try simp only [Act.put, List.setIfInBounds_toArray, List.set_cons_zero, List.set_cons_succ]
            refine wpAnyH_take (i := 15) (v := ?_) rfl (by kernel_rfl) (by kernel_rfl) (by kernel_rfl) (fun _ _ _ h => h) (Or.inl ⟨by rfl, ?_⟩) h1s ?_
            rotate_left
            · intro w hSw
              (try dsimp only at hSw)
              go_simp
              try with_reducible rfl
            try simp only [Act.put, List.setIfInBounds_toArray, List.set_cons_zero, List.set_cons_succ]
            refine wpAnyH_ready (rs := [1, 16]) (by kernel_rfl) (by simp) ?_
            refine AllReadyH.cons rfl (fun K hK => ?_) ?_
            · go_simp
              refine hK.out _ _ ?_ (fun h2 => ?_)
              · (try dsimp only); exact ⟨by simp [*, World.cell?_alloc_some], by simp [*, World.cell?_alloc_some]⟩
              clear hK K
              try simp only [Act.put, List.setIfInBounds_toArray, List.set_cons_zero, List.set_cons_succ]
              have h2s : (((wr.drew.alloc (Obj.cells #[.int .i64 10, .int .i64 8, .int .i64 16] 3)).alloc (Obj.cells #[.string ⟨#[]⟩, .string ⟨#[48]⟩, .string ⟨#[48, 120]⟩] 9)).cell? ⟨gB, i, none⟩ = some (.int .u8 bv) ∧ ((wr.drew.alloc (Obj.cells #[.int .i64 10, .int .i64 8, .int .i64 16] 3)).alloc (Obj.cells #[.string ⟨#[]⟩, .string ⟨#[48]⟩, .string ⟨#[48, 120]⟩] 9)).cell? ⟨wr.heap.size, 2, none⟩ = some (.int .i64 16)) ∧ ((wr.drew.alloc (Obj.cells #[.int .i64 10, .int .i64 8, .int .i64 16] 3)).alloc (Obj.cells #[.string ⟨#[]⟩, .string ⟨#[48]⟩, .string ⟨#[48, 120]⟩] 9)).cell? ⟨wr.heap.size + 1, 2, none⟩ = some (.string ⟨#[48, 120]⟩) := ⟨h2, cell_new2 _ _ _ _ _ _ rfl⟩
              refine wpAnyH_weaken (S' := fun w' => ((w'.cell? ⟨gB, i, none⟩ = some (.int .u8 bv)) ∧ w'.cell? ⟨wr.heap.size, 2, none⟩ = some (.int .i64 16)) ∧ w'.cell? ⟨wr.heap.size + 1, 2, none⟩ = some (.string ⟨#[48, 120]⟩)) (fun w' h => h.1) _ _ _ _ ?_
              refine wpAnyH_take (i := 6) (v := ?_) rfl (by kernel_rfl) (by kernel_rfl) (by kernel_rfl) (fun _ _ _ h => h) (Or.inl ⟨by rfl, ?_⟩) h2s ?_
              rotate_left
              · intro w hSw
                (try dsimp only at hSw)
                go_simp
                try with_reducible rfl
              try simp only [Act.put, List.setIfInBounds_toArray, List.set_cons_zero, List.set_cons_succ]
              refine wpAnyH_take (i := 7) (v := ?_) rfl (by kernel_rfl) (by kernel_rfl) (by kernel_rfl) (fun _ _ _ h => h) (Or.inl ⟨by rfl, ?_⟩) h2s ?_
              rotate_left
              · intro w hSw
                (try dsimp only at hSw)
                go_simp
                try with_reducible rfl
              try simp only [Act.put, List.setIfInBounds_toArray, List.set_cons_zero, List.set_cons_succ]
              refine wpAnyH_ready (rs := [16]) (by kernel_rfl) (by simp) ?_
              refine AllReadyH.cons rfl (fun K hK => ?_) AllReadyH.nil
              go_simp
              go_at_call 8
              refine (fmtP2 X (by omega) _ (Lib.tabIs_alloc (Lib.tabIs_alloc (show PowTab wr.drew from HP.out) _) _) (Lib.tabIs_alloc (Lib.tabIs_alloc (show BruTab wr.drew from HR.out) _) _)).mono ?_
              rintro e w2 ⟨D, rfl, hD, hDl, hbc⟩
              have HD := Lib.hid hD
              clear hD
              (try go_wp2_with fail)
              refine hK.out _ _ ?_ (fun h3 => ?_)
              · exact ⟨⟨(hbc.cell (p := ⟨gB, i, none⟩) (by simp; omega)).trans h2s.1.1, (hbc.cell (p := ⟨wr.heap.size, 2, none⟩) (by simp; omega)).trans h2s.1.2⟩, (hbc.cell (p := ⟨wr.heap.size + 1, 2, none⟩) (by simp)).trans h2s.2⟩
              clear hK K
              try simp only [Act.put, List.setIfInBounds_toArray, List.set_cons_zero, List.set_cons_succ]
              refine wpAnyH_take (i := 17) (v := ?_) rfl (by kernel_rfl) (by kernel_rfl) (by kernel_rfl) (fun _ _ _ h => h) (Or.inl ⟨by rfl, ?_⟩) h3 ?_
              rotate_left
              · intro w hSw
                (try dsimp only at hSw)
                go_simp
                first | with_reducible rfl | (rw [if_neg (by omega)]) | (rw [if_neg (by simp; omega)])
              try simp only [Act.put, List.setIfInBounds_toArray, List.set_cons_zero, List.set_cons_succ]
              refine wpAnyH_take (i := 18) (v := ?_) rfl (by kernel_rfl) (by kernel_rfl) (by kernel_rfl) (fun _ _ _ h => h) (Or.inl ⟨by rfl, ?_⟩) h3 ?_
              rotate_left
              · intro w hSw
                (try dsimp only at hSw)
                go_simp
                first | with_reducible rfl | (rw [if_neg (by omega)]) | (rw [if_neg (by simp; omega)])
              try simp only [Act.put, List.setIfInBounds_toArray, List.set_cons_zero, List.set_cons_succ]
              refine wpAnyH_take (i := 19) (v := ?_) rfl (by kernel_rfl) (by kernel_rfl) (by kernel_rfl) (fun _ _ _ h => h) (Or.inl ⟨by rfl, ?_⟩) h3 ?_
              rotate_left
              · intro w hSw
                (try dsimp only at hSw)
                go_simp
                first | with_reducible rfl | (rw [if_neg (by omega)]) | (rw [if_neg (by simp; omega)])
              try simp only [Act.put, List.setIfInBounds_toArray, List.set_cons_zero, List.set_cons_succ]
              refine wpAnyH_take (i := 20) (v := ?_) rfl (by kernel_rfl) (by kernel_rfl) (by kernel_rfl) (fun _ _ _ h => h) (Or.inl ⟨by rfl, ?_⟩) h3 ?_
              rotate_left
              · intro w hSw
                (try dsimp only at hSw)
                go_simp
                try with_reducible rfl
              try simp only [Act.put, List.setIfInBounds_toArray, List.set_cons_zero, List.set_cons_succ]
              refine wpAnyH_done (by kernel_rfl) ?_ _
              have hfin : Below wr.heap.size wr w2 := bl1 hbc
              have HP2 := Lib.hid (powTab_below HP.out hfin)
              have HR2 := Lib.hid (bruTab_below HR.out hfin)
              have hbw2 : Below x1.heap.size x1 w2 := hbw.trans (hfin.mono hbw.size)
              have HS2 := Lib.hid (HNX.out _ HD.out)
              have hcat : ByteArray.mk T.toArray ++ ((ByteArray.mk #[48, 120] ++ ByteArray.mk D.toArray) ++ ByteArray.mk #[46]) = ⟨(T ++ (([48, 120] ++ D) ++ [46])).toArray⟩ := by rw [show ByteArray.mk #[48, 120] = ByteArray.mk ([48, 120] : List UInt8).toArray from rfl, show ByteArray.mk #[46] = ByteArray.mk ([46] : List UInt8).toArray from rfl, mk_append, mk_append, mk_append]
              have hTl : (T ++ (([48, 120] ++ D) ++ [46])).length ≤ 300 := HS2.out.2.2
              clear hbc
              go_wp2
              go_roundw
              case rel => exact ⟨i + 1, R, T ++ (([48, 120] ++ D) ++ [46]), (by first | exact congrArg Value.string hcat | (rw [← hcat]; rfl)), rfl, by go_num, by omega, by omega, hTl, HS2, HP2, HR2, hbw2⟩
              case measure => simp [intOf]; omega
            · refine AllReadyH.cons rfl (fun K hK => ?_) AllReadyH.nil
              go_simp
              go_at_call 8
              refine (fmtP2 X (by omega) _ (Lib.tabIs_alloc (show PowTab wr.drew from HP.out) _) (Lib.tabIs_alloc (show BruTab wr.drew from HR.out) _)).mono ?_
              rintro e w2 ⟨D, rfl, hD, hDl, hbc⟩
              have HD := Lib.hid hD
              clear hD
              (try go_wp2_with fail)
              refine hK.out _ _ ?_ (fun h2 => ?_)
              · exact ⟨(hbc.cell (p := ⟨gB, i, none⟩) (by simp; omega)).trans h1s.1, (hbc.cell (p := ⟨wr.heap.size, 2, none⟩) (by simp)).trans h1s.2⟩
              clear hK K
              try simp only [Act.put, List.setIfInBounds_toArray, List.set_cons_zero, List.set_cons_succ]
              refine wpAnyH_ready (rs := [1]) (by kernel_rfl) (by simp) ?_
              refine AllReadyH.cons rfl (fun K hK => ?_) AllReadyH.nil
              go_simp
              refine hK.out _ _ ?_ (fun h3 => ?_)
              · (try dsimp only); exact ⟨by simp [*, World.cell?_alloc_some], by simp [*, World.cell?_alloc_some]⟩
              clear hK K
              try simp only [Act.put, List.setIfInBounds_toArray, List.set_cons_zero, List.set_cons_succ]
              have h3s : ((w2.alloc (Obj.cells #[.string ⟨#[]⟩, .string ⟨#[48]⟩, .string ⟨#[48, 120]⟩] 9)).cell? ⟨gB, i, none⟩ = some (.int .u8 bv) ∧ (w2.alloc (Obj.cells #[.string ⟨#[]⟩, .string ⟨#[48]⟩, .string ⟨#[48, 120]⟩] 9)).cell? ⟨wr.heap.size, 2, none⟩ = some (.int .i64 16)) ∧ (w2.alloc (Obj.cells #[.string ⟨#[]⟩, .string ⟨#[48]⟩, .string ⟨#[48, 120]⟩] 9)).cell? ⟨w2.heap.size, 2, none⟩ = some (.string ⟨#[48, 120]⟩) := ⟨h3, cell_new0 _ _ _ _ _ rfl⟩
              refine wpAnyH_weaken (S' := fun w' => ((w'.cell? ⟨gB, i, none⟩ = some (.int .u8 bv)) ∧ w'.cell? ⟨wr.heap.size, 2, none⟩ = some (.int .i64 16)) ∧ w'.cell? ⟨w2.heap.size, 2, none⟩ = some (.string ⟨#[48, 120]⟩)) (fun w' h => h.1) _ _ _ _ ?_
              refine wpAnyH_take (i := 6) (v := ?_) rfl (by kernel_rfl) (by kernel_rfl) (by kernel_rfl) (fun _ _ _ h => h) (Or.inl ⟨by rfl, ?_⟩) h3s ?_
              rotate_left
              · intro w hSw
                (try dsimp only at hSw)
                go_simp
                try with_reducible rfl
              try simp only [Act.put, List.setIfInBounds_toArray, List.set_cons_zero, List.set_cons_succ]
              refine wpAnyH_take (i := 7) (v := ?_) rfl (by kernel_rfl) (by kernel_rfl) (by kernel_rfl) (fun _ _ _ h => h) (Or.inl ⟨by rfl, ?_⟩) h3s ?_
              rotate_left
              · intro w hSw
                (try dsimp only at hSw)
                go_simp
                try with_reducible rfl
              try simp only [Act.put, List.setIfInBounds_toArray, List.set_cons_zero, List.set_cons_succ]
              refine wpAnyH_take (i := 17) (v := ?_) rfl (by kernel_rfl) (by kernel_rfl) (by kernel_rfl) (fun _ _ _ h => h) (Or.inl ⟨by rfl, ?_⟩) h3s ?_
              rotate_left
              · intro w hSw
                (try dsimp only at hSw)
                go_simp
                first | with_reducible rfl | (rw [if_neg (by omega)]) | (rw [if_neg (by simp; omega)])
              try simp only [Act.put, List.setIfInBounds_toArray, List.set_cons_zero, List.set_cons_succ]
              refine wpAnyH_take (i := 18) (v := ?_) rfl (by kernel_rfl) (by kernel_rfl) (by kernel_rfl) (fun _ _ _ h => h) (Or.inl ⟨by rfl, ?_⟩) h3s ?_
              rotate_left
              · intro w hSw
                (try dsimp only at hSw)
                go_simp
                first | with_reducible rfl | (rw [if_neg (by omega)]) | (rw [if_neg (by simp; omega)])
              try simp only [Act.put, List.setIfInBounds_toArray, List.set_cons_zero, List.set_cons_succ]
              refine wpAnyH_take (i := 19) (v := ?_) rfl (by kernel_rfl) (by kernel_rfl) (by kernel_rfl) (fun _ _ _ h => h) (Or.inl ⟨by rfl, ?_⟩) h3s ?_
              rotate_left
              · intro w hSw
                (try dsimp only at hSw)
                go_simp
                first | with_reducible rfl | (rw [if_neg (by omega)]) | (rw [if_neg (by simp; omega)])
              try simp only [Act.put, List.setIfInBounds_toArray, List.set_cons_zero, List.set_cons_succ]
              refine wpAnyH_take (i := 20) (v := ?_) rfl (by kernel_rfl) (by kernel_rfl) (by kernel_rfl) (fun _ _ _ h => h) (Or.inl ⟨by rfl, ?_⟩) h3s ?_
              rotate_left
              · intro w hSw
                (try dsimp only at hSw)
                go_simp
                try with_reducible rfl
              try simp only [Act.put, List.setIfInBounds_toArray, List.set_cons_zero, List.set_cons_succ]
              refine wpAnyH_done (by kernel_rfl) ?_ _
              have hfin : Below wr.heap.size wr (w2.alloc (Obj.cells #[.string ⟨#[]⟩, .string ⟨#[48]⟩, .string ⟨#[48, 120]⟩] 9)) := bl2 _ hbc
              have HP2 := Lib.hid (powTab_below HP.out hfin)
              have HR2 := Lib.hid (bruTab_below HR.out hfin)
              have hbw2 : Below x1.heap.size x1 (w2.alloc (Obj.cells #[.string ⟨#[]⟩, .string ⟨#[48]⟩, .string ⟨#[48, 120]⟩] 9)) := hbw.trans (hfin.mono hbw.size)
              have HS2 := Lib.hid (HNX.out _ HD.out)
              have hcat : ByteArray.mk T.toArray ++ ((ByteArray.mk #[48, 120] ++ ByteArray.mk D.toArray) ++ ByteArray.mk #[46]) = ⟨(T ++ (([48, 120] ++ D) ++ [46])).toArray⟩ := by rw [show ByteArray.mk #[48, 120] = ByteArray.mk ([48, 120] : List UInt8).toArray from rfl, show ByteArray.mk #[46] = ByteArray.mk ([46] : List UInt8).toArray from rfl, mk_append, mk_append, mk_append]
              have hTl : (T ++ (([48, 120] ++ D) ++ [46])).length ≤ 300 := HS2.out.2.2
              clear hbc
              go_wp2
              go_roundw
              case rel => exact ⟨i + 1, R, T ++ (([48, 120] ++ D) ++ [46]), (by first | exact congrArg Value.string hcat | (rw [← hcat]; rfl)), rfl, by go_num, by omega, by omega, hTl, HS2, HP2, HR2, hbw2⟩
              case measure => simp [intOf]; omega
    · obtain rfl : i = L + 1 := by omega
      have hz := HS.out.2.1 rfl
      have HZ := Lib.hid hz
      clear hz
      have hfin : Below gB w wr := HC0.out.trans (hbw.mono (by omega))
      cases pt with
      | false =>
        have hz := HZ.out [] (.inl rfl)
        rw [List.append_nil] at hz
        have HZ2 := Lib.hid hz
        clear hz
        go_wp2_with fail
        refine (parse4_any _ _ (by rw [size_mk]; omega)).mono ?_
        rw [mk_list, HZ2.out]
        rintro e x2 ⟨rfl, hb2⟩
        have hd2 : Below gB w x2 := hfin.trans (hb2.mono (by have := hbw.size; omega))
        clear hb2
        go_wp2
        go_ret
        exact ⟨by first | rfl | exact ret_bool (by simp), by rw [hgB]; exact hd2⟩
      | true =>
        have HZ2 := Lib.hid (HZ.out [46] (.inr rfl))
        go_wp2_with fail
        refine (parse4_any _ _ (by rw [app_size, size_mk T]; show _ + 1 ≤ _; omega)).mono ?_
        rw [app_list, mk_list T, show (ByteArray.mk #[46]).data.toList = [46] from rfl, HZ2.out]
        rintro e x2 ⟨rfl, hb2⟩
        have hd2 : Below gB w x2 := hfin.trans (hb2.mono (by have := hbw.size; omega))
        clear hb2
        go_wp2
        go_ret
        exact ⟨by first | rfl | exact ret_bool (by simp), by rw [hgB]; exact hd2⟩
end Go.Proofs.YtaojjkknmaldiaaDoor
