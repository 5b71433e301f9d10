/-
  Layer 5: the reference's Parse.
-/
import Derived.Test.YtgmfgcpfpopboaaDoorSixH
namespace Go.Proofs.YtgmfgcpfpopboaaDoor
open Go.RowKit


theorem ccAt_none' {l : List UInt8} (h : ccAt l = none) : ∀ k, ¬ isCC l k := by
  induction l with
  | nil => intro k hk; exact absurd hk.1 (by simp)
  | cons a r ih =>
    unfold ccAt at h
    split at h
    · cases h
    · rename_i hc
      have hr : ccAt r = none := by cases hr : ccAt r with | none => rfl | some j => rw [hr] at h; cases h
      intro k hk
      cases k with
      | zero => exact hc ⟨by simpa using hk.1, by simpa [List.head?_eq_getElem?] using hk.2⟩
      | succ k => exact ih hr k ⟨by simpa using hk.1, by simpa using hk.2⟩
theorem ccAt_some' {l : List UInt8} : ∀ {k : Nat}, ccAt l = some k → isCC l k ∧ ∀ j, j < k → ¬ isCC l j := by
  induction l with
  | nil => intro k h; cases h
  | cons a r ih =>
    intro k h
    unfold ccAt at h
    split at h
    · rename_i hc
      cases h
      exact ⟨⟨by simp [hc.1], by simpa [List.head?_eq_getElem?] using hc.2⟩, fun j hj => by omega⟩
    · rename_i hc
      cases hr : ccAt r with
      | none => rw [hr] at h; cases h
      | some j0 =>
        rw [hr] at h
        cases h
        obtain ⟨h1, h2⟩ := ih hr
        refine ⟨⟨by simpa using h1.1, by simpa using h1.2⟩, fun j hj hk => ?_⟩
        cases j with
        | zero => exact hc ⟨by simpa using hk.1, by simpa [List.head?_eq_getElem?] using hk.2⟩
        | succ j => exact h2 j (by have hj2 : j + 1 < j0 + 1 := hj; omega) ⟨by simpa using hk.1, by simpa using hk.2⟩
theorem isCC_of (s : ByteArray) (k : Nat) (h : k + 1 < s.size) (h0 : s[k].toNat = 58) (h1 : s[k + 1].toNat = 58) : isCC s.data.toList k := by
  refine ⟨?_, ?_⟩
  · rw [bytes_at s k (by omega)]; exact congrArg some (UInt8.toNat_inj.1 h0)
  · rw [bytes_at s (k + 1) h]; exact congrArg some (UInt8.toNat_inj.1 h1)
theorem isCC_to (s : ByteArray) (k : Nat) (hk : isCC s.data.toList k) : ∃ (h : k + 1 < s.size), s[k].toNat = 58 ∧ s[k + 1].toNat = 58 := by
  have h : k + 1 < s.size := by
    have := (List.getElem?_eq_some_iff.1 hk.2).1
    rwa [size_list] at this
  refine ⟨h, ?_, ?_⟩
  · have := hk.1; rw [bytes_at s k (by omega)] at this; rw [Option.some.inj this]; rfl
  · have := hk.2; rw [bytes_at s (k + 1) h] at this; rw [Option.some.inj this]; rfl

def RetSix3 (w : World) (x : (Int × Int) × Bool) (e : Ending) (w' : World) : Prop := e = .returned (.tuple #[.int .u64 x.1.1, .int .u64 x.1.2, .bool x.2]) ∧ Below w.heap.size w w'
theorem retSix3_no {w w' : World} {l : List UInt8} (h : sixL l = ([], false)) (hb : Below w.heap.size w w') : RetSix3 w (sixZ l) (.returned (.tuple #[.int .u64 0, .int .u64 0, .bool false])) w' := by
  unfold sixZ; rw [h]; exact ⟨rfl, hb⟩
theorem retSix3_yes {w w' : World} {l : List UInt8} {T : List Int} (h : sixL l = (T, true)) (hb : Below w.heap.size w w') : RetSix3 w (sixZ l) (.returned (.tuple #[.int .u64 (hi4 T), .int .u64 (lo4 T), .bool true])) w' := by
  unfold sixZ; rw [h]; exact ⟨rfl, hb⟩

set_option maxRecDepth 100000 in
set_option maxHeartbeats 4000000 in
theorem refParse6_none (s : ByteArray) (w : World) (hs : s.size ≤ 1073741824) (hcc : ccAt s.data.toList = none) :
    Calls Tryd.prog 13 #[.string s] w (RetSix3 w (sixZ s.data.toList)) := by
  have HNC := Lib.hid (ccAt_none' hcc)
  obtain ⟨T, b, hT⟩ : ∃ T b, rowZ s.data.toList true = (T, b) := ⟨_, _, rfl⟩
  have HSL := Lib.hid (sixL_none hcc hT)
  have hTl : T.length ≤ 1073741827 := by have := rowZ_len s.data.toList true; rw [hT, size_list] at this; simp at this; omega
  have HIN : Hid (In16 T) := by show In16 T; have := rowZ_in s.data.toList true; rw [hT] at this; exact this
  have HT := Lib.hid hT
  clear hcc hT
  go_enter Tryd.func13, Tryd.ntmps13
  go_wp2
  go_loop [5, 6] (fun a i => ∃ k : Nat, k ≤ s.size ∧ i = .int .i64 k ∧ a = .int .i64 (-1)) (fun _ i => s.size - (intOf i).toNat)
  case atStart => exact ⟨0, Nat.zero_le _, rfl, rfl⟩
  case round =>
    obtain ⟨k, hk, rfl, rfl⟩ := hrel
    by_cases hlt : k + 1 < s.size
    · have hlt0 : k < s.size := by omega
      obtain ⟨c0, hc0⟩ : ∃ c, (s[k]'hlt0).toNat = c := ⟨_, rfl⟩
      obtain ⟨c1, hc1⟩ : ∃ c, (s[k + 1]'hlt).toNat = c := ⟨_, rfl⟩
      by_cases e0 : c0 = 58
      · subst e0
        have e1 : ((c1 : Int) == 58) = false := by
          rw [beq_eq_false_iff_ne]
          intro e
          exact HNC.out k (isCC_of s k hlt hc0 (by rw [hc1]; omega))
        go_wp2
        go_round
        case rel => exact ⟨k + 1, by omega, by go_num, rfl⟩
        case measure => simp [intOf]; omega
      · have e1 : ((c0 : Int) == 58) = false := by
          rw [beq_eq_false_iff_ne]; omega
        go_wp2
        go_round
        case rel => exact ⟨k + 1, by omega, by go_num, rfl⟩
        case measure => simp [intOf]; omega
    · go_wp2_with fail
      refine (refList_any s true _ hs).mono ?_
      rw [HT.out]
      rintro e x2 ⟨v, rfl, hnum, hb2⟩
      cases b with
      | false =>
        have HF := Lib.hid (HSL.out.trans (if_neg (fun h => by cases h.1)))
        go_wp2
        exact bodyPost_ret (v := .tuple #[.int .u64 0, .int .u64 0, .bool false]) (by simp [results, Tryd.results13, go_sem]) rfl (retSix3_no HF.out hb2)
      | true =>
        by_cases h8 : T.length = 8
        · have HF := Lib.hid (HSL.out.trans (if_pos ⟨rfl, h8⟩))
          obtain ⟨g, cap, rfl, hcap, hg, hcell⟩ := Nums.form (show Nums 3 .i64 w.heap.size x2 v T from hnum) (by omega)
          rw [h8] at hcell ⊢
          have HC := Lib.hid hcell
          clear hcell hnum hcap
          go_wp2_with fail
          refine (number_any g cap T _ HC.out HIN.out).mono ?_
          rintro e w' ⟨rfl, rfl⟩
          go_wp2
          exact bodyPost_ret (v := .tuple #[.int .u64 (hi4 T), .int .u64 (lo4 T), .bool true]) (by simp [results, Tryd.results13, go_sem]) rfl (retSix3_yes HF.out hb2)
        · have HF := Lib.hid (HSL.out.trans (if_neg (fun h => h8 h.2)))
          have hb8 : ((T.length : Int) != 8) = true := by rw [bne_iff_ne]; omega
          obtain ⟨ao, c, hv, _⟩ := hnum.row
          rw [List.length_map] at hv
          subst hv
          clear hnum
          go_wp2
          exact bodyPost_ret (v := .tuple #[.int .u64 0, .int .u64 0, .bool false]) (by simp [results, Tryd.results13, go_sem]) rfl (retSix3_no HF.out hb2)

set_option maxRecDepth 100000 in
set_option maxHeartbeats 8000000 in
theorem refParse6_some (s : ByteArray) (q : Nat) (w : World) (hs : s.size ≤ 1073741824) (hcc : ccAt s.data.toList = some q) :
    Calls Tryd.prog 13 #[.string s] w (RetSix3 w (sixZ s.data.toList)) := by
  have HNC := Lib.hid (ccAt_some' hcc)
  obtain ⟨p, hp⟩ : ∃ p, s.data.toList.take q = p := ⟨_, rfl⟩
  obtain ⟨r, hr⟩ : ∃ r, s.data.toList.drop (q + 2) = r := ⟨_, rfl⟩
  have hqs : q + 2 ≤ s.size := by have := ccAt_le hcc; rwa [size_list] at this
  have hpl : p.length ≤ 1073741824 := by have h2 := List.length_take_le' q s.data.toList; rw [hp, size_list] at h2; omega
  have hrl : r.length ≤ 1073741824 := by rw [← hr, List.length_drop, size_list]; omega
  obtain ⟨T, b, hT⟩ : ∃ T b, rowZ p false = (T, b) := ⟨_, _, rfl⟩
  obtain ⟨U, d, hU⟩ : ∃ T b, rowZ r true = (T, b) := ⟨_, _, rfl⟩
  have HSL := Lib.hid (sixL_some (T := T) (U := U) (b := b) (c := d) hcc (by rw [hp, hT]) (by rw [hr, hU]))
  have hTl : T.length ≤ 1073741827 := by have := rowZ_len p false; rw [hT] at this; simp at this; omega
  have hUl : U.length ≤ 1073741827 := by have := rowZ_len r true; rw [hU] at this; simp at this; omega
  have HIN : Hid (In16 T) := by show In16 T; have := rowZ_in p false; rw [hT] at this; exact this
  have HIN2 : Hid (In16 U) := by show In16 U; have := rowZ_in r true; rw [hU] at this; exact this
  have HT := Lib.hid hT
  have HU := Lib.hid hU
  have hex1 : s.extract 0 q = ⟨p.toArray⟩ := extract_eq s 0 q p (by rw [← hp]; rfl)
  have hex2 : s.extract (q + 2) s.size = ⟨r.toArray⟩ := by rw [extract_to, hr]
  clear hcc hT hU hp hr
  obtain ⟨i0, hi, hz0, hz1, hz2⟩ := info_parts Tryd.infoInt
  go_enter Tryd.func13, Tryd.ntmps13
  go_wp2
  go_loop [5, 6] (fun a i => ∃ k : Nat, i = .int .i64 k ∧ ((k ≤ q ∧ a = .int .i64 (-1)) ∨ (k = q + 1 ∧ a = .int .i64 q))) (fun _ i => s.size - (intOf i).toNat)
  case atStart => exact ⟨0, rfl, .inl ⟨Nat.zero_le _, rfl⟩⟩
  case round =>
    obtain ⟨k, rfl, hor⟩ := hrel
    rcases hor with ⟨hkq, rfl⟩ | ⟨rfl, rfl⟩
    · have hlt : k + 1 < s.size := by omega
      have hlt0 : k < s.size := by omega
      obtain ⟨c0, hc0⟩ : ∃ c, (s[k]'hlt0).toNat = c := ⟨_, rfl⟩
      obtain ⟨c1, hc1⟩ : ∃ c, (s[k + 1]'hlt).toNat = c := ⟨_, rfl⟩
      by_cases hk : k = q
      · subst hk
        obtain ⟨_, h0, h1⟩ := isCC_to s k HNC.out.1
        have e0 : c0 = 58 := by rw [← hc0]; exact h0
        have e1 : c1 = 58 := by rw [← hc1]; exact h1
        subst e0 e1
        clear h0 h1
        go_wp2
        go_round
        case rel => exact ⟨k + 1, by go_num, .inr ⟨rfl, rfl⟩⟩
        case measure => simp [intOf]; omega
      · by_cases e0 : c0 = 58
        · subst e0
          have e1 : ((c1 : Int) == 58) = false := by
            rw [beq_eq_false_iff_ne]
            intro e
            exact HNC.out.2 k (by omega) (isCC_of s k hlt hc0 (by rw [hc1]; omega))
          have hkq2 : k + 1 ≤ q := by omega
          clear hk
          go_wp2
          go_round
          case rel => exact ⟨k + 1, by go_num, .inl ⟨hkq2, rfl⟩⟩
          case measure => simp [intOf]; omega
        · have e1 : ((c0 : Int) == 58) = false := by
            rw [beq_eq_false_iff_ne]; omega
          have hkq2 : k + 1 ≤ q := by omega
          clear e0 hk
          go_wp2
          go_round
          case rel => exact ⟨k + 1, by go_num, .inl ⟨hkq2, rfl⟩⟩
          case measure => simp [intOf]; omega
    · have hq0 : decide ((q : Int) < 0) = false := decide_eq_false (by omega)
      by_cases hqq : q + 1 + 1 < s.size
      all_goals
        go_wp2_with fail
        refine (refList_any ⟨p.toArray⟩ false _ (by rw [size_mk]; exact hpl)).mono ?_
        rw [mk_list, HT.out]
        rintro e x2 ⟨v, rfl, hnum, hb2⟩
        have HNUM := Lib.hid (show Nums 3 .i64 w.heap.size x2 v T from hnum)
        clear hnum
        go_wp2_with fail
        refine (refList_any ⟨r.toArray⟩ true _ (by rw [size_mk]; exact hrl)).mono ?_
        rw [mk_list, HU.out]
        rintro e x3 ⟨v2, rfl, hnum2, hb3⟩
        have hc3 : Below w.heap.size w x3 := hb2.trans (hb3.mono hb2.size)
        obtain ⟨ao, cap, rfl, hF1⟩ := Nums.form0 (HNUM.out.below hb3)
        obtain ⟨ao2, cap2, rfl, hF2⟩ := Nums.form0 (show Nums 3 .i64 x2.heap.size x3 v2 U from hnum2)
        have HF1 := Lib.hid hF1
        have HF2 := Lib.hid hF2
        clear hF1 hF2 hnum2 hb2 hb3
        by_cases hok : b = true ∧ d = true ∧ T.length + U.length ≤ 7
        · have HF := Lib.hid (HSL.out.trans (if_pos hok))
          obtain ⟨rfl, rfl, h7⟩ := hok
          obtain ⟨z, hz⟩ : ∃ z, 8 - (T.length + U.length) = z := ⟨_, rfl⟩
          rw [hz] at HF
          have hzs : T.length + z + U.length ≤ 8 := by omega
          have hzs2 : 8 ≤ T.length + z + U.length := by omega
          have hg7 : decide ((7 : Int) < (T.length : Int) + (U.length : Int)) = false := decide_eq_false (by omega)
          clear hz
          have hmk := make8
          go_wp2
          clear hmk
          have HB0 : Hid ((x3.alloc (.cells #[.int .i64 0, .int .i64 0, .int .i64 0, .int .i64 0, .int .i64 0, .int .i64 0, .int .i64 0, .int .i64 0] 3)).heap[x3.heap.size]? = some (.cells ((T.take 0 ++ List.replicate (8 - 0) 0).map (Value.int .i64)).toArray 3 (0, 0))) := heap_alloc_new x3 _
          have hbA : Below x3.heap.size x3 (x3.alloc (.cells #[.int .i64 0, .int .i64 0, .int .i64 0, .int .i64 0, .int .i64 0, .int .i64 0, .int .i64 0, .int .i64 0] 3)) := (Below.refl _ x3).alloc (Nat.le_refl _) _
          go_loopw [16] (fun i wr => ∃ k : Nat, k ≤ T.length ∧ i = .int .i64 k ∧ Hid (wr.heap[x3.heap.size]? = some (.cells ((T.take k ++ List.replicate (8 - k) 0).map (Value.int .i64)).toArray 3 (0, 0))) ∧ Below x3.heap.size x3 wr) (fun i _ => T.length - (intOf i).toNat)
          case atStart => exact ⟨0, by omega, rfl, HB0, hbA⟩
          case round =>
            obtain ⟨k, hk, rfl, HA, hbw⟩ := hrel
            by_cases hkT : k < T.length
            · obtain ⟨g, rfl, hg, hcg⟩ := HF1.out k hkT
              have hcx : wr.cell? ⟨g, k, none⟩ = some (.int .i64 (T.getD k 0)) := (hbw.cell (p := ⟨g, k, none⟩) hg).trans hcg
              have hput := row_put (a := T.take k) (r := List.replicate (8 - (k + 1)) 0) .i64 (T.getD k 0) (show wr.heap[x3.heap.size]? = some (.cells ((T.take k ++ 0 :: List.replicate (8 - (k + 1)) 0).map (Value.int .i64)).toArray 3 (0, 0)) from by
                have := HA.out
                rwa [show 8 - k = (8 - (k + 1)) + 1 from by omega, List.replicate_succ] at this)
              rw [← fill_step T k hkT, List.length_take, show min k T.length = k from by omega] at hput
              have HPUT := Lib.hid hput
              have hck : wr.cell? ⟨x3.heap.size, k, none⟩ = some (.int .i64 ((T.take k ++ List.replicate (8 - k) 0).getD k 0)) := row_cell HA.out k (by simp; omega)
              have hfk : wr.frozen? ⟨x3.heap.size, k, none⟩ = false := row_frozen HA.out k
              generalize (T.take k ++ List.replicate (8 - k) 0).getD k 0 = old at hck
              have hbw2 := hbw.setCell (p := ⟨x3.heap.size, k, none⟩) (Nat.le_refl _) (.int .i64 (T.getD k 0))
              have hk8 : k < 8 := by omega
              clear hput hcg
              generalize T.getD k 0 = x at *
              go_wp2
              go_roundw
              case rel => exact ⟨k + 1, by omega, by go_num, HPUT, hbw2⟩
              case measure => simp [intOf]; omega
            · obtain rfl : k = T.length := by omega
              have HA0 : Hid (wr.heap[x3.heap.size]? = some (.cells (((T ++ List.replicate z 0) ++ U.take 0 ++ List.replicate (U.length - 0) 0).map (Value.int .i64)).toArray 3 (0, 0))) := by
                show _ = _
                have := HA.out
                rw [List.take_of_length_le (Nat.le_refl _), show 8 - T.length = z + U.length from by omega, ← List.replicate_append_replicate, ← List.append_assoc] at this
                simpa using this
              go_wp2
              go_loopw [17] (fun i wr2 => ∃ k : Nat, k ≤ U.length ∧ i = .int .i64 k ∧ Hid (wr2.heap[x3.heap.size]? = some (.cells (((T ++ List.replicate z 0) ++ U.take k ++ List.replicate (U.length - k) 0).map (Value.int .i64)).toArray 3 (0, 0))) ∧ Below x3.heap.size x3 wr2) (fun i _ => U.length - (intOf i).toNat)
              case atStart => exact ⟨0, by omega, rfl, HA0, hbw⟩
              case round =>
                obtain ⟨k, hk, rfl, HA2, hbw⟩ := hrel
                by_cases hkU : k < U.length
                · obtain ⟨g, rfl, hg, hcg⟩ := HF2.out k hkU
                  have hcx : wr.cell? ⟨g, k, none⟩ = some (.int .i64 (U.getD k 0)) := (hbw.cell (p := ⟨g, k, none⟩) hg).trans hcg
                  obtain ⟨j, hj⟩ : ∃ j, T.length + z + k = j := ⟨_, rfl⟩
                  have hjl : ((T ++ List.replicate z 0) ++ U.take k).length = j := by
                    simp only [List.length_append, List.length_replicate, List.length_take]; omega
                  have hput := row_put (a := (T ++ List.replicate z 0) ++ U.take k) (r := List.replicate (U.length - (k + 1)) 0) .i64 (U.getD k 0) (show wr.heap[x3.heap.size]? = some (.cells (((T ++ List.replicate z 0) ++ U.take k ++ 0 :: List.replicate (U.length - (k + 1)) 0).map (Value.int .i64)).toArray 3 (0, 0)) from by
                    have := HA2.out
                    rwa [show U.length - k = (U.length - (k + 1)) + 1 from by omega, List.replicate_succ] at this)
                  rw [hjl, List.append_assoc (T ++ List.replicate z 0), ← fill_step U k hkU, ← List.append_assoc (T ++ List.replicate z 0)] at hput
                  have HPUT := Lib.hid hput
                  have hck : wr.cell? ⟨x3.heap.size, j, none⟩ = some (.int .i64 ((((T ++ List.replicate z 0) ++ U.take k ++ List.replicate (U.length - k) 0)).getD j 0)) := row_cell HA2.out j (by simp only [List.length_append, List.length_replicate, List.length_take]; omega)
                  have hfk : wr.frozen? ⟨x3.heap.size, j, none⟩ = false := row_frozen HA2.out j
                  generalize (((T ++ List.replicate z 0) ++ U.take k ++ List.replicate (U.length - k) 0)).getD j 0 = old at hck
                  have hbw2 := hbw.setCell (p := ⟨x3.heap.size, j, none⟩) (Nat.le_refl _) (.int .i64 (U.getD k 0))
                  have hj8 : j < 8 := by omega
                  have hidx : (8 : Int) - (U.length : Int) + (k : Int) = (j : Int) := by omega
                  clear hput hcg hj hjl
                  generalize U.getD k 0 = x at *
                  go_wp2
                  go_roundw
                  case rel => exact ⟨k + 1, by omega, by go_num, HPUT, hbw2⟩
                  case measure => simp [intOf]; omega
                · obtain rfl : k = U.length := by omega
                  have HY : Hid (wr.heap[x3.heap.size]? = some (.cells ((T ++ List.replicate z 0 ++ U).map (Value.int .i64)).toArray 3 (0, 0))) := by
                    show _ = _
                    have := HA2.out
                    rw [List.take_of_length_le (Nat.le_refl _), Nat.sub_self, List.replicate_zero, List.append_nil] at this
                    exact this
                  have HIN3 := Lib.hid ((HIN.out.append (In16.zeros z)).append HIN2.out)
                  have hl8 : (T ++ List.replicate z 0 ++ U).length = 8 := by
                    simp only [List.length_append, List.length_replicate]; omega
                  have HCELL : Hid (∀ j, j < 8 → wr.cell? ⟨x3.heap.size, j, none⟩ = some (.int .i64 ((T ++ List.replicate z 0 ++ U).getD j 0))) := fun j hj => row_cell HY.out j (by rw [hl8]; exact hj)
                  have hfin : Below w.heap.size w wr := hc3.trans (hbw.mono hc3.size)
                  clear hl8
                  generalize T ++ List.replicate z 0 ++ U = Y at *
                  go_wp2_with fail
                  refine (number_any _ _ Y _ HCELL.out HIN3.out).mono ?_
                  rintro e w' ⟨rfl, rfl⟩
                  go_wp2
                  exact bodyPost_ret (v := .tuple #[.int .u64 (hi4 Y), .int .u64 (lo4 Y), .bool true]) (by simp [results, Tryd.results13, go_sem]) rfl (retSix3_yes HF.out hfin)
        · have HF := Lib.hid (HSL.out.trans (if_neg hok))
          cases b with
          | false =>
            clear hok
            go_wp2
            exact bodyPost_ret (v := .tuple #[.int .u64 0, .int .u64 0, .bool false]) (by simp [results, Tryd.results13, go_sem]) rfl (retSix3_no HF.out hc3)
          | true =>
            cases d with
            | false =>
              clear hok
              go_wp2
              exact bodyPost_ret (v := .tuple #[.int .u64 0, .int .u64 0, .bool false]) (by simp [results, Tryd.results13, go_sem]) rfl (retSix3_no HF.out hc3)
            | true =>
              have h7 : 7 < T.length + U.length := by
                rcases Nat.lt_or_ge 7 (T.length + U.length) with h | h
                · exact h
                · exact absurd ⟨rfl, rfl, h⟩ hok
              have hz1' : decide ((7 : Int) < (T.length : Int) + (U.length : Int)) = true := decide_eq_true (by omega)
              clear hok
              go_wp2
              exact bodyPost_ret (v := .tuple #[.int .u64 0, .int .u64 0, .bool false]) (by simp [results, Tryd.results13, go_sem]) rfl (retSix3_no HF.out hc3)
theorem refParse6_any (s : ByteArray) (w : World) (hs : s.size ≤ 1073741824) :
    Calls Tryd.prog 13 #[.string s] w (RetSix3 w (sixZ s.data.toList)) := by
  cases h : ccAt s.data.toList with
  | none => exact refParse6_none s w hs h
  | some k => exact refParse6_some s k w hs h
end Go.Proofs.YtgmfgcpfpopboaaDoor
