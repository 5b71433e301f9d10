/-
  Layer 5: Parse.
-/
import Derived.Test.YtgmfgcpfpopboaaGreatDoorSixF
namespace Go.Proofs.YtgmfgcpfpopboaaGreatDoor
open Go.RowKit


/-- a variable of the library that strings.Index reads holds a number -/
def MaxVar (w : World) : Prop := ∃ m, w.cell? ⟨0, 0, none⟩ = some (.int .i64 m)
theorem maxVar_below {w w' : World} (h : MaxVar w) (hb : Below w.heap.size w w') : MaxVar w' := by
  obtain ⟨m, hm⟩ := h
  exact ⟨m, (hb.cell (World.block_lt_of_cell? w _ hm)).trans hm⟩

def RetSix (w : World) (x : (Int × Int) × Bool) (e : Ending) (w' : World) : Prop := e = .returned (.tuple #[.agg #[.int .u64 x.1.1, .int .u64 x.1.2], .bool x.2]) ∧ Below w.heap.size w w'
theorem retSix_no {w w' : World} {l : List UInt8} (h : sixL l = ([], false)) (hb : Below w.heap.size w w') : RetSix w (sixZ l) (.returned (.tuple #[.agg #[.int .u64 0, .int .u64 0], .bool false])) w' := by
  unfold sixZ; rw [h]; exact ⟨rfl, hb⟩
theorem retSix_yes {w w' : World} {l : List UInt8} {T : List Int} (h : sixL l = (T, true)) (hb : Below w.heap.size w w') : RetSix w (sixZ l) (.returned (.tuple #[.agg #[.int .u64 (hi4 T), .int .u64 (lo4 T)], .bool true])) w' := by
  unfold sixZ; rw [h]; exact ⟨rfl, hb⟩

theorem sixL_none {l : List UInt8} {T : List Int} {b : Bool} (h : ccAt l = none) (hr : rowZ l true = (T, b)) : sixL l = if b = true ∧ T.length = 8 then (T, true) else ([], false) := by
  unfold sixL; rw [h]; simp only [hr]
theorem sixL_some {l : List UInt8} {k : Nat} {T U : List Int} {b c : Bool} (h : ccAt l = some k) (hr : rowZ (l.take k) false = (T, b)) (hs : rowZ (l.drop (k + 2)) true = (U, c)) :
    sixL l = if b = true ∧ c = true ∧ T.length + U.length ≤ 7 then (T ++ List.replicate (8 - (T.length + U.length)) 0 ++ U, true) else ([], false) := by
  unfold sixL; rw [h]; simp only [hr, hs]
theorem rowZ_len (l : List UInt8) (last : Bool) : (rowZ l last).1.length ≤ l.length + 3 := by
  unfold rowZ
  split
  · simp
  · have h1 := rowP_len last (colons l) []
    have h2 := splitB_len (hasB [58]) l
    unfold colons at *
    simp at h1
    omega

set_option maxRecDepth 100000 in
set_option maxHeartbeats 4000000 in
theorem parse6_none (s : ByteArray) (w : World) (hs : s.size ≤ 1073741824) (hmax : MaxVar w) (hcc : ccAt s.data.toList = none) :
    Calls Tryz.prog 23 #[.string s] w (RetSix w (sixZ s.data.toList)) := by
  obtain ⟨m, hm⟩ := hmax
  have hgl := World.block_lt_of_cell? w _ hm
  have HM := Lib.hid hm
  clear hm
  obtain ⟨T, b, hT⟩ : ∃ T b, rowZ s.data.toList true = (T, b) := ⟨_, _, rfl⟩
  have HCUT := Lib.hid (cut_none hcc)
  have HSL := Lib.hid (sixL_none hcc hT)
  have hTl : T.length ≤ 1073741827 := by have := rowZ_len s.data.toList true; rw [hT, size_list] at this; simp at this; omega
  have HIN : Hid (In16 T) := by show In16 T; have := rowZ_in s.data.toList true; rw [hT] at this; exact this
  have HT := Lib.hid hT
  clear hcc hT
  have HM2 : Hid ((w.alloc (.cells #[.int .u64 0, .int .u64 0] 46)).cell? ⟨0, 0, none⟩ = some (.int .i64 m)) := (((Below.refl _ w).alloc (Nat.le_refl _) _).cell hgl).trans HM.out
  go_enter Tryz.func23, Tryz.ntmps23
  go_wp2_with fail
  refine (Tryz.strings_Cut s ⟨#[58, 58]⟩ m _ (by omega) HM2.out).mono ?_
  rw [show (ByteArray.mk #[58, 58]).data.toList = [58, 58] from rfl, HCUT.out]
  rintro e w1 ⟨rfl, n, rfl⟩
  have hb1 : Below w.heap.size w ((w.alloc (.cells #[.int .u64 0, .int .u64 0] 46)).drewN n) := below_drewN ((Below.refl _ w).alloc (Nat.le_refl _) _) n
  have hr0 : ((w.alloc (.cells #[.int .u64 0, .int .u64 0] 46)).drewN n).heap[w.heap.size]? = some (.cells #[.int .u64 0, .int .u64 0] 46 (0, 0)) := heap_alloc_new w _
  have hsz1 : w.heap.size < ((w.alloc (.cells #[.int .u64 0, .int .u64 0] 46)).drewN n).heap.size := (Array.getElem?_eq_some_iff.1 hr0).1
  generalize (w.alloc (.cells #[.int .u64 0, .int .u64 0] 46)).drewN n = x1 at *
  have HR0 := Lib.hid hr0
  clear hr0
  go_wp2_with fail
  refine (readRow_any s true _ hs).mono ?_
  rw [HT.out]
  rintro e x2 ⟨v, rfl, hnum, hb2⟩
  have hrow := hnum.row
  have HROW := Lib.hid hrow
  obtain ⟨ao, c, rfl, hcs⟩ := hrow
  rw [List.length_map] at HROW ⊢
  clear hcs hnum
  have hc2 : Below w.heap.size w x2 := hb1.trans (hb2.mono hb1.size)
  have hsz2 : w.heap.size < x2.heap.size := Nat.lt_of_lt_of_le hsz1 hb2.size
  have HR2 : Hid (x2.heap[w.heap.size]? = some (.cells #[.int .u64 0, .int .u64 0] 46 (0, 0))) := (hb2.block w.heap.size hsz1).trans HR0.out
  have hk0 : x2.cell? ⟨w.heap.size, 0, none⟩ = some (.int .u64 0) := by rw [cell_of_row x2 _ 0 _ _ _ HR2.out]; rfl
  have hk1 : x2.cell? ⟨w.heap.size, 1, none⟩ = some (.int .u64 0) := by rw [cell_of_row x2 _ 1 _ _ _ HR2.out]; rfl
  have hf0 : x2.frozen? ⟨w.heap.size, 0, none⟩ = false := by simp [World.frozen?, HR2.out]
  have hf1 : x2.frozen? ⟨w.heap.size, 1, none⟩ = false := by simp [World.frozen?, HR2.out]
  clear hb2 hb1
  cases b with
  | false =>
    have HF := Lib.hid (HSL.out.trans (if_neg (fun h => by cases h.1)))
    have hfin : Below w.heap.size w ((x2.setCell ⟨w.heap.size, 0, none⟩ (.int .u64 0)).setCell ⟨w.heap.size, 1, none⟩ (.int .u64 0)) := (hc2.setCell (Nat.le_refl _) _).setCell (Nat.le_refl _) _
    go_wp2
    exact bodyPost_ret (v := .tuple #[.agg #[.int .u64 0, .int .u64 0], .bool false]) (by simp [results, Tryz.results23, go_sem, hk0, hk1]) rfl (retSix_no HF.out hfin)
  | true =>
    by_cases h8 : T.length = 8
    · have HF := Lib.hid (HSL.out.trans (if_pos ⟨rfl, h8⟩))
      rw [h8]
      have hb8 : ((8 : Int) != 8) = false := by decide
      have HR8 : Hid (RowR x2 (.slice ao 8 c) (T.map (Value.int .u16))) := by
        show RowR _ _ _
        have := HROW.out; rw [h8] at this; exact this
      go_wp2_with fail
      refine (sixOf_any (.slice ao 8 c) T _ HR8.out HIN.out (by omega)).mono ?_
      rintro e x3 ⟨rfl, hb3⟩
      have hc3 : Below w.heap.size w x3 := hc2.trans (hb3.mono hc2.size)
      have hk0' : x3.cell? ⟨w.heap.size, 0, none⟩ = some (.int .u64 0) := (hb3.cell (p := ⟨w.heap.size, 0, none⟩) hsz2).trans hk0
      have hk1' : x3.cell? ⟨w.heap.size, 1, none⟩ = some (.int .u64 0) := (hb3.cell (p := ⟨w.heap.size, 1, none⟩) hsz2).trans hk1
      have hf0' : x3.frozen? ⟨w.heap.size, 0, none⟩ = false := (hb3.frozen (p := ⟨w.heap.size, 0, none⟩) hsz2).trans hf0
      have hf1' : x3.frozen? ⟨w.heap.size, 1, none⟩ = false := (hb3.frozen (p := ⟨w.heap.size, 1, none⟩) hsz2).trans hf1
      clear hk0 hk1 hf0 hf1 hb3
      have hfin : Below w.heap.size w ((x3.setCell ⟨w.heap.size, 0, none⟩ (.int .u64 (hi4 T))).setCell ⟨w.heap.size, 1, none⟩ (.int .u64 (lo4 T))) := (hc3.setCell (Nat.le_refl _) _).setCell (Nat.le_refl _) _
      go_wp2
      exact bodyPost_ret (v := .tuple #[.agg #[.int .u64 (hi4 T), .int .u64 (lo4 T)], .bool true]) (by simp [results, Tryz.results23, go_sem, hk0', hk1']) rfl (retSix_yes HF.out hfin)
    · have HF := Lib.hid (HSL.out.trans (if_neg (fun h => h8 h.2)))
      have hb8 : ((T.length : Int) != 8) = true := by rw [bne_iff_ne]; omega
      have hfin : Below w.heap.size w ((x2.setCell ⟨w.heap.size, 0, none⟩ (.int .u64 0)).setCell ⟨w.heap.size, 1, none⟩ (.int .u64 0)) := (hc2.setCell (Nat.le_refl _) _).setCell (Nat.le_refl _) _
      go_wp2
      exact bodyPost_ret (v := .tuple #[.agg #[.int .u64 0, .int .u64 0], .bool false]) (by simp [results, Tryz.results23, go_sem, hk0, hk1]) rfl (retSix_no HF.out hfin)

set_option maxRecDepth 100000 in
set_option maxHeartbeats 4000000 in
theorem parse6_some (s : ByteArray) (k : Nat) (w : World) (hs : s.size ≤ 1073741824) (hmax : MaxVar w) (hcc : ccAt s.data.toList = some k) :
    Calls Tryz.prog 23 #[.string s] w (RetSix w (sixZ s.data.toList)) := by
  obtain ⟨m, hm⟩ := hmax
  have hgl := World.block_lt_of_cell? w _ hm
  have HM := Lib.hid hm
  clear hm
  obtain ⟨i0, hi, hz0, hz1, hz2⟩ := info_parts Tryz.infoU16
  obtain ⟨p, hp⟩ : ∃ p, s.data.toList.take k = p := ⟨_, rfl⟩
  obtain ⟨q, hq⟩ : ∃ q, s.data.toList.drop (k + 2) = q := ⟨_, rfl⟩
  have hpl : p.length ≤ 1073741824 := by have := List.length_take_le k s.data.toList; have h2 := List.length_take_le' k s.data.toList; rw [hp, size_list] at h2; omega
  have hql : q.length ≤ 1073741824 := by rw [← hq, List.length_drop, size_list]; omega
  obtain ⟨T, b, hT⟩ : ∃ T b, rowZ p false = (T, b) := ⟨_, _, rfl⟩
  obtain ⟨U, d, hU⟩ : ∃ T b, rowZ q true = (T, b) := ⟨_, _, rfl⟩
  have hcut := cut_some hcc
  rw [hp, hq] at hcut
  have HCUT := Lib.hid hcut
  have HSL := Lib.hid (sixL_some (T := T) (U := U) (b := b) (c := d) hcc (by rw [hp, hT]) (by rw [hq, hU]))
  have hTl : T.length ≤ 1073741827 := by have := rowZ_len p false; rw [hT] at this; simp at this; omega
  have hUl : U.length ≤ 1073741827 := by have := rowZ_len q true; rw [hU] at this; simp at this; omega
  have HIN : Hid (In16 T) := by show In16 T; have := rowZ_in p false; rw [hT] at this; exact this
  have HIN2 : Hid (In16 U) := by show In16 U; have := rowZ_in q true; rw [hU] at this; exact this
  have HT := Lib.hid hT
  have HU := Lib.hid hU
  clear hcc hT hU hcut hp hq
  have HM2 : Hid ((w.alloc (.cells #[.int .u64 0, .int .u64 0] 46)).cell? ⟨0, 0, none⟩ = some (.int .i64 m)) := (((Below.refl _ w).alloc (Nat.le_refl _) _).cell hgl).trans HM.out
  go_enter Tryz.func23, Tryz.ntmps23
  go_wp2_with fail
  refine (Tryz.strings_Cut s ⟨#[58, 58]⟩ m _ (by omega) HM2.out).mono ?_
  rw [show (ByteArray.mk #[58, 58]).data.toList = [58, 58] from rfl, HCUT.out]
  rintro e w1 ⟨rfl, n, rfl⟩
  have hb1 : Below w.heap.size w ((w.alloc (.cells #[.int .u64 0, .int .u64 0] 46)).drewN n) := below_drewN ((Below.refl _ w).alloc (Nat.le_refl _) _) n
  have hr0 : ((w.alloc (.cells #[.int .u64 0, .int .u64 0] 46)).drewN n).heap[w.heap.size]? = some (.cells #[.int .u64 0, .int .u64 0] 46 (0, 0)) := heap_alloc_new w _
  have hsz1 : w.heap.size < ((w.alloc (.cells #[.int .u64 0, .int .u64 0] 46)).drewN n).heap.size := (Array.getElem?_eq_some_iff.1 hr0).1
  generalize (w.alloc (.cells #[.int .u64 0, .int .u64 0] 46)).drewN n = x1 at *
  have HR0 := Lib.hid hr0
  clear hr0
  go_wp2_with fail
  refine (readRow_any ⟨p.toArray⟩ false _ (by rw [size_mk]; exact hpl)).mono ?_
  rw [mk_list, HT.out]
  rintro e x2 ⟨v, rfl, hnum, hb2⟩
  have HNUM := Lib.hid hnum
  clear hnum
  go_wp2_with fail
  refine (readRow_any ⟨q.toArray⟩ true _ (by rw [size_mk]; exact hql)).mono ?_
  rw [mk_list, HU.out]
  rintro e x3 ⟨v2, rfl, hnum2, hb3⟩
  have HOWN2 := Lib.hid (show x3.ownsRow x2.heap.size 86 1 v2 U.length (U.map (Value.int .u16)) from hnum2)
  have HOWN := Lib.hid (show x3.ownsRow x1.heap.size 86 1 v T.length (T.map (Value.int .u16)) from HNUM.out.below hb3)
  have HLT := Lib.hid (World.ownsRow.lt (show x2.ownsRow x1.heap.size 86 1 v T.length (T.map (Value.int .u16)) from HNUM.out))
  obtain ⟨ao, c, hv, _⟩ := HNUM.out.row
  obtain ⟨ao2, c2, hv2, _⟩ := hnum2.row
  rw [List.length_map] at hv hv2
  subst hv hv2
  clear hnum2
  have hd2 : Below x1.heap.size x1 x3 := hb2.trans (hb3.mono hb2.size)
  have hs3 : x1.heap.size ≤ x3.heap.size := hd2.size
  have hc2 : Below w.heap.size w x3 := hb1.trans (hd2.mono hb1.size)
  have HR2 : Hid (x3.heap[w.heap.size]? = some (.cells #[.int .u64 0, .int .u64 0] 46 (0, 0))) := (hd2.block w.heap.size hsz1).trans HR0.out
  have HK : Hid (x3.cell? ⟨w.heap.size, 0, none⟩ = some (.int .u64 0) ∧ x3.cell? ⟨w.heap.size, 1, none⟩ = some (.int .u64 0) ∧ x3.frozen? ⟨w.heap.size, 0, none⟩ = false ∧ x3.frozen? ⟨w.heap.size, 1, none⟩ = false) :=
    ⟨by rw [cell_of_row x3 _ 0 _ _ _ HR2.out]; rfl, by rw [cell_of_row x3 _ 1 _ _ _ HR2.out]; rfl, by simp [World.frozen?, HR2.out], by simp [World.frozen?, HR2.out]⟩
  have hb23 := hb2.size
  clear hb1 hb2 hb3 hd2
  by_cases hok : b = true ∧ d = true ∧ T.length + U.length ≤ 7
  · have HF := Lib.hid (HSL.out.trans (if_pos hok))
    obtain ⟨rfl, rfl, h7⟩ := hok
    obtain ⟨z, hz⟩ : ∃ z, 8 - (T.length + U.length) = z := ⟨_, rfl⟩
    have hzn : 0 < z := by omega
    have hze : (8 : Int) - (T.length : Int) - (U.length : Int) = (z : Int) := by omega
    have hz1' : decide ((z : Int) < 1) = false := decide_eq_false (by omega)
    rw [hz] at HF
    have hz7 : T.length + z ≤ 8 := by omega
    clear hz
    have HE8 : Hid (T.length + z + U.length = 8) := by show _ = _; omega
    have hne : (Value.slice ao2 U.length c2).ownBlock = none ∨ (Value.slice ao2 U.length c2).ownBlock ≠ (Value.slice ao T.length c).ownBlock := by
      cases h : (Value.slice ao2 U.length c2).ownBlock with
      | none => exact .inl rfl
      | some j =>
        refine .inr fun e => ?_
        have h1 := (World.ownsRow.lt HOWN2.out j h).1
        have h2 := (HLT.out j e.symm).2
        omega
    have HNE := Lib.hid hne
    clear hne
    go_wp2_with (first
      | (at_builtin; refine wp_append_zeros _ rfl _ _ 77 3 rfl x1.heap.size 86 i0 .u16 .i64 .i64 2 Tryz.underlying77 Tryz.underlying3 hi hz0 hz1 hz2 _ _ _ rfl HOWN.out z rfl hzn (by unfold maxLen; omega) (by omega) hs3 ?_; intro v' x4 hown4 hb4 hg4)
      | (at_builtin; refine wp_append_row _ rfl _ _ 77 rfl x1.heap.size 86 i0 (.int .u16 0) 2 Tryz.underlying77 hi hz0 hz1 hz2 rfl _ _ _ rfl hown4 _ (U.map (Value.int .u16)) rfl (Nums.row (show Nums 86 .u16 x2.heap.size x4 (.slice ao2 U.length c2) U from World.ownsRow.kept HOWN2.out hg4 HNE.out)) (fun u hu => by obtain ⟨y, _, rfl⟩ := List.mem_map.1 hu; rfl) (by omega) (by rw [List.length_map]; unfold maxLen; omega) (by rw [List.length_map]; omega) (Nat.le_trans hs3 hb4.size) ?_; intro v5 x5 hown5 hb5)
      | fail)
    have hs4 : x1.heap.size ≤ x4.heap.size := Nat.le_trans hs3 hb4.size
    have hall : Nums 86 .u16 x1.heap.size x5 v5 (T ++ List.replicate z 0 ++ U) := by
      unfold Nums
      rw [List.length_map] at hown5
      rw [Nat.add_assoc] at hown5
      simpa [List.map_append, List.map_replicate, List.length_append, List.length_replicate] using hown5
    have HALL := Lib.hid hall.row
    have HIN3 := Lib.hid ((HIN.out.append (In16.zeros z)).append HIN2.out)
    have hl8 : (T ++ List.replicate z 0 ++ U).length ≤ 1073741824 := by
      simp only [List.length_append, List.length_replicate]; omega
    have hd5 : Below x1.heap.size x3 x5 := hb4.trans hb5
    have hc5 : Below w.heap.size w x5 := hc2.trans (hd5.mono (by omega))
    have hsz5 : w.heap.size < x5.heap.size := Nat.lt_of_lt_of_le hsz1 (Nat.le_trans hs4 hb5.size)
    clear hall hown5 hown4
    generalize T ++ List.replicate z 0 ++ U = Y at *
    refine (sixOf_any _ Y _ HALL.out HIN3.out hl8).mono ?_
    rintro e x6 ⟨rfl, hb6⟩
    have hc6 : Below w.heap.size w x6 := hc5.trans (hb6.mono hc5.size)
    have hk0' : x6.cell? ⟨w.heap.size, 0, none⟩ = some (.int .u64 0) := (hb6.cell (p := ⟨w.heap.size, 0, none⟩) hsz5).trans ((hd5.cell (p := ⟨w.heap.size, 0, none⟩) hsz1).trans HK.out.1)
    have hk1' : x6.cell? ⟨w.heap.size, 1, none⟩ = some (.int .u64 0) := (hb6.cell (p := ⟨w.heap.size, 1, none⟩) hsz5).trans ((hd5.cell (p := ⟨w.heap.size, 1, none⟩) hsz1).trans HK.out.2.1)
    have hf0' : x6.frozen? ⟨w.heap.size, 0, none⟩ = false := (hb6.frozen (p := ⟨w.heap.size, 0, none⟩) hsz5).trans ((hd5.frozen (p := ⟨w.heap.size, 0, none⟩) hsz1).trans HK.out.2.2.1)
    have hf1' : x6.frozen? ⟨w.heap.size, 1, none⟩ = false := (hb6.frozen (p := ⟨w.heap.size, 1, none⟩) hsz5).trans ((hd5.frozen (p := ⟨w.heap.size, 1, none⟩) hsz1).trans HK.out.2.2.2)
    clear hb6 hb4 hb5
    have hfin : Below w.heap.size w ((x6.setCell ⟨w.heap.size, 0, none⟩ (.int .u64 (hi4 Y))).setCell ⟨w.heap.size, 1, none⟩ (.int .u64 (lo4 Y))) := (hc6.setCell (Nat.le_refl _) _).setCell (Nat.le_refl _) _
    go_wp2
    exact bodyPost_ret (v := .tuple #[.agg #[.int .u64 (hi4 Y), .int .u64 (lo4 Y)], .bool true]) (by simp [results, Tryz.results23, go_sem, hk0', hk1']) rfl (retSix_yes HF.out hfin)
  · have HF := Lib.hid (HSL.out.trans (if_neg hok))
    obtain ⟨hk0, hk1, hf0, hf1⟩ := HK.out
    have hfin : Below w.heap.size w ((x3.setCell ⟨w.heap.size, 0, none⟩ (.int .u64 0)).setCell ⟨w.heap.size, 1, none⟩ (.int .u64 0)) := (hc2.setCell (Nat.le_refl _) _).setCell (Nat.le_refl _) _
    cases b with
    | false =>
      clear hok
      go_wp2
      exact bodyPost_ret (v := .tuple #[.agg #[.int .u64 0, .int .u64 0], .bool false]) (by simp [results, Tryz.results23, go_sem, hk0, hk1]) rfl (retSix_no HF.out hfin)
    | true =>
      cases d with
      | false =>
        clear hok
        go_wp2
        exact bodyPost_ret (v := .tuple #[.agg #[.int .u64 0, .int .u64 0], .bool false]) (by simp [results, Tryz.results23, go_sem, hk0, hk1]) rfl (retSix_no HF.out hfin)
      | true =>
        have h7 : 7 < T.length + U.length := by
          rcases Nat.lt_or_ge 7 (T.length + U.length) with h | h
          · exact h
          · exact absurd ⟨rfl, rfl, h⟩ hok
        have hz1' : decide ((8 : Int) - (T.length : Int) - (U.length : Int) < 1) = true := decide_eq_true (by omega)
        clear hok
        go_wp2
        exact bodyPost_ret (v := .tuple #[.agg #[.int .u64 0, .int .u64 0], .bool false]) (by simp [results, Tryz.results23, go_sem, hk0, hk1]) rfl (retSix_no HF.out hfin)

theorem parse6_any (s : ByteArray) (w : World) (hs : s.size ≤ 1073741824) (hmax : MaxVar w) :
    Calls Tryz.prog 23 #[.string s] w (RetSix w (sixZ s.data.toList)) := by
  cases h : ccAt s.data.toList with
  | none => exact parse6_none s w hs hmax h
  | some k => exact parse6_some s k w hs hmax h
end Go.Proofs.YtgmfgcpfpopboaaGreatDoor
