/-
  Layer 5: a row of pieces, the program's.
-/
import Derived.Test.YtgmfgcpfpopboaaGreatDoorSixB
import Derived.Deep.Onto
namespace Go.Proofs.YtgmfgcpfpopboaaGreatDoor
open Go.RowKit


theorem Tryz.infoU16 : (Tryz.prog.info? 86).map (fun i => (i.zero, i.size, i.bytes)) = some (some (.int .u16 0), 1, 2) := by kernel_rfl
theorem Tryz.infoInt : (Tryz.prog.info? 3).map (fun i => (i.zero, i.size, i.bytes)) = some (some (.int .i64 0), 1, 8) := by kernel_rfl

theorem two_new (w : World) (u1 u2 : Value) (t : TypeId) : ∀ j x, [u1, u2][j]? = some x → (w.alloc (.cells #[u1, u2] t)).cell? ((⟨w.heap.size, 0, none⟩ : Addr).add j) = some x := by
  intro j x hj
  match j, hj with
  | 0, hj => simp at hj; subst hj; simp [Addr.add]
  | 1, hj => simp at hj; subst hj; simp [Addr.add]

/-- append of two values, which the call has laid in a new block of two cells, onto a row of the call's own -/
theorem wp_append2 {P : Program} (w : World) {ops : Array Oper} {rest : List Oper} {o : Oper} {a : Act} {Q : Exit → Act → World → Prop} (hgd : o.guard = none) (s x : Operand) (t : TypeId)
    (ho : o.op = .call { callee := .builtin .append, args := #[s, x], argTypes := #[t, t] })
    (base : Nat) (e : TypeId) (i : TypeInfo) (z : Value) (bytes : Nat) (ht : P.underlying t = some (.slice e)) (hi : P.info? e = some i) (hz : i.zero = some z)
    (hsize : i.size = 1) (hby : i.bytes = bytes) (hzs : z.cells.size = 1)
    (v : Value) (n : Nat) (xs : List Value) (hs : a.eval s = v) (hown : w.ownsRow base e 1 v n xs) (u1 u2 : Value) (hx : a.eval x = .slice (some ⟨w.heap.size, 0, none⟩) 2 2) (hu1 : u1.oneCell' = true) (hu2 : u2.oneCell' = true)
    (h63 : n + 2 ≤ maxLen) (hbytes : (n + 2) * bytes ≤ 140737488355328) (hbase : base ≤ w.heap.size)
    (h : ∀ v' w', w'.ownsRow base e 1 v' (n + 2) (xs ++ [u1, u2]) → Below base w w' → wpList P ops Q rest (a.put o.dst v') w') : wpList P ops Q (o :: rest) a (w.alloc (.cells #[u1, u2] e)) := by
  refine wpList_append_own (w.alloc (.cells #[u1, u2] e)) hgd s x t ho base e i z 1 bytes ht hi hz hsize hby hzs (by decide) v n xs hs (hown.alloc _) ⟨w.heap.size, 0, none⟩ 2 2 [u1, u2] hx rfl (two_new w u1 u2 e) ?_ h63 hbytes (by simp; omega) ?_
  · intro y hy; simp at hy; rcases hy with rfl | rfl <;> assumption
  · intro v' w1 hown' hgrow _
    exact h v' w1 hown' (((Below.refl base w).alloc hbase _).grown hgrow (by simp; omega) (fun k hk => (hown.lt k hk).1))

/-- the slice v is a row of numbers of the kind k -/
def Nums (t : TypeId) (k : IntKind) (B : Nat) (w : World) (v : Value) (l : List Int) : Prop := w.ownsRow B t 1 v l.length (l.map (Value.int k))
theorem Nums.nil (t : TypeId) (k : IntKind) (B : Nat) (w : World) : Nums t k B w (.slice none 0 0) [] := World.ownsRow_nil _ _ _ _
theorem Nums.below {t : TypeId} {k : IntKind} {B : Nat} {w w' : World} {v : Value} {l : List Int} (h : Nums t k B w v l) (hb : Below w.heap.size w w') : Nums t k B w' v l := own_below h hb
theorem Nums.mono {t : TypeId} {k : IntKind} {B B' : Nat} {w : World} {v : Value} {l : List Int} (h : Nums t k B w v l) (hb : B' ≤ B) : Nums t k B' w v l := World.ownsRow.mono h hb
theorem Nums.snoc {t : TypeId} {k : IntKind} {B : Nat} {w : World} {v : Value} {l : List Int} {x : Int} (h : w.ownsRow B t 1 v (l.length + 1) (l.map (Value.int k) ++ [.int k x])) : Nums t k B w v (l ++ [x]) := by
  unfold Nums; rw [List.length_append, List.map_append]; exact h
theorem Nums.snoc2 {t : TypeId} {k : IntKind} {B : Nat} {w : World} {v : Value} {l : List Int} {x y : Int} (h : w.ownsRow B t 1 v (l.length + 2) (l.map (Value.int k) ++ [.int k x, .int k y])) : Nums t k B w v (l ++ [x, y]) := by
  unfold Nums; rw [List.length_append, List.map_append]; exact h
theorem Nums.row {t : TypeId} {k : IntKind} {B : Nat} {w : World} {v : Value} {l : List Int} (h : Nums t k B w v l) : RowR w v (l.map (Value.int k)) := by
  refine RowR.of_own (base := B) (e := t) ?_
  rw [List.length_map]; exact h

def RetNums (t : TypeId) (k : IntKind) (w : World) (x : List Int × Bool) (e : Ending) (w' : World) : Prop := ∃ v, e = .returned (.tuple #[v, .bool x.2]) ∧ Nums t k w.heap.size w' v x.1 ∧ Below w.heap.size w w'
theorem retNums_of {t : TypeId} {k : IntKind} {w w' : World} {x : List Int × Bool} {v : Value} {l : List Int} {b : Bool} (h : x = (l, b)) (hn : Nums t k w.heap.size w' v l) (hb : Below w.heap.size w w') : RetNums t k w x (.returned (.tuple #[v, .bool b])) w' := by
  subst h; exact ⟨v, rfl, hn, hb⟩

theorem rowZ_nil {last : Bool} : rowZ [] last = ([], true) := rfl
theorem rowZ_ne {l : List UInt8} {last : Bool} (h : l ≠ []) : rowZ l last = rowP last [] ((colons l).drop 0) := by unfold rowZ; rw [if_neg h]; rfl
theorem drop_part1 (k : Nat) (ps : List (List UInt8)) (h : k < ps.length) : ps.drop k = ps.getD k [] :: ps.drop (k + 1) := by
  rw [List.drop_eq_getElem_cons h, List.getD, List.getElem?_eq_getElem h]; rfl
theorem drop_end1 (k : Nat) (ps : List (List UInt8)) (h : ps.length ≤ k) : ps.drop k = [] := List.drop_eq_nil_of_le h
theorem drop_more1 (k : Nat) (ps : List (List UInt8)) (h : k < ps.length) : ps.drop k ≠ [] := by intro e; have := congrArg List.length e; simp at this; omega

set_option maxRecDepth 100000 in
set_option maxHeartbeats 4000000 in
theorem readRow_any (s : ByteArray) (last : Bool) (w : World) (hs : s.size ≤ 1073741824) :
    Calls Tryz.prog 39 #[.string s, .bool last] w (RetNums 86 .u16 w (rowZ s.data.toList last)) := by
  by_cases hn : s.size = 0
  · obtain rfl := empty_of_size s hn
    clear hn hs
    have HF : Hid (rowZ (ByteArray.mk #[]).data.toList last = ([], true)) := rfl
    go_enter Tryz.func39, Tryz.ntmps39
    go_wp2
    go_ret2
    exact retNums_of HF.out (Nums.nil _ _ _ _) (Below.refl _ _)
  · have hse := not_isEmpty s hn
    obtain ⟨i0, hi, hz0, hz1, hz2⟩ := info_parts Tryz.infoU16
    have HZ := Lib.hid (rowZ_ne (last := last) (ne_of_size s hn))
    clear hn
    obtain ⟨m, hm⟩ : ∃ m, (colons s.data.toList).length = m := ⟨_, rfl⟩
    have h0 : 0 < (colons s.data.toList).length := splitB_ne _ _
    rw [hm] at h0
    have hmb : m ≤ 1073741825 := by
      have h1 := splitB_len (hasB [58]) s.data.toList
      rw [size_list] at h1
      have h2 := hm
      unfold colons at h2
      omega
    have HM := Lib.hid hm
    clear hm
    go_enter Tryz.func39, Tryz.ntmps39
    go_wp2_with fail
    refine (split_any s _ _ hs).mono ?_
    rintro e w1 ⟨v, rfl, hp, hb1⟩
    have hp' : Parts w.heap.size w1 v (colons s.data.toList) := hp
    obtain ⟨g, cap, rfl, hcap, hg, hcell⟩ := hp'.form2 (by rw [HM.out]; exact h0)
    rw [HM.out] at hcap hcell ⊢
    have HCELL := Lib.hid hcell
    clear hp hp' hcell
    have HCAP := Lib.hid hcap
    go_wp2
    go_loopw [7, 20] (fun v i wr => ∃ (k : Nat) (T : List Int), k ≤ m ∧ i = .int .i64 k ∧ wr.ownsRow w1.heap.size 86 1 v k (T.map (Value.int .u16)) ∧ Hid (T.length = k) ∧ Hid (rowP last T ((colons s.data.toList).drop k) = rowZ s.data.toList last) ∧ Below w1.heap.size w1 wr) (fun _ i _ => m - (intOf i).toNat)
    case atStart => exact ⟨0, [], by omega, rfl, World.ownsRow_nil _ _ _ _, rfl, HZ.out.symm, Below.refl _ _⟩
    case round =>
      obtain ⟨k, T, hk, rfl, hown, HTL, HG, hbw⟩ := hrel
      by_cases hkm : k < m
      · obtain ⟨p, hpk⟩ : ∃ p, (colons s.data.toList).getD k [] = p := ⟨_, rfl⟩
        have hcx := HCELL.out k hkm
        rw [hpk] at hcx
        have hcx2 : wr.cell? ⟨g, k, none⟩ = some (.string ⟨p.toArray⟩) := (hbw.cell (p := ⟨g, k, none⟩) hg).trans hcx
        have hpl : p.length ≤ s.size := by rw [← hpk, ← size_list]; exact part_len _ _ _
        have hdr := drop_part1 k (colons s.data.toList) (by rw [HM.out]; exact hkm)
        rw [hpk] at hdr
        have HDR := Lib.hid hdr
        have HG1 : Hid (rowP last T (p :: (colons s.data.toList).drop (k + 1)) = rowZ s.data.toList last) := by
          show rowP last T (p :: (colons s.data.toList).drop (k + 1)) = rowZ s.data.toList last
          rw [← HDR.out]; exact HG.out
        clear hdr hcx HDR
        have HP := Lib.hid hpk
        clear hpk
        obtain ⟨x, b, hpz⟩ : ∃ x b, pieceZ p = (x, b) := ⟨_, _, rfl⟩
        have hx : 0 ≤ x ∧ x ≤ 65535 := by have h9 := pieceZ_bounds p; rw [hpz] at h9; exact h9
        obtain ⟨hx0, hx1⟩ := hx
        have HPZ := Lib.hid hpz
        clear hpz
        obtain ⟨y, b4, hsz4⟩ : ∃ x b, strictZ p = (x, b) := ⟨_, _, rfl⟩
        have hy : 0 ≤ y ∧ y ≤ 4294967295 := by have h9 := strictZ_bounds p; rw [hsz4] at h9; exact h9
        obtain ⟨hy0, hy1⟩ := hy
        have HS4 := Lib.hid hsz4
        clear hsz4
        by_cases hlast : k + 1 = m
        · have hq1 : ((k : Int) == (m : Int) - 1) = true := by rw [beq_iff_eq]; omega
          have HLAST := Lib.hid (drop_end1 (k + 1) (colons s.data.toList) (by rw [HM.out]; omega))
          have hlo : m - 1 ≤ k := by omega
          clear hlast
          cases last with
          | true =>
            cases b4 with
            | true =>
              have HF := Lib.hid (HG1.out.symm.trans (rowP_four rfl HLAST.out HS4.out))
              go_wp2_with fail
              refine (strict_any ⟨p.toArray⟩ _ (by rw [size_mk]; omega)).mono ?_
              rw [mk_list, HS4.out]
              rintro e w2 ⟨rfl, hb2⟩
              have hc2 : Below w1.heap.size w1 w2 := hbw.trans (hb2.mono hbw.size)
              have hown2 := own_below hown hb2
              have hsz2 := hc2.size
              clear hb2 hown
              go_wp2_with (at_builtin; refine wp_append2 _ rfl _ _ 77 rfl w1.heap.size 86 i0 (.int .u16 0) 2 Tryz.underlying77 hi hz0 hz1 hz2 rfl _ _ _ rfl hown2 (.int .u16 (y / 65536)) (.int .u16 (y % 65536)) rfl rfl rfl (by unfold maxLen; omega) (by omega) hsz2 ?_; intro v' w3 hown' hk')
              go_ret2
              exact retNums_of HF.out ((Nums.snoc2 (by rw [HTL.out]; exact hown')).mono hb1.size) (hb1.trans ((hc2.trans hk').mono hb1.size))
            | false =>
              have HNOT : Hid (¬ (true = true ∧ (colons s.data.toList).drop (k + 1) = [] ∧ (strictZ p).2 = true)) := by
                show ¬ _
                rintro ⟨h1, h2, h3⟩
                first | exact HNE.out h2 | exact absurd h1 (by decide) | (rw [HS4.out] at h3; exact absurd (show false = true from h3) (by decide))
              cases b with
              | true =>
                have hgo := HG1.out
                rw [rowP_yes HNOT.out HPZ.out] at hgo
                have HG2 := Lib.hid hgo
                clear hgo
                go_wp2_with fail
                refine (strict_any ⟨p.toArray⟩ _ (by rw [size_mk]; omega)).mono ?_
                rw [mk_list, HS4.out]
                rintro e w2 ⟨rfl, hb2⟩
                have hc2 : Below w1.heap.size w1 w2 := hbw.trans (hb2.mono hbw.size)
                have hown2 := own_below hown hb2
                clear hb2 hown
                go_wp2_with fail
                refine (readPiece_any ⟨p.toArray⟩ _ (by rw [size_mk]; omega)).mono ?_
                rw [mk_list, HPZ.out]
                rintro e w3 ⟨rfl, hb3⟩
                have hc3 : Below w1.heap.size w1 w3 := hc2.trans (hb3.mono hc2.size)
                have hown3 := own_below hown2 hb3
                have hsz3 := hc3.size
                clear hb3 hown2
                go_wp2_with (at_builtin; refine wp_append1 _ rfl _ _ 77 rfl w1.heap.size 86 i0 (.int .u16 0) 2 Tryz.underlying77 hi hz0 hz1 hz2 rfl _ _ _ rfl hown3 (.int .u16 x) rfl rfl (by omega) (by omega) hsz3 ?_; intro v' w4 hown' hk')
                go_roundw
                case rel => exact ⟨k + 1, T ++ [x], by omega, by go_num, (by rw [List.map_append]; exact hown'), (by show (T ++ [x]).length = k + 1; rw [List.length_append, HTL.out]; rfl), HG2, hc3.trans hk'⟩
                case measure => simp [intOf]; omega
              | false =>
                have HF := Lib.hid (HG1.out.symm.trans (rowP_no HNOT.out HPZ.out))
                go_wp2_with fail
                refine (strict_any ⟨p.toArray⟩ _ (by rw [size_mk]; omega)).mono ?_
                rw [mk_list, HS4.out]
                rintro e w2 ⟨rfl, hb2⟩
                have hc2 : Below w1.heap.size w1 w2 := hbw.trans (hb2.mono hbw.size)
                have hown2 := own_below hown hb2
                clear hb2 hown
                go_wp2_with fail
                refine (readPiece_any ⟨p.toArray⟩ _ (by rw [size_mk]; omega)).mono ?_
                rw [mk_list, HPZ.out]
                rintro e w3 ⟨rfl, hb3⟩
                have hc3 : Below w1.heap.size w1 w3 := hc2.trans (hb3.mono hc2.size)
                clear hb3
                go_wp2
                go_ret2
                exact retNums_of HF.out (Nums.nil _ _ _ _) (hb1.trans (hc3.mono hb1.size))
          | false =>
            have HNOT : Hid (¬ (false = true ∧ (colons s.data.toList).drop (k + 1) = [] ∧ (strictZ p).2 = true)) := by
              show ¬ _
              rintro ⟨h1, h2, h3⟩
              first | exact HNE.out h2 | exact absurd h1 (by decide) | (rw [HS4.out] at h3; exact absurd (show false = true from h3) (by decide))
            cases b with
            | true =>
              have hgo := HG1.out
              rw [rowP_yes HNOT.out HPZ.out] at hgo
              have HG2 := Lib.hid hgo
              clear hgo
              go_wp2_with fail
              refine (readPiece_any ⟨p.toArray⟩ _ (by rw [size_mk]; omega)).mono ?_
              rw [mk_list, HPZ.out]
              rintro e w3 ⟨rfl, hb3⟩
              have hc3 : Below w1.heap.size w1 w3 := hbw.trans (hb3.mono hbw.size)
              have hown3 := own_below hown hb3
              have hsz3 := hc3.size
              clear hb3 hown
              go_wp2_with (at_builtin; refine wp_append1 _ rfl _ _ 77 rfl w1.heap.size 86 i0 (.int .u16 0) 2 Tryz.underlying77 hi hz0 hz1 hz2 rfl _ _ _ rfl hown3 (.int .u16 x) rfl rfl (by omega) (by omega) hsz3 ?_; intro v' w4 hown' hk')
              go_roundw
              case rel => exact ⟨k + 1, T ++ [x], by omega, by go_num, (by rw [List.map_append]; exact hown'), (by show (T ++ [x]).length = k + 1; rw [List.length_append, HTL.out]; rfl), HG2, hc3.trans hk'⟩
              case measure => simp [intOf]; omega
            | false =>
              have HF := Lib.hid (HG1.out.symm.trans (rowP_no HNOT.out HPZ.out))
              go_wp2_with fail
              refine (readPiece_any ⟨p.toArray⟩ _ (by rw [size_mk]; omega)).mono ?_
              rw [mk_list, HPZ.out]
              rintro e w3 ⟨rfl, hb3⟩
              have hc3 : Below w1.heap.size w1 w3 := hbw.trans (hb3.mono hbw.size)
              clear hb3
              go_wp2
              go_ret2
              exact retNums_of HF.out (Nums.nil _ _ _ _) (hb1.trans (hc3.mono hb1.size))
        · have hq1 : ((k : Int) == (m : Int) - 1) = false := by rw [beq_eq_false_iff_ne]; omega
          have HNE := Lib.hid (drop_more1 (k + 1) (colons s.data.toList) (by rw [HM.out]; omega))
          clear hlast
          cases last with
          | true =>
            have HNOT : Hid (¬ (true = true ∧ (colons s.data.toList).drop (k + 1) = [] ∧ (strictZ p).2 = true)) := by
              show ¬ _
              rintro ⟨h1, h2, h3⟩
              first | exact HNE.out h2 | exact absurd h1 (by decide) | (rw [HS4.out] at h3; exact absurd (show false = true from h3) (by decide))
            cases b with
            | true =>
              have hgo := HG1.out
              rw [rowP_yes HNOT.out HPZ.out] at hgo
              have HG2 := Lib.hid hgo
              clear hgo
              go_wp2_with fail
              refine (readPiece_any ⟨p.toArray⟩ _ (by rw [size_mk]; omega)).mono ?_
              rw [mk_list, HPZ.out]
              rintro e w3 ⟨rfl, hb3⟩
              have hc3 : Below w1.heap.size w1 w3 := hbw.trans (hb3.mono hbw.size)
              have hown3 := own_below hown hb3
              have hsz3 := hc3.size
              clear hb3 hown
              go_wp2_with (at_builtin; refine wp_append1 _ rfl _ _ 77 rfl w1.heap.size 86 i0 (.int .u16 0) 2 Tryz.underlying77 hi hz0 hz1 hz2 rfl _ _ _ rfl hown3 (.int .u16 x) rfl rfl (by omega) (by omega) hsz3 ?_; intro v' w4 hown' hk')
              go_roundw
              case rel => exact ⟨k + 1, T ++ [x], by omega, by go_num, (by rw [List.map_append]; exact hown'), (by show (T ++ [x]).length = k + 1; rw [List.length_append, HTL.out]; rfl), HG2, hc3.trans hk'⟩
              case measure => simp [intOf]; omega
            | false =>
              have HF := Lib.hid (HG1.out.symm.trans (rowP_no HNOT.out HPZ.out))
              go_wp2_with fail
              refine (readPiece_any ⟨p.toArray⟩ _ (by rw [size_mk]; omega)).mono ?_
              rw [mk_list, HPZ.out]
              rintro e w3 ⟨rfl, hb3⟩
              have hc3 : Below w1.heap.size w1 w3 := hbw.trans (hb3.mono hbw.size)
              clear hb3
              go_wp2
              go_ret2
              exact retNums_of HF.out (Nums.nil _ _ _ _) (hb1.trans (hc3.mono hb1.size))
          | false =>
            have HNOT : Hid (¬ (false = true ∧ (colons s.data.toList).drop (k + 1) = [] ∧ (strictZ p).2 = true)) := by
              show ¬ _
              rintro ⟨h1, h2, h3⟩
              first | exact HNE.out h2 | exact absurd h1 (by decide) | (rw [HS4.out] at h3; exact absurd (show false = true from h3) (by decide))
            cases b with
            | true =>
              have hgo := HG1.out
              rw [rowP_yes HNOT.out HPZ.out] at hgo
              have HG2 := Lib.hid hgo
              clear hgo
              go_wp2_with fail
              refine (readPiece_any ⟨p.toArray⟩ _ (by rw [size_mk]; omega)).mono ?_
              rw [mk_list, HPZ.out]
              rintro e w3 ⟨rfl, hb3⟩
              have hc3 : Below w1.heap.size w1 w3 := hbw.trans (hb3.mono hbw.size)
              have hown3 := own_below hown hb3
              have hsz3 := hc3.size
              clear hb3 hown
              go_wp2_with (at_builtin; refine wp_append1 _ rfl _ _ 77 rfl w1.heap.size 86 i0 (.int .u16 0) 2 Tryz.underlying77 hi hz0 hz1 hz2 rfl _ _ _ rfl hown3 (.int .u16 x) rfl rfl (by omega) (by omega) hsz3 ?_; intro v' w4 hown' hk')
              go_roundw
              case rel => exact ⟨k + 1, T ++ [x], by omega, by go_num, (by rw [List.map_append]; exact hown'), (by show (T ++ [x]).length = k + 1; rw [List.length_append, HTL.out]; rfl), HG2, hc3.trans hk'⟩
              case measure => simp [intOf]; omega
            | false =>
              have HF := Lib.hid (HG1.out.symm.trans (rowP_no HNOT.out HPZ.out))
              go_wp2_with fail
              refine (readPiece_any ⟨p.toArray⟩ _ (by rw [size_mk]; omega)).mono ?_
              rw [mk_list, HPZ.out]
              rintro e w3 ⟨rfl, hb3⟩
              have hc3 : Below w1.heap.size w1 w3 := hbw.trans (hb3.mono hbw.size)
              clear hb3
              go_wp2
              go_ret2
              exact retNums_of HF.out (Nums.nil _ _ _ _) (hb1.trans (hc3.mono hb1.size))
      · obtain rfl : k = m := by omega
        have hfin := HG.out
        rw [drop_end1 k _ (by rw [HM.out]; omega), rowP_nil] at hfin
        have HF := Lib.hid hfin.symm
        clear hfin
        go_wp2
        go_ret2
        exact retNums_of HF.out (Nums.mono (show Nums _ _ _ _ _ _ from by unfold Nums; rw [HTL.out]; exact hown) hb1.size) (hb1.trans (hbw.mono hb1.size))
end Go.Proofs.YtgmfgcpfpopboaaGreatDoor
