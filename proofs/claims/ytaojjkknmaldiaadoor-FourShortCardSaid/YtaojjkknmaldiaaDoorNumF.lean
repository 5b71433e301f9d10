/-
  Layer 3: Ends, walked.
-/
import Derived.Test.YtaojjkknmaldiaaDoorNumE
namespace Go.Proofs.YtaojjkknmaldiaaDoor
open Go.RowKit


set_option maxRecDepth 100000 in
set_option maxHeartbeats 2000000 in
theorem ends_one (s : ByteArray) (w : World) (hs : s.size ≤ 1073741824) (x : List UInt8) (hl : (dotted s.data.toList).length = 1) (hx : (dotted s.data.toList).getD 0 [] = x) :
    Calls Tryd.prog 11 #[.string s] w (RetBool w (endsB s.data.toList)) := by
  have hxl : x.length ≤ s.size := by rw [← hx, ← size_list]; exact part_len _ _ _
  have HE0 := Lib.hid (show endsB s.data.toList = endsX x from by unfold endsB; rw [ends_last 0 x _ hl hx (.inl rfl)])
  have HL := Lib.hid hl
  have HX := Lib.hid hx
  clear hl hx
  go_enter Tryd.func11, Tryd.ntmps11
  go_wp2_with fail
  refine (split_any s _ _ hs).mono ?_
  rintro e w1 ⟨v, rfl, hp, hb1⟩
  have hp' : Parts w.heap.size w1 v (dotted s.data.toList) := hp
  obtain ⟨g, cap, rfl, hg, hcell⟩ := hp'.form (by rw [HL.out]; omega)
  rw [HL.out]
  rw [HL.out] at hcell
  have hcx := hcell 0 (by omega)
  rw [HX.out] at hcx
  clear hcell hp hp'
  by_cases haz : aloneB x = true
  -- digits alone
  · have HE := Lib.hid (HE0.out.trans (endsX_alone haz))
    have HAZ := Lib.hid haz
    clear haz
    go_wp2_with fail
    refine (alone_any ⟨x.toArray⟩ _ (by rw [size_mk]; omega)).mono ?_
    rw [mk_list, HAZ.out]
    rintro e w2 ⟨rfl, hb2⟩
    have hc2 : Below w.heap.size w w2 := hb1.trans (hb2.mono hb1.size)
    clear hb1 hb2
    go_wp2
    go_ret
    exact retBool_of HE.out hc2
  · have haf : aloneB x = false := by simpa using haz
    have HE := Lib.hid (HE0.out.trans (endsX_parse haf rfl))
    have HAZ := Lib.hid haf
    clear haz haf
    go_wp2_with fail
    refine (alone_any ⟨x.toArray⟩ _ (by rw [size_mk]; omega)).mono ?_
    rw [mk_list, HAZ.out]
    rintro e w2 ⟨rfl, hb2⟩
    have hc2 : Below w.heap.size w w2 := hb1.trans (hb2.mono hb1.size)
    have hcx2 := (hb2.cell (p := ⟨g, 0, none⟩) hg).trans hcx
    clear hb1 hb2 hcx
    go_wp2_with fail
    refine (parse_any ⟨x.toArray⟩ _ (by rw [size_mk]; omega)).mono ?_
    rw [mk_list]
    rintro e w3 ⟨rfl, hb3⟩
    have hc3 : Below w.heap.size w w3 := hc2.trans (hb3.mono hc2.size)
    clear hc2 hb3 hcx2
    go_wp2
    go_ret
    exact retBool_of HE.out hc3

set_option maxRecDepth 100000 in
set_option maxHeartbeats 2000000 in
theorem ends_last2 (s : ByteArray) (w : World) (hs : s.size ≤ 1073741824) (n : Nat) (x : List UInt8) (hl : (dotted s.data.toList).length = n + 2) (hx : (dotted s.data.toList).getD (n + 1) [] = x) (hne : x ≠ []) :
    Calls Tryd.prog 11 #[.string s] w (RetBool w (endsB s.data.toList)) := by
  have hxl : x.length ≤ s.size := by rw [← hx, ← size_list]; exact part_len _ _ _
  have HE0 := Lib.hid (show endsB s.data.toList = endsX x from by unfold endsB; rw [ends_last (n + 1) x _ hl hx (.inr hne)])
  have hxe : x.isEmpty = false := isEmpty_false hne
  have HL := Lib.hid hl
  have HX := Lib.hid hx
  clear hl hx hne
  have hnb : n ≤ 1073741824 := by
    have h1 := splitB_len (hasB [46]) s.data.toList
    rw [size_list] at h1
    have h2 := HL.out
    unfold dotted at h2
    omega
  go_enter Tryd.func11, Tryd.ntmps11
  go_wp2_with fail
  refine (split_any s _ _ hs).mono ?_
  rintro e w1 ⟨v, rfl, hp, hb1⟩
  have hp' : Parts w.heap.size w1 v (dotted s.data.toList) := hp
  obtain ⟨g, cap, rfl, hg, hcell⟩ := hp'.form (by rw [HL.out]; omega)
  rw [HL.out]
  rw [HL.out] at hcell
  have hcx := hcell (n + 1) (by omega)
  rw [HX.out] at hcx
  clear hcell hp hp'
  by_cases haz : aloneB x = true
  -- digits alone
  · have HE := Lib.hid (HE0.out.trans (endsX_alone haz))
    have HAZ := Lib.hid haz
    clear haz
    go_wp2_with fail
    refine (alone_any ⟨x.toArray⟩ _ (by rw [size_mk]; omega)).mono ?_
    rw [mk_list, HAZ.out]
    rintro e w2 ⟨rfl, hb2⟩
    have hc2 : Below w.heap.size w w2 := hb1.trans (hb2.mono hb1.size)
    clear hb1 hb2
    go_wp2
    go_ret
    exact retBool_of HE.out hc2
  · have haf : aloneB x = false := by simpa using haz
    have HE := Lib.hid (HE0.out.trans (endsX_parse haf rfl))
    have HAZ := Lib.hid haf
    clear haz haf
    go_wp2_with fail
    refine (alone_any ⟨x.toArray⟩ _ (by rw [size_mk]; omega)).mono ?_
    rw [mk_list, HAZ.out]
    rintro e w2 ⟨rfl, hb2⟩
    have hc2 : Below w.heap.size w w2 := hb1.trans (hb2.mono hb1.size)
    have hcx2 := (hb2.cell (p := ⟨g, (n + 1), none⟩) hg).trans hcx
    clear hb1 hb2 hcx
    go_wp2_with fail
    refine (parse_any ⟨x.toArray⟩ _ (by rw [size_mk]; omega)).mono ?_
    rw [mk_list]
    rintro e w3 ⟨rfl, hb3⟩
    have hc3 : Below w.heap.size w w3 := hc2.trans (hb3.mono hc2.size)
    clear hc2 hb3 hcx2
    go_wp2
    go_ret
    exact retBool_of HE.out hc3

set_option maxRecDepth 100000 in
set_option maxHeartbeats 2000000 in
theorem ends_before2 (s : ByteArray) (w : World) (hs : s.size ≤ 1073741824) (n : Nat) (x : List UInt8) (hl : (dotted s.data.toList).length = n + 2) (hx : (dotted s.data.toList).getD n [] = x) (hy : (dotted s.data.toList).getD (n + 1) [] = []) :
    Calls Tryd.prog 11 #[.string s] w (RetBool w (endsB s.data.toList)) := by
  have hxl : x.length ≤ s.size := by rw [← hx, ← size_list]; exact part_len _ _ _
  have HE0 := Lib.hid (show endsB s.data.toList = endsX x from by unfold endsB; rw [ends_before n x _ hl hy hx])
  have HL := Lib.hid hl
  have HX := Lib.hid hx
  have HY := Lib.hid hy
  clear hl hx hy
  have hnb : n ≤ 1073741824 := by
    have h1 := splitB_len (hasB [46]) s.data.toList
    rw [size_list] at h1
    have h2 := HL.out
    unfold dotted at h2
    omega
  go_enter Tryd.func11, Tryd.ntmps11
  go_wp2_with fail
  refine (split_any s _ _ hs).mono ?_
  rintro e w1 ⟨v, rfl, hp, hb1⟩
  have hp' : Parts w.heap.size w1 v (dotted s.data.toList) := hp
  obtain ⟨g, cap, rfl, hg, hcell⟩ := hp'.form (by rw [HL.out]; omega)
  rw [HL.out]
  rw [HL.out] at hcell
  have hcx := hcell n (by omega)
  rw [HX.out] at hcx
  have hcy := hcell (n + 1) (by omega)
  rw [HY.out] at hcy
  clear hcell hp hp'
  by_cases haz : aloneB x = true
  -- digits alone
  · have HE := Lib.hid (HE0.out.trans (endsX_alone haz))
    have HAZ := Lib.hid haz
    clear haz
    go_wp2_with fail
    refine (alone_any ⟨x.toArray⟩ _ (by rw [size_mk]; omega)).mono ?_
    rw [mk_list, HAZ.out]
    rintro e w2 ⟨rfl, hb2⟩
    have hc2 : Below w.heap.size w w2 := hb1.trans (hb2.mono hb1.size)
    clear hb1 hb2
    go_wp2
    go_ret
    exact retBool_of HE.out hc2
  · have haf : aloneB x = false := by simpa using haz
    have HE := Lib.hid (HE0.out.trans (endsX_parse haf rfl))
    have HAZ := Lib.hid haf
    clear haz haf
    go_wp2_with fail
    refine (alone_any ⟨x.toArray⟩ _ (by rw [size_mk]; omega)).mono ?_
    rw [mk_list, HAZ.out]
    rintro e w2 ⟨rfl, hb2⟩
    have hc2 : Below w.heap.size w w2 := hb1.trans (hb2.mono hb1.size)
    have hcx2 := (hb2.cell (p := ⟨g, n, none⟩) hg).trans hcx
    clear hb1 hb2 hcx
    go_wp2_with fail
    refine (parse_any ⟨x.toArray⟩ _ (by rw [size_mk]; omega)).mono ?_
    rw [mk_list]
    rintro e w3 ⟨rfl, hb3⟩
    have hc3 : Below w.heap.size w w3 := hc2.trans (hb3.mono hc2.size)
    clear hc2 hb3 hcx2
    go_wp2
    go_ret
    exact retBool_of HE.out hc3

theorem ends_any (s : ByteArray) (w : World) (hs : s.size ≤ 1073741824) :
    Calls Tryd.prog 11 #[.string s] w (RetBool w (endsB s.data.toList)) := by
  have h0 : 0 < (dotted s.data.toList).length := splitB_ne _ _
  by_cases h1 : (dotted s.data.toList).length = 1
  · exact ends_one s w hs _ h1 rfl
  · obtain ⟨n, hn⟩ : ∃ n, (dotted s.data.toList).length = n + 2 := ⟨(dotted s.data.toList).length - 2, by omega⟩
    by_cases he : (dotted s.data.toList).getD (n + 1) [] = []
    · exact ends_before2 s w hs n _ hn rfl he
    · exact ends_last2 s w hs n _ hn rfl he
end Go.Proofs.YtaojjkknmaldiaaDoor
