/-
  Layer 3: the reference's Ends; the chapter's examples.
-/
import Derived.Test.YtaojjkknmaldiaaNumF
namespace Go.Proofs.Ytaojjkknmaldiaa
open Go.RowKit


theorem endsX_yes {x : List UInt8} {p : Int} (h : parseZ x = (p, true)) : endsX x = true := by unfold endsX; rw [h]; simp
theorem endsX_dig {x : List UInt8} {p : Int} (h : parseZ x = (p, false)) : endsX x = aloneB x := by unfold endsX; rw [h]; simp

set_option maxRecDepth 100000 in
set_option maxHeartbeats 2000000 in
theorem refEnds_one (s : ByteArray) (w : World) (hs : s.size ≤ 1073741824) (x : List UInt8) (hl : (dotted s.data.toList).length = 1) (hx : (dotted s.data.toList).getD 0 [] = x) :
    Calls Try.prog 12 #[.string s] w (RetBool w (endsB s.data.toList)) := by
  have hxl : x.length ≤ s.size := by rw [← hx, ← size_list]; exact part_len _ _ _
  have HE0 := Lib.hid (show endsB s.data.toList = endsX x from by unfold endsB; rw [ends_last 0 x _ hl hx (.inl rfl)])
  have HL := Lib.hid hl
  have HX := Lib.hid hx
  clear hl hx
  go_enter Try.func12, Try.ntmps12
  go_wp2_with fail
  refine (refSplit_any s _ _ hs (by decide)).mono ?_
  rintro e w1 ⟨v, rfl, hp, hb1⟩
  have hp' : Parts w.heap.size w1 v (dotted s.data.toList) := hp
  obtain ⟨g, cap, rfl, hg, hcell⟩ := hp'.form (by rw [HL.out]; omega)
  rw [HL.out]
  rw [HL.out] at hcell
  have hcx := hcell 0 (by omega)
  rw [HX.out] at hcx
  clear hcell hp hp'
  by_cases hxn : x = []
  · subst hxn
    have HPZ : Hid (parseZ [] = (0, false)) := rfl
    go_wp2_with fail
    refine (refParse_any ⟨#[]⟩ _ (by decide)).mono ?_
    rw [show parseZ (ByteArray.mk #[]).data.toList = (0, false) from rfl]
    rintro e w2 ⟨rfl, hb2⟩
    have hc2 : Below w.heap.size w w2 := hb1.trans (hb2.mono hb1.size)
    clear hb1 hb2
    go_wp2
    go_ret
    exact retBool_of (HE0.out.trans rfl) hc2
  · have hxe : x.isEmpty = false := isEmpty_false hxn
    obtain ⟨pz, b, hpz⟩ : ∃ p b, parseZ x = (p, b) := ⟨_, _, rfl⟩
    have HPZ := Lib.hid hpz
    clear hpz
    cases b with
    | true =>
      have HE := Lib.hid (HE0.out.trans (endsX_yes HPZ.out))
      go_wp2_with fail
      refine (refParse_any ⟨x.toArray⟩ _ (by rw [size_mk]; omega)).mono ?_
      rw [mk_list, HPZ.out]
      rintro e w2 ⟨rfl, hb2⟩
      have hc2 : Below w.heap.size w w2 := hb1.trans (hb2.mono hb1.size)
      clear hb1 hb2
      go_wp2
      go_ret
      exact retBool_of HE.out hc2
    | false =>
      have HE := Lib.hid (HE0.out.trans (endsX_dig HPZ.out))
      go_wp2_with fail
      refine (refParse_any ⟨x.toArray⟩ _ (by rw [size_mk]; omega)).mono ?_
      rw [mk_list, HPZ.out]
      rintro e w2 ⟨rfl, hb2⟩
      have hc2 : Below w.heap.size w w2 := hb1.trans (hb2.mono hb1.size)
      clear hb1 hb2
      · skip
        have HA := Lib.hid (show aloneB x = digsB 10 x from by unfold aloneB; rw [hxe]; rfl)
        go_wp2_with fail
        refine (refDigits_any ⟨x.toArray⟩ 10 _ (by rw [size_mk]; omega)).mono ?_
        rw [mk_list]
        rintro e w' ⟨rfl, rfl⟩
        go_wp2
        go_ret
        exact retBool_of (HE.out.trans HA.out) hc2

set_option maxRecDepth 100000 in
set_option maxHeartbeats 2000000 in
theorem refEnds_last2 (s : ByteArray) (w : World) (hs : s.size ≤ 1073741824) (n : Nat) (x : List UInt8) (hl : (dotted s.data.toList).length = n + 2) (hx : (dotted s.data.toList).getD (n + 1) [] = x) (hne : x ≠ []) :
    Calls Try.prog 12 #[.string s] w (RetBool w (endsB s.data.toList)) := by
  have hxl : x.length ≤ s.size := by rw [← hx, ← size_list]; exact part_len _ _ _
  have HE0 := Lib.hid (show endsB s.data.toList = endsX x from by unfold endsB; rw [ends_last (n + 1) x _ hl hx (.inr hne)])
  have hxe : x.isEmpty = false := isEmpty_false hne
  have HL := Lib.hid hl
  have HX := Lib.hid hx
  clear hl hx hne
  have hnb : n ≤ 1073741824 := by
    have h1 := splitB_len (hasB [46]) s.data.toList
    rw [size_list] at h1
    have h2 := HL.out
    unfold dotted at h2
    omega
  go_enter Try.func12, Try.ntmps12
  go_wp2_with fail
  refine (refSplit_any s _ _ hs (by decide)).mono ?_
  rintro e w1 ⟨v, rfl, hp, hb1⟩
  have hp' : Parts w.heap.size w1 v (dotted s.data.toList) := hp
  obtain ⟨g, cap, rfl, hg, hcell⟩ := hp'.form (by rw [HL.out]; omega)
  rw [HL.out]
  rw [HL.out] at hcell
  have hcx := hcell (n + 1) (by omega)
  rw [HX.out] at hcx
  clear hcell hp hp'
  obtain ⟨pz, b, hpz⟩ : ∃ p b, parseZ x = (p, b) := ⟨_, _, rfl⟩
  have HPZ := Lib.hid hpz
  clear hpz
  cases b with
  | true =>
    have HE := Lib.hid (HE0.out.trans (endsX_yes HPZ.out))
    go_wp2_with fail
    refine (refParse_any ⟨x.toArray⟩ _ (by rw [size_mk]; omega)).mono ?_
    rw [mk_list, HPZ.out]
    rintro e w2 ⟨rfl, hb2⟩
    have hc2 : Below w.heap.size w w2 := hb1.trans (hb2.mono hb1.size)
    clear hb1 hb2
    go_wp2
    go_ret
    exact retBool_of HE.out hc2
  | false =>
    have HE := Lib.hid (HE0.out.trans (endsX_dig HPZ.out))
    go_wp2_with fail
    refine (refParse_any ⟨x.toArray⟩ _ (by rw [size_mk]; omega)).mono ?_
    rw [mk_list, HPZ.out]
    rintro e w2 ⟨rfl, hb2⟩
    have hc2 : Below w.heap.size w w2 := hb1.trans (hb2.mono hb1.size)
    clear hb1 hb2
    · skip
      have HA := Lib.hid (show aloneB x = digsB 10 x from by unfold aloneB; rw [hxe]; rfl)
      go_wp2_with fail
      refine (refDigits_any ⟨x.toArray⟩ 10 _ (by rw [size_mk]; omega)).mono ?_
      rw [mk_list]
      rintro e w' ⟨rfl, rfl⟩
      go_wp2
      go_ret
      exact retBool_of (HE.out.trans HA.out) hc2

set_option maxRecDepth 100000 in
set_option maxHeartbeats 2000000 in
theorem refEnds_before2 (s : ByteArray) (w : World) (hs : s.size ≤ 1073741824) (n : Nat) (x : List UInt8) (hl : (dotted s.data.toList).length = n + 2) (hx : (dotted s.data.toList).getD n [] = x) (hy : (dotted s.data.toList).getD (n + 1) [] = []) :
    Calls Try.prog 12 #[.string s] w (RetBool w (endsB s.data.toList)) := by
  have hxl : x.length ≤ s.size := by rw [← hx, ← size_list]; exact part_len _ _ _
  have HE0 := Lib.hid (show endsB s.data.toList = endsX x from by unfold endsB; rw [ends_before n x _ hl hy hx])
  have HL := Lib.hid hl
  have HX := Lib.hid hx
  have HY := Lib.hid hy
  clear hl hx hy
  have hnb : n ≤ 1073741824 := by
    have h1 := splitB_len (hasB [46]) s.data.toList
    rw [size_list] at h1
    have h2 := HL.out
    unfold dotted at h2
    omega
  go_enter Try.func12, Try.ntmps12
  go_wp2_with fail
  refine (refSplit_any s _ _ hs (by decide)).mono ?_
  rintro e w1 ⟨v, rfl, hp, hb1⟩
  have hp' : Parts w.heap.size w1 v (dotted s.data.toList) := hp
  obtain ⟨g, cap, rfl, hg, hcell⟩ := hp'.form (by rw [HL.out]; omega)
  rw [HL.out]
  rw [HL.out] at hcell
  have hcx := hcell n (by omega)
  rw [HX.out] at hcx
  have hcy := hcell (n + 1) (by omega)
  rw [HY.out] at hcy
  clear hcell hp hp'
  obtain ⟨pz, b, hpz⟩ : ∃ p b, parseZ x = (p, b) := ⟨_, _, rfl⟩
  have HPZ := Lib.hid hpz
  clear hpz
  cases b with
  | true =>
    have HE := Lib.hid (HE0.out.trans (endsX_yes HPZ.out))
    go_wp2_with fail
    refine (refParse_any ⟨x.toArray⟩ _ (by rw [size_mk]; omega)).mono ?_
    rw [mk_list, HPZ.out]
    rintro e w2 ⟨rfl, hb2⟩
    have hc2 : Below w.heap.size w w2 := hb1.trans (hb2.mono hb1.size)
    clear hb1 hb2
    go_wp2
    go_ret
    exact retBool_of HE.out hc2
  | false =>
    have HE := Lib.hid (HE0.out.trans (endsX_dig HPZ.out))
    go_wp2_with fail
    refine (refParse_any ⟨x.toArray⟩ _ (by rw [size_mk]; omega)).mono ?_
    rw [mk_list, HPZ.out]
    rintro e w2 ⟨rfl, hb2⟩
    have hc2 : Below w.heap.size w w2 := hb1.trans (hb2.mono hb1.size)
    clear hb1 hb2
    by_cases hxn : x = []
    · subst hxn
      go_wp2
      go_ret
      exact retBool_of (HE.out.trans rfl) hc2
    · have hxe : x.isEmpty = false := isEmpty_false hxn
      have HA := Lib.hid (show aloneB x = digsB 10 x from by unfold aloneB; rw [hxe]; rfl)
      go_wp2_with fail
      refine (refDigits_any ⟨x.toArray⟩ 10 _ (by rw [size_mk]; omega)).mono ?_
      rw [mk_list]
      rintro e w' ⟨rfl, rfl⟩
      go_wp2
      go_ret
      exact retBool_of (HE.out.trans HA.out) hc2

theorem refEnds_any (s : ByteArray) (w : World) (hs : s.size ≤ 1073741824) :
    Calls Try.prog 12 #[.string s] w (RetBool w (endsB s.data.toList)) := by
  have h0 : 0 < (dotted s.data.toList).length := splitB_ne _ _
  by_cases h1 : (dotted s.data.toList).length = 1
  · exact refEnds_one s w hs _ h1 rfl
  · obtain ⟨n, hn⟩ : ∃ n, (dotted s.data.toList).length = n + 2 := ⟨(dotted s.data.toList).length - 2, by omega⟩
    by_cases he : (dotted s.data.toList).getD (n + 1) [] = []
    · exact refEnds_before2 s w hs n _ hn rfl he
    · exact refEnds_last2 s w hs n _ hn rfl he
end Go.Proofs.Ytaojjkknmaldiaa
