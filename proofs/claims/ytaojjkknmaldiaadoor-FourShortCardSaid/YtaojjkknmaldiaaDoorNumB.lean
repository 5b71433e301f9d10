/-
  Layer 3: Parse, the program's and the reference's, both tell parseZ.
-/
import Derived.Test.YtaojjkknmaldiaaDoorNumA
import Derived.Test.YtaojjkknmaldiaaDoorScalM
import Derived.Test.YtaojjkknmaldiaaDoorScalarTellsWalk
namespace Go.Proofs.YtaojjkknmaldiaaDoor
open Go.RowKit


theorem parseZ_no (l : List UInt8) (r : List UInt8) (b : Int) (h : restB l = (r, b)) (hd : digsB b r = false) : parseZ l = (0, false) := by
  unfold parseZ
  rw [h, hd]
  split <;> rfl
theorem parseZ_yes (l : List UInt8) (r : List UInt8) (b : Int) (h : restB l = (r, b)) (hn : l ≠ []) (hd : digsB b r = true) : parseZ l = (numZ b r, true) := by
  unfold parseZ
  rw [h, hd]
  cases l with
  | nil => exact absurd rfl hn
  | cons a t => rfl

theorem nil_of_size (s : ByteArray) (h : s.size = 0) : s.data.toList = [] := List.length_eq_zero_iff.1 (by rw [size_list]; exact h)
theorem ne_of_size (s : ByteArray) (h : s.size ≠ 0) : s.data.toList ≠ [] := fun e => h (by rw [← size_list, e]; rfl)
theorem back_data (s : ByteArray) : ByteArray.mk s.data.toList.toArray = s := by simp
theorem mk_list (l : List UInt8) : (ByteArray.mk l.toArray).data.toList = l := by simp
theorem empty_of_size (s : ByteArray) (h : s.size = 0) : s = ⟨#[]⟩ := by
  apply ByteArray.ext
  apply Array.ext'
  exact nil_of_size s h
theorem not_isEmpty (s : ByteArray) (h : s.size ≠ 0) : s.toList.isEmpty = false := by
  rw [ByteArray.toList_eq]
  cases hd : s.data.toList with
  | nil => exact absurd hd (ne_of_size s h)
  | cons a l => rfl

set_option maxRecDepth 100000 in
set_option maxHeartbeats 2000000 in
theorem parse_base (s : ByteArray) (d : ByteArray) (b : Int) (w : World) (hs : s.size ≤ 1073741824) (hn : s.size ≠ 0) (hb : b = 8 ∨ b = 10 ∨ b = 16) (hr : restB s.data.toList = (d.data.toList, b)) :
    Calls Tryd.prog 9 #[.string s] w (RetNum w (parseZ s.data.toList)) := by
  have HR := Lib.hid hr
  have HNO := Lib.hid (parseZ_no s.data.toList _ b hr)
  have HYES := Lib.hid (parseZ_yes s.data.toList _ b hr (ne_of_size s hn))
  have hse := not_isEmpty s hn
  clear hr hn
  have hb1 : 8 ≤ b := by omega
  have hb2 : b ≤ 16 := by omega
  clear hb
  go_enter Tryd.func9, Tryd.ntmps9
  go_wp2_with fail
  refine (withoutBase_any s _ hs).mono ?_
  rw [HR.out]
  rintro e w' ⟨rfl, rfl⟩
  simp only [back_data]
  go_wp2
  go_loopw [6] (fun n wr => ∃ (k : Nat) (A : Int), n = .int .u64 A ∧ 0 ≤ A ∧ A ≤ 1099511627776 ∧ k ≤ d.size ∧ wr.heap[w.heap.size]? = some (.stringIter d k) ∧ Below w.heap.size w wr ∧ w.heap.size + 1 ≤ wr.heap.size ∧ Hid (A = numZ b (d.data.toList.take k)) ∧ Hid (digsB b (d.data.toList.take k) = true)) (fun _ wr => d.size - wr.iterPos w.heap.size)
  case atStart => exact ⟨0, 0, rfl, by omega, by omega, Nat.zero_le _, World.iter_heap w d 0, (Below.refl _ w).alloc (Nat.le_refl _) _, by simp [World.iter], rfl, rfl⟩
  case round =>
    obtain ⟨k, A, rfl, hA0, hA1, hk, hit, hbw, hsz, HA, HDG⟩ := hrel
    by_cases hp : k < d.size
    · obtain ⟨c, hc⟩ : ∃ c, (d[k]'hp).toNat = c := ⟨_, rfl⟩
      have hnx : ∀ ty, (Instr.next (.pointer (some ⟨w.heap.size, 0, none⟩)) true ty).run Tryd.prog wr = _ := fun ty => Lib.run_next_any_at wr w.heap.size d k ty hit hp
      by_cases hc128 : c < 128
      · have hdec := decode_ascii d k hp (by omega)
        rw [hc] at hdec
        rw [hdec] at hnx
        have hit2 := Lib.iterAt_heap wr w.heap.size d k (k + 1) hit
        have hbw2 := Lib.below_iterAt hbw (k := w.heap.size) (Nat.le_refl _) d (k + 1)
        have hsz2 : w.heap.size + 1 ≤ (wr.iterAt w.heap.size d (k + 1)).heap.size := by rw [Lib.iterAt_size]; exact hsz
        simp only at hnx
        generalize wr.iterAt w.heap.size d (k + 1) = wi at *
        obtain ⟨v, hv⟩ : ∃ v, valZ (c : Int) = v := ⟨_, rfl⟩
        have hv16 : v < 16 := by rw [← hv]; exact valZ_top _
        have HV : Hid (valZ (d[k].toNat : Int) = v) := by show valZ (d[k].toNat : Int) = v; rw [hc]; exact hv
        have HIT := Lib.hid hit
        have HC := Lib.hid hc
        clear hit hc hdec
        by_cases h0 : v < 0
        · have HF := Lib.hid (HNO.out (digsB_no b d k hp (digC_false HV.out (.inl h0))))
          go_wp2_with (go_at_call 23; refine (value_any _ _).mono ?_; rintro e w' ⟨rfl, rfl⟩)
          go_ret2
          exact retNum_of HF.out hbw2
        · by_cases h1 : b ≤ v
          · have HF := Lib.hid (HNO.out (digsB_no b d k hp (digC_false HV.out (.inr h1))))
            go_wp2_with (go_at_call 23; refine (value_any _ _).mono ?_; rintro e w' ⟨rfl, rfl⟩)
            go_ret2
            exact retNum_of HF.out hbw2
          · have HF := Lib.hid (digsB_ok b d k hp HDG.out (digC_true HV.out (by omega) (by omega)))
            have hsn := numZ_snoc b d k hp
            rw [← HA.out, stepN_eq _ _ _ v HV.out] at hsn
            have HSN := Lib.hid hsn
            clear hsn
            have hP0 : 0 ≤ A * b := Int.mul_nonneg hA0 (by omega)
            have hP1 : A * b ≤ 1099511627776 * 16 := Int.mul_le_mul hA1 hb2 (by omega) (by omega)
            by_cases ht : 1099511627776 < A * b + v
            · have HC2 := Lib.hid (HSN.out.trans (capZ_hi ht))
              go_wp2_with (go_at_call 23; refine (value_any _ _).mono ?_; rintro e w' ⟨rfl, rfl⟩)
              go_roundw
              case rel => exact ⟨k + 1, 1099511627776, rfl, by omega, by omega, by omega, hit2, hbw2, hsz2, HC2.out.symm, HF⟩
              case measure =>
                simp only [World.iterPos, hit2, HIT.out]
                omega
            · have HC2 := Lib.hid (HSN.out.trans (capZ_lo ht))
              go_wp2_with (go_at_call 23; refine (value_any _ _).mono ?_; rintro e w' ⟨rfl, rfl⟩)
              go_roundw
              case rel => exact ⟨k + 1, _, rfl, by omega, by omega, by omega, hit2, hbw2, hsz2, HC2.out.symm, HF⟩
              case measure =>
                simp only [World.iterPos, hit2, HIT.out]
                omega
      · have hh := decode_high d k hp (by omega)
        obtain ⟨r, hr⟩ : ∃ r, (Utf8.decode d k).1 = r := ⟨_, rfl⟩
        obtain ⟨wd, hwd⟩ : ∃ r, (Utf8.decode d k).2 = r := ⟨_, rfl⟩
        have hrl := decode_le d k
        rw [hr, hwd] at hnx
        rw [hr, hwd] at hh
        rw [hr] at hrl
        have hbw2 := Lib.below_iterAt hbw (k := w.heap.size) (Nat.le_refl _) d (k + wd)
        generalize wr.iterAt w.heap.size d (k + wd) = wi at *
        have hv : valZ (r : Int) = -1 := valZ_high _ (by omega)
        have HF := Lib.hid (HNO.out (digsB_no b d k hp (digC_false (valZ_high _ (by omega)) (.inl (by omega)))))
        clear hc hr hwd
        go_wp2_with (go_at_call 23; refine (value_any _ _).mono ?_; rintro e w' ⟨rfl, rfl⟩)
        go_ret2
        exact retNum_of HF.out hbw2
    · have hnx : ∀ ty, (Instr.next (.pointer (some ⟨w.heap.size, 0, none⟩)) true ty).run Tryd.prog wr = _ := fun ty => Lib.run_next_end_at wr w.heap.size d k ty hit hp
      have hdt := HDG.out
      rw [take_all d k hp] at hdt
      have hat := HA.out
      rw [take_all d k hp] at hat
      have HF := Lib.hid (HYES.out hdt)
      have HAT := Lib.hid hat
      clear hdt hat
      go_wp2
      go_ret2
      exact retNum_of (by rw [HF.out, HAT.out]) hbw

set_option maxRecDepth 100000 in
set_option maxHeartbeats 2000000 in
theorem parse_any (s : ByteArray) (w : World) (hs : s.size ≤ 1073741824) :
    Calls Tryd.prog 9 #[.string s] w (RetNum w (parseZ s.data.toList)) := by
  by_cases hn : s.size = 0
  · obtain rfl := empty_of_size s hn
    clear hn hs
    have HF : Hid (parseZ (ByteArray.mk #[]).data.toList = (0, false)) := rfl
    go_enter Tryd.func9, Tryd.ntmps9
    go_wp2
    go_ret2
    exact retNum_of HF.out (Below.refl _ _)
  · obtain ⟨⟨r, b⟩, hr⟩ : ∃ x, restB s.data.toList = x := ⟨_, rfl⟩
    have hb := restB_base s.data.toList
    rw [hr] at hb
    exact parse_base s ⟨r.toArray⟩ b w hs hn hb (by rw [mk_list]; exact hr)

/-- the reference's: each of its ways -/
theorem extract_lists (s : ByteArray) (a : Nat) (d : ByteArray) (h : s.extract a s.size = d) : s.data.toList.drop a = d.data.toList := by
  rw [← h, extract_to]
theorem extract_size (s : ByteArray) (a : Nat) (d : ByteArray) (h : s.extract a s.size = d) : d.size ≤ s.size := by
  rw [← h]; simp [ByteArray.size_extract]

end Go.Proofs.YtaojjkknmaldiaaDoor
