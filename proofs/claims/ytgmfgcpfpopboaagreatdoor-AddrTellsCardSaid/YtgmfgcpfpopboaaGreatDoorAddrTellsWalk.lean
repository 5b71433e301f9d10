/-
  The law AddrTells: its Go text returns true at any two addresses, where the library's tables read as they are laid; nothing that lay in memory before is changed.
-/
import Derived.Test.YtgmfgcpfpopboaaGreatDoorAddL
namespace Go.Proofs.YtgmfgcpfpopboaaGreatDoor
open Go.RowKit


theorem nums_full {t : TypeId} {k : IntKind} {B : Nat} {w : World} {v : Value} {L : List Int} (h : Nums t k B w v (L.take L.length)) : RowR w v (L.map (Value.int k)) := by
  rw [List.take_length] at h
  exact h.row
theorem val_iface (y : AZ) : ∃ t u, y.val = .iface t u := by cases y <;> exact ⟨_, _, rfl⟩
theorem mk_sizeT (l : List UInt8) : (ByteArray.mk l.toArray).size = l.length := by simp [ByteArray.size]

set_option maxRecDepth 100000 in
set_option maxHeartbeats 4000000 in
theorem addrTells_4 (q : Bool) (a b c d : Int) (n : Int) (hn : b % 4294967296 = n) (y : AZ) (w : World) (hpow : PowTab w) (hbru : BruTab w) (hmax : MaxVar w)
    (hox : (AZ.four n).Ok) (hoy : y.Ok) (hy : AZ.make q c d = y) :
    Calls Tryz.prog 3 #[.bool false, .bool q, .int .u64 a, .int .u64 b, .int .u64 c, .int .u64 d] w fun e w' => e = .returned (.bool true) ∧ Below w.heap.size w w' := by
  obtain ⟨i0, hi0, hz0, hz1, hz2⟩ := info_parts Tryz.infoU32
  have HT := Lib.hid hbru
  have HX := Lib.hid hmax
  have HPW := Lib.hid hpow
  have HOX := Lib.hid hox
  have HOY := Lib.hid hoy
  have HMY := Lib.hid hy
  have HMX : Hid ((AZ.make false a b).val = (.iface 31 (.int .u32 n))) := by show AZ.val (AZ.four (b % 4294967296)) = _; rw [hn]; rfl
  have hwb : IntKind.u32.wrap b = n := by rw [u32_wrap]; exact hn
  have hnes : ∀ W : World, (binOp .neq 25 (.iface 31 (.int .u32 n)) (.iface 31 (.int .u32 n))).run Tryz.prog W = .ok (.bool false) W := neq_same (AZ.four n)
  have hneg : ∀ (p q : Operand) (W : World), (eqGuard .neq 25 p q (.iface 31 (.int .u32 n)) (.iface 31 (.int .u32 n))).run Tryz.prog W = .ok () W := neqGuard_same (AZ.four n)
  have hmt : ∀ w : World, (method 267 31 (.int .u32 n) "Text").run Tryz.prog w = .ok (131, (.int .u32 n)) w := fun _ => by kernel_rfl
  clear hpow hbru hmax hox hoy hy hn
  go_enter Tryz.func3, Tryz.ntmps3
  go_wp2_with fail
  refine (awake06_any _ HT.out HX.out).mono ?_
  rintro e x1 ⟨rfl, hq1⟩
  go_wp2_with fail
  refine (make6_any _ _ _ _).mono ?_
  rintro e x2 ⟨rfl, rfl⟩
  rw [HMX.out]
  go_wp2_with fail
  refine (make6_any _ _ _ _).mono ?_
  rintro e x3 ⟨rfl, rfl⟩
  rw [HMY.out]
  go_wp2_with fail
  refine (inner_any (AZ.four n) _ HOX.out).mono ?_
  rintro e x3 ⟨v3, rfl, hn3, hb3⟩
  have hq3 : Below w.heap.size w x3 := hq1.trans (hb3.mono hq1.size)
  clear hb3 hq1
  have HLL := Lib.hid (innerA_len (AZ.four n))
  obtain ⟨L, hL⟩ : ∃ L, innerA (AZ.four n) = L := ⟨_, rfl⟩
  have HL := Lib.hid hL
  rw [hL] at hn3 HLL
  clear hL
  obtain ⟨a3, c3, rfl, hcs⟩ := hn3.row
  have HCS := Lib.hid hcs
  rw [List.length_map] at *
  have HQ3 := Lib.hid hq3
  have hll := HLL.out
  clear hn3 hcs hq3
  go_wp2_with fail
  go_loopw [15, 35] (fun v i wr => ∃ k : Nat, k ≤ L.length ∧ i = .int .i64 k ∧ Hid (Nums 30 .u32 x3.heap.size wr v (L.take k) ∧ Below x3.heap.size x3 wr)) (fun _ i _ => L.length - (intOf i).toNat)
  case atStart => exact ⟨0, Nat.zero_le _, rfl, Nums.nil _ _ _ _, Below.refl _ _⟩
  case round =>
    obtain ⟨k, hk, rfl, H⟩ := hrel
    by_cases hlt : k < L.length
    · obtain ⟨z, hz⟩ : ∃ z, z = L[k] := ⟨_, rfl⟩
      obtain ⟨ad, rfl, hcl0⟩ := HCS.out k (.int .u32 z) (by simp [hz, hlt])
      have hcl : wr.cell? (ad.add k) = some (.int .u32 z) := (H.out.2.cell (World.block_lt_of_cell? _ _ hcl0)).trans hcl0
      have HTK : Hid (L.take (k + 1) = L.take k ++ [z]) := by show _ = _; rw [List.take_succ_eq_append_getElem hlt, ← hz]
      have hlk : (L.take k).length ≤ 12 := by rw [List.length_take]; omega
      have ho1 : World.ownsRow wr x3.heap.size 30 1 _ (L.take k).length ((L.take k).map (Value.int .u32)) := H.out.1
      have tA : (L.take k).length + 1 ≤ 9223372036854775807 := by omega
      have tB : ((L.take k).length + 1) * 4 ≤ 140737488355328 := by omega
      have tC : x3.heap.size ≤ wr.heap.size := H.out.2.size
      clear hcl0 hz hlk
      go_wp2_with (first
        | (at_builtin; refine wp_append1 _ rfl _ _ 27 rfl x3.heap.size 30 i0 (.int .u32 0) 4 Tryz.underlying27 hi0 hz0 hz1 hz2 rfl _ (L.take k).length _ rfl ho1 (.int .u32 z) rfl rfl tA tB tC ?_; intro v1 z1 hown1 hk1))
      go_roundw
      case rel => exact ⟨k + 1, by omega, by go_num, by rw [HTK.out]; exact Nums.snoc hown1, H.out.2.trans hk1⟩
      case measure => simp [intOf]; omega
    · obtain rfl : k = L.length := by omega
      have HNL := Lib.hid (nums_full H.out.1)
      have hq4 : Below w.heap.size w wr := HQ3.out.trans (H.out.2.mono HQ3.out.size)
      have HQ4 := Lib.hid hq4
      clear H hlt hk
      go_wp2_with fail
      refine (text4_any n _ HOX.out.1 HOX.out.2 (powTab_below HPW.out hq4)).mono ?_
      rintro e x5 ⟨rfl, hz5⟩
      have hq5 : Below w.heap.size w x5 := hq4.trans (hz5.mono hq4.size)
      clear hq4
      go_wp2_with fail
      refine (addrParse_any _ _ (by rw [mk_sizeT]; exact textA_len (AZ.four n) HOX.out) (maxVar_below HX.out hq5)).mono ?_
      rw [mk_list, show addrZ (txtZ n) = some (AZ.four n) from addrZ_text (AZ.four n) HOX.out]
      rintro e x6 ⟨rfl, hb6⟩
      rw [show optV (some (AZ.four n)) = (.iface 31 (.int .u32 n)) from rfl, show (some (AZ.four n)).isSome = true from rfl]
      have hz6 : Below wr.heap.size wr x6 := hz5.trans (hb6.mono hz5.size)
      clear hb6 hz5 hq5
      go_wp2_with fail
      refine (fourA_four n _).mono ?_
      rintro e x7 ⟨rfl, rfl⟩
      go_wp2_with fail
      refine (compare_any (AZ.four n) y _ HOX.out HOY.out).mono ?_
      rintro e x8 ⟨rfl, hb8⟩
      have hz8 : Below wr.heap.size wr x8 := hz6.trans (hb8.mono hz6.size)
      clear hb8 hz6
      obtain ⟨C, hC⟩ : ∃ C, cmpZ (AZ.four n) y = C := ⟨_, rfl⟩
      have HC := Lib.hid hC
      rw [hC]
      clear hC
      go_wp2_with fail
      refine (lawOf_any (some (AZ.four n)) _ (fun _ h => by cases h; exact HOX.out)).mono ?_
      rintro e x9 ⟨rfl, hb9⟩
      have hz9 : Below wr.heap.size wr x9 := hz8.trans (hb9.mono hz8.size)
      clear hb9 hz8
      go_wp2_with fail
      refine (lawOf_any (some y) _ (fun _ h => by cases h; exact HOY.out)).mono ?_
      rintro e x10 ⟨rfl, hb10⟩
      have hz10 : Below wr.heap.size wr x10 := hz9.trans (hb10.mono hz9.size)
      clear hb10 hz9
      go_wp2_with fail
      refine (refCompare_any (refA (some (AZ.four n))) (refA (some y)) _).mono ?_
      rw [cmpT_refA, HC.out]
      rintro e x11 ⟨rfl, hb11⟩
      have hz11 : Below wr.heap.size wr x11 := hz10.trans (hb11.mono hz10.size)
      clear hb11 hz10
      have hCC : (C != C) = false := by simp
      go_wp2_with fail
      refine (lawOf_any (some (AZ.four n)) _ (fun _ h => by cases h; exact HOX.out)).mono ?_
      rintro e x12 ⟨rfl, hb12⟩
      have hz12 : Below wr.heap.size wr x12 := hz11.trans (hb12.mono hz11.size)
      clear hb12 hz11
      go_wp2_with fail
      refine (refInner_any (AZ.four n) _ HOX.out).mono ?_
      rw [HL.out]
      rintro e x13 ⟨v13, rfl, hn13, hb13⟩
      have hz13 : Below wr.heap.size wr x13 := hz12.trans (hb13.mono hz12.size)
      clear hb13 hz12
      have HN13 := Lib.hid hn13.row
      clear hn13
      go_wp2_with fail
      refine (equalU_any _ _ L L _ (HNL.out.below hz13) HN13.out (by omega)).mono ?_
      rw [decide_eq_true (rfl : L = L)]
      rintro e x14 ⟨rfl, m14, rfl⟩
      have hz14 : Below wr.heap.size wr (x13.drewN m14) := below_drewN hz13 m14
      generalize x13.drewN m14 = x14 at *
      clear hz13 HN13
      have hnn : (n != n) = false := by simp
      go_wp2_with fail
      refine (panics_four n _).mono ?_
      rintro e x15 ⟨rfl, hb15⟩
      have hz15 : Below wr.heap.size wr x15 := hz14.trans (hb15.mono hz14.size)
      clear hb15 hz14
      have hqz : Below w.heap.size w x15 := HQ4.out.trans (hz15.mono HQ4.out.size)
      obtain ⟨ty, uy, hyv⟩ := val_iface y
      rw [hyv]
      have HYV := Lib.hid hyv
      clear hyv
      have hqy : Below w.heap.size w (x15.alloc (.cells #[(.iface 31 (.int .u32 n)), .nilIface, .iface ty uy] 25)) := hqz.alloc hqz.size _
      clear hqz hz15
      have hgl := heap_alloc_new x15 (.cells #[(.iface 31 (.int .u32 n)), .nilIface, .iface ty uy] 25)
      have HGL := Lib.hid hgl
      clear hgl
      go_wp2_with fail
      refine (texts_any (AZ.four n) y _ _ HOX.out HOY.out (powTab_below HPW.out hqy) (bruTab_below HT.out hqy) (by rw [HYV.out]; exact HGL.out)).mono ?_
      rintro e x17 ⟨g, rfl, hg1, hg2, hb17⟩
      rw [← HYV.out]
      have hg3 : g < x17.heap.size := by
        rcases Nat.lt_or_ge g x17.heap.size with h | h
        · exact h
        · rw [Array.getElem?_eq_none h] at hg2; cases hg2
      have hq17 : Below w.heap.size w x17 := hqy.trans (hb17.mono hqy.size)
      clear hb17 hqy HGL hg1
      go_wp2_with fail
      refine (lawOf_any (some (AZ.four n)) _ (fun _ h => by cases h; exact HOX.out)).mono ?_
      rintro e x18 ⟨rfl, hb18⟩
      have hq18 : Below w.heap.size w x18 := hq17.trans (hb18.mono hq17.size)
      go_wp2_with fail
      refine (refTextA_any (AZ.four n) _ HOX.out (powTab_below HPW.out hq18)).mono ?_
      rintro e x19 ⟨rfl, hb19⟩
      have hy19 : Below x17.heap.size x17 x19 := hb18.trans (hb19.mono hb18.size)
      have hq19 : Below w.heap.size w x19 := hq17.trans (hy19.mono hq17.size)
      clear hb18 hb19 hq18
      go_wp2_with fail
      refine (lawOf_any (some y) _ (fun _ h => by cases h; exact HOY.out)).mono ?_
      rintro e x20 ⟨rfl, hb20⟩
      have hy20 : Below x17.heap.size x17 x20 := hy19.trans (hb20.mono hy19.size)
      have hq20 : Below w.heap.size w x20 := hq17.trans (hy20.mono hq17.size)
      clear hb20 hy19 hq19
      go_wp2_with fail
      refine (refTextA_any y _ HOY.out (powTab_below HPW.out hq20)).mono ?_
      rintro e x21 ⟨rfl, hb21⟩
      have hy21 : Below x17.heap.size x17 x21 := hy20.trans (hb21.mono hy20.size)
      have hq21 : Below w.heap.size w x21 := hq17.trans (hy21.mono hq17.size)
      clear hb21 hy20 hq20
      obtain ⟨sx, hsx⟩ : ∃ sx, textA (AZ.four n) = sx := ⟨_, rfl⟩
      obtain ⟨sy, hsy⟩ : ∃ sy, textA y = sy := ⟨_, rfl⟩
      rw [hsx, hsy] at hg2
      rw [hsx, hsy]
      clear hsx hsy
      have HP1 : Hid (Parts g (x21.alloc (.cells #[.string ⟨sx.toArray⟩, .string ⟨#[]⟩, .string ⟨sy.toArray⟩] 9)) (.slice (some ⟨g, 0, none⟩) 3 3) [sx, [], sy]) := parts3 sx sy (((hy21.alloc hy21.size _).block g hg3).trans hg2)
      have HP2 : Hid (Parts x21.heap.size (x21.alloc (.cells #[.string ⟨sx.toArray⟩, .string ⟨#[]⟩, .string ⟨sy.toArray⟩] 9)) (.slice (some ⟨x21.heap.size, 0, none⟩) 3 3) [sx, [], sy]) := parts3 sx sy (heap_alloc_new x21 _)
      have hq22 : Below w.heap.size w (x21.alloc (.cells #[.string ⟨sx.toArray⟩, .string ⟨#[]⟩, .string ⟨sy.toArray⟩] 9)) := hq21.alloc hq21.size _
      clear hg2 hg3 hy21 hq21 hq17
      go_wp2_with fail
      refine (equalS_same _ _ [sx, [], sy] _ _ _ HP1.out HP2.out (by simp) (by simp)).mono ?_
      rintro e x22 ⟨rfl, m22, rfl⟩
      go_wp2
      go_ret
      exact ⟨rfl, below_drewN hq22 m22⟩

set_option maxRecDepth 100000 in
set_option maxHeartbeats 4000000 in
theorem addrTells_6 (q : Bool) (a b c d : Int) (y : AZ) (w : World) (hpow : PowTab w) (hbru : BruTab w) (hmax : MaxVar w)
    (hox : (AZ.six a b).Ok) (hoy : y.Ok) (hy : AZ.make q c d = y) :
    Calls Tryz.prog 3 #[.bool true, .bool q, .int .u64 a, .int .u64 b, .int .u64 c, .int .u64 d] w fun e w' => e = .returned (.bool true) ∧ Below w.heap.size w w' := by
  obtain ⟨i0, hi0, hz0, hz1, hz2⟩ := info_parts Tryz.infoU32
  have HT := Lib.hid hbru
  have HX := Lib.hid hmax
  have HPW := Lib.hid hpow
  have HOX := Lib.hid hox
  have HOY := Lib.hid hoy
  have HMY := Lib.hid hy
  have HMX : Hid ((AZ.make true a b).val = (.iface 46 (.agg #[.int .u64 a, .int .u64 b]))) := rfl
  have hnes : ∀ W : World, (binOp .neq 25 (.iface 46 (.agg #[.int .u64 a, .int .u64 b])) (.iface 46 (.agg #[.int .u64 a, .int .u64 b]))).run Tryz.prog W = .ok (.bool false) W := neq_same (AZ.six a b)
  have hneg : ∀ (p q : Operand) (W : World), (eqGuard .neq 25 p q (.iface 46 (.agg #[.int .u64 a, .int .u64 b])) (.iface 46 (.agg #[.int .u64 a, .int .u64 b]))).run Tryz.prog W = .ok () W := neqGuard_same (AZ.six a b)
  have hmt : ∀ w : World, (method 267 46 (.agg #[.int .u64 a, .int .u64 b]) "Text").run Tryz.prog w = .ok (47, (.agg #[.int .u64 a, .int .u64 b])) w := fun _ => by kernel_rfl
  clear hpow hbru hmax hox hoy hy
  go_enter Tryz.func3, Tryz.ntmps3
  go_wp2_with fail
  refine (awake06_any _ HT.out HX.out).mono ?_
  rintro e x1 ⟨rfl, hq1⟩
  go_wp2_with fail
  refine (make6_any _ _ _ _).mono ?_
  rintro e x2 ⟨rfl, rfl⟩
  rw [HMX.out]
  go_wp2_with fail
  refine (make6_any _ _ _ _).mono ?_
  rintro e x3 ⟨rfl, rfl⟩
  rw [HMY.out]
  go_wp2_with fail
  refine (inner_any (AZ.six a b) _ HOX.out).mono ?_
  rintro e x3 ⟨v3, rfl, hn3, hb3⟩
  have hq3 : Below w.heap.size w x3 := hq1.trans (hb3.mono hq1.size)
  clear hb3 hq1
  have HLL := Lib.hid (innerA_len (AZ.six a b))
  obtain ⟨L, hL⟩ : ∃ L, innerA (AZ.six a b) = L := ⟨_, rfl⟩
  have HL := Lib.hid hL
  rw [hL] at hn3 HLL
  clear hL
  obtain ⟨a3, c3, rfl, hcs⟩ := hn3.row
  have HCS := Lib.hid hcs
  rw [List.length_map] at *
  have HQ3 := Lib.hid hq3
  have hll := HLL.out
  clear hn3 hcs hq3
  go_wp2_with fail
  go_loopw [15, 35] (fun v i wr => ∃ k : Nat, k ≤ L.length ∧ i = .int .i64 k ∧ Hid (Nums 30 .u32 x3.heap.size wr v (L.take k) ∧ Below x3.heap.size x3 wr)) (fun _ i _ => L.length - (intOf i).toNat)
  case atStart => exact ⟨0, Nat.zero_le _, rfl, Nums.nil _ _ _ _, Below.refl _ _⟩
  case round =>
    obtain ⟨k, hk, rfl, H⟩ := hrel
    by_cases hlt : k < L.length
    · obtain ⟨z, hz⟩ : ∃ z, z = L[k] := ⟨_, rfl⟩
      obtain ⟨ad, rfl, hcl0⟩ := HCS.out k (.int .u32 z) (by simp [hz, hlt])
      have hcl : wr.cell? (ad.add k) = some (.int .u32 z) := (H.out.2.cell (World.block_lt_of_cell? _ _ hcl0)).trans hcl0
      have HTK : Hid (L.take (k + 1) = L.take k ++ [z]) := by show _ = _; rw [List.take_succ_eq_append_getElem hlt, ← hz]
      have hlk : (L.take k).length ≤ 12 := by rw [List.length_take]; omega
      have ho1 : World.ownsRow wr x3.heap.size 30 1 _ (L.take k).length ((L.take k).map (Value.int .u32)) := H.out.1
      have tA : (L.take k).length + 1 ≤ 9223372036854775807 := by omega
      have tB : ((L.take k).length + 1) * 4 ≤ 140737488355328 := by omega
      have tC : x3.heap.size ≤ wr.heap.size := H.out.2.size
      clear hcl0 hz hlk
      go_wp2_with (first
        | (at_builtin; refine wp_append1 _ rfl _ _ 27 rfl x3.heap.size 30 i0 (.int .u32 0) 4 Tryz.underlying27 hi0 hz0 hz1 hz2 rfl _ (L.take k).length _ rfl ho1 (.int .u32 z) rfl rfl tA tB tC ?_; intro v1 z1 hown1 hk1))
      go_roundw
      case rel => exact ⟨k + 1, by omega, by go_num, by rw [HTK.out]; exact Nums.snoc hown1, H.out.2.trans hk1⟩
      case measure => simp [intOf]; omega
    · obtain rfl : k = L.length := by omega
      have HNL := Lib.hid (nums_full H.out.1)
      have hq4 : Below w.heap.size w wr := HQ3.out.trans (H.out.2.mono HQ3.out.size)
      have HQ4 := Lib.hid hq4
      clear H hlt hk
      go_wp2_with fail
      refine (text6_any a b _ HOX.out.1.1 HOX.out.1.2 HOX.out.2.1 HOX.out.2.2 (bruTab_below HT.out hq4)).mono ?_
      rintro e x5 ⟨rfl, hz5⟩
      have hq5 : Below w.heap.size w x5 := hq4.trans (hz5.mono hq4.size)
      clear hq4
      go_wp2_with fail
      refine (addrParse_any _ _ (by rw [mk_sizeT]; exact textA_len (AZ.six a b) HOX.out) (maxVar_below HX.out hq5)).mono ?_
      rw [mk_list, show addrZ (text6Z a b) = some (AZ.six a b) from addrZ_text (AZ.six a b) HOX.out]
      rintro e x6 ⟨rfl, hb6⟩
      rw [show optV (some (AZ.six a b)) = (.iface 46 (.agg #[.int .u64 a, .int .u64 b])) from rfl, show (some (AZ.six a b)).isSome = true from rfl]
      have hz6 : Below wr.heap.size wr x6 := hz5.trans (hb6.mono hz5.size)
      clear hb6 hz5 hq5
      go_wp2_with fail
      refine (fourA_six a b _).mono ?_
      rintro e x7 ⟨rfl, rfl⟩
      go_wp2_with fail
      refine (compare_any (AZ.six a b) y _ HOX.out HOY.out).mono ?_
      rintro e x8 ⟨rfl, hb8⟩
      have hz8 : Below wr.heap.size wr x8 := hz6.trans (hb8.mono hz6.size)
      clear hb8 hz6
      obtain ⟨C, hC⟩ : ∃ C, cmpZ (AZ.six a b) y = C := ⟨_, rfl⟩
      have HC := Lib.hid hC
      rw [hC]
      clear hC
      go_wp2_with fail
      refine (lawOf_any (some (AZ.six a b)) _ (fun _ h => by cases h; exact HOX.out)).mono ?_
      rintro e x9 ⟨rfl, hb9⟩
      have hz9 : Below wr.heap.size wr x9 := hz8.trans (hb9.mono hz8.size)
      clear hb9 hz8
      go_wp2_with fail
      refine (lawOf_any (some y) _ (fun _ h => by cases h; exact HOY.out)).mono ?_
      rintro e x10 ⟨rfl, hb10⟩
      have hz10 : Below wr.heap.size wr x10 := hz9.trans (hb10.mono hz9.size)
      clear hb10 hz9
      go_wp2_with fail
      refine (refCompare_any (refA (some (AZ.six a b))) (refA (some y)) _).mono ?_
      rw [cmpT_refA, HC.out]
      rintro e x11 ⟨rfl, hb11⟩
      have hz11 : Below wr.heap.size wr x11 := hz10.trans (hb11.mono hz10.size)
      clear hb11 hz10
      have hCC : (C != C) = false := by simp
      go_wp2_with fail
      refine (lawOf_any (some (AZ.six a b)) _ (fun _ h => by cases h; exact HOX.out)).mono ?_
      rintro e x12 ⟨rfl, hb12⟩
      have hz12 : Below wr.heap.size wr x12 := hz11.trans (hb12.mono hz11.size)
      clear hb12 hz11
      go_wp2_with fail
      refine (refInner_any (AZ.six a b) _ HOX.out).mono ?_
      rw [HL.out]
      rintro e x13 ⟨v13, rfl, hn13, hb13⟩
      have hz13 : Below wr.heap.size wr x13 := hz12.trans (hb13.mono hz12.size)
      clear hb13 hz12
      have HN13 := Lib.hid hn13.row
      clear hn13
      go_wp2_with fail
      refine (equalU_any _ _ L L _ (HNL.out.below hz13) HN13.out (by omega)).mono ?_
      rw [decide_eq_true (rfl : L = L)]
      rintro e x14 ⟨rfl, m14, rfl⟩
      have hz14 : Below wr.heap.size wr (x13.drewN m14) := below_drewN hz13 m14
      generalize x13.drewN m14 = x14 at *
      clear hz13 HN13
      go_wp2_with fail
      refine (panics_six a b _).mono ?_
      rintro e x15 ⟨rfl, hb15⟩
      have hz15 : Below wr.heap.size wr x15 := hz14.trans (hb15.mono hz14.size)
      clear hb15 hz14
      go_wp2_with fail
      refine (must_six a b _).mono ?_
      rintro e x16 ⟨rfl, hb16⟩
      have hz16 : Below wr.heap.size wr x16 := hz15.trans (hb16.mono hz15.size)
      clear hb16 hz15
      have hqz : Below w.heap.size w x16 := HQ4.out.trans (hz16.mono HQ4.out.size)
      obtain ⟨ty, uy, hyv⟩ := val_iface y
      rw [hyv]
      have HYV := Lib.hid hyv
      clear hyv
      have hqy : Below w.heap.size w (x16.alloc (.cells #[(.iface 46 (.agg #[.int .u64 a, .int .u64 b])), .nilIface, .iface ty uy] 25)) := hqz.alloc hqz.size _
      clear hqz hz16
      have hgl := heap_alloc_new x16 (.cells #[(.iface 46 (.agg #[.int .u64 a, .int .u64 b])), .nilIface, .iface ty uy] 25)
      have HGL := Lib.hid hgl
      clear hgl
      go_wp2_with fail
      refine (texts_any (AZ.six a b) y _ _ HOX.out HOY.out (powTab_below HPW.out hqy) (bruTab_below HT.out hqy) (by rw [HYV.out]; exact HGL.out)).mono ?_
      rintro e x17 ⟨g, rfl, hg1, hg2, hb17⟩
      rw [← HYV.out]
      have hg3 : g < x17.heap.size := by
        rcases Nat.lt_or_ge g x17.heap.size with h | h
        · exact h
        · rw [Array.getElem?_eq_none h] at hg2; cases hg2
      have hq17 : Below w.heap.size w x17 := hqy.trans (hb17.mono hqy.size)
      clear hb17 hqy HGL hg1
      go_wp2_with fail
      refine (lawOf_any (some (AZ.six a b)) _ (fun _ h => by cases h; exact HOX.out)).mono ?_
      rintro e x18 ⟨rfl, hb18⟩
      have hq18 : Below w.heap.size w x18 := hq17.trans (hb18.mono hq17.size)
      go_wp2_with fail
      refine (refTextA_any (AZ.six a b) _ HOX.out (powTab_below HPW.out hq18)).mono ?_
      rintro e x19 ⟨rfl, hb19⟩
      have hy19 : Below x17.heap.size x17 x19 := hb18.trans (hb19.mono hb18.size)
      have hq19 : Below w.heap.size w x19 := hq17.trans (hy19.mono hq17.size)
      clear hb18 hb19 hq18
      go_wp2_with fail
      refine (lawOf_any (some y) _ (fun _ h => by cases h; exact HOY.out)).mono ?_
      rintro e x20 ⟨rfl, hb20⟩
      have hy20 : Below x17.heap.size x17 x20 := hy19.trans (hb20.mono hy19.size)
      have hq20 : Below w.heap.size w x20 := hq17.trans (hy20.mono hq17.size)
      clear hb20 hy19 hq19
      go_wp2_with fail
      refine (refTextA_any y _ HOY.out (powTab_below HPW.out hq20)).mono ?_
      rintro e x21 ⟨rfl, hb21⟩
      have hy21 : Below x17.heap.size x17 x21 := hy20.trans (hb21.mono hy20.size)
      have hq21 : Below w.heap.size w x21 := hq17.trans (hy21.mono hq17.size)
      clear hb21 hy20 hq20
      obtain ⟨sx, hsx⟩ : ∃ sx, textA (AZ.six a b) = sx := ⟨_, rfl⟩
      obtain ⟨sy, hsy⟩ : ∃ sy, textA y = sy := ⟨_, rfl⟩
      rw [hsx, hsy] at hg2
      rw [hsx, hsy]
      clear hsx hsy
      have HP1 : Hid (Parts g (x21.alloc (.cells #[.string ⟨sx.toArray⟩, .string ⟨#[]⟩, .string ⟨sy.toArray⟩] 9)) (.slice (some ⟨g, 0, none⟩) 3 3) [sx, [], sy]) := parts3 sx sy (((hy21.alloc hy21.size _).block g hg3).trans hg2)
      have HP2 : Hid (Parts x21.heap.size (x21.alloc (.cells #[.string ⟨sx.toArray⟩, .string ⟨#[]⟩, .string ⟨sy.toArray⟩] 9)) (.slice (some ⟨x21.heap.size, 0, none⟩) 3 3) [sx, [], sy]) := parts3 sx sy (heap_alloc_new x21 _)
      have hq22 : Below w.heap.size w (x21.alloc (.cells #[.string ⟨sx.toArray⟩, .string ⟨#[]⟩, .string ⟨sy.toArray⟩] 9)) := hq21.alloc hq21.size _
      clear hg2 hg3 hy21 hq21 hq17
      go_wp2_with fail
      refine (equalS_same _ _ [sx, [], sy] _ _ _ HP1.out HP2.out (by simp) (by simp)).mono ?_
      rintro e x22 ⟨rfl, m22, rfl⟩
      go_wp2
      go_ret
      exact ⟨rfl, below_drewN hq22 m22⟩

theorem addrTells_walk (a0 : Bool) (a1 : Bool) (a2 : Int) (a3 : Int) (a4 : Int) (a5 : Int) (w2 : (Lit.int .u64 a2).wf = true) (w3 : (Lit.int .u64 a3).wf = true) (w4 : (Lit.int .u64 a4).wf = true) (w5 : (Lit.int .u64 a5).wf = true) (w : World) (hpow : PowTab w) (hbru : BruTab w) (hmax : MaxVar w) :
    Calls Tryz.prog 3 #[.bool a0, .bool a1, .int .u64 a2, .int .u64 a3, .int .u64 a4, .int .u64 a5] w fun e w' => e = .returned (.bool true) ∧ Below w.heap.size w w' := by
  obtain ⟨y, hy⟩ : ∃ y, AZ.make a1 a4 a5 = y := ⟨_, rfl⟩
  have oy : y.Ok := hy ▸ make_ok a1 a4 a5 (bounds_u64 w4).1 (bounds_u64 w4).2 (bounds_u64 w5).1 (bounds_u64 w5).2
  have b2 := bounds_u64 w2
  have b3 := bounds_u64 w3
  cases a0 with
  | false => exact addrTells_4 a1 a2 a3 a4 a5 (a3 % 4294967296) rfl y w hpow hbru hmax ⟨by omega, by omega⟩ oy hy
  | true => exact addrTells_6 a1 a2 a3 a4 a5 y w hpow hbru hmax ⟨b2, b3⟩ oy hy
end Go.Proofs.YtgmfgcpfpopboaaGreatDoor
