/-
  The law AddrOrder: its Go text returns true at any three addresses, where the library's tables read as they are laid; nothing that lay in memory before is changed.
-/
import Derived.Test.YtgmfgcpfpopboaaDoorAddM
namespace Go.Proofs.YtgmfgcpfpopboaaDoor
open Go.RowKit


/-- an order of two, told by a contract that any later world keeps -/
abbrev Told (w : World) (x y : AZ) (c : Int) : Prop := ∀ W, Below w.heap.size w W → Calls Tryd.prog 32 #[x.val, y.val] W fun e w' => e = .returned (.int .i64 c) ∧ Below w.heap.size w w'
theorem told (w : World) (x y : AZ) (hx : x.Ok) (hy : y.Ok) : Told w x y (cmpZ x y) := fun W hb =>
  (compare_any x y W hx hy).mono fun _ _ ⟨he, hk⟩ => ⟨he, hb.trans (hk.mono hb.size)⟩
theorem wrap_0 : IntKind.i64.wrap 0 = 0 := by decide
theorem wrap_1 : IntKind.i64.wrap 1 = 1 := by decide
theorem wrap_m : IntKind.i64.wrap (-1) = -1 := by decide

set_option maxRecDepth 100000 in
set_option maxHeartbeats 4000000 in
theorem addrOrder_m (a0 a1 a2 : Bool) (a3 a4 a5 a6 a7 a8 : Int) (x y z : AZ) (w : World) (hbru : BruTab w) (hmax : MaxVar w)
    (hx : AZ.make a0 a3 a4 = x) (hy : AZ.make a1 a5 a6 = y) (hz : AZ.make a2 a7 a8 = z) (hxy : Told w x y (-1)) (hyx : Told w y x (1)) (he : eqB x y = false) :
    Calls Tryd.prog 10 #[.bool a0, .bool a1, .bool a2, .int .u64 a3, .int .u64 a4, .int .u64 a5, .int .u64 a6, .int .u64 a7, .int .u64 a8] w fun e w' => e = .returned (.bool true) ∧ Below w.heap.size w w' := by
  have HT := Lib.hid hbru
  have HX := Lib.hid hmax
  have HXY := Lib.hid hxy
  have HYX := Lib.hid hyx
  have MX := Lib.hid hx
  have MY := Lib.hid hy
  have MZ := Lib.hid hz
  have heq := binOp_eq x y
  have hg := eqGuard_eq x y
  rw [he] at heq
  clear hbru hmax hxy hyx hx hy hz he
  have w0 := wrap_0
  have w1 := wrap_1
  have w2 := wrap_m
  go_enter Tryd.func10, Tryd.ntmps10
  go_wp2_with fail
  refine (awake06_any _ HT.out HX.out).mono ?_
  rintro e x1 ⟨rfl, hb1⟩
  go_wp2_with fail
  refine (make6_any _ _ _ _).mono ?_
  rintro e x2 ⟨rfl, rfl⟩
  rw [MX.out]
  go_wp2_with fail
  refine (make6_any _ _ _ _).mono ?_
  rintro e x3 ⟨rfl, rfl⟩
  rw [MY.out]
  go_wp2_with fail
  refine (make6_any _ _ _ _).mono ?_
  rintro e x4 ⟨rfl, rfl⟩
  rw [MZ.out]
  go_wp2_with fail
  go_region_held3 (fun W => Below w.heap.size w W) (first | exact hb1.drew | exact hb5 | exact hb6 | exact hb7) (first
    | (go_simp; go_at_call 32; ((with_reducible refine (HXY.out _ (hb1.drew)).mono ?_); rintro e x5 ⟨rfl, hb5⟩))
    | (go_simp; go_at_call 32; ((with_reducible refine (HYX.out _ hb5).mono ?_); rintro e x6 ⟨rfl, hb6⟩))
    | (go_simp; go_at_call 32; ((with_reducible refine (HXY.out _ hb6).mono ?_); rintro e x7 ⟨rfl, hb7⟩)))
  go_wp2_with fail
  refine (HXY.out _ hb7).mono ?_
  rintro e x8 ⟨rfl, hb8⟩
  go_wp2
  go_ret
  exact ⟨rfl, hb8⟩

set_option maxRecDepth 100000 in
set_option maxHeartbeats 4000000 in
theorem addrOrder_z (a0 a1 a2 : Bool) (a3 a4 a5 a6 a7 a8 : Int) (x y z : AZ) (w : World) (hbru : BruTab w) (hmax : MaxVar w)
    (hx : AZ.make a0 a3 a4 = x) (hy : AZ.make a1 a5 a6 = y) (hz : AZ.make a2 a7 a8 = z) (hxy : Told w x y (0)) (hyx : Told w y x (0)) (he : eqB x y = true) :
    Calls Tryd.prog 10 #[.bool a0, .bool a1, .bool a2, .int .u64 a3, .int .u64 a4, .int .u64 a5, .int .u64 a6, .int .u64 a7, .int .u64 a8] w fun e w' => e = .returned (.bool true) ∧ Below w.heap.size w w' := by
  have HT := Lib.hid hbru
  have HX := Lib.hid hmax
  have HXY := Lib.hid hxy
  have HYX := Lib.hid hyx
  have MX := Lib.hid hx
  have MY := Lib.hid hy
  have MZ := Lib.hid hz
  have heq := binOp_eq x y
  have hg := eqGuard_eq x y
  rw [he] at heq
  clear hbru hmax hxy hyx hx hy hz he
  have w0 := wrap_0
  have w1 := wrap_1
  have w2 := wrap_m
  go_enter Tryd.func10, Tryd.ntmps10
  go_wp2_with fail
  refine (awake06_any _ HT.out HX.out).mono ?_
  rintro e x1 ⟨rfl, hb1⟩
  go_wp2_with fail
  refine (make6_any _ _ _ _).mono ?_
  rintro e x2 ⟨rfl, rfl⟩
  rw [MX.out]
  go_wp2_with fail
  refine (make6_any _ _ _ _).mono ?_
  rintro e x3 ⟨rfl, rfl⟩
  rw [MY.out]
  go_wp2_with fail
  refine (make6_any _ _ _ _).mono ?_
  rintro e x4 ⟨rfl, rfl⟩
  rw [MZ.out]
  go_wp2_with fail
  go_region_held3 (fun W => Below w.heap.size w W) (first | exact hb1.drew | exact hb5 | exact hb6 | exact hb7) (first
    | (go_simp; go_at_call 32; ((with_reducible refine (HXY.out _ (hb1.drew)).mono ?_); rintro e x5 ⟨rfl, hb5⟩))
    | (go_simp; go_at_call 32; ((with_reducible refine (HYX.out _ hb5).mono ?_); rintro e x6 ⟨rfl, hb6⟩))
    | (go_simp; go_at_call 32; ((with_reducible refine (HXY.out _ hb6).mono ?_); rintro e x7 ⟨rfl, hb7⟩)))
  go_wp2_with fail
  refine (HXY.out _ hb7).mono ?_
  rintro e x8 ⟨rfl, hb8⟩
  go_wp2
  go_ret
  exact ⟨rfl, hb8⟩

set_option maxRecDepth 100000 in
set_option maxHeartbeats 4000000 in
theorem addrOrder_pm (a0 a1 a2 : Bool) (a3 a4 a5 a6 a7 a8 : Int) (x y z : AZ) (w : World) (hbru : BruTab w) (hmax : MaxVar w)
    (hx : AZ.make a0 a3 a4 = x) (hy : AZ.make a1 a5 a6 = y) (hz : AZ.make a2 a7 a8 = z) (hxy : Told w x y (1)) (hyx : Told w y x (-1)) (he : eqB x y = false) (hyz : Told w y z (-1)) :
    Calls Tryd.prog 10 #[.bool a0, .bool a1, .bool a2, .int .u64 a3, .int .u64 a4, .int .u64 a5, .int .u64 a6, .int .u64 a7, .int .u64 a8] w fun e w' => e = .returned (.bool true) ∧ Below w.heap.size w w' := by
  have HT := Lib.hid hbru
  have HX := Lib.hid hmax
  have HXY := Lib.hid hxy
  have HYX := Lib.hid hyx
  have HYZ := Lib.hid hyz
  have MX := Lib.hid hx
  have MY := Lib.hid hy
  have MZ := Lib.hid hz
  have heq := binOp_eq x y
  have hg := eqGuard_eq x y
  rw [he] at heq
  clear hbru hmax hxy hyx hx hy hz he hyz
  have w0 := wrap_0
  have w1 := wrap_1
  have w2 := wrap_m
  go_enter Tryd.func10, Tryd.ntmps10
  go_wp2_with fail
  refine (awake06_any _ HT.out HX.out).mono ?_
  rintro e x1 ⟨rfl, hb1⟩
  go_wp2_with fail
  refine (make6_any _ _ _ _).mono ?_
  rintro e x2 ⟨rfl, rfl⟩
  rw [MX.out]
  go_wp2_with fail
  refine (make6_any _ _ _ _).mono ?_
  rintro e x3 ⟨rfl, rfl⟩
  rw [MY.out]
  go_wp2_with fail
  refine (make6_any _ _ _ _).mono ?_
  rintro e x4 ⟨rfl, rfl⟩
  rw [MZ.out]
  go_wp2_with fail
  go_region_held3 (fun W => Below w.heap.size w W) (first | exact hb1.drew | exact hb5 | exact hb6 | exact hb7) (first
    | (go_simp; go_at_call 32; ((with_reducible refine (HXY.out _ (hb1.drew)).mono ?_); rintro e x5 ⟨rfl, hb5⟩))
    | (go_simp; go_at_call 32; ((with_reducible refine (HYX.out _ hb5).mono ?_); rintro e x6 ⟨rfl, hb6⟩))
    | (go_simp; go_at_call 32; ((with_reducible refine (HXY.out _ hb6).mono ?_); rintro e x7 ⟨rfl, hb7⟩)))
  go_wp2_with fail
  refine (HXY.out _ hb7).mono ?_
  rintro e x8 ⟨rfl, hb8⟩
  go_wp2_with fail
  refine (HYZ.out _ hb8).mono ?_
  rintro e x9 ⟨rfl, hb9⟩
  go_wp2
  go_ret
  exact ⟨rfl, hb9⟩

set_option maxRecDepth 100000 in
set_option maxHeartbeats 4000000 in
theorem addrOrder_pz (a0 a1 a2 : Bool) (a3 a4 a5 a6 a7 a8 : Int) (x y z : AZ) (w : World) (hbru : BruTab w) (hmax : MaxVar w)
    (hx : AZ.make a0 a3 a4 = x) (hy : AZ.make a1 a5 a6 = y) (hz : AZ.make a2 a7 a8 = z) (hxy : Told w x y (1)) (hyx : Told w y x (-1)) (he : eqB x y = false) (hyz : Told w y z (0)) :
    Calls Tryd.prog 10 #[.bool a0, .bool a1, .bool a2, .int .u64 a3, .int .u64 a4, .int .u64 a5, .int .u64 a6, .int .u64 a7, .int .u64 a8] w fun e w' => e = .returned (.bool true) ∧ Below w.heap.size w w' := by
  have HT := Lib.hid hbru
  have HX := Lib.hid hmax
  have HXY := Lib.hid hxy
  have HYX := Lib.hid hyx
  have HYZ := Lib.hid hyz
  have MX := Lib.hid hx
  have MY := Lib.hid hy
  have MZ := Lib.hid hz
  have heq := binOp_eq x y
  have hg := eqGuard_eq x y
  rw [he] at heq
  clear hbru hmax hxy hyx hx hy hz he hyz
  have w0 := wrap_0
  have w1 := wrap_1
  have w2 := wrap_m
  go_enter Tryd.func10, Tryd.ntmps10
  go_wp2_with fail
  refine (awake06_any _ HT.out HX.out).mono ?_
  rintro e x1 ⟨rfl, hb1⟩
  go_wp2_with fail
  refine (make6_any _ _ _ _).mono ?_
  rintro e x2 ⟨rfl, rfl⟩
  rw [MX.out]
  go_wp2_with fail
  refine (make6_any _ _ _ _).mono ?_
  rintro e x3 ⟨rfl, rfl⟩
  rw [MY.out]
  go_wp2_with fail
  refine (make6_any _ _ _ _).mono ?_
  rintro e x4 ⟨rfl, rfl⟩
  rw [MZ.out]
  go_wp2_with fail
  go_region_held3 (fun W => Below w.heap.size w W) (first | exact hb1.drew | exact hb5 | exact hb6 | exact hb7) (first
    | (go_simp; go_at_call 32; ((with_reducible refine (HXY.out _ (hb1.drew)).mono ?_); rintro e x5 ⟨rfl, hb5⟩))
    | (go_simp; go_at_call 32; ((with_reducible refine (HYX.out _ hb5).mono ?_); rintro e x6 ⟨rfl, hb6⟩))
    | (go_simp; go_at_call 32; ((with_reducible refine (HXY.out _ hb6).mono ?_); rintro e x7 ⟨rfl, hb7⟩)))
  go_wp2_with fail
  refine (HXY.out _ hb7).mono ?_
  rintro e x8 ⟨rfl, hb8⟩
  go_wp2_with fail
  refine (HYZ.out _ hb8).mono ?_
  rintro e x9 ⟨rfl, hb9⟩
  go_wp2
  go_ret
  exact ⟨rfl, hb9⟩

set_option maxRecDepth 100000 in
set_option maxHeartbeats 4000000 in
theorem addrOrder_pp (a0 a1 a2 : Bool) (a3 a4 a5 a6 a7 a8 : Int) (x y z : AZ) (w : World) (hbru : BruTab w) (hmax : MaxVar w)
    (hx : AZ.make a0 a3 a4 = x) (hy : AZ.make a1 a5 a6 = y) (hz : AZ.make a2 a7 a8 = z) (hxy : Told w x y (1)) (hyx : Told w y x (-1)) (he : eqB x y = false) (hyz : Told w y z (1)) (hxz : Told w x z 1) :
    Calls Tryd.prog 10 #[.bool a0, .bool a1, .bool a2, .int .u64 a3, .int .u64 a4, .int .u64 a5, .int .u64 a6, .int .u64 a7, .int .u64 a8] w fun e w' => e = .returned (.bool true) ∧ Below w.heap.size w w' := by
  have HT := Lib.hid hbru
  have HX := Lib.hid hmax
  have HXY := Lib.hid hxy
  have HYX := Lib.hid hyx
  have HYZ := Lib.hid hyz
  have HXZ := Lib.hid hxz
  have MX := Lib.hid hx
  have MY := Lib.hid hy
  have MZ := Lib.hid hz
  have heq := binOp_eq x y
  have hg := eqGuard_eq x y
  rw [he] at heq
  clear hbru hmax hxy hyx hx hy hz he hyz hxz
  have w0 := wrap_0
  have w1 := wrap_1
  have w2 := wrap_m
  go_enter Tryd.func10, Tryd.ntmps10
  go_wp2_with fail
  refine (awake06_any _ HT.out HX.out).mono ?_
  rintro e x1 ⟨rfl, hb1⟩
  go_wp2_with fail
  refine (make6_any _ _ _ _).mono ?_
  rintro e x2 ⟨rfl, rfl⟩
  rw [MX.out]
  go_wp2_with fail
  refine (make6_any _ _ _ _).mono ?_
  rintro e x3 ⟨rfl, rfl⟩
  rw [MY.out]
  go_wp2_with fail
  refine (make6_any _ _ _ _).mono ?_
  rintro e x4 ⟨rfl, rfl⟩
  rw [MZ.out]
  go_wp2_with fail
  go_region_held3 (fun W => Below w.heap.size w W) (first | exact hb1.drew | exact hb5 | exact hb6 | exact hb7) (first
    | (go_simp; go_at_call 32; ((with_reducible refine (HXY.out _ (hb1.drew)).mono ?_); rintro e x5 ⟨rfl, hb5⟩))
    | (go_simp; go_at_call 32; ((with_reducible refine (HYX.out _ hb5).mono ?_); rintro e x6 ⟨rfl, hb6⟩))
    | (go_simp; go_at_call 32; ((with_reducible refine (HXY.out _ hb6).mono ?_); rintro e x7 ⟨rfl, hb7⟩)))
  go_wp2_with fail
  refine (HXY.out _ hb7).mono ?_
  rintro e x8 ⟨rfl, hb8⟩
  go_wp2_with fail
  refine (HYZ.out _ hb8).mono ?_
  rintro e x9 ⟨rfl, hb9⟩
  go_wp2_with fail
  refine (HXZ.out _ hb9).mono ?_
  rintro e x10 ⟨rfl, hb10⟩
  go_wp2
  go_ret
  exact ⟨rfl, hb10⟩

theorem addrOrder_walk (a0 : Bool) (a1 : Bool) (a2 : Bool) (a3 : Int) (a4 : Int) (a5 : Int) (a6 : Int) (a7 : Int) (a8 : Int) (w3 : (Lit.int .u64 a3).wf = true) (w4 : (Lit.int .u64 a4).wf = true) (w5 : (Lit.int .u64 a5).wf = true) (w6 : (Lit.int .u64 a6).wf = true) (w7 : (Lit.int .u64 a7).wf = true) (w8 : (Lit.int .u64 a8).wf = true) (w : World) (hbru : BruTab w) (hmax : MaxVar w) :
    Calls Tryd.prog 10 #[.bool a0, .bool a1, .bool a2, .int .u64 a3, .int .u64 a4, .int .u64 a5, .int .u64 a6, .int .u64 a7, .int .u64 a8] w fun e w' => e = .returned (.bool true) ∧ Below w.heap.size w w' := by
  obtain ⟨x, hx⟩ : ∃ x, AZ.make a0 a3 a4 = x := ⟨_, rfl⟩
  obtain ⟨y, hy⟩ : ∃ y, AZ.make a1 a5 a6 = y := ⟨_, rfl⟩
  obtain ⟨z, hz⟩ : ∃ z, AZ.make a2 a7 a8 = z := ⟨_, rfl⟩
  have ox : x.Ok := hx ▸ make_ok a0 a3 a4 (bounds_u64 w3).1 (bounds_u64 w3).2 (bounds_u64 w4).1 (bounds_u64 w4).2
  have oy : y.Ok := hy ▸ make_ok a1 a5 a6 (bounds_u64 w5).1 (bounds_u64 w5).2 (bounds_u64 w6).1 (bounds_u64 w6).2
  have oz : z.Ok := hz ▸ make_ok a2 a7 a8 (bounds_u64 w7).1 (bounds_u64 w7).2 (bounds_u64 w8).1 (bounds_u64 w8).2
  have txy := told w x y ox oy
  have tyx := told w y x oy ox
  have tyz := told w y z oy oz
  have txz := told w x z ox oz
  have hsw := cmpZ_swap y x
  have hin := cmpZ_in y z
  have hix := cmpZ_in x z
  have htr := cmpZ_trans x y z
  rcases eqB_cmp x y with ⟨hc | hc, he⟩ | ⟨hc, he⟩
  · rw [hc] at txy hsw
    rw [hsw] at tyx
    exact addrOrder_m a0 a1 a2 a3 a4 a5 a6 a7 a8 x y z w hbru hmax hx hy hz txy tyx he
  · rw [hc] at txy hsw
    rw [hsw] at tyx
    rcases (show cmpZ y z = -1 ∨ cmpZ y z = 0 ∨ cmpZ y z = 1 from by omega) with hd | hd | hd
    · rw [hd] at tyz
      exact addrOrder_pm a0 a1 a2 a3 a4 a5 a6 a7 a8 x y z w hbru hmax hx hy hz txy tyx he tyz
    · rw [hd] at tyz
      exact addrOrder_pz a0 a1 a2 a3 a4 a5 a6 a7 a8 x y z w hbru hmax hx hy hz txy tyx he tyz
    · have h1 : cmpZ x z = 1 := by
        have := htr (by omega) (by omega)
        omega
      rw [hd] at tyz
      rw [h1] at txz
      exact addrOrder_pp a0 a1 a2 a3 a4 a5 a6 a7 a8 x y z w hbru hmax hx hy hz txy tyx he tyz txz
  · rw [hc] at txy hsw
    rw [hsw] at tyx
    exact addrOrder_z a0 a1 a2 a3 a4 a5 a6 a7 a8 x y z w hbru hmax hx hy hz txy tyx he
end Go.Proofs.YtgmfgcpfpopboaaDoor
