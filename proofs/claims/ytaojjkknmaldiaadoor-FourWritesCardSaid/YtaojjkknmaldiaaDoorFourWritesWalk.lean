/-
  The law FourWrites: its Go text returns true at every address, where the library's table of powers of ten reads as it is laid; nothing that lay in memory before is changed.
-/
import Derived.Test.YtaojjkknmaldiaaDoorFourK
import Derived.Test.YtaojjkknmaldiaaDoorFourH
namespace Go.Proofs.YtaojjkknmaldiaaDoor
open Go.RowKit


set_option maxRecDepth 100000 in
set_option maxHeartbeats 4000000 in
theorem fourWrites_walk (a0 : Int) (w0 : (Lit.int .u32 a0).wf = true) (w : World) (htab : PowTab w) :
    Calls Tryd.prog 4 #[.int .u32 a0] w fun e w' => e = .returned (.bool true) ∧ Below w.heap.size w w' := by
  obtain ⟨h0, h1⟩ := bounds_u32 w0
  clear w0
  have HT := Lib.hid htab
  clear htab
  have hlen := txtZ_len a0
  go_enter Tryd.func4, Tryd.ntmps4
  go_wp2_with fail
  refine (awake04_any _).mono ?_
  rintro e x1 ⟨rfl, hb1⟩
  have HT1 := Lib.hid (powTab_below HT.out hb1)
  go_wp2_with fail
  refine (bytes4_any a0 _ h0 h1).mono ?_
  rintro e x2 ⟨rfl, hb2⟩
  have HT2 := Lib.hid (powTab_below HT1.out hb2)
  have hc2 : Below w.heap.size w x2 := hb1.trans (hb2.mono hb1.size)
  clear hb1 hb2
  have hc3 : Below w.heap.size w (x2.alloc (.cells #[.int .u8 (a0 / 16777216), .int .u8 (a0 / 65536 % 256), .int .u8 (a0 / 256 % 256), .int .u8 (a0 % 256)] 33)) := hc2.alloc hc2.size _
  have HT3 := Lib.hid (powTab_below HT2.out (w' := x2.alloc (.cells #[.int .u8 (a0 / 16777216), .int .u8 (a0 / 65536 % 256), .int .u8 (a0 / 256 % 256), .int .u8 (a0 % 256)] 33)) ((Below.refl _ _).alloc (Nat.le_refl _) _))
  have k0 : (x2.alloc (.cells #[.int .u8 (a0 / 16777216), .int .u8 (a0 / 65536 % 256), .int .u8 (a0 / 256 % 256), .int .u8 (a0 % 256)] 33)).cell? ⟨x2.heap.size, 0, none⟩ = some (.int .u8 (a0 / 16777216)) := by simp
  have k1 : (x2.alloc (.cells #[.int .u8 (a0 / 16777216), .int .u8 (a0 / 65536 % 256), .int .u8 (a0 / 256 % 256), .int .u8 (a0 % 256)] 33)).cell? ⟨x2.heap.size, 1, none⟩ = some (.int .u8 (a0 / 65536 % 256)) := by simp
  have k2 : (x2.alloc (.cells #[.int .u8 (a0 / 16777216), .int .u8 (a0 / 65536 % 256), .int .u8 (a0 / 256 % 256), .int .u8 (a0 % 256)] 33)).cell? ⟨x2.heap.size, 2, none⟩ = some (.int .u8 (a0 / 256 % 256)) := by simp
  have k3 : (x2.alloc (.cells #[.int .u8 (a0 / 16777216), .int .u8 (a0 / 65536 % 256), .int .u8 (a0 / 256 % 256), .int .u8 (a0 % 256)] 33)).cell? ⟨x2.heap.size, 3, none⟩ = some (.int .u8 (a0 % 256)) := by simp
  have hg : x2.heap.size < (x2.alloc (.cells #[.int .u8 (a0 / 16777216), .int .u8 (a0 / 65536 % 256), .int .u8 (a0 / 256 % 256), .int .u8 (a0 % 256)] 33)).heap.size := by simp
  have HK := Lib.hid (And.intro k0 (And.intro k1 (And.intro k2 k3)))
  clear k0 k1 k2 k3 hc2
  go_wp2_with fail
  refine (wide_any a0 _ h0 h1).mono ?_
  rintro e w' ⟨rfl, rfl⟩
  generalize x2.alloc (.cells #[.int .u8 (a0 / 16777216), .int .u8 (a0 / 65536 % 256), .int .u8 (a0 / 256 % 256), .int .u8 (a0 % 256)] 33) = x3 at *
  generalize x2.heap.size = g at *
  -- Parse(Text)
  go_wp2_with fail
  refine (text4_any a0 _ h0 h1 HT3.out).mono ?_
  rintro e x4 ⟨rfl, hb4⟩
  have HT4 := Lib.hid (powTab_below HT3.out hb4)
  have hd4 : Below x3.heap.size x3 x4 := hb4
  clear hb4
  go_wp2_with fail
  refine (parse4_any _ _ (by rw [size_mk]; omega)).mono ?_
  rw [mk_list, four_txtZ a0 h0 h1]
  rintro e x5 ⟨rfl, hb5⟩
  have HT5 := Lib.hid (powTab_below HT4.out hb5)
  have hd5 : Below x3.heap.size x3 x5 := hd4.trans (hb5.mono hd4.size)
  clear hb5 hd4
  -- Strict(Text)
  go_wp2_with fail
  refine (text4_any a0 _ h0 h1 HT5.out).mono ?_
  rintro e x6 ⟨rfl, hb6⟩
  have HT6 := Lib.hid (powTab_below HT5.out hb6)
  have hd6 : Below x3.heap.size x3 x6 := hd5.trans (hb6.mono hd5.size)
  clear hb6 hd5
  go_wp2_with fail
  refine (strict_any _ _ (by rw [size_mk]; omega)).mono ?_
  rw [mk_list, strict_txtZ a0 h0 h1]
  rintro e x7 ⟨rfl, hb7⟩
  have HT7 := Lib.hid (powTab_below HT6.out hb7)
  have hd7 : Below x3.heap.size x3 x7 := hd6.trans (hb7.mono hd6.size)
  clear hb7 hd6
  have k0 : x7.cell? ⟨g, 0, none⟩ = some (.int .u8 (a0 / 16777216)) := (hd7.cell (p := ⟨g, 0, none⟩) hg).trans HK.out.1
  have k1 : x7.cell? ⟨g, 1, none⟩ = some (.int .u8 (a0 / 65536 % 256)) := (hd7.cell (p := ⟨g, 1, none⟩) hg).trans HK.out.2.1
  have k2 : x7.cell? ⟨g, 2, none⟩ = some (.int .u8 (a0 / 256 % 256)) := (hd7.cell (p := ⟨g, 2, none⟩) hg).trans HK.out.2.2.1
  have k3 : x7.cell? ⟨g, 3, none⟩ = some (.int .u8 (a0 % 256)) := (hd7.cell (p := ⟨g, 3, none⟩) hg).trans HK.out.2.2.2
  go_wp2_with fail
  refine (of_any _ _ _ _ _ (by omega) (by omega) (by omega) (by omega)).mono ?_
  rintro e w' ⟨rfl, rfl⟩
  clear k0 k1 k2 k3
  rw [show a0 / 16777216 * 16777216 + a0 / 65536 % 256 * 65536 + a0 / 256 % 256 * 256 + a0 % 256 = a0 from by omega]
  go_wp2_with fail
  refine (text4_any a0 _ h0 h1 HT7.out).mono ?_
  rintro e x8 ⟨rfl, hb8⟩
  have HT8 := Lib.hid (powTab_below HT7.out hb8)
  have hd8 : Below x3.heap.size x3 x8 := hd7.trans (hb8.mono hd7.size)
  clear hb8 hd7
  go_wp2_with fail
  refine (refText4_any a0 _ h0 h1 HT8.out).mono ?_
  rintro e x9 ⟨rfl, hb9⟩
  have hd9 : Below x3.heap.size x3 x9 := hd8.trans (hb9.mono hd8.size)
  clear hb9 hd8
  have hfin : Below w.heap.size w x9 := hc3.trans (hd9.mono hc3.size)
  go_wp2
  go_ret
  exact ⟨by first | rfl | exact ret_bool (by simp), hfin⟩
end Go.Proofs.YtaojjkknmaldiaaDoor
