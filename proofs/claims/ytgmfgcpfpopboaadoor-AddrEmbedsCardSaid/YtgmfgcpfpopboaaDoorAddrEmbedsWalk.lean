/-
  The law AddrEmbeds: its Go text returns true at every number, where the library's tables read as they are laid; nothing that lay in memory before is changed.
-/
import Derived.Test.YtgmfgcpfpopboaaDoorAddM
namespace Go.Proofs.YtgmfgcpfpopboaaDoor
open Go.RowKit


theorem innerZ_len (hi lo : Int) : (innerZ hi lo).length ≤ 12 := by
  have hA : (inA hi (lo / 4294967296) (lo % 4294967296)).length ≤ 2 := by unfold inA; split <;> simp
  have hB : (inCo hi (lo / 4294967296) (lo % 4294967296)).length ≤ 2 := by unfold inCo; split <;> simp
  have hC : (inC hi (lo / 4294967296) (lo % 4294967296)).length ≤ 2 := by unfold inC; split <;> simp
  have hD : (inD hi).length ≤ 2 := by unfold inD; split <;> simp
  have hE : (inE hi (lo % 4294967296)).length ≤ 2 := by unfold inE; split <;> simp
  have hF : (inF (lo / 4294967296) (lo % 4294967296)).length ≤ 2 := by unfold inF; split <;> simp
  unfold innerZ
  simp only [List.length_append]
  omega
theorem u64_wrapE (x : Int) : IntKind.u64.wrap x = x % 18446744073709551616 := by rw [IntKind.wrap_u64]

set_option maxRecDepth 100000 in
set_option maxHeartbeats 4000000 in
theorem addrEmbeds_in (n r : Int) (h0 : 0 ≤ n) (h1 : n ≤ 4294967295) (r0 : 0 ≤ r) (r1 : r ≤ 18446744073709551615) (w : World) (hbru : BruTab w) (hmax : MaxVar w) :
    Calls Tryd.prog 9 #[.int .u32 n, .int .u64 r] w fun e w' => e = .returned (.bool true) ∧ Below w.heap.size w w' := by
  have HT := Lib.hid hbru
  have HX := Lib.hid hmax
  clear hbru hmax
  have e1 : bits .or .u64 281470681743360 n = 281470681743360 + n := u64_join 32 _ _ (by omega) (by decide) (by omega) h0 (by omega) (by omega)
  have e2 : IntKind.u64.wrap (n * 65536) = n * 65536 := by rw [u64_wrapE]; omega
  have e3 : bits .or .u64 2306405959167115264 (n * 65536) = 2306405959167115264 + n * 65536 := u64_join 48 _ _ (by omega) (by decide) (by omega) (by omega) (by omega) (by omega)
  have e4 : bits .and .u64 r 65535 = r % 65536 := and_low 16 r _ r0 r1 (by decide) (by decide)
  have e5 : bits .or .u64 (2306405959167115264 + n * 65536) (r % 65536) = 2306405959167115264 + n * 65536 + r % 65536 := u64_join 16 _ _ (by omega) (by omega) (by omega) (by omega) (by omega) (by omega)
  have e6 : bits .or .u64 2306124484190404608 n = 2306124484190404608 + n := u64_join 32 _ _ (by omega) (by decide) (by omega) h0 (by omega) (by omega)
  have e7 : bits .and .u64 r 4294967295 = r % 4294967296 := and_low 32 r _ r0 r1 (by decide) (by decide)
  have e8 : bits .or .u64 2306124484190404608 (r % 4294967296) = 2306124484190404608 + r % 4294967296 := u64_join 32 _ _ (by omega) (by decide) (by omega) (by omega) (by omega) (by omega)
  have e9 : IntKind.u64.wrap (r * 4294967296) = r * 4294967296 % 18446744073709551616 := u64_wrapE _
  have e10 := xor64 n h0 (by omega)
  have e11 : bits .and .u64 (18446744073709551615 - n) 4294967295 = 4294967295 - n := by
    rw [and_low 32 _ _ (by omega) (by omega) (by decide) (by decide)]; omega
  have e12 : bits .or .u64 (r * 4294967296 % 18446744073709551616) (4294967295 - n) = r * 4294967296 % 18446744073709551616 + (4294967295 - n) := u64_join 32 _ _ (by omega) (by omega) (by omega) (by omega) (by omega) (by omega)
  have e13 : bits .or .u64 104445014704128 n = 104445014704128 + n := u64_join 32 _ _ (by omega) (by decide) (by omega) h0 (by omega) (by omega)
  have e14 : bits .or .u64 144219633090560000 n = 144219633090560000 + n := u64_join 32 _ _ (by omega) (by decide) (by omega) h0 (by omega) (by omega)
  go_enter Tryd.func9, Tryd.ntmps9
  go_wp2_with fail
  refine (awake06_any _ HT.out HX.out).mono ?_
  rintro e x1 ⟨rfl, hb1⟩
  have hB : (x1.alloc (.cells #[.int .u64 (0), .int .u64 (281470681743360 + n), .int .u64 (0), .int .u64 (n), .int .u64 (28428538856079360), .int .u64 (n), .int .u64 (2306405959167115264 + n * 65536 + r % 65536), .int .u64 (r), .int .u64 (2306124484190404608 + n), .int .u64 (r), .int .u64 (2306124484190404608 + r % 4294967296), .int .u64 (r * 4294967296 % 18446744073709551616 + (4294967295 - n)), .int .u64 (r), .int .u64 (104445014704128 + n), .int .u64 (r), .int .u64 (144219633090560000 + n)] 25)).heap[x1.heap.size]? = some (.cells #[.int .u64 (0), .int .u64 (281470681743360 + n), .int .u64 (0), .int .u64 (n), .int .u64 (28428538856079360), .int .u64 (n), .int .u64 (2306405959167115264 + n * 65536 + r % 65536), .int .u64 (r), .int .u64 (2306124484190404608 + n), .int .u64 (r), .int .u64 (2306124484190404608 + r % 4294967296), .int .u64 (r * 4294967296 % 18446744073709551616 + (4294967295 - n)), .int .u64 (r), .int .u64 (104445014704128 + n), .int .u64 (r), .int .u64 (144219633090560000 + n)] 25 (0, 0)) := heap_alloc_new x1 _
  have hcb : Below w.heap.size w (x1.alloc (.cells #[.int .u64 (0), .int .u64 (281470681743360 + n), .int .u64 (0), .int .u64 (n), .int .u64 (28428538856079360), .int .u64 (n), .int .u64 (2306405959167115264 + n * 65536 + r % 65536), .int .u64 (r), .int .u64 (2306124484190404608 + n), .int .u64 (r), .int .u64 (2306124484190404608 + r % 4294967296), .int .u64 (r * 4294967296 % 18446744073709551616 + (4294967295 - n)), .int .u64 (r), .int .u64 (104445014704128 + n), .int .u64 (r), .int .u64 (144219633090560000 + n)] 25)) := hb1.alloc hb1.size _
  have hlt : x1.heap.size < (x1.alloc (.cells #[.int .u64 (0), .int .u64 (281470681743360 + n), .int .u64 (0), .int .u64 (n), .int .u64 (28428538856079360), .int .u64 (n), .int .u64 (2306405959167115264 + n * 65536 + r % 65536), .int .u64 (r), .int .u64 (2306124484190404608 + n), .int .u64 (r), .int .u64 (2306124484190404608 + r % 4294967296), .int .u64 (r * 4294967296 % 18446744073709551616 + (4294967295 - n)), .int .u64 (r), .int .u64 (104445014704128 + n), .int .u64 (r), .int .u64 (144219633090560000 + n)] 25)).heap.size := by simp
  go_wp2_with fail
  clear e1 e2 e3 e4 e5 e6 e7 e8 e9 e10 e11 e12 e13 e14 hb1
  generalize x1.alloc (.cells #[.int .u64 (0), .int .u64 (281470681743360 + n), .int .u64 (0), .int .u64 (n), .int .u64 (28428538856079360), .int .u64 (n), .int .u64 (2306405959167115264 + n * 65536 + r % 65536), .int .u64 (r), .int .u64 (2306124484190404608 + n), .int .u64 (r), .int .u64 (2306124484190404608 + r % 4294967296), .int .u64 (r * 4294967296 % 18446744073709551616 + (4294967295 - n)), .int .u64 (r), .int .u64 (104445014704128 + n), .int .u64 (r), .int .u64 (144219633090560000 + n)] 25) = x2 at *
  generalize x1.heap.size = B at *
  have HB := Lib.hid hB
  have HCB := Lib.hid hcb
  have HLT := Lib.hid hlt
  clear hB hcb hlt
  have HCL : Hid (∀ W, Below x2.heap.size x2 W → W.heap[B]? = some (.cells #[.int .u64 (0), .int .u64 (281470681743360 + n), .int .u64 (0), .int .u64 (n), .int .u64 (28428538856079360), .int .u64 (n), .int .u64 (2306405959167115264 + n * 65536 + r % 65536), .int .u64 (r), .int .u64 (2306124484190404608 + n), .int .u64 (r), .int .u64 (2306124484190404608 + r % 4294967296), .int .u64 (r * 4294967296 % 18446744073709551616 + (4294967295 - n)), .int .u64 (r), .int .u64 (104445014704128 + n), .int .u64 (r), .int .u64 (144219633090560000 + n)] 25 (0, 0))) := fun W hW => (hW.block B HLT.out).trans HB.out
  go_loopw [51] (fun i wr => ∃ k : Nat, k ≤ 8 ∧ i = .int .i64 k ∧ Hid (Below x2.heap.size x2 wr)) (fun i _ => 8 - (intOf i).toNat)
  case atStart => exact ⟨0, by omega, rfl, Below.refl _ _⟩
  case round =>
    obtain ⟨k, hk, rfl, hbw⟩ := hrel
    have hblk := HCL.out wr hbw.out
    rcases (show k = 0 ∨ k = 1 ∨ k = 2 ∨ k = 3 ∨ k = 4 ∨ k = 5 ∨ k = 6 ∨ k = 7 ∨ k = 8 from by omega) with rfl | rfl | rfl | rfl | rfl | rfl | rfl | rfl | rfl
    · have c0 : wr.cell? ⟨B, 0, none⟩ = some (.int .u64 (0)) := by simp [World.cell?, hblk]
      have c1 : wr.cell? ⟨B, 1, none⟩ = some (.int .u64 (281470681743360 + n)) := by simp [World.cell?, hblk]
      clear hblk
      rw [show ((0 : Nat) : Int) = 0 from rfl]
      have hbz : Below wr.heap.size wr (wr.alloc (.cells #[.int .u64 (0), .int .u64 (281470681743360 + n)] 25)) := (Below.refl _ _).alloc (Nat.le_refl _) _
      go_wp2_with fail
      refine (inner_six (0) (281470681743360 + n) _ (by omega) (by omega) (by omega) (by omega)).mono ?_
      rintro e x3 ⟨v3, rfl, hn3, hb3⟩
      have hr3 := hn3.row
      have HB3 := Lib.hid (hbz.trans (hb3.mono hbz.size))
      clear hb3 hn3 hbz
      go_wp2_with fail
      refine (containsF_any v3 n (innerZ (0) (281470681743360 + n)) _ hr3 (Nat.le_trans (innerZ_len _ _) (by decide))).mono ?_
      rw [decide_eq_true (emb_0 n h0 h1)]
      rintro e x4 ⟨rfl, rfl⟩
      clear hr3
      go_wp2
      go_roundw
      case rel => exact ⟨0 + 1, by omega, by go_num, hbw.out.trans (HB3.out.mono hbw.out.size)⟩
      case measure => simp [intOf]
    · by_cases hg : 1 < n
      · have c0 : wr.cell? ⟨B, 2, none⟩ = some (.int .u64 (0)) := by simp [World.cell?, hblk]
        have c1 : wr.cell? ⟨B, 3, none⟩ = some (.int .u64 (n)) := by simp [World.cell?, hblk]
        clear hblk
        rw [show ((1 : Nat) : Int) = 1 from rfl]
        have hbz : Below wr.heap.size wr (wr.alloc (.cells #[.int .u64 (0), .int .u64 (n)] 25)) := (Below.refl _ _).alloc (Nat.le_refl _) _
        go_wp2_with fail
        refine (inner_six (0) (n) _ (by omega) (by omega) (by omega) (by omega)).mono ?_
        rintro e x3 ⟨v3, rfl, hn3, hb3⟩
        have hr3 := hn3.row
        have HB3 := Lib.hid (hbz.trans (hb3.mono hbz.size))
        clear hb3 hn3 hbz
        go_wp2_with fail
        refine (containsF_any v3 n (innerZ (0) (n)) _ hr3 (Nat.le_trans (innerZ_len _ _) (by decide))).mono ?_
        rw [decide_eq_true (emb_1 n hg h1)]
        rintro e x4 ⟨rfl, rfl⟩
        clear hr3
        go_wp2
        go_roundw
        case rel => exact ⟨1 + 1, by omega, by go_num, hbw.out.trans (HB3.out.mono hbw.out.size)⟩
        case measure => simp [intOf]
      · have hd : decide ((1 : Int) < n) = false := decide_eq_false hg
        have hz : innerZ 0 n = [] := inner_two n h0 (by omega)
        have c0 : wr.cell? ⟨B, 2, none⟩ = some (.int .u64 (0)) := by simp [World.cell?, hblk]
        have c1 : wr.cell? ⟨B, 3, none⟩ = some (.int .u64 (n)) := by simp [World.cell?, hblk]
        clear hblk
        rw [show ((1 : Nat) : Int) = 1 from rfl]
        have hbz : Below wr.heap.size wr (wr.alloc (.cells #[.int .u64 (0), .int .u64 (n)] 25)) := (Below.refl _ _).alloc (Nat.le_refl _) _
        go_wp2_with fail
        refine (inner_six (0) (n) _ (by omega) (by omega) (by omega) (by omega)).mono ?_
        rintro e x3 ⟨v3, rfl, hn3, hb3⟩
        have hr3 := hn3.row
        have HB3 := Lib.hid (hbz.trans (hb3.mono hbz.size))
        clear hb3 hn3 hbz
        go_wp2_with fail
        refine (containsF_any v3 n (innerZ (0) (n)) _ hr3 (Nat.le_trans (innerZ_len _ _) (by decide))).mono ?_
        rw [hz, decide_eq_false (List.not_mem_nil (a := n))]
        rintro e x4 ⟨rfl, rfl⟩
        clear hr3
        go_wp2
        go_roundw
        case rel => exact ⟨1 + 1, by omega, by go_num, hbw.out.trans (HB3.out.mono hbw.out.size)⟩
        case measure => simp [intOf]
    · have c0 : wr.cell? ⟨B, 4, none⟩ = some (.int .u64 (28428538856079360)) := by simp [World.cell?, hblk]
      have c1 : wr.cell? ⟨B, 5, none⟩ = some (.int .u64 (n)) := by simp [World.cell?, hblk]
      clear hblk
      rw [show ((2 : Nat) : Int) = 2 from rfl]
      have hbz : Below wr.heap.size wr (wr.alloc (.cells #[.int .u64 (28428538856079360), .int .u64 (n)] 25)) := (Below.refl _ _).alloc (Nat.le_refl _) _
      go_wp2_with fail
      refine (inner_six (28428538856079360) (n) _ (by omega) (by omega) (by omega) (by omega)).mono ?_
      rintro e x3 ⟨v3, rfl, hn3, hb3⟩
      have hr3 := hn3.row
      have HB3 := Lib.hid (hbz.trans (hb3.mono hbz.size))
      clear hb3 hn3 hbz
      go_wp2_with fail
      refine (containsF_any v3 n (innerZ (28428538856079360) (n)) _ hr3 (Nat.le_trans (innerZ_len _ _) (by decide))).mono ?_
      rw [decide_eq_true (emb_2 n h0 h1)]
      rintro e x4 ⟨rfl, rfl⟩
      clear hr3
      go_wp2
      go_roundw
      case rel => exact ⟨2 + 1, by omega, by go_num, hbw.out.trans (HB3.out.mono hbw.out.size)⟩
      case measure => simp [intOf]
    · have c0 : wr.cell? ⟨B, 6, none⟩ = some (.int .u64 (2306405959167115264 + n * 65536 + r % 65536)) := by simp [World.cell?, hblk]
      have c1 : wr.cell? ⟨B, 7, none⟩ = some (.int .u64 (r)) := by simp [World.cell?, hblk]
      clear hblk
      rw [show ((3 : Nat) : Int) = 3 from rfl]
      have hbz : Below wr.heap.size wr (wr.alloc (.cells #[.int .u64 (2306405959167115264 + n * 65536 + r % 65536), .int .u64 (r)] 25)) := (Below.refl _ _).alloc (Nat.le_refl _) _
      go_wp2_with fail
      refine (inner_six (2306405959167115264 + n * 65536 + r % 65536) (r) _ (by omega) (by omega) (by omega) (by omega)).mono ?_
      rintro e x3 ⟨v3, rfl, hn3, hb3⟩
      have hr3 := hn3.row
      have HB3 := Lib.hid (hbz.trans (hb3.mono hbz.size))
      clear hb3 hn3 hbz
      go_wp2_with fail
      refine (containsF_any v3 n (innerZ (2306405959167115264 + n * 65536 + r % 65536) (r)) _ hr3 (Nat.le_trans (innerZ_len _ _) (by decide))).mono ?_
      rw [decide_eq_true (emb_3 n r r h0 h1)]
      rintro e x4 ⟨rfl, rfl⟩
      clear hr3
      go_wp2
      go_roundw
      case rel => exact ⟨3 + 1, by omega, by go_num, hbw.out.trans (HB3.out.mono hbw.out.size)⟩
      case measure => simp [intOf]
    · have c0 : wr.cell? ⟨B, 8, none⟩ = some (.int .u64 (2306124484190404608 + n)) := by simp [World.cell?, hblk]
      have c1 : wr.cell? ⟨B, 9, none⟩ = some (.int .u64 (r)) := by simp [World.cell?, hblk]
      clear hblk
      rw [show ((4 : Nat) : Int) = 4 from rfl]
      have hbz : Below wr.heap.size wr (wr.alloc (.cells #[.int .u64 (2306124484190404608 + n), .int .u64 (r)] 25)) := (Below.refl _ _).alloc (Nat.le_refl _) _
      go_wp2_with fail
      refine (inner_six (2306124484190404608 + n) (r) _ (by omega) (by omega) (by omega) (by omega)).mono ?_
      rintro e x3 ⟨v3, rfl, hn3, hb3⟩
      have hr3 := hn3.row
      have HB3 := Lib.hid (hbz.trans (hb3.mono hbz.size))
      clear hb3 hn3 hbz
      go_wp2_with fail
      refine (containsF_any v3 n (innerZ (2306124484190404608 + n) (r)) _ hr3 (Nat.le_trans (innerZ_len _ _) (by decide))).mono ?_
      rw [decide_eq_true (emb_4 n r h0 h1)]
      rintro e x4 ⟨rfl, rfl⟩
      clear hr3
      go_wp2
      go_roundw
      case rel => exact ⟨4 + 1, by omega, by go_num, hbw.out.trans (HB3.out.mono hbw.out.size)⟩
      case measure => simp [intOf]
    · have c0 : wr.cell? ⟨B, 10, none⟩ = some (.int .u64 (2306124484190404608 + r % 4294967296)) := by simp [World.cell?, hblk]
      have c1 : wr.cell? ⟨B, 11, none⟩ = some (.int .u64 (r * 4294967296 % 18446744073709551616 + (4294967295 - n))) := by simp [World.cell?, hblk]
      clear hblk
      rw [show ((5 : Nat) : Int) = 5 from rfl]
      have hbz : Below wr.heap.size wr (wr.alloc (.cells #[.int .u64 (2306124484190404608 + r % 4294967296), .int .u64 (r * 4294967296 % 18446744073709551616 + (4294967295 - n))] 25)) := (Below.refl _ _).alloc (Nat.le_refl _) _
      go_wp2_with fail
      refine (inner_six (2306124484190404608 + r % 4294967296) (r * 4294967296 % 18446744073709551616 + (4294967295 - n)) _ (by omega) (by omega) (by omega) (by omega)).mono ?_
      rintro e x3 ⟨v3, rfl, hn3, hb3⟩
      have hr3 := hn3.row
      have HB3 := Lib.hid (hbz.trans (hb3.mono hbz.size))
      clear hb3 hn3 hbz
      go_wp2_with fail
      refine (containsF_any v3 n (innerZ (2306124484190404608 + r % 4294967296) (r * 4294967296 % 18446744073709551616 + (4294967295 - n))) _ hr3 (Nat.le_trans (innerZ_len _ _) (by decide))).mono ?_
      rw [decide_eq_true (emb_5 n r h0 h1)]
      rintro e x4 ⟨rfl, rfl⟩
      clear hr3
      go_wp2
      go_roundw
      case rel => exact ⟨5 + 1, by omega, by go_num, hbw.out.trans (HB3.out.mono hbw.out.size)⟩
      case measure => simp [intOf]
    · have c0 : wr.cell? ⟨B, 12, none⟩ = some (.int .u64 (r)) := by simp [World.cell?, hblk]
      have c1 : wr.cell? ⟨B, 13, none⟩ = some (.int .u64 (104445014704128 + n)) := by simp [World.cell?, hblk]
      clear hblk
      rw [show ((6 : Nat) : Int) = 6 from rfl]
      have hbz : Below wr.heap.size wr (wr.alloc (.cells #[.int .u64 (r), .int .u64 (104445014704128 + n)] 25)) := (Below.refl _ _).alloc (Nat.le_refl _) _
      go_wp2_with fail
      refine (inner_six (r) (104445014704128 + n) _ (by omega) (by omega) (by omega) (by omega)).mono ?_
      rintro e x3 ⟨v3, rfl, hn3, hb3⟩
      have hr3 := hn3.row
      have HB3 := Lib.hid (hbz.trans (hb3.mono hbz.size))
      clear hb3 hn3 hbz
      go_wp2_with fail
      refine (containsF_any v3 n (innerZ (r) (104445014704128 + n)) _ hr3 (Nat.le_trans (innerZ_len _ _) (by decide))).mono ?_
      rw [decide_eq_true (emb_6 n r h0 h1)]
      rintro e x4 ⟨rfl, rfl⟩
      clear hr3
      go_wp2
      go_roundw
      case rel => exact ⟨6 + 1, by omega, by go_num, hbw.out.trans (HB3.out.mono hbw.out.size)⟩
      case measure => simp [intOf]
    · have c0 : wr.cell? ⟨B, 14, none⟩ = some (.int .u64 (r)) := by simp [World.cell?, hblk]
      have c1 : wr.cell? ⟨B, 15, none⟩ = some (.int .u64 (144219633090560000 + n)) := by simp [World.cell?, hblk]
      clear hblk
      rw [show ((7 : Nat) : Int) = 7 from rfl]
      have hbz : Below wr.heap.size wr (wr.alloc (.cells #[.int .u64 (r), .int .u64 (144219633090560000 + n)] 25)) := (Below.refl _ _).alloc (Nat.le_refl _) _
      go_wp2_with fail
      refine (inner_six (r) (144219633090560000 + n) _ (by omega) (by omega) (by omega) (by omega)).mono ?_
      rintro e x3 ⟨v3, rfl, hn3, hb3⟩
      have hr3 := hn3.row
      have HB3 := Lib.hid (hbz.trans (hb3.mono hbz.size))
      clear hb3 hn3 hbz
      go_wp2_with fail
      refine (containsF_any v3 n (innerZ (r) (144219633090560000 + n)) _ hr3 (Nat.le_trans (innerZ_len _ _) (by decide))).mono ?_
      rw [decide_eq_true (emb_7 n r h0 h1)]
      rintro e x4 ⟨rfl, rfl⟩
      clear hr3
      go_wp2
      go_roundw
      case rel => exact ⟨7 + 1, by omega, by go_num, hbw.out.trans (HB3.out.mono hbw.out.size)⟩
      case measure => simp [intOf]
    · have hz0 : innerZ 0 0 = [] := by decide +kernel
      have hz1 : innerZ 0 1 = [] := by decide +kernel
      have HZ0 := Lib.hid hz0
      have HZ1 := Lib.hid hz1
      clear hblk hz0 hz1
      rw [show ((8 : Nat) : Int) = 8 from rfl]
      go_wp2_with fail
      refine (inner_four n _).mono ?_
      rintro e x3 ⟨v3, rfl, hn3, hb3⟩
      obtain ⟨a3, c3, rfl⟩ : ∃ a c, v3 = .slice a 0 c := Nums.none (t := 60) (k := .u32) hn3
      have hq3 : Below x2.heap.size x2 x3 := hbw.out.trans (hb3.mono hbw.out.size)
      clear hn3 hb3
      go_wp2_with fail
      refine (inner_six 0 0 _ (by decide) (by decide) (by decide) (by decide)).mono ?_
      rw [HZ0.out]
      rintro e x4 ⟨v4, rfl, hn4, hb4⟩
      obtain ⟨a4, c4, rfl⟩ : ∃ a c, v4 = .slice a 0 c := Nums.none (t := 60) (k := .u32) hn4
      have hq4 : Below x2.heap.size x2 x4 := hq3.trans (hb4.mono hq3.size)
      clear hn4 hb4
      go_wp2_with fail
      refine (inner_six 0 1 _ (by decide) (by decide) (by decide) (by decide)).mono ?_
      rw [HZ1.out]
      rintro e x5 ⟨v5, rfl, hn5, hb5⟩
      obtain ⟨a5, c5, rfl⟩ : ∃ a c, v5 = .slice a 0 c := Nums.none (t := 60) (k := .u32) hn5
      have hq5 : Below x2.heap.size x2 x5 := hq4.trans (hb5.mono hq4.size)
      clear hn5 hb5
      go_wp2
      go_ret
      exact ⟨rfl, HCB.out.trans (hq5.mono HCB.out.size)⟩

theorem addrEmbeds_walk (a0 : Int) (a1 : Int) (w0 : (Lit.int .u32 a0).wf = true) (w1 : (Lit.int .u64 a1).wf = true) (w : World) (hbru : BruTab w) (hmax : MaxVar w) :
    Calls Tryd.prog 9 #[.int .u32 a0, .int .u64 a1] w fun e w' => e = .returned (.bool true) ∧ Below w.heap.size w w' :=
  addrEmbeds_in a0 a1 (bounds_u32 w0).1 (bounds_u32 w0).2 (bounds_u64 w1).1 (bounds_u64 w1).2 w hbru hmax
end Go.Proofs.YtgmfgcpfpopboaaDoor
