/-
  Layer 1: the reference's One tells the UTF-8 of a number, or FFFD's.
-/
import Derived.Test.YtbkjhdinlnpglaaScalF
import Derived.Lib.RuneBytes
namespace Go.Proofs.Ytbkjhdinlnpglaa
open Go.RowKit

theorem foldl_push (l : List UInt8) : ∀ b : ByteArray, (l.map fun c => (c.toNat : Int)).foldl (fun r n => r.push (UInt8.ofNat n.toNat)) b = ⟨(b.data.toList ++ l).toArray⟩ := by
  induction l with
  | nil => intro b; simp
  | cons c l ih =>
    intro b
    simp only [List.map_cons, List.foldl_cons]
    rw [ih]
    simp [ByteArray.push]

/-- string(bytes), of a row that holds the bytes l -/
theorem conv_bytes {P : Program} (w : World) (src dst e : TypeId) (v : Value) (l : List UInt8) (hr : RowR w v (Lib.byteCells l))
    (hs : P.underlying src = some (.slice e)) (he : P.underlying e = some (.int .u8)) (hd : P.underlying dst = some .string) :
    (convert src dst v).run P w = .ok (.string ⟨l.toArray⟩) w := by
  obtain ⟨ao, c, rfl, hc⟩ := hr
  rw [run_convert_bytes_string w src dst e ao _ c hs he hd]
  cases ao with
  | none =>
    have hl : l = [] := by
      cases l with
      | nil => rfl
      | cons x l =>
        obtain ⟨ad, h, _⟩ := hc 0 (.int .u8 x.toNat) rfl
        cases h
    subst hl
    rfl
  | some a =>
    have h1 := run_loadCells_list (P := P) (w := w) a (Lib.byteCells l) (fun j u hj => by
      obtain ⟨ad, h, hx⟩ := hc j u hj
      cases h
      exact hx)
    have h2 : Lib.byteCells l = (l.map fun c => (c.toNat : Int)).map (Value.int .u8) := by simp [Lib.byteCells]
    rw [run_bytesToString w a _ c (l.map fun c => (c.toNat : Int)) (by rw [h1, h2]), foldl_push]
    rfl

def bytesZ (l : List Int) : List UInt8 := l.map fun x => x.toNat.toUInt8

theorem conv_lit {P : Program} (W : World) (src dst e : TypeId) (l : List Int) (hl : ∀ x ∈ l, 0 ≤ x ∧ x < 256)
    (hs : P.underlying src = some (.slice e)) (he : P.underlying e = some (.int .u8)) (hd : P.underlying dst = some .string) :
    (convert src dst (.slice (some ⟨W.heap.size, 0, none⟩) l.length l.length)).run P (W.alloc (.cells (l.map (Value.int .u8)).toArray e)) = .ok (.string ⟨(bytesZ l).toArray⟩) (W.alloc (.cells (l.map (Value.int .u8)).toArray e)) := by
  have e1 : Lib.byteCells (bytesZ l) = l.map (Value.int .u8) := by
    simp only [Lib.byteCells, bytesZ, List.map_map]
    apply List.map_congr_left
    intro x hx
    obtain ⟨h0, h1⟩ := hl x hx
    simp only [Function.comp]
    congr 1
    have : x.toNat % 256 = x.toNat := Nat.mod_eq_of_lt (by omega)
    simp [Nat.toUInt8, this]
    omega
  refine conv_bytes _ src dst e _ (bytesZ l) ?_ hs he hd
  rw [e1]
  refine ⟨_, l.length, by rw [List.length_map], fun j u hj => ⟨_, rfl, ?_⟩⟩
  rw [show (Addr.add ⟨W.heap.size, 0, none⟩ j) = ⟨W.heap.size, j, none⟩ from by unfold Addr.add; split <;> simp_all]
  rw [cell_of_row _ W.heap.size j _ e (0, 0) (heap_alloc_new W _)]
  simpa using hj

set_option maxRecDepth 100000 in
set_option maxHeartbeats 1000000 in
theorem one_bad (r : Int) (w : World) (h : isB r = false) :
    Calls Try.prog 52 #[.int .i32 r] w fun e w' => e = .returned (.string ⟨(Lib.encodeRune r).toArray⟩) ∧ Below w.heap.size w w' := by
  have HE := Lib.hid (show Lib.encodeRune r = bytesZ [239, 191, 189] from congrArg bytesZ (Lib.encodeRuneZ_bad (by unfold isB at h; have := of_decide_eq_false h; omega)))
  have hcv := fun W : World => conv_lit (P := Try.prog) W 52 9 5 [239, 191, 189] (by decide) Try.underlying52 Try.underlying5 Try.underlying9
  simp only [List.map_cons, List.map_nil, List.length_cons, List.length_nil, Nat.zero_add, Nat.reduceAdd] at hcv
  go_enter Try.func52, Try.ntmps52
  go_wp2_with (go_at_call 34; refine (is_any _ _).mono ?_; rintro e w' ⟨rfl, rfl⟩)
  go_ret
  exact ⟨by rw [HE.out]; rfl, (Below.refl _ _).alloc (Nat.le_refl _) _⟩

set_option maxRecDepth 100000 in
set_option maxHeartbeats 1000000 in
theorem one_one (r : Int) (w : World) (h0 : 0 ≤ r) (h1 : r < 128) :
    Calls Try.prog 52 #[.int .i32 r] w fun e w' => e = .returned (.string ⟨(Lib.encodeRune r).toArray⟩) ∧ Below w.heap.size w w' := by
  have HE := Lib.hid (show Lib.encodeRune r = bytesZ [r] from congrArg bytesZ (Lib.encodeRuneZ_one h0 (by omega)))
  have hcv := fun W : World => conv_lit (P := Try.prog) W 52 9 5 [r] (by intro x hx; simp at hx; omega) Try.underlying52 Try.underlying5 Try.underlying9
  simp only [List.map_cons, List.map_nil, List.length_cons, List.length_nil, Nat.zero_add] at hcv
  have hv : isB r = true := decide_eq_true (by omega)
  go_enter Try.func52, Try.ntmps52
  go_wp2_with (go_at_call 34; refine (is_any _ _).mono ?_; rintro e w' ⟨rfl, rfl⟩)
  go_ret
  exact ⟨by rw [HE.out]; rfl, (Below.refl _ _).alloc (Nat.le_refl _) _⟩

set_option maxRecDepth 100000 in
set_option maxHeartbeats 1000000 in
theorem one_two (r : Int) (w : World) (h0 : 128 ≤ r) (h1 : r < 2048) :
    Calls Try.prog 52 #[.int .i32 r] w fun e w' => e = .returned (.string ⟨(Lib.encodeRune r).toArray⟩) ∧ Below w.heap.size w w' := by
  have HE := Lib.hid (show Lib.encodeRune r = bytesZ [192 + r / 64, 128 + r % 64] from congrArg bytesZ (Lib.encodeRuneZ_two h0 (by omega)))
  have hcv := fun W : World => conv_lit (P := Try.prog) W 52 9 5 [192 + r / 64, 128 + r % 64] (by intro x hx; simp at hx; omega) Try.underlying52 Try.underlying5 Try.underlying9
  simp only [List.map_cons, List.map_nil, List.length_cons, List.length_nil, Nat.zero_add, Nat.reduceAdd] at hcv
  have hv : isB r = true := decide_eq_true (by omega)
  go_enter Try.func52, Try.ntmps52
  go_wp2_with (go_at_call 34; refine (is_any _ _).mono ?_; rintro e w' ⟨rfl, rfl⟩)
  go_ret
  exact ⟨by rw [HE.out]; rfl, (Below.refl _ _).alloc (Nat.le_refl _) _⟩

set_option maxRecDepth 100000 in
set_option maxHeartbeats 1000000 in
theorem one_three (r : Int) (w : World) (h0 : 2048 ≤ r) (h1 : r < 65536) (hs : r < 55296 ∨ 57343 < r) :
    Calls Try.prog 52 #[.int .i32 r] w fun e w' => e = .returned (.string ⟨(Lib.encodeRune r).toArray⟩) ∧ Below w.heap.size w w' := by
  have HE := Lib.hid (show Lib.encodeRune r = bytesZ [224 + r / 4096, 128 + r / 64 % 64, 128 + r % 64] from congrArg bytesZ (Lib.encodeRuneZ_three (by omega)))
  have hcv := fun W : World => conv_lit (P := Try.prog) W 52 9 5 [224 + r / 4096, 128 + r / 64 % 64, 128 + r % 64] (by intro x hx; simp at hx; omega) Try.underlying52 Try.underlying5 Try.underlying9
  simp only [List.map_cons, List.map_nil, List.length_cons, List.length_nil, Nat.zero_add, Nat.reduceAdd] at hcv
  have hv : isB r = true := decide_eq_true (by omega)
  go_enter Try.func52, Try.ntmps52
  go_wp2_with (go_at_call 34; refine (is_any _ _).mono ?_; rintro e w' ⟨rfl, rfl⟩)
  go_ret
  exact ⟨by rw [HE.out]; rfl, (Below.refl _ _).alloc (Nat.le_refl _) _⟩

set_option maxRecDepth 100000 in
set_option maxHeartbeats 1000000 in
theorem one_four (r : Int) (w : World) (h0 : 65536 ≤ r) (h1 : r ≤ 1114111) :
    Calls Try.prog 52 #[.int .i32 r] w fun e w' => e = .returned (.string ⟨(Lib.encodeRune r).toArray⟩) ∧ Below w.heap.size w w' := by
  have HE := Lib.hid (show Lib.encodeRune r = bytesZ [240 + r / 262144, 128 + r / 4096 % 64, 128 + r / 64 % 64, 128 + r % 64] from congrArg bytesZ (Lib.encodeRuneZ_four h0 h1))
  have hcv := fun W : World => conv_lit (P := Try.prog) W 52 9 5 [240 + r / 262144, 128 + r / 4096 % 64, 128 + r / 64 % 64, 128 + r % 64] (by intro x hx; simp at hx; omega) Try.underlying52 Try.underlying5 Try.underlying9
  simp only [List.map_cons, List.map_nil, List.length_cons, List.length_nil, Nat.zero_add, Nat.reduceAdd] at hcv
  have hv : isB r = true := decide_eq_true (by omega)
  go_enter Try.func52, Try.ntmps52
  go_wp2_with (go_at_call 34; refine (is_any _ _).mono ?_; rintro e w' ⟨rfl, rfl⟩)
  go_ret
  exact ⟨by rw [HE.out]; rfl, (Below.refl _ _).alloc (Nat.le_refl _) _⟩

theorem one_any (r : Int) (w : World) :
    Calls Try.prog 52 #[.int .i32 r] w fun e w' => e = .returned (.string ⟨(Lib.encodeRune r).toArray⟩) ∧ Below w.heap.size w w' := by
  by_cases h : isB r = true
  · have h' := of_decide_eq_true h
    by_cases a : r < 128
    · exact one_one r w h'.1 a
    · by_cases b : r < 2048
      · exact one_two r w (by omega) b
      · by_cases c : r < 65536
        · exact one_three r w (by omega) c h'.2.2
        · exact one_four r w (by omega) h'.2.1
  · exact one_bad r w (by simpa using h)
end Go.Proofs.Ytbkjhdinlnpglaa
