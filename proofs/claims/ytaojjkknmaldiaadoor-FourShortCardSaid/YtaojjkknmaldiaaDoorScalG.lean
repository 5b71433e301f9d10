/-
  Layer 1: the reference's One tells the UTF-8 of a number, or FFFD's.
-/
import Derived.Test.YtaojjkknmaldiaaDoorScalF
import Derived.Lib.RuneBytes
namespace Go.Proofs.YtaojjkknmaldiaaDoor
open Go.RowKit


theorem foldl_push (l : List UInt8) : ∀ b : ByteArray, (l.map fun c => (c.toNat : Int)).foldl (fun r n => r.push (UInt8.ofNat n.toNat)) b = ⟨(b.data.toList ++ l).toArray⟩ := by
  induction l with
  | nil => intro b; simp
  | cons c l ih =>
    intro b
    simp only [List.map_cons, List.foldl_cons]
    rw [ih]
    simp [ByteArray.push]

/-- string(bytes), of a row that holds the bytes l -/
theorem conv_bytes {P : Program} (w : World) (src dst e : TypeId) (v : Value) (l : List UInt8) (hr : RowR w v (Lib.byteCells l))
    (hs : P.underlying src = some (.slice e)) (he : P.underlying e = some (.int .u8)) (hd : P.underlying dst = some .string) :
    (convert src dst v).run P w = .ok (.string ⟨l.toArray⟩) w := by
  obtain ⟨ao, c, rfl, hc⟩ := hr
  rw [run_convert_bytes_string w src dst e ao _ c hs he hd]
  cases ao with
  | none =>
    have hl : l = [] := by
      cases l with
      | nil => rfl
      | cons x l =>
        obtain ⟨ad, h, _⟩ := hc 0 (.int .u8 x.toNat) rfl
        cases h
    subst hl
    rfl
  | some a =>
    have h1 := run_loadCells_list (P := P) (w := w) a (Lib.byteCells l) (fun j u hj => by
      obtain ⟨ad, h, hx⟩ := hc j u hj
      cases h
      exact hx)
    have h2 : Lib.byteCells l = (l.map fun c => (c.toNat : Int)).map (Value.int .u8) := by simp [Lib.byteCells]
    rw [run_bytesToString w a _ c (l.map fun c => (c.toNat : Int)) (by rw [h1, h2]), foldl_push]
    rfl

def bytesZ (l : List Int) : List UInt8 := l.map fun x => x.toNat.toUInt8

theorem conv_lit {P : Program} (W : World) (src dst e : TypeId) (l : List Int) (hl : ∀ x ∈ l, 0 ≤ x ∧ x < 256)
    (hs : P.underlying src = some (.slice e)) (he : P.underlying e = some (.int .u8)) (hd : P.underlying dst = some .string) :
    (convert src dst (.slice (some ⟨W.heap.size, 0, none⟩) l.length l.length)).run P (W.alloc (.cells (l.map (Value.int .u8)).toArray e)) = .ok (.string ⟨(bytesZ l).toArray⟩) (W.alloc (.cells (l.map (Value.int .u8)).toArray e)) := by
  have e1 : Lib.byteCells (bytesZ l) = l.map (Value.int .u8) := by
    simp only [Lib.byteCells, bytesZ, List.map_map]
    apply List.map_congr_left
    intro x hx
    obtain ⟨h0, h1⟩ := hl x hx
    simp only [Function.comp]
    congr 1
    have : x.toNat % 256 = x.toNat := Nat.mod_eq_of_lt (by omega)
    simp [Nat.toUInt8, this]
    omega
  refine conv_bytes _ src dst e _ (bytesZ l) ?_ hs he hd
  rw [e1]
  refine ⟨_, l.length, by rw [List.length_map], fun j u hj => ⟨_, rfl, ?_⟩⟩
  rw [show (Addr.add ⟨W.heap.size, 0, none⟩ j) = ⟨W.heap.size, j, none⟩ from by unfold Addr.add; split <;> simp_all]
  rw [cell_of_row _ W.heap.size j _ e (0, 0) (heap_alloc_new W _)]
  simpa using hj

end Go.Proofs.YtaojjkknmaldiaaDoor
