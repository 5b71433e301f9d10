/-
  Layer 1: Lower and Drop, the program's and the reference's, byte by byte.
-/
import Derived.Test.YtaojjkknmaldiaaDoorScalH
import Derived.Lib.ConvBytes
namespace Go.Proofs.YtaojjkknmaldiaaDoor
open Go.RowKit


theorem Tryd.infoByte : (Tryd.prog.info? 5).map (fun i => (i.zero, i.size, i.bytes)) = some (some (.int .u8 0), 1, 1) := by kernel_rfl

def lowC (c : UInt8) : UInt8 := if 65 ≤ c.toNat ∧ c.toNat ≤ 90 then c + 32 else c
def lowerB (l : List UInt8) : List UInt8 := l.map lowC
def keepC (c : UInt8) : Bool := !(c == 9 || c == 10 || c == 13)
def dropB (l : List UInt8) : List UInt8 := l.filter keepC

theorem lowC_up {c : UInt8} (h1 : 65 ≤ c.toNat) (h2 : c.toNat ≤ 90) : (lowC c).toNat = c.toNat + 32 := by
  unfold lowC
  rw [if_pos ⟨h1, h2⟩, UInt8.toNat_add]
  simp
  omega
theorem lowC_id {c : UInt8} (h : c.toNat < 65 ∨ 90 < c.toNat) : lowC c = c := by
  unfold lowC
  rw [if_neg (by omega)]

theorem bytes_at (s : ByteArray) (k : Nat) (h : k < s.size) : s.data.toList[k]? = some s[k] := by
  rw [List.getElem?_eq_getElem (by simpa using h)]
  rfl

theorem take_bytes (s : ByteArray) (k : Nat) (h : k < s.size) : s.data.toList.take (k + 1) = s.data.toList.take k ++ [s[k]] := by
  rw [List.take_succ_eq_append_getElem (by simpa using h)]
  rfl

theorem take_all (s : ByteArray) (k : Nat) (h : ¬ k < s.size) : s.data.toList.take k = s.data.toList := List.take_of_length_le (by simpa using h)

theorem size_list (s : ByteArray) : s.data.toList.length = s.size := by simp

theorem lower_snoc (s : ByteArray) (k : Nat) (h : k < s.size) : lowerB (s.data.toList.take (k + 1)) = lowerB (s.data.toList.take k) ++ [lowC s[k]] := by
  rw [take_bytes s k h]; simp [lowerB]
theorem lower_len (l : List UInt8) : (lowerB l).length = l.length := by simp [lowerB]

theorem drop_keep (s : ByteArray) (k : Nat) (h : k < s.size) (hk : keepC s[k] = true) : dropB (s.data.toList.take (k + 1)) = dropB (s.data.toList.take k) ++ [s[k]] := by
  rw [take_bytes s k h]; simp [dropB, hk]
theorem drop_skip (s : ByteArray) (k : Nat) (h : k < s.size) (hk : keepC s[k] = false) : dropB (s.data.toList.take (k + 1)) = dropB (s.data.toList.take k) := by
  rw [take_bytes s k h]; simp [dropB, hk]
theorem drop_len (l : List UInt8) : (dropB l).length ≤ l.length := List.length_filter_le _ _

theorem keepC_true {c : UInt8} (h1 : c.toNat ≠ 9) (h2 : c.toNat ≠ 10) (h3 : c.toNat ≠ 13) : keepC c = true := by
  unfold keepC
  have e1 : (c == 9) = false := beq_eq_false_iff_ne.2 fun e => h1 (by rw [e]; rfl)
  have e2 : (c == 10) = false := beq_eq_false_iff_ne.2 fun e => h2 (by rw [e]; rfl)
  have e3 : (c == 13) = false := beq_eq_false_iff_ne.2 fun e => h3 (by rw [e]; rfl)
  rw [e1, e2, e3]; rfl
theorem keepC_false {c : UInt8} (h : c.toNat = 9 ∨ c.toNat = 10 ∨ c.toNat = 13) : keepC c = false := by
  rcases h with h | h | h
  · rw [show c = 9 from UInt8.toNat_inj.1 h]; rfl
  · rw [show c = 10 from UInt8.toNat_inj.1 h]; rfl
  · rw [show c = 13 from UInt8.toNat_inj.1 h]; rfl

theorem cells_snoc (l : List UInt8) (c : UInt8) (n : Int) (h : (c.toNat : Int) = n) : Lib.byteCells (l ++ [c]) = Lib.byteCells l ++ [.int .u8 n] := by
  rw [Lib.byteCells_append, ← h]; rfl

/-- append of one value, which the call has laid in a new block of one cell, onto a row of the call's own -/
theorem wp_append1 {P : Program} (w : World) {ops : Array Oper} {rest : List Oper} {o : Oper} {a : Act} {Q : Exit → Act → World → Prop} (hgd : o.guard = none) (s x : Operand) (t : TypeId)
    (ho : o.op = .call { callee := .builtin .append, args := #[s, x], argTypes := #[t, t] })
    (base : Nat) (e : TypeId) (i : TypeInfo) (z : Value) (bytes : Nat) (ht : P.underlying t = some (.slice e)) (hi : P.info? e = some i) (hz : i.zero = some z)
    (hsize : i.size = 1) (hby : i.bytes = bytes) (hzs : z.cells.size = 1)
    (v : Value) (n : Nat) (xs : List Value) (hs : a.eval s = v) (hown : w.ownsRow base e 1 v n xs) (u : Value) (hx : a.eval x = .slice (some ⟨w.heap.size, 0, none⟩) 1 1) (hu : u.oneCell' = true)
    (h63 : n + 1 ≤ 9223372036854775807) (hbytes : (n + 1) * bytes ≤ 140737488355328) (hbase : base ≤ w.heap.size)
    (h : ∀ v' w', w'.ownsRow base e 1 v' (n + 1) (xs ++ [u]) → Below base w w' → wpList P ops Q rest (a.put o.dst v') w') : wpList P ops Q (o :: rest) a (w.alloc (.cells #[u] e)) := by
  refine wpList_append_own (w.alloc (.cells #[u] e)) hgd s x t ho base e i z 1 bytes ht hi hz hsize hby hzs (by decide) v n xs hs (hown.alloc _) ⟨w.heap.size, 0, none⟩ 1 1 [u] hx rfl (one_new w u e) ?_ h63 hbytes (by simp; omega) ?_
  · intro y hy; simp at hy; subst hy; exact hu
  · intro v' w1 hown' hgrow _
    exact h v' w1 hown' (((Below.refl base w).alloc hbase _).grown hgrow (by simp; omega) (fun k hk => (hown.lt k hk).1))

/-- bytes gathered in a row of the call's own -/
def Gath (B : Nat) (w : World) (v : Value) (l : List UInt8) : Prop := w.ownsRow B 5 1 v l.length (Lib.byteCells l)

theorem Gath.conv {B : Nat} {w : World} {v : Value} {l : List UInt8} (h : Gath B w v l) : (convert 56 9 v).run Tryd.prog w = .ok (.string ⟨l.toArray⟩) w :=
  conv_bytes w _ _ 5 _ l (RowR.of_own (by rw [Lib.byteCells_length]; exact h)) Tryd.underlying56 Tryd.underlying5 Tryd.underlying9
theorem Gath.nil (B : Nat) (w : World) : Gath B w (.slice none 0 0) [] := World.ownsRow_nil _ _ _ _
theorem Gath.snoc {B : Nat} {w : World} {v : Value} {l : List UInt8} {c : UInt8} {n : Int} (h : w.ownsRow B 5 1 v (l.length + 1) (Lib.byteCells l ++ [.int .u8 n])) (hn : (c.toNat : Int) = n) : Gath B w v (l ++ [c]) := by
  unfold Gath
  rw [cells_snoc l c n hn, List.length_append]
  exact h

end Go.Proofs.YtaojjkknmaldiaaDoor
