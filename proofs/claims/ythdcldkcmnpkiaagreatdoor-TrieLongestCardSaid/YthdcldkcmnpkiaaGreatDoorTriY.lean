/-
  Layer 8: a map from prefixes to numbers, of the call's own, beside a trie.
-/
import Derived.Test.YthdcldkcmnpkiaaGreatDoorTriX
import Derived.Maps.OwnSet
import Derived.Maps.OwnOps
import Derived.DeepKeys4
namespace Go.Proofs.YthdcldkcmnpkiaaGreatDoor
open Go.RowKit


theorem pfxLaid : laidOutB Tryz.prog = true := by kernel_rfl
theorem pfxAt : (24 : TypeId) < Tryz.prog.types.size := of_decide_eq_true (by kernel_rfl)
theorem pfxKeyT : Tryz.prog.keyTypeAt 2 24 = true := by kernel_rfl
theorem pfxKeyType : Tryz.prog.keyType 24 = true := by kernel_rfl
theorem pfxLaw : Maps.Keyed Tryz.prog 24 := by
  refine Maps.Keyed.of_law (deep_law_laid pfxLaid (m := 2) (by omega) pfxAt pfxKeyT ?_)
  rw [Tryz.underlying24]
theorem zeroI (w : World) : (zeroValue 3).run Tryz.prog w = .ok (.int .i64 0) w := by kernel_rfl
theorem pos_ex {n m : Nat} (h : m < n) : ∃ d, n = d + 1 := ⟨n - 1, by omega⟩
theorem typesPos : ∃ d, Tryz.prog.types.size = d + 1 := pos_ex pfxAt
theorem pfxCells : Tryz.prog.cellsOf 24 = 3 := by kernel_rfl
theorem u64Cells : Tryz.prog.cellsOf 22 = 1 := by kernel_rfl
theorem i64Cells : Tryz.prog.cellsOf 3 = 1 := by kernel_rfl
theorem keyOf_pfx {hi lo : Nat} {n : Int} (h1 : (Lit.int .u64 (hi : Nat)).wf = true) (h2 : (Lit.int .u64 (lo : Nat)).wf = true) (h3 : (Lit.int .i64 n).wf = true) :
    ∃ kl, keyOf Tryz.prog 24 (.agg #[.int .u64 (hi : Nat), .int .u64 (lo : Nat), .int .i64 n]) = some kl := by
  obtain ⟨d, hd⟩ := typesPos
  unfold keyOf
  rw [Tryz.underlying24, pfxKeyType, hd]
  simp [Value.formed, Tryz.underlying24, pfxCells, Value.cells, Program.keyLits, Tryz.underlying22, Tryz.underlying3, u64Cells, i64Cells, h1, h2, h3]
/-- a prefix as a key -/
@[irreducible] noncomputable def pfKey (P k : Nat) : Lit := (keyOf Tryz.prog 24 (.agg #[.int .u64 (hiN P : Nat), .int .u64 (loN P : Nat), .int .i64 (k : Nat)])).getD (.bool false)
theorem wf_u64 {n : Nat} (h : n < 18446744073709551616) : (Lit.int .u64 (n : Nat)).wf = true := by
  simp [Lit.wf, IntKind.min, IntKind.max, IntKind.bits, IntKind.signed]; omega
theorem wf_i64n {n : Nat} (h : n ≤ 128) : (Lit.int .i64 (n : Nat)).wf = true := by
  simp [Lit.wf, IntKind.min, IntKind.max, IntKind.bits, IntKind.signed]; omega
theorem pfKey_ok {P k : Nat} (hP : P < 2 ^ 128) (hk : k ≤ 128) : keyOf Tryz.prog 24 (.agg #[.int .u64 (hiN P : Nat), .int .u64 (loN P : Nat), .int .i64 (k : Nat)]) = some (pfKey P k) := by
  obtain ⟨kl, h⟩ := keyOf_pfx (wf_u64 (hiN_lt hP)) (wf_u64 (loN_lt P)) (wf_i64n hk)
  unfold pfKey; rw [h]; rfl
theorem pfKey_wide {hi lo k : Nat} (h1 : hi < 18446744073709551616) (h2 : lo < 18446744073709551616) (hk : k ≤ 128) : keyOf Tryz.prog 24 (.agg #[.int .u64 (hi : Nat), .int .u64 (lo : Nat), .int .i64 (k : Nat)]) = some (pfKey (wideN hi lo) k) := by
  have := pfKey_ok (P := wideN hi lo) (wide_lt h1 h2) hk
  rwa [hiN_wide h2, loN_wide h2] at this
theorem pfKey_lit {P k : Nat} (hP : P < 2 ^ 128) (hk : k ≤ 128) : WideAt.IsKeyLit (pfKey P k) := pfxLaw.key (pfKey_ok hP hk)
theorem pfKey_inj {P k P' k' : Nat} (hP : P < 2 ^ 128) (hk : k ≤ 128) (hP' : P' < 2 ^ 128) (hk' : k' ≤ 128) (h : pfKey P k = pfKey P' k') : P = P' ∧ k = k' := by
  have e := pfxLaw.inj (pfKey_ok hP hk) (h ▸ pfKey_ok hP' hk')
  simp at e
  exact ⟨wide_inj (by omega) (by omega), by omega⟩

/-- the datum D is the list's: its keys, and what they lead to -/
structure MapL (D : DataW Unit) (l : List En) : Prop where
  size : Maps.size D = l.length
  has : ∀ (P k : Nat), P < 2 ^ 128 → k ≤ 128 → Maps.has D (pfKey P k) = (getL l P k).isSome
  val : ∀ (P k : Nat) (v : Int), P < 2 ^ 128 → k ≤ 128 → getL l P k = some v → D.atKey (pfKey P k) (.lit (.int .i64 0)) = .lit (.int .i64 v)
theorem mapL_nil : MapL (.map []) [] := ⟨rfl, fun _ _ _ _ => rfl, fun _ _ _ _ _ h => by cases h⟩
theorem mapL_put {D : DataW Unit} {l : List En} (h : MapL D l) (hD : Maps.Tidy D) (hs : l.Pairwise En.lt) {P k : Nat} {v : Int} (hP : P < 2 ^ 128) (hk : k ≤ 128) : MapL (D.put (pfKey P k) (.lit (.int .i64 v))) (putL l P k v) := by
  refine ⟨?_, fun P' k' h1 h2 => ?_, fun P' k' u h1 h2 e => ?_⟩
  · rw [Maps.size_put hD, putL_len hs, h.has P k hP hk, h.size]
  · by_cases c : P' = P ∧ k' = k
    · rw [c.1, c.2, getL_put_same hs, Maps.has_put_same hD.isMap (pfKey_lit hP hk)]; rfl
    · rw [getL_put_other c, Maps.has_put_other (fun e => c (pfKey_inj h1 h2 hP hk e)), h.has P' k' h1 h2]
  · by_cases c : P' = P ∧ k' = k
    · rw [c.1, c.2, getL_put_same hs] at e
      rw [c.1, c.2, Maps.atKey_put_same hD.isMap (pfKey_lit hP hk), Option.some.inj e]
    · rw [getL_put_other c] at e
      rw [Maps.atKey_put_other (fun e => c (pfKey_inj h1 h2 hP hk e)), h.val P' k' u h1 h2 e]

/-- the call's own map in block B is the list's -/
def MapIs (x : World) (B n : Nat) (l : List En) : Prop := ∃ D : DataW Unit, x.ownsMap Tryz.prog 24 (plainElem Tryz.prog 3) B n D ∧ MapL D l
theorem MapIs.lt {x : World} {B n : Nat} {l : List En} (h : MapIs x B n l) : B < x.heap.size := by obtain ⟨D, h1, _⟩ := h; exact h1.lt
theorem MapIs.same {x y : World} {B n : Nat} {l : List En} (h : MapIs x B n l) (he : y.heap[B]? = x.heap[B]?) : MapIs y B n l := by
  obtain ⟨D, ⟨es, clock, hb, r⟩, h2⟩ := h
  exact ⟨D, ⟨es, clock, he.trans hb, r⟩, h2⟩
theorem mapIs_made (x : World) : MapIs (x.alloc (.map #[] 0)) x.heap.size 0 [] := ⟨_, World.ownsMap_made _ _ _ _, mapL_nil⟩

end Go.Proofs.YthdcldkcmnpkiaaGreatDoor
