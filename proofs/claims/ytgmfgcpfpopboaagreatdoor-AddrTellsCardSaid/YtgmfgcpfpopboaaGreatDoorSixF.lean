/-
  Append of noughts, and of a row that may be nil, onto a row of the call's own.
-/
import Derived.Test.YtgmfgcpfpopboaaGreatDoorSixE
import Derived.Lib.AppendZerosOnto
namespace Go.Proofs.YtgmfgcpfpopboaaGreatDoor
open Go.RowKit


theorem zeroCells_one (k : IntKind) (n : Nat) : Builtin.zeroCells (Value.int k 0).cells n = (List.replicate n (Value.int k 0)).toArray := by
  unfold Builtin.zeroCells
  have e : (Value.int k 0).cells = #[.int k 0] := rfl
  rw [e]
  apply Array.ext'
  simp only [Array.toList_map]
  apply List.ext_getElem
  · simp
  · intro i h1 h2
    simp [Nat.mod_one]

/-- the new row that a growing append of noughts makes -/
theorem own_zeros (w : World) (base : Nat) (e : TypeId) (kd : IntKind) (n k cap0 : Nat) (xs : List Value) (hxs : xs.length = n) (h63 : n + k ≤ maxLen) (hbase : base ≤ w.heap.size) :
    (w.drew.alloc (.cells (xs.toArray ++ Builtin.zeroCells (Value.int kd 0).cells k ++ Builtin.zeroCells (Value.int kd 0).cells (grownCap w (n + k) cap0 e - (n + k))) e)).ownsRow base e 1
      (.slice (some ⟨w.heap.size, 0, none⟩) (n + k) (grownCap w (n + k) cap0 e)) (n + k) (xs ++ List.replicate k (.int kd 0)) := by
  have hge := grownCap_ge w (n + k) cap0 e
  have hcm := grownCap_le_maxLen w (n + k) cap0 e h63
  refine ⟨by rw [List.length_append, List.length_replicate, hxs, Nat.mul_one], .inr ⟨w.heap.size, _, _, rfl, hbase, heap_alloc_new w.drew _, hge, hcm, ?_, ?_⟩⟩
  · simp only [Array.size_append, List.size_toArray, zeroCells_one, List.length_replicate, hxs]; omega
  · rw [zeroCells_one, zeroCells_one]
    simp only [Array.toList_append, Nat.mul_one]
    rw [show n + k = (xs ++ List.replicate k (Value.int kd 0)).length from by rw [List.length_append, List.length_replicate, hxs]]
    exact List.take_left

theorem run_append_zeros_own {P : Program} (w : World) (base : Nat) (t tn ty e : TypeId) (i : TypeInfo) (kd kn kq : IntKind) (bytes : Nat) (ht : P.underlying t = some (.slice e)) (htn : P.underlying tn = some (.int kn)) (hi : P.info? e = some i)
    (hz : i.zero = some (.int kd 0)) (hsize : i.size = 1) (hby : i.bytes = bytes) (v : Value) (n : Nat) (xs : List Value) (hown : w.ownsRow base e 1 v n xs) (k : Nat) (h0 : 0 < k)
    (h63 : n + k ≤ maxLen) (hbytes : (n + k) * bytes ≤ 140737488355328) (hbase : base ≤ w.heap.size) :
    ∃ v' w', (Builtin.append_ #[t, tn] ty #[v, .int kq k]).run P w = .ok v' w' ∧ w'.ownsRow base e 1 v' (n + k) (xs ++ List.replicate k (.int kd 0)) ∧ Below base w w' ∧ w.grownBy w' v.ownBlock := by
  subst hby
  have hsmall : n + k ≤ 9223372036854775807 := by simp only [maxLen] at h63; omega
  have hxs : xs.length = n := by have := hown.1; omega
  have hkb : k * i.bytes ≤ 281474976710656 := by
    have : k * i.bytes ≤ (n + k) * i.bytes := Nat.mul_le_mul_right _ (by omega)
    omega
  rcases hown.2 with ⟨rfl, rfl⟩ | ⟨g, cap, cur, rfl, hbg, hg, hnc, hcm, hcs, htake⟩
  · have hx : xs = [] := List.eq_nil_of_length_eq_zero hxs
    subst hx
    have hr := Lib.run_append_nil_zeros (P := P) w t tn ty e i (.int kd 0) kq kn ht htn hi hz k h0 (by omega) (by omega) hkb
    have ho := own_zeros w base e kd 0 k 0 [] rfl h63 hbase
    simp only [Nat.zero_add, Array.empty_append] at ho ⊢
    exact ⟨_, _, hr, ho, (Below.refl _ _).drew.alloc hbase _, ⟨rfl, rfl, rfl, by simp, fun j hj _ => Below.heap_alloc w.drew _ j hj⟩⟩
  · by_cases hroom : n + k ≤ cap
    · have hfit : n + (List.replicate k (Value.int kd 0)).length ≤ cur.size := by rw [List.length_replicate, hcs]; omega
      have hst := run_storeCells_at P g (n * 1) e (List.replicate k (Value.int kd 0)) 0 cur w hg (by simpa using hfit) (fun u hu => by rw [(List.mem_replicate.1 hu).2]; rfl)
      simp only [Nat.add_zero] at hst
      have hw : IntKind.i64.wrap (k : Int) = k := by rw [IntKind.wrap_i64]; omega
      have h48i : ¬ (281474976710656 < (k : Int) * (i.bytes : Int)) := by
        rw [← Int.natCast_mul]
        omega
      have hneg : ¬ ((k : Int) < 0) := by omega
      have hns : ¬ (k = 0) := by omega
      have hrun : (Builtin.append_ #[t, tn] ty #[.slice (some ⟨g, 0, none⟩) n cap, .int kq k]).run P w = .ok (.slice (some ⟨g, 0, none⟩) (n + k) cap) (w.setRow g (cur.toList.take (n * 1) ++ List.replicate k (Value.int kd 0) ++ cur.toList.drop (n * 1 + (List.replicate k (Value.int kd 0)).length)).toArray) := by
        simp only [Nat.mul_one] at hst ⊢
        simp [Builtin.append_, run_underlying ht, run_underlying htn, sizeOf, typeInfo, zeroValue, hi, hz, hsize, asInt, asIntOf, hw, hneg, hns, h48i, hroom, Addr.add_lit, zeroCells_one]
        simpa using congrArg (fun r => Result.andThen r fun _ w' => Result.ok (Value.slice (some ⟨g, 0, none⟩) (n + k) cap) w') hst
      refine ⟨_, _, hrun, ⟨by rw [List.length_append, List.length_replicate, hxs, Nat.mul_one], .inr ⟨g, cap, _, rfl, hbg, setRow_heap w g cur _ e _ hg, hroom, hcm, ?_, ?_⟩⟩, below_setRow (Below.refl _ _) hbg _, ⟨rfl, rfl, rfl, by simp, fun j _ hj => setRow_other w g j _ (fun e => hj (by simp [Value.ownBlock, e]))⟩⟩
      · simp only [List.size_toArray, List.length_append, List.length_take, List.length_drop, Array.length_toList, List.length_replicate]
        omega
      · simp only [Nat.mul_one] at htake ⊢
        rw [htake, show n + k = (xs ++ List.replicate k (Value.int kd 0)).length from by rw [List.length_append, List.length_replicate, hxs]]
        exact List.take_left
    · have holds : ∀ j u, xs[j]? = some u → w.cell? ((⟨g, 0, none⟩ : Addr).add j) = some u := hown.cells (g := g) rfl
      have hold : (Builtin.firstCells i.size n (.slice (some ⟨g, 0, none⟩) n cap)).run P w.drew = .ok xs.toArray w.drew := run_firstCells_some w.drew i.size n ⟨g, 0, none⟩ n cap xs (by rw [hsize]; omega) (by simpa using holds)
      have hr := Lib.run_append_grow_zeros (P := P) w t tn ty e i (.int kd 0) kq kn ht htn hi hz (some ⟨g, 0, none⟩) n cap xs hold k h0 (by omega) (by omega) (by omega) hkb (growslice_fits (by omega) hbytes)
      exact ⟨_, _, hr, own_zeros w base e kd n k cap xs hxs h63 hbase, (Below.refl _ _).drew.alloc hbase _, ⟨rfl, rfl, rfl, by simp, fun j hj _ => Below.heap_alloc w.drew _ j hj⟩⟩

theorem wp_append_zeros {P : Program} (w : World) {ops : Array Oper} {rest : List Oper} {o : Oper} {a : Act} {Q : Exit → Act → World → Prop} (hgd : o.guard = none) (s x : Operand) (t tn : TypeId)
    (ho : o.op = .call { callee := .builtin .append, args := #[s, x], argTypes := #[t, tn] })
    (base : Nat) (e : TypeId) (i : TypeInfo) (kd kn kq : IntKind) (bytes : Nat) (ht : P.underlying t = some (.slice e)) (htn : P.underlying tn = some (.int kn)) (hi : P.info? e = some i) (hz : i.zero = some (.int kd 0)) (hsize : i.size = 1) (hby : i.bytes = bytes)
    (v : Value) (n : Nat) (xs : List Value) (hs : a.eval s = v) (hown : w.ownsRow base e 1 v n xs) (k : Nat) (hx : a.eval x = .int kq k) (h0 : 0 < k)
    (h63 : n + k ≤ maxLen) (hbytes : (n + k) * bytes ≤ 140737488355328) (hbase : base ≤ w.heap.size)
    (h : ∀ v' w', w'.ownsRow base e 1 v' (n + k) (xs ++ List.replicate k (.int kd 0)) → Below base w w' → w.grownBy w' v.ownBlock → wpList P ops Q rest (a.put o.dst v') w') : wpList P ops Q (o :: rest) a w := by
  obtain ⟨v', w', hr, h2, h3, h4⟩ := run_append_zeros_own (P := P) w base t tn o.type e i kd kn kq bytes ht htn hi hz hsize hby v n xs hown k h0 h63 hbytes hbase
  exact Lib.wpList_append_run w hgd s x t tn ho _ _ hs hx v' w' hr (h v' w' h2 h3 h4)

/-- append of a row of cells, which may be none, onto a row of the call's own -/
theorem wp_append_row {P : Program} (w : World) {ops : Array Oper} {rest : List Oper} {o : Oper} {a : Act} {Q : Exit → Act → World → Prop} (hgd : o.guard = none) (s x : Operand) (t : TypeId)
    (ho : o.op = .call { callee := .builtin .append, args := #[s, x], argTypes := #[t, t] })
    (base : Nat) (e : TypeId) (i : TypeInfo) (z : Value) (bytes : Nat) (ht : P.underlying t = some (.slice e)) (hi : P.info? e = some i) (hz : i.zero = some z)
    (hsize : i.size = 1) (hby : i.bytes = bytes) (hzs : z.cells.size = 1)
    (v : Value) (n : Nat) (xs : List Value) (hs : a.eval s = v) (hown : w.ownsRow base e 1 v n xs) (vx : Value) (ys : List Value) (hx : a.eval x = vx) (hrow : RowR w vx ys) (h1 : ∀ u ∈ ys, u.oneCell' = true)
    (hn0 : 0 < n) (h63 : n + ys.length ≤ maxLen) (hbytes : (n + ys.length) * bytes ≤ 140737488355328) (hbase : base ≤ w.heap.size)
    (h : ∀ v' w', w'.ownsRow base e 1 v' (n + ys.length) (xs ++ ys) → Below base w w' → wpList P ops Q rest (a.put o.dst v') w') : wpList P ops Q (o :: rest) a w := by
  obtain ⟨ao, c, rfl, hc⟩ := hrow
  cases ys with
  | nil =>
    rcases hown.2 with ⟨_, h0⟩ | ⟨g, cap, cur, rfl, hbg, hg, hnc, hcm, hcs, htake⟩
    · omega
    · have hrun : (Builtin.append_ #[t, t] o.type #[.slice (some ⟨g, 0, none⟩) n cap, .slice ao ([] : List Value).length c]).run P w = .ok (.slice (some ⟨g, 0, none⟩) n cap) w := by
        cases ao with
        | none => simp [Builtin.append_, run_underlying ht, sizeOf, typeInfo, hi, Builtin.lenOf, Builtin.firstCells, hnc, Addr.add_lit, storeCells]
        | some ad => simp [Builtin.append_, run_underlying ht, sizeOf, typeInfo, hi, Builtin.lenOf, Builtin.firstCells, loadCells, loadCellsFrom, hnc, Addr.add_lit, storeCells]
      refine Lib.wpList_append_run w hgd s x t t ho _ _ hs hx _ _ hrun (h _ _ ?_ (Below.refl _ _))
      simpa using hown
  | cons y ys =>
    obtain ⟨ad, rfl, _⟩ := hc 0 y rfl
    refine wpList_append_own w hgd s x t ho base e i z 1 bytes ht hi hz hsize hby hzs (by decide) v n xs hs hown ad (y :: ys).length c (y :: ys) hx (by rw [Nat.mul_one]) (fun j u hj => ?_) h1 h63 hbytes hbase ?_
    · obtain ⟨ad2, ha, hx⟩ := hc j u hj
      cases ha
      exact hx
    · intro v' w1 hown' hgrow _
      exact h v' w1 hown' ((Below.refl base w).grown hgrow hbase (fun k hk => (hown.lt k hk).1))
end Go.Proofs.YtgmfgcpfpopboaaGreatDoor
