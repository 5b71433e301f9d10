/-
  What the law PolicyTells leans on, and its walk (14 of 16).
-/
import Derived.Deep.DeepCutAuto
import Derived.Test.YtoobiaifogackaaGreatDoorPolicyTellsPkK
import Derived.Test.YtoobiaifogackaaGreatDoorPolicyTellsPkJ
import Derived.Test.YtoobiaifogackaaGreatDoorPolicyTellsPkM
import Derived.Test.YtoobiaifogackaaGreatDoorPolicyTellsPkO
namespace Go.Proofs.YtoobiaifogackaaGreatDoor
section
open Go.RowKit
def clI (x : Int) : List Value := [.int .i64 x]
theorem clI_len (x : Int) : (clI x).length = 1 := rfl
theorem infoI : (Tryz.prog.info? 3).map (fun i => (i.zero, i.size, i.bytes)) = some (some (.int .i64 0), 1, 8) := by kernel_rfl
theorem flatI (l : List Int) : l.flatMap clI = l.map (Value.int .i64) := by
  induction l with
  | nil => rfl
  | cons x l ih => rw [List.flatMap_cons, ih]; rfl
theorem eqNil_some (ad : Addr) (n c : Nat) : ∀ W : World, (binOp .eql 59 (.slice (some ad) n c) (.slice none 0 0)).run Tryz.prog W = .ok (.bool false) W := by
  intro W; kernel_rfl
theorem eqNil_none (n c : Nat) : ∀ W : World, (binOp .eql 59 (.slice none n c) (.slice none 0 0)).run Tryz.prog W = .ok (.bool true) W := by
  intro W; kernel_rfl
set_option maxRecDepth 100000 in
set_option maxHeartbeats 1000000 in
theorem clone10_any (pa : Option Addr) (pc : Nat) (ps : List Int) (w : World) (hp : IsIRow w pa ps.length pc ps) (hl : ps.length ≤ 1000000) :
    Calls Tryz.prog 60 #[.slice pa ps.length pc] w fun e w' => ∃ v, e = .returned v ∧ OwnX 3 1 clI w' w.heap.size v ps ∧ Below w.heap.size w w' := by
  have HPO := Lib.hid hp
  clear hp
  cases pa with
  | none =>
    have h0 : ps = [] := by
      cases ps with
      | nil => rfl
      | cons x l => obtain ⟨⟨ad, e, _⟩, _⟩ := HPO.out.2 0 x rfl; cases e
    subst h0
    have hq := eqNil_none 0 pc
    go_enter Tryz.func60, Tryz.ntmps60
    go_wp2
    go_ret
    exact ⟨_, rfl, OwnX.nil _ _, Below.refl _ _⟩
  | some ad =>
    obtain ⟨i0, hi0, hz0, hz1, hz2⟩ := info_parts' infoI
    have hq := eqNil_some ad ps.length pc
    go_enter Tryz.func60, Tryz.ntmps60
    have hb0 : Below w.heap.size w (w.alloc (.cells #[] 3)) := (Below.refl _ _).alloc (Nat.le_refl _) _
    have hown : (w.alloc (.cells #[] 3)).ownsRow w.heap.size 3 1 (.slice (some ⟨w.heap.size, 0, none⟩) 0 0) 0 [] := ⟨rfl, .inr ⟨w.heap.size, 0, #[], rfl, Nat.le_refl _, Go.Deep.blk_alloc_new _ _, Nat.le_refl _, by decide, rfl, rfl⟩⟩
    have hnews : ∀ (j : Nat) (u : Value), (ps.map (Value.int .i64))[j]? = some u → (w.alloc (.cells #[] 3)).cell? (ad.add j) = some u := fun j u hu => by
      rw [List.getElem?_map, Option.map_eq_some_iff] at hu
      obtain ⟨x, hx, rfl⟩ := hu
      obtain ⟨⟨ad', e, hc⟩, _⟩ := (HPO.out.keep hb0).2 j x hx
      obtain rfl := Option.some.inj e
      exact hc
    have hone : ∀ u ∈ ps.map (Value.int .i64), u.oneCell' = true := fun u hu => by
      obtain ⟨x, _, rfl⟩ := List.mem_map.1 hu
      rfl
    have hlm : (ps.map (Value.int .i64)).length = ps.length * 1 := by simp
    go_wp2_with (first
      | (at_builtin; refine wpList_append_own _ rfl _ _ 59 rfl w.heap.size 3 i0 (.int .i64 0) 1 8 Tryz.underlying59 hi0 hz0 hz1 hz2 rfl (by decide) (.slice (some ⟨w.heap.size, 0, none⟩) 0 0) 0 [] rfl hown ad ps.length pc (ps.map (Value.int .i64)) rfl hlm hnews hone (by unfold maxLen; omega) (by omega) hb0.size ?_; intro s1 w1 hown1 hgrow1 _)
      | go_in)
    go_ret
    refine ⟨_, rfl, ?_, hb0.grown hgrow1 hb0.size (fun k hk => ?_)⟩
    · unfold OwnX
      rw [flatI]
      simpa using hown1
    · simp only [Value.ownBlock, Option.some.injEq] at hk
      omega
set_option maxHeartbeats 1000000 in
theorem verdict10_any (x : Ru) (w : World) :
    Calls Tryz.prog 61 #[.agg #[.int .u64 (x.hi : Nat), .int .u64 (x.lo : Nat), .int .i64 x.k, .bool x.a]] w fun e w' => e = .returned (.int .i64 x.v) ∧ Below w.heap.size w w' := by
  cases ha : x.a with
  | true =>
    rw [show x.v = 1 from by unfold Ru.v; rw [ha]; rfl]
    go_enter Tryz.func61, Tryz.ntmps61
    go_wp2
    go_ret
    exact ⟨rfl, (Below.refl _ _).alloc (Nat.le_refl _) _⟩
  | false =>
    rw [show x.v = 0 from by unfold Ru.v; rw [ha]; rfl]
    go_enter Tryz.func61, Tryz.ntmps61
    go_wp2
    go_ret
    exact ⟨rfl, (Below.refl _ _).alloc (Nat.le_refl _) _⟩
end

section
open Go.RowKit
theorem OwnX.block {X : Type} {t : TypeId} {s : Nat} {cl : X → List Value} {x : World} {base : Nat} {v : Value} {l : List X} (h : OwnX t s cl x base v l) {b : Nat} (hb : v.ownBlock = some b) : ∃ c, x.heap[b]? = some (.cells c t) := by
  rcases h.2 with ⟨e, _⟩ | ⟨g, cap, cur, e, _, hg, _⟩
  · rw [e] at hb; cases hb
  · rw [e] at hb
    simp only [Value.ownBlock, Option.some.injEq] at hb
    exact ⟨cur, hb ▸ hg⟩
theorem OwnX.setOther {X : Type} {t : TypeId} {s : Nat} {cl : X → List Value} {x : World} {base : Nat} {v : Value} {l : List X} (h : OwnX t s cl x base v l) {gp : Nat} {c : Array Value} {t' : TypeId} (hb : x.heap[gp]? = some (.cells c t')) (ht : t' ≠ t) (i : Nat) (u : Value) : OwnX t s cl (x.setCell ⟨gp, i, none⟩ u) base v l :=
  h.same fun b hv => set_other (b := b) (b' := gp) (fun e => h.other hb ht (by rw [← e]; exact hv)) _ _
theorem OwnX.grownOther {X Y : Type} {t t2 : TypeId} {s s2 : Nat} {cl : X → List Value} {cl2 : Y → List Value} {y z : World} {base base2 : Nat} {v v2 : Value} {l : List X} {l2 : List Y} (h : OwnX t s cl y base v l) (h2 : OwnX t2 s2 cl2 y base2 v2 l2) (hg : y.grownBy z v2.ownBlock) (ht : t ≠ t2) : OwnX t s cl z base v l :=
  h.same fun b hv => by
    obtain ⟨c, hc⟩ := h.block hv
    exact hg.block b (block_lt hc) (fun e => h2.other hc ht e.symm)
/-- a policy under way -/
structure PS (w x : World) (base gp : Nat) (rv pv : Value) (rs : List Ru) (ps : List Int) (bare : Bool) : Prop where
  below : Below base w x
  blk : x.heap[gp]? = some (.cells #[rv, pv, .bool bare] 61)
  rows : OwnX 99 4 Ru.cl x base rv rs
  ports : OwnX 3 1 clI x base pv ps
  gpb : base ≤ gp
  size : base ≤ x.heap.size
theorem tyPR : 61 ≠ 99 := by decide
theorem tyPI : 61 ≠ 3 := by decide
theorem tyRI : 99 ≠ 3 := by decide
theorem tyIR : 3 ≠ 99 := by decide
theorem PS.keep {w x y : World} {base gp : Nat} {rv pv : Value} {rs : List Ru} {ps : List Int} {bare : Bool} (h : PS w x base gp rv pv rs ps bare) (hb : Below x.heap.size x y) : PS w y base gp rv pv rs ps bare :=
  ⟨h.below.trans (hb.mono h.size), (hb.block gp (block_lt h.blk)).trans h.blk, h.rows.keep hb, h.ports.keep hb, h.gpb, Nat.le_trans h.size hb.size⟩
theorem PS.bare {w x : World} {base gp : Nat} {rv pv : Value} {rs : List Ru} {ps : List Int} {bare : Bool} (h : PS w x base gp rv pv rs ps bare) : PS w (x.setCell ⟨gp, 2, none⟩ (.bool true)) base gp rv pv rs ps true :=
  ⟨h.below.setCell (p := ⟨gp, 2, none⟩) h.gpb _, set_row h.blk 2 _, h.rows.setOther h.blk tyPR 2 _, h.ports.setOther h.blk tyPI 2 _, h.gpb, by rw [show (x.setCell ⟨gp, 2, none⟩ (.bool true)).heap.size = x.heap.size by simp [World.setCell]]; exact h.size⟩
theorem PS.port {w x y z : World} {base gp : Nat} {rv pv pv' : Value} {rs : List Ru} {ps : List Int} {bare : Bool} {n : Int} (h : PS w x base gp rv pv rs ps bare) (hb : Below x.heap.size x y) (hg : y.grownBy z pv.ownBlock) (hr : z.ownsRow base 3 1 pv' (ps.length + 1) (ps.flatMap clI ++ clI n)) : PS w (z.setCell ⟨gp, 1, none⟩ pv') base gp rv pv' rs (ps ++ [n]) bare := by
  have h1 := h.keep hb
  have h2 : Below base y z := (Below.refl base y).grown hg h1.size (fun k hk => (World.ownsRow.lt h1.ports k hk).1)
  have hbz : z.heap[gp]? = some (.cells #[rv, pv, .bool bare] 61) := (hg.block gp (block_lt h1.blk) (fun e => h1.ports.other h1.blk tyPI e.symm)).trans h1.blk
  refine ⟨(h1.below.trans h2).setCell (p := ⟨gp, 1, none⟩) h.gpb _, set_row hbz 1 _, (h1.rows.grownOther h1.ports hg tyRI).setOther hbz tyPR 1 _, (OwnX.snoc hr : OwnX _ _ _ _ _ _ (ps ++ [n])).setOther hbz tyPI 1 _, h.gpb, ?_⟩
  rw [show (z.setCell ⟨gp, 1, none⟩ pv').heap.size = z.heap.size by simp [World.setCell]]
  exact Nat.le_trans h1.size h2.size
theorem PS.rule {w x y z : World} {base gp : Nat} {rv rv' pv : Value} {rs : List Ru} {ps : List Int} {bare : Bool} {r : Ru} (h : PS w x base gp rv pv rs ps bare) (hb : Below x.heap.size x y) (hg : y.grownBy z rv.ownBlock) (hr : z.ownsRow base 99 4 rv' (rs.length + 1) (rs.flatMap Ru.cl ++ r.cl)) : PS w (z.setCell ⟨gp, 0, none⟩ rv') base gp rv' pv (rs ++ [r]) ps bare := by
  have h1 := h.keep hb
  have h2 : Below base y z := (Below.refl base y).grown hg h1.size (fun k hk => (World.ownsRow.lt h1.rows k hk).1)
  have hbz : z.heap[gp]? = some (.cells #[rv, pv, .bool bare] 61) := (hg.block gp (block_lt h1.blk) (fun e => h1.rows.other h1.blk tyPR e.symm)).trans h1.blk
  refine ⟨(h1.below.trans h2).setCell (p := ⟨gp, 0, none⟩) h.gpb _, set_row hbz 0 _, (OwnX.snoc hr : OwnX _ _ _ _ _ _ (rs ++ [r])).setOther hbz tyPR 0 _, (h1.ports.grownOther h1.rows hg tyIR).setOther hbz tyPI 0 _, h.gpb, ?_⟩
  rw [show (z.setCell ⟨gp, 0, none⟩ rv').heap.size = z.heap.size by simp [World.setCell]]
  exact Nat.le_trans h1.size h2.size
/-- rows of strings are as they were -/
def KeptS (x y : World) : Prop := ∀ (b : Nat) (c : Array Value), x.heap[b]? = some (.cells c 9) → y.heap[b]? = some (.cells c 9)
theorem KeptS.below {x y : World} (hb : Below x.heap.size x y) : KeptS x y := fun b _ h => (hb.block b (block_lt h)).trans h
theorem KeptS.trans {x y z : World} (h : KeptS x y) (k : KeptS y z) : KeptS x z := fun b c q => k b c (h b c q)
theorem tySR : 9 ≠ 99 := by decide
theorem tyPS : 61 ≠ 9 := by decide
theorem KeptS.grown {X : Type} {t : TypeId} {s : Nat} {cl : X → List Value} {y z : World} {base : Nat} {v : Value} {l : List X} (h : OwnX t s cl y base v l) (hg : y.grownBy z v.ownBlock) (ht : 9 ≠ t) : KeptS y z := fun b _ q => (hg.block b (block_lt q) (fun e => h.other q ht e.symm)).trans q
theorem KeptS.set {z : World} {gp : Nat} {c : Array Value} (h : z.heap[gp]? = some (.cells c 61)) (i : Nat) (u : Value) : KeptS z (z.setCell ⟨gp, i, none⟩ u) := fun b d q =>
  (set_other (b := b) (b' := gp) (fun e => by
    rw [e, h] at q
    injection q with q
    injection q with _ q
    exact tyPS q) _ _).trans q
theorem infoU : (Tryz.prog.info? 99).map (fun i => (i.zero, i.size, i.bytes)) = some (some (.agg #[.int .u64 0, .int .u64 0, .int .i64 0, .bool false]), 4, 32) := by kernel_rfl
/-! lines -/
theorem ix_none {c : UInt8} : ∀ {l : List UInt8}, c ∉ l → Lib.index l [c] = -1
  | [], _ => rfl
  | x :: l, h => by
    have hc : ¬ x = c := fun e => h (e ▸ List.mem_cons_self ..)
    have ih := ix_none (l := l) (fun g => h (List.mem_cons_of_mem _ g))
    have hc' : ¬ c = x := fun e => hc e.symm
    unfold Lib.index
    rw [ih]
    simp [List.isPrefixOf, hc']
theorem ix_some {c : UInt8} : ∀ {a : List UInt8} (d : List UInt8), c ∉ a → Lib.index (a ++ c :: d) [c] = a.length
  | [], d, _ => by
    show Lib.index (c :: d) [c] = _
    unfold Lib.index; simp [List.isPrefixOf]
  | x :: a, d, h => by
    have hc : ¬ x = c := fun e => h (e ▸ List.mem_cons_self ..)
    have ih := ix_some (a := a) d (fun g => h (List.mem_cons_of_mem _ g))
    show Lib.index (x :: (a ++ c :: d)) [c] = _
    unfold Lib.index
    rw [ih]
    have h1 : (([c] : List UInt8).isPrefixOf (x :: (a ++ c :: d))) = false := by
      have hc' : ¬ c = x := fun e => hc e.symm
      simp [List.isPrefixOf, hc']
    have h2 : ((a.length : Int) == -1) = false := by rw [beq_eq_false_iff_ne]; omega
    rw [h1, h2]
    simp
theorem at_parts (c : UInt8) (l : List UInt8) : c ∉ l ∨ ∃ a d, l = a ++ c :: d ∧ c ∉ a := by
  induction l with
  | nil => exact .inl (by simp)
  | cons x l ih =>
    by_cases hc : x = c
    · exact .inr ⟨[], l, by rw [hc]; rfl, by simp⟩
    · rcases ih with h | ⟨a, d, e, h⟩
      · exact .inl (fun g => by rcases List.mem_cons.1 g with q | q; exact hc q.symm; exact h q)
      · exact .inr ⟨x :: a, d, by rw [e]; rfl, fun g => by rcases List.mem_cons.1 g with q | q; exact hc q.symm; exact h q⟩
theorem hasB_one (c x : UInt8) : hasB [c] x = decide (x = c) := by
  unfold hasB
  rw [Bool.eq_iff_iff, decide_eq_true_iff]; simp only [List.any_cons, List.any_nil, Bool.or_false, beq_iff_eq]
  exact ⟨fun e => e.symm, fun e => e.symm⟩
theorem sp_none {c : UInt8} {l : List UInt8} (h : c ∉ l) : splitB (hasB [c]) l = [l] := by
  unfold splitB spl
  rw [spl_plain _ l [] (fun x hx => by rw [hasB_one, decide_eq_false_iff_not]; exact fun e => h (e ▸ hx))]
  simp
theorem sp_some {c : UInt8} {a : List UInt8} (d : List UInt8) (h : c ∉ a) : splitB (hasB [c]) (a ++ c :: d) = a :: splitB (hasB [c]) d := by
  unfold splitB spl
  rw [List.foldl_append, spl_plain _ a [] (fun x hx => by rw [hasB_one, decide_eq_false_iff_not]; exact fun e => h (e ▸ hx)), List.foldl_cons]
  have : splStep (hasB [c]) ([], [] ++ a) c = ([a] ++ [], []) := by unfold splStep; simp [hasB_one]
  rw [this, spl_more]
  simp
theorem split_is (c : UInt8) : ∀ (n : Nat) (l : List UInt8), l.length ≤ n → Lib.splitK [c] 0 (Lib.count l [c]) l = splitB (hasB [c]) l := fun n => by
  induction n with
  | zero =>
    intro l hl
    have : l = [] := List.eq_nil_of_length_eq_zero (by omega)
    subst this
    rw [Lib.count_miss (ix_none (by simp)), sp_none (by simp)]; rfl
  | succ n ih =>
    intro l hl
    rcases at_parts c l with h | ⟨a, d, rfl, h⟩
    · rw [Lib.count_miss (ix_none h), sp_none h]; rfl
    · have hd : (a ++ c :: d).drop (a.length + [c].length) = d := by
        rw [show a ++ c :: d = (a ++ [c]) ++ d from by simp, List.drop_left' (by simp)]
      rw [Lib.count_hit (by simp) (ix_some d h), hd, sp_some d h, Nat.add_comm 1, Lib.splitK, ix_some d h]
      have h2 : ((a.length : Int) == -1) = false := by rw [beq_eq_false_iff_ne]; omega
      rw [h2]
      simp only [Int.toNat_natCast, Nat.add_zero]
      rw [hd, ih d (by simp at hl; omega)]
      simp
theorem strs_of : ∀ {l : List ByteArray} {m : List (List UInt8)}, l.map (·.data.toList) = m → l.map Value.string = strCs m
  | [], [], _ => rfl
  | [], _ :: _, h => by cases h
  | _ :: _, [], h => by cases h
  | x :: l, y :: m, h => by
    rw [List.map_cons] at h
    obtain ⟨h1, h2⟩ := List.cons.inj h
    rw [List.map_cons, strs_of h2]
    show _ = strC y :: strCs m
    congr 1
    show Value.string x = .string ⟨y.toArray⟩
    congr 1
    apply ByteArray.ext
    apply Array.ext'
    rw [h1]
theorem lines_any (s : ByteArray) (w : World) (hs : s.size ≤ 1073741824) (hmax : MaxVar w) :
    Calls Tryz.prog 67 #[.string s, .string ⟨#[10]⟩] w fun e w' => e = .returned (.slice (some ⟨w.heap.size, 0, none⟩) (splitB (hasB [10]) s.data.toList).length (splitB (hasB [10]) s.data.toList).length) ∧ w' = w.alloc (.cells (strCs (splitB (hasB [10]) s.data.toList)).toArray 9) := by
  obtain ⟨m, hm⟩ := hmax
  have h := Tryz.strings_Split s ⟨#[10]⟩ m w (by omega) hm (by decide)
  have e1 : (Lib.splitB ⟨#[10]⟩ 0 (Lib.countB s ⟨#[10]⟩) s).map (·.data.toList) = splitB (hasB [10]) s.data.toList := by
    rw [Lib.splitB_data]; exact split_is 10 _ _ (Nat.le_refl _)
  have e2 := congrArg List.length e1
  rw [List.length_map, Lib.splitB_all ⟨#[10]⟩ (by decide) 0 _ s rfl] at e2
  rw [strs_of e1, e2] at h
  exact h
end

section
open Go.RowKit
/-- a policy's parts -/
structure Pl where
  rs : List Ru
  ps : List Int
  bare : Bool
def maxI : Int := 9223372036854775807
def ruOf (W k : Nat) (a : Bool) : Ru := ⟨hiN W, loN W, k, a⟩
theorem own_form {w : World} {base : Nat} {t : TypeId} {s n : Nat} {v : Value} {xs : List Value} (h : w.ownsRow base t s v n xs) : ∃ a c, v = .slice a n c := by
  rcases h.2 with ⟨e, hn⟩ | ⟨g, cap, cur, e, _⟩
  · exact ⟨_, _, by rw [e, hn]⟩
  · exact ⟨_, _, e⟩
theorem tySI : 9 ≠ 3 := by decide
theorem tyQR : 37 ≠ 99 := by decide
theorem below_drewA (x : World) (o : Obj) : Below x.heap.size x (x.alloc o).drew := (((Below.refl _ _).alloc (Nat.le_refl _) o)).drew
set_option maxRecDepth 100000 in
set_option maxHeartbeats 1000000 in
theorem takePort_no (w x : World) (base gp : Nat) (rv pv : Value) (rs : List Ru) (ps : List Int) (bare : Bool) (s : ByteArray) (n : Int) (h : PS w x base gp rv pv rs ps bare) (hs : s.size ≤ 1073741824) (hd : decZ s.data.toList maxI = (n, false)) :
    Calls Tryz.prog 96 #[.pointer (some ⟨gp, 0, none⟩), .string s] x fun e x' => e = .returned (.bool false) ∧ PS w x' base gp rv pv rs ps bare ∧ KeptS x x' := by
  have HS := Lib.hid h
  have HD := Lib.hid (decimal_any s maxI x hs (by decide) (by decide))
  rw [hd] at HD
  clear h hd
  unfold maxI at HD
  go_enter Tryz.func96, Tryz.ntmps96
  go_wp2_with fail
  refine HD.out.mono ?_
  rintro e x1 ⟨rfl, hb1⟩
  go_wp2
  go_ret
  exact ⟨rfl, HS.out.keep hb1, KeptS.below hb1⟩
set_option maxRecDepth 100000 in
set_option maxHeartbeats 1000000 in
theorem takePort_yes (w x : World) (base gp : Nat) (rv pv : Value) (rs : List Ru) (ps : List Int) (bare : Bool) (s : ByteArray) (n : Int) (h : PS w x base gp rv pv rs ps bare) (hs : s.size ≤ 1073741824) (hd : decZ s.data.toList maxI = (n, true)) (hl : ps.length ≤ 1000000) :
    Calls Tryz.prog 96 #[.pointer (some ⟨gp, 0, none⟩), .string s] x fun e x' => ∃ pv', e = .returned (.bool true) ∧ PS w x' base gp rv pv' rs (ps ++ [n]) bare ∧ KeptS x x' := by
  have HS := Lib.hid h
  have HD := Lib.hid (decimal_any s maxI x hs (by decide) (by decide))
  rw [hd] at HD
  clear h hd
  unfold maxI at HD
  obtain ⟨i0, hi0, hz0, hz1, hz2⟩ := info_parts' infoI
  obtain ⟨pa, pc, rfl⟩ := HS.out.ports.form
  go_enter Tryz.func96, Tryz.ntmps96
  go_wp2_with fail
  refine HD.out.mono ?_
  rintro e x1 ⟨rfl, hb1⟩
  have HS1 := Lib.hid (HS.out.keep hb1)
  have HKS := Lib.hid (KeptS.below hb1)
  clear HS hb1
  have p1 := cell_row HS1.out.blk 1
  simp at p1
  have hcn := cells_new x1 [.int .i64 n] 3
  have hoc : ∀ u ∈ [Value.int .i64 n], u.oneCell' = true := fun u hu => by rw [List.mem_singleton.1 hu]; rfl
  have HB : Hid (Below x1.heap.size x1 (x1.alloc (.cells #[.int .i64 n] 3))) := (Below.refl _ _).alloc (Nat.le_refl _) _
  have HS2 := Lib.hid (HS1.out.keep HB.out)
  have HBZ : Hid (∀ z, (x1.alloc (.cells #[.int .i64 n] 3)).grownBy z (Value.slice pa ps.length pc).ownBlock → (z.cell? ⟨gp, 1, none⟩ = some (.slice pa ps.length pc) ∧ z.frozen? ⟨gp, 1, none⟩ = false) ∧ Hid (z.heap[gp]? = some (.cells #[rv, .slice pa ps.length pc, .bool bare] 61))) := fun z hg => by
    have hbz := (hg.block gp (block_lt HS2.out.blk) (fun e => HS2.out.ports.other HS2.out.blk tyPI e.symm)).trans HS2.out.blk
    exact ⟨⟨cell_row hbz 1, frozen_row hbz 1⟩, hbz⟩
  go_wp2_with (first
    | (at_builtin; refine wpList_append_own _ rfl _ _ 59 rfl base 3 i0 (.int .i64 0) 1 8 Tryz.underlying59 hi0 hz0 hz1 hz2 rfl (by decide) (.slice pa ps.length pc) ps.length (ps.flatMap clI) rfl HS2.out.ports ⟨x1.heap.size, 0, none⟩ 1 1 [.int .i64 n] rfl rfl hcn hoc (by unfold maxLen; omega) (by omega) HS2.out.size ?_; intro s1 w1 hown1 hgrow1 _; obtain ⟨⟨z1, z2⟩, z3⟩ := HBZ.out _ hgrow1; obtain ⟨sa, sc, rfl⟩ := own_form hown1)
    | go_in)
  go_ret
  exact ⟨_, rfl, HS1.out.port HB.out hgrow1 hown1, HKS.out.trans ((KeptS.below HB.out).trans ((KeptS.grown HS2.out.ports hgrow1 tySI).trans (KeptS.set z3.out 1 _)))⟩
set_option maxRecDepth 100000 in
set_option maxHeartbeats 1000000 in
theorem takeRule_no (w x : World) (base gp : Nat) (rv pv : Value) (rs : List Ru) (ps : List Int) (bare : Bool) (s : ByteArray) (al : Bool) (h : PS w x base gp rv pv rs ps bare) (hs : s.size ≤ 1073741824) (hmax : MaxVar x) (hd : parseP s.data.toList = none) :
    Calls Tryz.prog 97 #[.pointer (some ⟨gp, 0, none⟩), .string s, .bool al] x fun e x' => e = .returned (.bool false) ∧ PS w x' base gp rv pv rs ps bare ∧ KeptS x x' := by
  have HS := Lib.hid h
  have HD := Lib.hid (pParse_any s x hs hmax)
  rw [hd] at HD
  clear h hd hmax
  go_enter Tryz.func97, Tryz.ntmps97
  go_wp2_with fail
  refine HD.out.mono ?_
  rintro e x1 ⟨rfl, hb1⟩
  simp only [optP, pfW, pfV, Option.isSome]
  have hb2 := hb1.alloc hb1.size (.cells #[.int .u64 (hiN 0 : Nat), .int .u64 (loN 0 : Nat), .int .i64 (0 : Nat)] 37)
  go_wp2
  go_ret
  exact ⟨rfl, HS.out.keep hb2, KeptS.below hb2⟩
set_option maxRecDepth 100000 in
set_option maxHeartbeats 2000000 in
theorem takeRule_yes (w x : World) (base gp : Nat) (rv pv : Value) (rs : List Ru) (ps : List Int) (bare : Bool) (s : ByteArray) (al : Bool) (W k : Nat) (h : PS w x base gp rv pv rs ps bare) (hs : s.size ≤ 1073741824) (hmax : MaxVar x) (hd : parseP s.data.toList = some (W, k)) (hl : rs.length ≤ 1000000) :
    Calls Tryz.prog 97 #[.pointer (some ⟨gp, 0, none⟩), .string s, .bool al] x fun e x' => ∃ rv', e = .returned (.bool true) ∧ PS w x' base gp rv' pv (rs ++ [ruOf W k al]) ps bare ∧ KeptS x x' := by
  have HS := Lib.hid h
  have HD := Lib.hid (pParse_any s x hs hmax)
  rw [hd] at HD
  clear h hd hmax
  obtain ⟨i0, hi0, hz0, hz1, hz2⟩ := info_parts' infoU
  obtain ⟨ra, rc, rfl⟩ := HS.out.rows.form
  go_enter Tryz.func97, Tryz.ntmps97
  go_wp2_with fail
  refine HD.out.mono ?_
  rintro e x1 ⟨rfl, hb1⟩
  simp only [optP, pfW, pfV, Option.isSome]
  have HB1 := Lib.hid (hb1.alloc hb1.size (.cells #[.int .u64 (hiN W : Nat), .int .u64 (loN W : Nat), .int .i64 (k : Nat)] 37))
  have HL1 := Lib.hid (((Blks.empty x1).new #[.int .u64 (hiN W : Nat), .int .u64 (loN W : Nat), .int .i64 (k : Nat)] 37))
  clear hb1 HD
  go_wp2_with fail
  have HS1 := Lib.hid (HS.out.keep HB1.out)
  have HKS := Lib.hid (KeptS.below HB1.out)
  clear HS HB1
  generalize x1.alloc (.cells #[.int .u64 (hiN W : Nat), .int .u64 (loN W : Nat), .int .i64 (k : Nat)] 37) = x2 at *
  generalize x1.heap.size = g7 at *
  have HK3 : Hid (∀ X, Below x2.heap.size x2 X → (fun (X : World) => X.cell? ⟨g7, 0, none⟩ = some (.int .u64 (hiN W : Nat)) ∧ X.cell? ⟨g7, 1, none⟩ = some (.int .u64 (loN W : Nat)) ∧ X.cell? ⟨g7, 2, none⟩ = some (.int .i64 (k : Nat))) X) := fun X hX => by
    exact ((HL1.out.keep hX).r3 (.head _)).2
  have a0 := cell_row HS1.out.blk 0
  simp at a0
  have HB2 : Hid (Below x2.heap.size x2 (x2.alloc (.cells #[.int .u64 (hiN W : Nat), .int .u64 (loN W : Nat), .int .i64 (k : Nat), .bool al] 99)).drew) := below_drewA x2 _
  have HS2 := Lib.hid (HS1.out.keep HB2.out)
  have hcn : ∀ (j : Nat) (u : Value), [Value.int .u64 (hiN W : Nat), .int .u64 (loN W : Nat), .int .i64 (k : Nat), .bool al][j]? = some u → (x2.alloc (.cells #[.int .u64 (hiN W : Nat), .int .u64 (loN W : Nat), .int .i64 (k : Nat), .bool al] 99)).drew.cell? ((⟨x2.heap.size, 0, none⟩ : Addr).add j) = some u := cells_new x2 [.int .u64 (hiN W : Nat), .int .u64 (loN W : Nat), .int .i64 (k : Nat), .bool al] 99
  have hoc : ∀ u ∈ [Value.int .u64 (hiN W : Nat), .int .u64 (loN W : Nat), .int .i64 (k : Nat), .bool al], u.oneCell' = true := fun u hu => by
    simp at hu
    rcases hu with rfl | rfl | rfl | rfl <;> rfl
  have HKG : Hid (∀ z, (x2.alloc (.cells #[.int .u64 (hiN W : Nat), .int .u64 (loN W : Nat), .int .i64 (k : Nat), .bool al] 99)).drew.grownBy z (Value.slice ra rs.length rc).ownBlock → (fun (X : World) => X.cell? ⟨g7, 0, none⟩ = some (.int .u64 (hiN W : Nat)) ∧ X.cell? ⟨g7, 1, none⟩ = some (.int .u64 (loN W : Nat)) ∧ X.cell? ⟨g7, 2, none⟩ = some (.int .i64 (k : Nat))) z ∧ z.heap[gp]? = some (.cells #[.slice ra rs.length rc, pv, .bool bare] 61)) := fun z hg => by
    have hb7 := (HL1.out.keep HB2.out) _ (.head _)
    have h7 := (hg.block g7 (block_lt hb7) (fun e => HS2.out.rows.other hb7 tyQR e.symm)).trans hb7
    exact ⟨(row3 h7).1, (hg.block gp (block_lt HS2.out.blk) (fun e => HS2.out.rows.other HS2.out.blk tyPR e.symm)).trans HS2.out.blk⟩
  have HG7 : Hid (gp ≠ g7) := fun e => by
    have h1 := HS1.out.blk
    rw [e] at h1
    have h2 := HL1.out _ (.head _)
    rw [h1] at h2
    simp at h2
  have HKT : Hid (∀ (z : World) (u : Value), (fun (X : World) => X.cell? ⟨g7, 0, none⟩ = some (.int .u64 (hiN W : Nat)) ∧ X.cell? ⟨g7, 1, none⟩ = some (.int .u64 (loN W : Nat)) ∧ X.cell? ⟨g7, 2, none⟩ = some (.int .i64 (k : Nat))) z → (fun (X : World) => X.cell? ⟨g7, 0, none⟩ = some (.int .u64 (hiN W : Nat)) ∧ X.cell? ⟨g7, 1, none⟩ = some (.int .u64 (loN W : Nat)) ∧ X.cell? ⟨g7, 2, none⟩ = some (.int .i64 (k : Nat))) (z.setCell ⟨gp, 0, none⟩ u)) := fun z u hz => by
    have e : ∀ i, (z.setCell ⟨gp, 0, none⟩ u).cell? ⟨g7, i, none⟩ = z.cell? ⟨g7, i, none⟩ := fun i => World.cell?_setCell_far z ⟨gp, 0, none⟩ ⟨g7, i, none⟩ u HG7.out
    refine ⟨?_, ?_, ?_⟩
    · rw [e]; exact hz.1
    · rw [e]; exact hz.2.1
    · rw [e]; exact hz.2.2
  have b0 := cell_row HS2.out.blk 0
  simp at b0
  refine wp_region_held_drew (S := fun (X : World) => X.cell? ⟨g7, 0, none⟩ = some (.int .u64 (hiN W : Nat)) ∧ X.cell? ⟨g7, 1, none⟩ = some (.int .u64 (loN W : Nat)) ∧ X.cell? ⟨g7, 2, none⟩ = some (.int .i64 (k : Nat))) (by kernel_rfl) ?_ (fun hHeld => ?_)
  · exact HK3.out _ (below_drew1 _)
  refine wpAnyH_take (i := 0) (oi := ⟨some 15, _, _, _, _, _⟩) (v := ?_) rfl (by kernel_rfl) (by kernel_rfl) (by kernel_rfl) (fun _ _ _ h => h) (Or.inl ⟨by rfl, ?_⟩) hHeld ?_
  rotate_left
  · intro w hSw
    (try dsimp only at hSw)
    go_simp
    try with_reducible rfl
  try simp only [Act.put, List.setIfInBounds_toArray, List.set_cons_zero, List.set_cons_succ]
  refine wpAnyH_take (i := 1) (oi := ⟨some 16, _, _, _, _, _⟩) (v := ?_) rfl (by kernel_rfl) (by kernel_rfl) (by kernel_rfl) (fun _ _ _ h => h) (Or.inl ⟨by rfl, ?_⟩) hHeld ?_
  rotate_left
  · intro w hSw
    (try dsimp only at hSw)
    go_simp
    try with_reducible rfl
  try simp only [Act.put, List.setIfInBounds_toArray, List.set_cons_zero, List.set_cons_succ]
  refine wpAnyH_take (i := 2) (oi := ⟨some 17, _, _, _, _, _⟩) (v := ?_) rfl (by kernel_rfl) (by kernel_rfl) (by kernel_rfl) (fun _ _ _ h => h) (Or.inl ⟨by rfl, ?_⟩) hHeld ?_
  rotate_left
  · intro w hSw
    (try dsimp only at hSw)
    go_simp
    try with_reducible rfl
  try simp only [Act.put, List.setIfInBounds_toArray, List.set_cons_zero, List.set_cons_succ]
  refine wpAnyH_take (i := 3) (oi := ⟨some 18, _, _, _, _, _⟩) (v := ?_) rfl (by kernel_rfl) (by kernel_rfl) (by kernel_rfl) (fun _ _ _ h => h) (Or.inl ⟨by rfl, ?_⟩) hHeld ?_
  rotate_left
  · intro w hSw
    (try dsimp only at hSw)
    go_simp
    try with_reducible rfl
  try simp only [Act.put, List.setIfInBounds_toArray, List.set_cons_zero, List.set_cons_succ]
  refine wpAnyH_take (i := 5) (oi := ⟨some 20, _, _, _, _, _⟩) (v := ?_) rfl (by kernel_rfl) (by kernel_rfl) (by kernel_rfl) (fun _ _ _ h => h) (Or.inl ⟨by rfl, ?_⟩) hHeld ?_
  rotate_left
  · intro w hSw
    (try dsimp only at hSw)
    go_simp
    try with_reducible rfl
  try simp only [Act.put, List.setIfInBounds_toArray, List.set_cons_zero, List.set_cons_succ]
  refine wpAnyH_take (i := 6) (oi := ⟨some 21, _, _, _, _, _⟩) (v := ?_) rfl (by kernel_rfl) (by kernel_rfl) (by kernel_rfl) (fun _ _ _ h => h) (Or.inl ⟨by rfl, ?_⟩) hHeld ?_
  rotate_left
  · intro w hSw
    (try dsimp only at hSw)
    go_simp
    try with_reducible rfl
  try simp only [Act.put, List.setIfInBounds_toArray, List.set_cons_zero, List.set_cons_succ]
  refine wpAnyH_take (i := 7) (oi := ⟨some 22, _, _, _, _, _⟩) (v := ?_) rfl (by kernel_rfl) (by kernel_rfl) (by kernel_rfl) (fun _ _ _ h => h) (Or.inl ⟨by rfl, ?_⟩) hHeld ?_
  rotate_left
  · intro w hSw
    (try dsimp only at hSw)
    go_simp
    try with_reducible rfl
  try simp only [Act.put, List.setIfInBounds_toArray, List.set_cons_zero, List.set_cons_succ]
  refine wpAnyH_ready (rs := [4, 8]) (by kernel_rfl) (by simp) ?_
  refine AllReadyH.cons (o := ⟨some 19, _, _, _, _, _⟩) rfl (fun K hK => ?_) (AllReadyH.cons (o := ⟨some 23, _, _, _, _, _⟩) rfl (fun K hK => ?_) AllReadyH.nil)
  · go_simp
    refine hK.out _ _ ?_ (fun hHeld1 => ?_)
    · exact HK3.out _ (below_drew1 _)
    clear hK K
    try simp only [Act.put, List.setIfInBounds_toArray, List.set_cons_zero, List.set_cons_succ]
    refine wpAnyH_ready (rs := [8]) (by kernel_rfl) (by simp) ?_
    refine AllReadyH.cons (o := ⟨some 23, _, _, _, _, _⟩) rfl (fun K hK => ?_) AllReadyH.nil
    go_simp
    refine hK.out _ _ ?_ (fun hHeld2 => ?_)
    · exact HK3.out _ HB2.out
    clear hK K
    try simp only [Act.put, List.setIfInBounds_toArray, List.set_cons_zero, List.set_cons_succ]
    refine wpAnyH_ready (rs := [9]) (by kernel_rfl) (by simp) ?_
    refine AllReadyH.cons (o := ⟨some 24, _, _, _, _, _⟩) rfl (fun K hK => ?_) AllReadyH.nil
    rw [if_pos (by kernel_rfl)]
    refine wp_append_own _ _ _ 58 rfl base 99 i0 (.agg #[.int .u64 0, .int .u64 0, .int .i64 0, .bool false]) 4 32 Tryz.underlying58 hi0 hz0 hz1 hz2 rfl (by decide) (.slice ra rs.length rc) rs.length (rs.flatMap Ru.cl) rfl HS2.out.rows ⟨x2.heap.size, 0, none⟩ 1 1 [.int .u64 (hiN W : Nat), .int .u64 (loN W : Nat), .int .i64 (k : Nat), .bool al] rfl rfl hcn hoc (by unfold maxLen; omega) (by omega) HS2.out.size ?_
    intro s1 w1 hown1 hgrow1 _
    obtain ⟨sa, sc, rfl⟩ := own_form hown1
    obtain ⟨hsw, hbz⟩ := HKG.out _ hgrow1
    have z0 := cell_row hbz 0
    have z1 := frozen_row hbz 0
    simp at z0
    refine hK.out _ _ ?_ (fun hHeld9 => ?_)
    · exact hsw
    clear hK K
    try simp only [Act.put, List.setIfInBounds_toArray, List.set_cons_zero, List.set_cons_succ]
    refine wpAnyH_take (i := 10) (oi := ⟨some 25, _, _, _, _, _⟩) (v := ?_) rfl (by kernel_rfl) (by kernel_rfl) (by kernel_rfl) (fun _ _ _ h => h) (Or.inl ⟨by rfl, ?_⟩) hHeld9 ?_
    rotate_left
    · intro w hSw
      (try dsimp only at hSw)
      go_simp
      try with_reducible rfl
    try simp only [Act.put, List.setIfInBounds_toArray, List.set_cons_zero, List.set_cons_succ]
    refine wpAnyH_take (i := 11) (oi := ⟨some 26, _, _, _, _, _⟩) (v := ?_) rfl (by kernel_rfl) (by kernel_rfl) (by kernel_rfl) (fun _ _ _ h => h) (Or.inl ⟨by rfl, ?_⟩) hHeld9 ?_
    rotate_left
    · intro w hSw
      (try dsimp only at hSw)
      go_simp
      try with_reducible rfl
    try simp only [Act.put, List.setIfInBounds_toArray, List.set_cons_zero, List.set_cons_succ]
    refine wpAnyH_ready (rs := [12]) (by kernel_rfl) (by simp) ?_
    refine AllReadyH.cons (o := ⟨none, _, _, _, _, _⟩) rfl (fun K hK => ?_) AllReadyH.nil
    go_simp
    refine hK.out _ _ ?_ (fun hHeld12 => ?_)
    · exact HKT.out _ _ hsw
    clear hK K
    try simp only [Act.put, List.setIfInBounds_toArray, List.set_cons_zero, List.set_cons_succ]
    refine wpAnyH_done (by kernel_rfl) ?_ _
    go_wp2
    go_ret
    exact ⟨rfl, ⟨_, HS1.out.rule HB2.out hgrow1 hown1⟩, HKS.out.trans ((KeptS.below HB2.out).trans ((KeptS.grown HS2.out.rows hgrow1 tySR).trans (KeptS.set hbz 0 _)))⟩
  · go_simp
    refine hK.out _ _ ?_ (fun hHeld1 => ?_)
    · exact HK3.out _ HB2.out
    clear hK K
    try simp only [Act.put, List.setIfInBounds_toArray, List.set_cons_zero, List.set_cons_succ]
    refine wpAnyH_ready (rs := [4]) (by kernel_rfl) (by simp) ?_
    refine AllReadyH.cons (o := ⟨some 19, _, _, _, _, _⟩) rfl (fun K hK => ?_) AllReadyH.nil
    go_simp
    refine hK.out _ _ ?_ (fun hHeld2 => ?_)
    · exact HK3.out _ HB2.out
    clear hK K
    try simp only [Act.put, List.setIfInBounds_toArray, List.set_cons_zero, List.set_cons_succ]
    refine wpAnyH_ready (rs := [9]) (by kernel_rfl) (by simp) ?_
    refine AllReadyH.cons (o := ⟨some 24, _, _, _, _, _⟩) rfl (fun K hK => ?_) AllReadyH.nil
    rw [if_pos (by kernel_rfl)]
    refine wp_append_own _ _ _ 58 rfl base 99 i0 (.agg #[.int .u64 0, .int .u64 0, .int .i64 0, .bool false]) 4 32 Tryz.underlying58 hi0 hz0 hz1 hz2 rfl (by decide) (.slice ra rs.length rc) rs.length (rs.flatMap Ru.cl) rfl HS2.out.rows ⟨x2.heap.size, 0, none⟩ 1 1 [.int .u64 (hiN W : Nat), .int .u64 (loN W : Nat), .int .i64 (k : Nat), .bool al] rfl rfl hcn hoc (by unfold maxLen; omega) (by omega) HS2.out.size ?_
    intro s1 w1 hown1 hgrow1 _
    obtain ⟨sa, sc, rfl⟩ := own_form hown1
    obtain ⟨hsw, hbz⟩ := HKG.out _ hgrow1
    have z0 := cell_row hbz 0
    have z1 := frozen_row hbz 0
    simp at z0
    refine hK.out _ _ ?_ (fun hHeld9 => ?_)
    · exact hsw
    clear hK K
    try simp only [Act.put, List.setIfInBounds_toArray, List.set_cons_zero, List.set_cons_succ]
    refine wpAnyH_take (i := 10) (oi := ⟨some 25, _, _, _, _, _⟩) (v := ?_) rfl (by kernel_rfl) (by kernel_rfl) (by kernel_rfl) (fun _ _ _ h => h) (Or.inl ⟨by rfl, ?_⟩) hHeld9 ?_
    rotate_left
    · intro w hSw
      (try dsimp only at hSw)
      go_simp
      try with_reducible rfl
    try simp only [Act.put, List.setIfInBounds_toArray, List.set_cons_zero, List.set_cons_succ]
    refine wpAnyH_take (i := 11) (oi := ⟨some 26, _, _, _, _, _⟩) (v := ?_) rfl (by kernel_rfl) (by kernel_rfl) (by kernel_rfl) (fun _ _ _ h => h) (Or.inl ⟨by rfl, ?_⟩) hHeld9 ?_
    rotate_left
    · intro w hSw
      (try dsimp only at hSw)
      go_simp
      try with_reducible rfl
    try simp only [Act.put, List.setIfInBounds_toArray, List.set_cons_zero, List.set_cons_succ]
    refine wpAnyH_ready (rs := [12]) (by kernel_rfl) (by simp) ?_
    refine AllReadyH.cons (o := ⟨none, _, _, _, _, _⟩) rfl (fun K hK => ?_) AllReadyH.nil
    go_simp
    refine hK.out _ _ ?_ (fun hHeld12 => ?_)
    · exact HKT.out _ _ hsw
    clear hK K
    try simp only [Act.put, List.setIfInBounds_toArray, List.set_cons_zero, List.set_cons_succ]
    refine wpAnyH_done (by kernel_rfl) ?_ _
    go_wp2
    go_ret
    exact ⟨rfl, ⟨_, HS1.out.rule HB2.out hgrow1 hown1⟩, HKS.out.trans ((KeptS.below HB2.out).trans ((KeptS.grown HS2.out.rows hgrow1 tySR).trans (KeptS.set hbz 0 _)))⟩
end

section
open Go.RowKit
def wAllow : List UInt8 := [97, 108, 108, 111, 119]
def wDeny : List UInt8 := [100, 101, 110, 121]
def wPort : List UInt8 := [112, 111, 114, 116]
def wBare : List UInt8 := [98, 97, 114, 101]
def hashB (l : List UInt8) : Bool := Lib.hasPrefix l [35]
/-- two words -/
def argZ (p : Pl) (a b : List UInt8) : Option Pl :=
  if (a == wPort) = true then (if (decZ b maxI).2 = true then some ⟨p.rs, p.ps ++ [(decZ b maxI).1], p.bare⟩ else none)
  else if (a == wAllow) = true ∨ (a == wDeny) = true then (match parseP b with
    | none => none
    | some q => some ⟨p.rs ++ [ruOf q.1 q.2 (a == wAllow)], p.ps, p.bare⟩)
  else none
/-- a line's words -/
def lineZ (p : Pl) : List (List UInt8) → Option Pl
  | [] => some p
  | a :: l => if hashB a = true then some p else match l with
    | [] => if (a == wBare) = true then some ⟨p.rs, p.ps, true⟩ else none
    | [b] => argZ p a b
    | _ :: _ :: _ => none
/-- what is told of a line -/
def RetTk (w : World) (base gp : Nat) (rv pv : Value) (p : Pl) (x : World) (o : Option Pl) (e : Ending) (x' : World) : Prop :=
  KeptS x x' ∧ match o with
  | none => e = .returned (.bool false) ∧ PS w x' base gp rv pv p.rs p.ps p.bare
  | some q => ∃ rv' pv', e = .returned (.bool true) ∧ PS w x' base gp rv' pv' q.rs q.ps q.bare
theorem Parts.at {B : Nat} {x : World} {v : Value} {ws : List (List UInt8)} (h : Parts B x v ws) (hne : ws ≠ []) : ∃ g c, v = .slice (some ⟨g, 0, none⟩) ws.length c ∧ ∃ cs, x.heap[g]? = some (.cells cs 9) ∧ ∀ (j : Nat) (a : List UInt8), ws[j]? = some a → cs[j]? = some (.string ⟨a.toArray⟩) := by
  unfold Parts at h
  rcases h.2 with ⟨_, hn⟩ | ⟨g, cap, cur, e, _, hg, _, _, _, ht⟩
  · exact absurd (List.eq_nil_of_length_eq_zero hn) hne
  · refine ⟨g, cap, e, cur, hg, fun j a ha => ?_⟩
    have hj : j < ws.length := (List.getElem?_eq_some_iff.1 ha).1
    have e1 : (cur.toList.take (ws.length * 1))[j]? = (strCs ws)[j]? := by rw [ht]
    rw [List.getElem?_take_of_lt (by omega)] at e1
    rw [← Array.getElem?_toList, e1]
    unfold strCs
    rw [List.getElem?_map, ha]; rfl
set_option maxHeartbeats 1000000 in
theorem take_nil (gp : Nat) (ao : Option Addr) (c : Nat) (x : World) :
    Calls Tryz.prog 68 #[.pointer (some ⟨gp, 0, none⟩), .slice ao 0 c] x fun e x' => e = .returned (.bool true) ∧ x' = x := by
  go_enter Tryz.func68, Tryz.ntmps68
  go_wp2
  go_ret
  exact ⟨rfl, rfl⟩
set_option maxRecDepth 100000 in
set_option maxHeartbeats 1000000 in
theorem take_hash (gp g n c : Nat) (a : List UInt8) (x : World) (c0 : x.cell? ⟨g, 0, none⟩ = some (.string ⟨a.toArray⟩)) (hn : n ≠ 0) (hh : hashB a = true) :
    Calls Tryz.prog 68 #[.pointer (some ⟨gp, 0, none⟩), .slice (some ⟨g, 0, none⟩) n c] x fun e x' => e = .returned (.bool true) ∧ x' = x := by
  have HP := Lib.hid (Tryz.strings_HasPrefix ⟨a.toArray⟩ ⟨#[35]⟩ x)
  rw [show Lib.hasPrefix (ByteArray.mk a.toArray).data.toList (ByteArray.mk #[35]).data.toList = true from by rw [← hh]; unfold hashB; simp] at HP
  have hd : ((n : Int) == 0) = false := by rw [beq_eq_false_iff_ne]; omega
  have hlt : 0 < n := by omega
  go_enter Tryz.func68, Tryz.ntmps68
  go_wp2_with fail
  refine HP.out.mono ?_
  rintro e x1 ⟨rfl, rfl⟩
  go_wp2
  go_ret
  exact ⟨rfl, rfl⟩
set_option maxRecDepth 100000 in
set_option maxHeartbeats 2000000 in
theorem take_bare (w x : World) (base gp : Nat) (rv pv : Value) (p : Pl) (g c : Nat) (a : List UInt8) (h : PS w x base gp rv pv p.rs p.ps p.bare) (c0 : x.cell? ⟨g, 0, none⟩ = some (.string ⟨a.toArray⟩)) (hh : hashB a = false) (hb : (a == [98, 97, 114, 101]) = true) :
    Calls Tryz.prog 68 #[.pointer (some ⟨gp, 0, none⟩), .slice (some ⟨g, 0, none⟩) 1 c] x fun e x' => e = .returned (.bool true) ∧ PS w x' base gp rv pv p.rs p.ps true ∧ KeptS x x' := by
  have HP := Lib.hid (Tryz.strings_HasPrefix ⟨a.toArray⟩ ⟨#[35]⟩ x)
  rw [show Lib.hasPrefix (ByteArray.mk a.toArray).data.toList (ByteArray.mk #[35]).data.toList = false from by rw [← hh]; unfold hashB; simp] at HP
  have HS := Lib.hid h
  have p2 := cell_row h.blk 2
  have f2 := frozen_row h.blk 2
  simp at p2
  clear h
  go_enter Tryz.func68, Tryz.ntmps68
  go_wp2_with fail
  refine HP.out.mono ?_
  rintro e x1 ⟨rfl, rfl⟩
  go_wp2
  go_ret
  exact ⟨rfl, HS.out.bare, KeptS.set HS.out.blk 2 _⟩
set_option maxRecDepth 100000 in
set_option maxHeartbeats 2000000 in
theorem take_one (gp g c : Nat) (a : List UInt8) (x : World) (c0 : x.cell? ⟨g, 0, none⟩ = some (.string ⟨a.toArray⟩)) (hh : hashB a = false) (hb : (a == [98, 97, 114, 101]) = false) :
    Calls Tryz.prog 68 #[.pointer (some ⟨gp, 0, none⟩), .slice (some ⟨g, 0, none⟩) 1 c] x fun e x' => e = .returned (.bool false) ∧ x' = x := by
  have HP := Lib.hid (Tryz.strings_HasPrefix ⟨a.toArray⟩ ⟨#[35]⟩ x)
  rw [show Lib.hasPrefix (ByteArray.mk a.toArray).data.toList (ByteArray.mk #[35]).data.toList = false from by rw [← hh]; unfold hashB; simp] at HP
  go_enter Tryz.func68, Tryz.ntmps68
  go_wp2_with fail
  refine HP.out.mono ?_
  rintro e x1 ⟨rfl, rfl⟩
  go_wp2
  go_ret
  exact ⟨rfl, rfl⟩
set_option maxRecDepth 100000 in
set_option maxHeartbeats 2000000 in
theorem take_many (gp g n c : Nat) (a : List UInt8) (x : World) (c0 : x.cell? ⟨g, 0, none⟩ = some (.string ⟨a.toArray⟩)) (hh : hashB a = false) (hn : 3 ≤ n) :
    Calls Tryz.prog 68 #[.pointer (some ⟨gp, 0, none⟩), .slice (some ⟨g, 0, none⟩) n c] x fun e x' => e = .returned (.bool false) ∧ x' = x := by
  have HP := Lib.hid (Tryz.strings_HasPrefix ⟨a.toArray⟩ ⟨#[35]⟩ x)
  rw [show Lib.hasPrefix (ByteArray.mk a.toArray).data.toList (ByteArray.mk #[35]).data.toList = false from by rw [← hh]; unfold hashB; simp] at HP
  have hd0 : ((n : Int) == 0) = false := by rw [beq_eq_false_iff_ne]; omega
  have hd1 : ((n : Int) == 1) = false := by rw [beq_eq_false_iff_ne]; omega
  have hd2 : ((n : Int) == 2) = false := by rw [beq_eq_false_iff_ne]; omega
  have hlt : 0 < n := by omega
  go_enter Tryz.func68, Tryz.ntmps68
  go_wp2_with fail
  refine HP.out.mono ?_
  rintro e x1 ⟨rfl, rfl⟩
  go_wp2
  go_ret
  exact ⟨rfl, rfl⟩
set_option maxRecDepth 100000 in
set_option maxHeartbeats 2000000 in
theorem take_port (gp g c : Nat) (a b : List UInt8) (x : World) (Q : Ending → World → Prop) (c0 : x.cell? ⟨g, 0, none⟩ = some (.string ⟨a.toArray⟩)) (c1 : x.cell? ⟨g, 1, none⟩ = some (.string ⟨b.toArray⟩)) (hh : hashB a = false) (hp : (a == [112, 111, 114, 116]) = true) (HC : Hid (Calls Tryz.prog 96 #[.pointer (some ⟨gp, 0, none⟩), .string ⟨b.toArray⟩] x fun e x' => ∃ t : Bool, e = .returned (.bool t) ∧ Q e x')) :
    Calls Tryz.prog 68 #[.pointer (some ⟨gp, 0, none⟩), .slice (some ⟨g, 0, none⟩) 2 c] x Q := by
  have HP := Lib.hid (Tryz.strings_HasPrefix ⟨a.toArray⟩ ⟨#[35]⟩ x)
  rw [show Lib.hasPrefix (ByteArray.mk a.toArray).data.toList (ByteArray.mk #[35]).data.toList = false from by rw [← hh]; unfold hashB; simp] at HP
  go_enter Tryz.func68, Tryz.ntmps68
  go_wp2_with fail
  refine HP.out.mono ?_
  rintro e x1 ⟨rfl, rfl⟩
  go_wp2_with fail
  refine HC.out.mono ?_
  rintro e x2 ⟨t, rfl, hq⟩
  go_wp2
  exact hq
set_option maxRecDepth 100000 in
set_option maxHeartbeats 2000000 in
theorem take_two (gp g c : Nat) (a : List UInt8) (x : World) (c0 : x.cell? ⟨g, 0, none⟩ = some (.string ⟨a.toArray⟩)) (hh : hashB a = false) (hp : (a == [112, 111, 114, 116]) = false) (ha : (a == [97, 108, 108, 111, 119]) = false) (hd : (a == [100, 101, 110, 121]) = false) :
    Calls Tryz.prog 68 #[.pointer (some ⟨gp, 0, none⟩), .slice (some ⟨g, 0, none⟩) 2 c] x fun e x' => e = .returned (.bool false) ∧ x' = x := by
  have HP := Lib.hid (Tryz.strings_HasPrefix ⟨a.toArray⟩ ⟨#[35]⟩ x)
  rw [show Lib.hasPrefix (ByteArray.mk a.toArray).data.toList (ByteArray.mk #[35]).data.toList = false from by rw [← hh]; unfold hashB; simp] at HP
  go_enter Tryz.func68, Tryz.ntmps68
  go_wp2_with fail
  refine HP.out.mono ?_
  rintro e x1 ⟨rfl, rfl⟩
  go_wp2
  go_ret
  exact ⟨rfl, rfl⟩
set_option maxRecDepth 100000 in
set_option maxHeartbeats 2000000 in
theorem take_rule (gp g c : Nat) (a b : List UInt8) (al : Bool) (x : World) (Q : Ending → World → Prop) (cs : Array Value) (hg : x.heap[g]? = some (.cells cs 9)) (c0 : cs[0]? = some (.string ⟨a.toArray⟩)) (c1 : cs[1]? = some (.string ⟨b.toArray⟩)) (hh : hashB a = false) (hp : (a == [112, 111, 114, 116]) = false) (ha : (a == [97, 108, 108, 111, 119]) = al) (hd : al = true ∨ (a == [100, 101, 110, 121]) = true) (HC : Hid (∀ X, Below x.heap.size x X → Calls Tryz.prog 97 #[.pointer (some ⟨gp, 0, none⟩), .string ⟨b.toArray⟩, .bool al] X fun e x' => ∃ t : Bool, e = .returned (.bool t) ∧ Q e x' ∧ KeptS X x')) :
    Calls Tryz.prog 68 #[.pointer (some ⟨gp, 0, none⟩), .slice (some ⟨g, 0, none⟩) 2 c] x Q := by
  have HP := Lib.hid (Tryz.strings_HasPrefix ⟨a.toArray⟩ ⟨#[35]⟩ x)
  rw [show Lib.hasPrefix (ByteArray.mk a.toArray).data.toList (ByteArray.mk #[35]).data.toList = false from by rw [← hh]; unfold hashB; simp] at HP
  have HK : Hid (∀ X : World, X.heap[g]? = some (.cells cs 9) → X.cell? ⟨g, 0, none⟩ = some (.string ⟨a.toArray⟩) ∧ X.cell? ⟨g, 1, none⟩ = some (.string ⟨b.toArray⟩)) := fun X hX => ⟨by rw [cell_row hX]; exact c0, by rw [cell_row hX]; exact c1⟩
  have HG := Lib.hid hg
  obtain ⟨k0, k1⟩ := HK.out x hg
  clear c0 c1 hg
  cases al with
  | true =>
    clear hd
    go_enter Tryz.func68, Tryz.ntmps68
    go_wp2_with fail
    refine HP.out.mono ?_
    rintro e x1 ⟨rfl, rfl⟩
    go_wp2_with fail
    go_region_held3 (fun X => X.cell? ⟨g, 0, none⟩ = some (.string ⟨a.toArray⟩) ∧ X.cell? ⟨g, 1, none⟩ = some (.string ⟨b.toArray⟩))
      (first | exact HK.out _ HG.out | exact HK.out _ (hks _ _ HG.out))
      (first | (go_simp; go_at_call 97; ((with_reducible refine (HC.out _ (below_drew1 _)).mono ?_); rintro e x2 ⟨t, rfl, hq, hks⟩)))
    go_wp2
    exact hq
  | false =>
    have hd : (a == [100, 101, 110, 121]) = true := by rcases hd with q | q; cases q; exact q
    go_enter Tryz.func68, Tryz.ntmps68
    go_wp2_with fail
    refine HP.out.mono ?_
    rintro e x1 ⟨rfl, rfl⟩
    go_wp2_with fail
    go_region_held3 (fun X => X.cell? ⟨g, 0, none⟩ = some (.string ⟨a.toArray⟩) ∧ X.cell? ⟨g, 1, none⟩ = some (.string ⟨b.toArray⟩))
      (first | exact HK.out _ HG.out | exact HK.out _ (hks _ _ HG.out))
      (first | (go_simp; go_at_call 97; ((with_reducible refine (HC.out _ (below_drew1 _)).mono ?_); rintro e x2 ⟨t, rfl, hq, hks⟩)))
    go_wp2
    exact hq
theorem take10_any (w x : World) (base gp : Nat) (rv pv : Value) (p : Pl) (B : Nat) (v : Value) (ws : List (List UInt8)) (h : PS w x base gp rv pv p.rs p.ps p.bare) (hw : Parts B x v ws) (hmax : MaxVar x) (hs : ∀ a ∈ ws, a.length ≤ 1073741824) (hl1 : p.rs.length ≤ 1000000) (hl2 : p.ps.length ≤ 1000000) :
    Calls Tryz.prog 68 #[.pointer (some ⟨gp, 0, none⟩), v] x (RetTk w base gp rv pv p x (lineZ p ws)) := by
  cases ws with
  | nil =>
    obtain ⟨ao, c, rfl⟩ : ∃ a c, v = .slice a 0 c := own_form hw
    refine (take_nil gp ao c x).mono ?_
    rintro e x' ⟨rfl, rfl⟩
    exact ⟨fun _ _ q => q, rv, pv, rfl, h⟩
  | cons a l =>
    obtain ⟨g, c, rfl, cs, hg, hc⟩ := hw.at (by simp)
    have c0 := hc 0 a rfl
    have k0 : x.cell? ⟨g, 0, none⟩ = some (.string ⟨a.toArray⟩) := by rw [cell_row hg]; exact c0
    cases hh : hashB a with
    | true =>
      refine (take_hash gp g (a :: l).length c a x k0 (by simp) hh).mono ?_
      rintro e x' ⟨rfl, rfl⟩
      simp only [lineZ, hh, if_true]
      exact ⟨fun _ _ q => q, rv, pv, rfl, h⟩
    | false =>
      cases l with
      | nil =>
        cases hb : (a == wBare) with
        | true =>
          refine (take_bare w x base gp rv pv p g c a h k0 hh hb).mono ?_
          rintro e x' ⟨rfl, hp, hK⟩
          simp only [lineZ, hh, hb]
          exact ⟨hK, rv, pv, rfl, hp⟩
        | false =>
          refine (take_one gp g c a x k0 hh hb).mono ?_
          rintro e x' ⟨rfl, rfl⟩
          simp only [lineZ, hh, hb]
          exact ⟨fun _ _ q => q, rfl, h⟩
      | cons b l =>
        cases l with
        | cons d l =>
          refine (take_many gp g _ c a x k0 hh (by simp)).mono ?_
          rintro e x' ⟨rfl, rfl⟩
          simp only [lineZ, hh]
          exact ⟨fun _ _ q => q, rfl, h⟩
        | nil =>
          have c1 := hc 1 b rfl
          have k1 : x.cell? ⟨g, 1, none⟩ = some (.string ⟨b.toArray⟩) := by rw [cell_row hg]; exact c1
          have hbs : (ByteArray.mk b.toArray).size ≤ 1073741824 := by
            have := hs b (by simp)
            simpa [ByteArray.size] using this
          have hlz : lineZ p [a, b] = argZ p a b := by simp only [lineZ, hh]; rfl
          rw [hlz]
          cases hp : (a == wPort) with
          | true =>
            refine take_port gp g c a b x _ k0 k1 hh hp ?_
            obtain ⟨⟨n, t⟩, hd⟩ : ∃ q, decZ b maxI = q := ⟨_, rfl⟩
            cases t with
            | true =>
              refine (takePort_yes w x base gp rv pv p.rs p.ps p.bare ⟨b.toArray⟩ n h hbs (by rw [← hd]) hl2).mono ?_
              rintro e x' ⟨pv', rfl, hP, hK⟩
              refine ⟨true, rfl, hK, ?_⟩
              unfold argZ; rw [hp, hd]
              exact ⟨rv, pv', rfl, hP⟩
            | false =>
              refine (takePort_no w x base gp rv pv p.rs p.ps p.bare ⟨b.toArray⟩ n h hbs (by rw [← hd])).mono ?_
              rintro e x' ⟨rfl, hP, hK⟩
              refine ⟨false, rfl, hK, ?_⟩
              unfold argZ; rw [hp, hd]
              exact ⟨rfl, hP⟩
          | false =>
            by_cases hq : (a == wAllow) = true ∨ (a == wDeny) = true
            · refine take_rule gp g c a b (a == wAllow) x _ cs hg c0 c1 hh hp rfl hq (fun X hX => ?_)
              cases hd : parseP b with
              | some q =>
                obtain ⟨W, k⟩ := q
                refine (takeRule_yes w X base gp rv pv p.rs p.ps p.bare ⟨b.toArray⟩ (a == wAllow) W k (h.keep hX) hbs (maxVar_below hmax hX) (by rw [← hd]) hl1).mono ?_
                rintro e x' ⟨rv', rfl, hP, hK⟩
                refine ⟨true, rfl, ⟨(KeptS.below hX).trans hK, ?_⟩, hK⟩
                unfold argZ; rw [hp, if_neg (by simp), if_pos hq, hd]
                exact ⟨rv', pv, rfl, hP⟩
              | none =>
                refine (takeRule_no w X base gp rv pv p.rs p.ps p.bare ⟨b.toArray⟩ (a == wAllow) (h.keep hX) hbs (maxVar_below hmax hX) (by rw [← hd])).mono ?_
                rintro e x' ⟨rfl, hP, hK⟩
                refine ⟨false, rfl, ⟨(KeptS.below hX).trans hK, ?_⟩, hK⟩
                unfold argZ; rw [hp, if_neg (by simp), if_pos hq, hd]
                exact ⟨rfl, hP⟩
            · have h1 : (a == wAllow) = false := by
                cases e : (a == wAllow) with
                | true => exact absurd (.inl e) hq
                | false => rfl
              have h2 : (a == wDeny) = false := by
                cases e : (a == wDeny) with
                | true => exact absurd (.inr e) hq
                | false => rfl
              refine (take_two gp g c a x k0 hh hp h1 h2).mono ?_
              rintro e x' ⟨rfl, rfl⟩
              unfold argZ; rw [hp, if_neg (by simp), if_neg hq]
              exact ⟨fun _ _ q => q, rfl, h⟩
end

section
open Go.RowKit
def Pl.zero : Pl := ⟨[], [], false⟩
/-- the policy of lines, or the number of the first that isn't so -/
def parseL : Pl → Nat → List (List UInt8) → Option Pl × Nat
  | p, _, [] => (some p, 0)
  | p, i, l :: ls => match lineZ p (wordsB l) with
    | none => (none, i + 1)
    | some q => parseL q (i + 1) ls
def linesB (s : ByteArray) : List (List UInt8) := splitB (hasB [10]) s.data.toList
theorem parseL_none {p : Pl} {j : Nat} {l : List UInt8} {ls : List (List UInt8)} (h : lineZ p (wordsB l) = none) : parseL p j (l :: ls) = (none, j + 1) := by rw [parseL, h]
theorem parseL_some {p q : Pl} {j : Nat} {l : List UInt8} {ls : List (List UInt8)} (h : lineZ p (wordsB l) = some q) : parseL p j (l :: ls) = parseL q (j + 1) ls := by rw [parseL, h]
theorem lineZ_len {p q : Pl} {ws : List (List UInt8)} (h : lineZ p ws = some q) : q.rs.length ≤ p.rs.length + 1 ∧ q.ps.length ≤ p.ps.length + 1 := by
  unfold lineZ at h
  split at h
  · cases h; omega
  · split at h
    · cases h; omega
    · split at h
      · split at h
        · cases h; simp only; omega
        · cases h
      · unfold argZ at h
        split at h
        · split at h
          · cases h; simp
          · cases h
        · split at h
          · split at h
            · cases h
            · cases h; simp
          · cases h
      · cases h
theorem spl_small (p : UInt8 → Bool) : ∀ (l : List UInt8) (a : List (List UInt8)) (b : List UInt8) (n : Nat), (∀ x ∈ a, x.length ≤ n) → b.length + l.length ≤ n → (∀ x ∈ (l.foldl (splStep p) (a, b)).1, x.length ≤ n) ∧ (l.foldl (splStep p) (a, b)).2.length ≤ n
  | [], a, b, n, h1, h2 => ⟨h1, by simpa using h2⟩
  | c :: l, a, b, n, h1, h2 => by
    rw [List.foldl_cons]
    unfold splStep
    simp only [List.length_cons] at h2
    split
    · exact spl_small p l (a ++ [b]) [] n (fun x hx => by
        rcases List.mem_append.1 hx with q | q
        · exact h1 x q
        · rw [List.mem_singleton.1 q]; omega) (by simp; omega)
    · exact spl_small p l a (b ++ [c]) n h1 (by simp; omega)
theorem split_small (p : UInt8 → Bool) (l : List UInt8) : ∀ x ∈ splitB p l, x.length ≤ l.length := by
  obtain ⟨h1, h2⟩ := spl_small p l [] [] l.length (fun x hx => by cases hx) (by simp)
  intro x hx
  unfold splitB spl at hx
  rcases List.mem_append.1 hx with q | q
  · exact h1 x q
  · rw [List.mem_singleton.1 q]; exact h2
theorem spl_count (p : UInt8 → Bool) : ∀ (l : List UInt8) (a : List (List UInt8)) (b : List UInt8), (l.foldl (splStep p) (a, b)).1.length ≤ a.length + l.length
  | [], a, b => by simp
  | c :: l, a, b => by
    rw [List.foldl_cons]
    unfold splStep
    split
    · exact Nat.le_trans (spl_count p l (a ++ [b]) []) (by simp; omega)
    · exact Nat.le_trans (spl_count p l a (b ++ [c])) (by simp)
theorem split_count (p : UInt8 → Bool) (l : List UInt8) : (splitB p l).length ≤ l.length + 1 := by
  have := spl_count p l [] []
  unfold splitB spl
  simp only [List.length_append, List.length_cons, List.length_nil] at this ⊢
  omega
theorem words_small {l : List UInt8} {n : Nat} (h : l.length ≤ n) : ∀ a ∈ wordsB l, a.length ≤ n := fun a ha => Nat.le_trans (split_small _ l a (List.mem_filter.1 ha).1) h
/-- what Parse returns -/
def RetPar (w : World) (o : Option Pl × Nat) (e : Ending) (w' : World) : Prop :=
  Below w.heap.size w w' ∧ match o.1 with
  | some p => ∃ rv pv, e = .returned (.tuple #[.agg #[rv, pv, .bool p.bare], .int .i64 0, .int .i64 0]) ∧ OwnX 99 4 Ru.cl w' w.heap.size rv p.rs ∧ OwnX 3 1 clI w' w.heap.size pv p.ps
  | none => e = .returned (.tuple #[.agg #[.slice none 0 0, .slice none 0 0, .bool false], .int .i64 (o.2 : Nat), .int .i64 4])
theorem OwnX.set3 {X : Type} {t : TypeId} {s : Nat} {cl : X → List Value} {x : World} {base : Nat} {v : Value} {l : List X} (h : OwnX t s cl x base v l) {r : Nat} {c0 c1 c2 : Value} {t' : TypeId} (hb : x.heap[r]? = some (.cells #[c0, c1, c2] t')) (ht : t' ≠ t) (a b c : Value) : OwnX t s cl (((x.setCell ⟨r, 0, none⟩ a).setCell ⟨r, 1, none⟩ b).setCell ⟨r, 2, none⟩ c) base v l :=
  ((h.setOther hb ht 0 a).setOther (set_row hb 0 a) ht 1 b).setOther (set_row (set_row hb 0 a) 1 b) ht 2 c
theorem set3_row {x : World} {r : Nat} {c0 c1 c2 : Value} {t' : TypeId} (hb : x.heap[r]? = some (.cells #[c0, c1, c2] t')) (a b c : Value) : (((x.setCell ⟨r, 0, none⟩ a).setCell ⟨r, 1, none⟩ b).setCell ⟨r, 2, none⟩ c).heap[r]? = some (.cells #[a, b, c] t') := set_row (set_row (set_row hb 0 a) 1 b) 2 c
theorem set3_below {B : Nat} {a x : World} (h : Below B a x) {r : Nat} (hr : B ≤ r) (u v z : Value) : Below B a (((x.setCell ⟨r, 0, none⟩ u).setCell ⟨r, 1, none⟩ v).setCell ⟨r, 2, none⟩ z) :=
  ((h.setCell (p := ⟨r, 0, none⟩) hr u).setCell (p := ⟨r, 1, none⟩) hr v).setCell (p := ⟨r, 2, none⟩) hr z
theorem Blks.keepBB {b : Nat} {c : Array Value} {t : TypeId} {x y : World} {B : Nat} (h : Blks [(b, c, t)] x) (hb : Below B x y) (hl : b < B) : Blks [(b, c, t)] y := fun e he => by
  rcases List.mem_cons.1 he with q | q
  · rw [q]; exact (hb.block b hl).trans (h _ (.head _))
  · cases q
set_option maxRecDepth 100000 in
set_option maxHeartbeats 4000000 in
theorem parse10_any (s : ByteArray) (w : World) (hs : s.size ≤ 100000) (hmax : MaxVar w) :
    Calls Tryz.prog 39 #[.string s] w (RetPar w (parseL .zero 0 (linesB s))) := by
  have HX := Lib.hid hmax
  clear hmax
  have HA : Hid (Below w.heap.size w (w.alloc (.cells #[.slice none 0 0, .slice none 0 0, .bool false] 61))) := (Below.refl _ _).alloc (Nat.le_refl _) _
  have hll : (linesB s).length ≤ 100001 := by
    have := split_count (hasB [10]) s.data.toList
    have e : s.data.toList.length = s.size := Array.length_toList
    unfold linesB
    omega
  have hsm : ∀ l ∈ linesB s, l.length ≤ 100000 := fun l hl => by
    have := split_small (hasB [10]) s.data.toList l hl
    rw [Array.length_toList] at this
    exact Nat.le_trans this hs
  have HSM := Lib.hid hsm
  clear hsm
  go_enter Tryz.func39, Tryz.ntmps39
  go_wp2_with fail
  refine (lines_any s _ (by omega) (maxVar_below HX.out (HA.out.alloc HA.out.size _))).mono ?_
  rintro e x1 ⟨rfl, rfl⟩
  rw [show splitB (hasB [10]) s.data.toList = linesB s from rfl]
  generalize linesB s = ls at *
  obtain ⟨wA, hwA⟩ : ∃ y, y = w.alloc (.cells #[.slice none 0 0, .slice none 0 0, .bool false] 61) := ⟨_, rfl⟩
  have HSZ : Hid (wA.heap.size = w.heap.size + 1) := by show _ = _; rw [hwA]; simp
  have HRB : Hid (Blks [(w.heap.size, #[.slice none 0 0, .slice none 0 0, .bool false], 61)] wA) := by rw [hwA]; exact (Blks.empty w).new _ _
  rw [← hwA] at HA ⊢
  have HP0 : Hid (PS wA (wA.alloc (.cells #[.slice none 0 0, .slice none 0 0, .bool false] 61)) (w.heap.size + 1) (w.heap.size + 1) (.slice none 0 0) (.slice none 0 0) [] [] false) := by
    have hb : Below (w.heap.size + 1) wA (wA.alloc (.cells #[.slice none 0 0, .slice none 0 0, .bool false] 61)) := (Below.refl _ _).alloc (by rw [HSZ.out]; exact Nat.le_refl _) _
    refine ⟨hb, ?_, OwnX.nil _ _, OwnX.nil _ _, Nat.le_refl _, ?_⟩
    · rw [← HSZ.out]; exact Go.Deep.blk_alloc_new _ _
    · simp [HSZ.out]
  have HB0 : Hid (Below (wA.alloc (.cells #[.slice none 0 0, .slice none 0 0, .bool false] 61)).heap.size (wA.alloc (.cells #[.slice none 0 0, .slice none 0 0, .bool false] 61)) ((wA.alloc (.cells #[.slice none 0 0, .slice none 0 0, .bool false] 61)).alloc (.cells (strCs ls).toArray 9))) := (Below.refl _ _).alloc (Nat.le_refl _) _
  have HP1 := Lib.hid (HP0.out.keep HB0.out)
  have HLB : Hid (((wA.alloc (.cells #[.slice none 0 0, .slice none 0 0, .bool false] 61)).alloc (.cells (strCs ls).toArray 9)).heap[(wA.alloc (.cells #[.slice none 0 0, .slice none 0 0, .bool false] 61)).heap.size]? = some (.cells (strCs ls).toArray 9)) := Go.Deep.blk_alloc_new _ _
  clear HP0 HB0
  generalize (wA.alloc (.cells #[.slice none 0 0, .slice none 0 0, .bool false] 61)).alloc (.cells (strCs ls).toArray 9) = x1 at *
  generalize (wA.alloc (.cells #[.slice none 0 0, .slice none 0 0, .bool false] 61)).heap.size = b at *
  clear hwA
  go_wp2
  go_loopw [11] (fun i wr => ∃ (j : Nat) (p : Pl) (rv pv : Value), j ≤ ls.length ∧ i = .int .i64 j ∧ Hid (PS wA wr (w.heap.size + 1) (w.heap.size + 1) rv pv p.rs p.ps p.bare) ∧ Hid (wr.heap[b]? = some (.cells (strCs ls).toArray 9)) ∧ Hid (parseL .zero 0 ls = parseL p j (ls.drop j)) ∧ p.rs.length ≤ j ∧ p.ps.length ≤ j) (fun i _ => ls.length - (intOf i).toNat)
  case atStart => exact ⟨0, .zero, _, _, Nat.zero_le _, rfl, HP1, HLB, rfl, Nat.zero_le _, Nat.zero_le _⟩
  case round =>
    obtain ⟨j, p, rv, pv, hj, rfl, HP, HL, HE, hr1, hr2⟩ := hrel
    have HW : Hid (Below w.heap.size w wr) := HA.out.trans (HP.out.below.mono (by omega))
    by_cases hlt : j < ls.length
    · obtain ⟨l, hl⟩ : ∃ l, ls[j]? = some l := ⟨_, List.getElem?_eq_getElem hlt⟩
      have c0 : wr.cell? ⟨b, j, none⟩ = some (.string ⟨l.toArray⟩) := by
        rw [cell_row HL.out]
        unfold strCs
        rw [List.getElem?_toArray, List.getElem?_map, hl]; rfl
      have hjl : (j : Int) < ls.length := by omega
      have hsl : l.length ≤ 100000 := HSM.out l (List.mem_of_getElem? hl)
      have HWD : Hid (Calls Tryz.prog 69 #[.string ⟨l.toArray⟩] wr (RetParts wr.heap.size (wordsB l) wr)) := by
        have := words10_any ⟨l.toArray⟩ wr (by simp [ByteArray.size]; omega)
        show Calls _ _ _ _ _
        simpa using this
      have HDR : Hid (ls.drop j = l :: ls.drop (j + 1)) := by
        show _ = _
        rw [List.drop_eq_getElem_cons hlt]
        congr 1
        rw [List.getElem?_eq_getElem hlt] at hl
        exact Option.some.inj hl
      go_wp2_with fail
      refine HWD.out.mono ?_
      rintro e x2 ⟨v, rfl, hpv, hb2⟩
      have HT := Lib.hid (take10_any wA x2 (w.heap.size + 1) (w.heap.size + 1) rv pv p _ v (wordsB l) (HP.out.keep hb2) hpv (maxVar_below HX.out (HW.out.trans (hb2.mono HW.out.size))) (fun a ha => Nat.le_trans (words_small hsl a ha) (by omega)) (by omega) (by omega))
      have HL2 := Lib.hid ((hb2.block b (block_lt HL.out)).trans HL.out)
      clear hb2 hpv HWD c0
      cases hz : lineZ p (wordsB l) with
      | some q =>
        rw [hz] at HT
        have HQ : Hid (parseL .zero 0 ls = parseL q (j + 1) (ls.drop (j + 1))) := by show _ = _; rw [HE.out, HDR.out, parseL_some hz]
        obtain ⟨hq1, hq2⟩ := lineZ_len hz
        clear hz
        go_wp2_with fail
        refine HT.out.mono ?_
        rintro e x3 ⟨hK, rv', pv', rfl, hP3⟩
        have HP3 := Lib.hid hP3
        have HL3 := Lib.hid (hK b _ HL2.out)
        clear hK hP3
        go_wp2
        go_roundw
        case rel => exact ⟨j + 1, q, rv', pv', by omega, by go_num, HP3, HL3, HQ, by omega, by omega⟩
        case measure => simp [intOf]; omega
      | none =>
        rw [hz] at HT
        have HQ : Hid (parseL .zero 0 ls = (none, j + 1)) := by show _ = _; rw [HE.out, HDR.out, parseL_none hz]
        clear hz
        go_wp2_with fail
        refine HT.out.mono ?_
        rintro e x3 ⟨_, rfl, hP3⟩
        have HRX := Lib.hid (HRB.out.keepBB hP3.below (by omega))
        have HW3 : Hid (Below w.heap.size w x3) := HA.out.trans (hP3.below.mono (by omega))
        obtain ⟨lr, r0, r1, r2⟩ := HRX.out.r3 (.head _)
        have fr := fun i => frozen_row (HRX.out _ (.head _)) i
        have f0 := fr 0
        have f1 := fr 1
        have f2 := fr 2
        have hrow := set3_row (HRX.out (w.heap.size, _, _) (.head _)) (.slice none 0 0) (.slice none 0 0) (.bool false)
        have s0 := cell_row hrow 0
        have s1 := cell_row hrow 1
        have s2 := cell_row hrow 2
        have HB3 := Lib.hid (set3_below HW3.out (Nat.le_refl _) (.slice none 0 0) (.slice none 0 0) (.bool false))
        simp at s0 s1 s2
        have HR := Lib.hid (And.intro s0 (And.intro s1 s2))
        clear s0 s1 s2 hrow fr hP3
        go_wp2
        obtain ⟨s0, s1, s2⟩ := HR.out
        refine bodyPost_ret (v := .tuple #[.agg #[.slice none 0 0, .slice none 0 0, .bool false], .int .i64 ((j + 1 : Nat) : Int), .int .i64 4]) (by simp [results, Tryz.results39, go_sem, s0, s1, s2]) rfl ?_
        rw [HQ.out]
        exact ⟨HB3.out, rfl⟩
    · have hj' : j = ls.length := by omega
      subst hj'
      have HQ : Hid (parseL .zero 0 ls = (some p, 0)) := by show _ = _; rw [HE.out, List.drop_length]; rfl
      have HRX := Lib.hid (HRB.out.keepBB HP.out.below (by omega))
      obtain ⟨lr, r0, r1, r2⟩ := HRX.out.r3 (.head _)
      have p0 := cell_row HP.out.blk 0
      have p1 := cell_row HP.out.blk 1
      have p2 := cell_row HP.out.blk 2
      simp at p0 p1 p2
      have f0 := frozen_row (HRX.out _ (.head _)) 0
      have f1 := frozen_row (HRX.out _ (.head _)) 1
      have f2 := frozen_row (HRX.out _ (.head _)) 2
      obtain ⟨ra, rc, rfl⟩ := HP.out.rows.form
      obtain ⟨pa, pc, rfl⟩ := HP.out.ports.form
      have hrow := set3_row (HRX.out (w.heap.size, _, _) (.head _)) (.slice ra p.rs.length rc) (.slice pa p.ps.length pc) (.bool p.bare)
      have s0 := cell_row hrow 0
      have s1 := cell_row hrow 1
      have s2 := cell_row hrow 2
      have HB3 := Lib.hid (set3_below HW.out (Nat.le_refl _) (.slice ra p.rs.length rc) (.slice pa p.ps.length pc) (.bool p.bare))
      have HO1 := Lib.hid ((HP.out.rows.set3 (HRX.out (w.heap.size, _, _) (.head _)) tyPR (.slice ra p.rs.length rc) (.slice pa p.ps.length pc) (.bool p.bare)).lower (Nat.le_succ _))
      have HO2 := Lib.hid ((HP.out.ports.set3 (HRX.out (w.heap.size, _, _) (.head _)) tyPI (.slice ra p.rs.length rc) (.slice pa p.ps.length pc) (.bool p.bare)).lower (Nat.le_succ _))
      simp at s0 s1 s2
      have HR := Lib.hid (And.intro s0 (And.intro s1 s2))
      clear s0 s1 s2 hrow
      go_wp2
      obtain ⟨s0, s1, s2⟩ := HR.out
      refine bodyPost_ret (v := .tuple #[.agg #[.slice ra p.rs.length rc, .slice pa p.ps.length pc, .bool p.bare], .int .i64 0, .int .i64 0]) (by simp [results, Tryz.results39, go_sem, s0, s1, s2]) rfl ?_
      rw [HQ.out]
      exact ⟨HB3.out, _, _, rfl, HO1.out, HO2.out⟩
end

section
open Go.RowKit
theorem size_drew (w : World) : w.drew.heap.size = w.heap.size := rfl
/-- a gate in memory -/
structure IsGate (x : World) (q g : Nat) (T : HT) (v : Value) (ps : List Int) : Prop where
  trie : IsTrie x g T
  gate : x.heap[q]? = some (.cells #[.pointer (some ⟨g, 0, none⟩), v] 88)
  row : ∃ b, OwnX 3 1 clI x b v ps
theorem IsGate.keep {x y : World} {q g : Nat} {T : HT} {v : Value} {ps : List Int} (h : IsGate x q g T v ps) (hb : Below x.heap.size x y) : IsGate y q g T v ps :=
  ⟨h.trie.keep hb, (hb.block q (block_lt h.gate)).trans h.gate, by obtain ⟨b, ho⟩ := h.row; exact ⟨b, ho.keep hb⟩⟩
theorem OwnX.blk {X : Type} {t : TypeId} {s : Nat} {cl : X → List Value} {x : World} {base : Nat} {v : Value} {l : List X} (h : OwnX t s cl x base v l) : ∃ Lp, Blks Lp x ∧ (∀ e ∈ Lp, base ≤ e.1) ∧ ∀ Y, Blks Lp Y → OwnX t s cl Y base v l := by
  rcases h.2 with ⟨e, hn⟩ | ⟨g, cap, cur, e, hb, hg, r⟩
  · exact ⟨[], Blks.empty _, fun e he => (by cases he), fun Y _ => ⟨h.1, .inl ⟨e, hn⟩⟩⟩
  · refine ⟨[(g, cur, t)], fun e he => ?_, fun e he => ?_, fun Y hY => ⟨h.1, .inr ⟨g, cap, cur, e, hb, hY _ (.head _), r⟩⟩⟩
    · rcases List.mem_cons.1 he with q | q
      · rw [q]; exact hg
      · cases q
    · rcases List.mem_cons.1 he with q | q
      · rw [q]; exact hb
      · cases q
theorem rfl_base {rs : List Ru} : HT.nil.pt = polTo rs 0 (base10 true) := by
  unfold polTo base10; simp; rfl
theorem lay_base {rs : List Ru} : lay9 0 HT.nil.pt = polTo rs 0 (base10 false) := by
  unfold polTo base10; simp; rfl
theorem gate_first {w x0 x1 x2 x3 : World} {P : Array Value} {tp tg : TypeId} {v : Value} {Lp : List (Nat × Array Value × TypeId)} (h0 : x0 = w.alloc (.cells P tp)) (h1 : Below x0.heap.size x0 x1) (h2 : Below x1.heap.size x1 x2) (ht : IsTrie x2 x1.heap.size .nil) (hx : x1.heap.size < x2.heap.size) (h3 : Below x2.heap.size x2 x3) (hL : Blks Lp x3) (hl : ∀ e ∈ Lp, x2.heap.size ≤ e.1) :
    St w (x3.alloc (.cells #[.pointer (some ⟨x1.heap.size, 0, none⟩), v] tg)) x1.heap.size .nil ((x3.heap.size, #[.pointer (some ⟨x1.heap.size, 0, none⟩), v], tg) :: (w.heap.size, P, tp) :: Lp) := by
  have hw : Below w.heap.size w x0 := by rw [h0]; exact (Below.refl _ _).alloc (Nat.le_refl _) _
  have s0 : x0.heap.size = w.heap.size + 1 := by rw [h0]; simp
  have s1 := h1.size
  have s2 := h2.size
  have s3 := h3.size
  have hB : Blks [(w.heap.size, P, tp)] x0 := by rw [h0]; exact (Blks.empty w).new P tp
  have hB3 := ((hB.keep h1).keep h2).keep h3
  have hB4 : Blks ((w.heap.size, P, tp) :: Lp) x3 := fun e he => by
    rcases List.mem_cons.1 he with q | q
    · exact hB3 e (by rw [q]; exact .head _)
    · exact hL e q
  refine ⟨?_, (ht.keep h3).keep ((Below.refl _ _).alloc (Nat.le_refl _) _), fun b hb => ?_, hB4.new _ _, fun e he hq => ?_⟩
  · have := below_chain7 (below_chain7 (below_chain7 hw h1) h2) h3
    exact this.alloc this.size _
  · rcases List.mem_cons.1 hb with q | q
    · rw [q]; omega
    · cases q
  · have hq' : e.1 = x1.heap.size := by
      rcases List.mem_cons.1 hq with q | q
      · exact q
      · cases q
    rcases List.mem_cons.1 he with q | q
    · rw [q] at hq'; simp only at hq'; omega
    · rcases List.mem_cons.1 q with q | q
      · rw [q] at hq'; simp only at hq'; omega
      · have := hl e q; omega
set_option maxRecDepth 100000 in
set_option maxHeartbeats 4000000 in
theorem build10_bad (ra pa : Option Addr) (rc pc : Nat) (bare : Bool) (rs : List Ru) (ps : List Int) (w : World) (hr : IsURow w ra rs.length rc rs) (hp : IsIRow w pa ps.length pc ps) (hc : checkZ rs ps ≠ 0) :
    Calls Tryz.prog 28 #[.agg #[.slice ra rs.length rc, .slice pa ps.length pc, .bool bare]] w fun e w' => e = .returned (.tuple #[.pointer none, .int .i64 (checkZ rs ps)]) ∧ Below w.heap.size w w' := by
  have HW0 : Hid (Below w.heap.size w (w.alloc (.cells #[.slice ra rs.length rc, .slice pa ps.length pc, .bool bare] 61))) := (Below.refl _ _).alloc (Nat.le_refl _) _
  have HC := Lib.hid (check10_any ra pa rc pc bare rs ps _ (hr.keep HW0.out) (hp.keep HW0.out))
  have hne : ((checkZ rs ps) == 0) = false := beq_eq_false_iff_ne.2 hc
  clear hr hp hc
  go_enter Tryz.func28, Tryz.ntmps28
  go_wp2_with fail
  refine HC.out.mono ?_
  rintro e x1 ⟨rfl, hb1⟩
  have hb2 := below_chain7 HW0.out hb1
  go_wp2
  go_ret2
  exact ⟨rfl, hb2⟩
/-- what Build returns of a policy that may be -/
def RetB (w : World) (rs : List Ru) (ps : List Int) (bare : Bool) (e : Ending) (w' : World) : Prop :=
  ∃ q g T v, e = .returned (.tuple #[.pointer (some ⟨q, 0, none⟩), .int .i64 0]) ∧ IsGate w' q g T v ps ∧ T.pt = polZ rs bare ∧ Below w.heap.size w w'
set_option maxRecDepth 100000 in
set_option maxHeartbeats 8000000 in
theorem build10_ok (ra pa : Option Addr) (rc pc : Nat) (bare : Bool) (rs : List Ru) (ps : List Int) (w : World) (hmax : MaxVar w) (hr : IsURow w ra rs.length rc rs) (hp : IsIRow w pa ps.length pc ps) (hc : checkZ rs ps = 0) :
    Calls Tryz.prog 28 #[.agg #[.slice ra rs.length rc, .slice pa ps.length pc, .bool bare]] w (RetB w rs ps bare) := by
  have HX := Lib.hid hmax
  have HRO := Lib.hid hr
  have HPO := Lib.hid hp
  have hx0 : Below w.heap.size w (w.alloc (.cells #[.slice ra rs.length rc, .slice pa ps.length pc, .bool bare] 61)) := (Below.refl _ _).alloc (Nat.le_refl _) _
  have HC : Hid (Calls Tryz.prog 31 #[.agg #[.slice ra rs.length rc, .slice pa ps.length pc, .bool bare]] (w.alloc (.cells #[.slice ra rs.length rc, .slice pa ps.length pc, .bool bare] 61)) fun e w' => e = .returned (.int .i64 0) ∧ Below (w.alloc (.cells #[.slice ra rs.length rc, .slice pa ps.length pc, .bool bare] 61)).heap.size (w.alloc (.cells #[.slice ra rs.length rc, .slice pa ps.length pc, .bool bare] 61)) w') := by
    have := check10_any ra pa rc pc bare rs ps _ (hr.keep hx0) (hp.keep hx0); rw [hc] at this; exact this
  obtain ⟨hl1, hl2, h3, _⟩ := check_zero hc
  have HR3 := Lib.hid h3
  have HOK : Hid (∀ x ∈ rs, x.Ok) := fun x hx => by
    obtain ⟨i, hi, e⟩ := List.getElem_of_mem hx
    exact (hr.2 i x (by rw [List.getElem?_eq_getElem hi, e])).2
  clear hr hp hmax hc h3
  go_enter Tryz.func28, Tryz.ntmps28
  go_wp2_with fail
  refine HC.out.mono ?_
  rintro e x1 ⟨rfl, hb1⟩
  have HW1 := Lib.hid hb1
  have HB1 := Lib.hid (((Blks.empty w).new #[.slice ra rs.length rc, .slice pa ps.length pc, .bool bare] 61).keep hb1)
  have HX1 := Lib.hid (below_chain7 hx0 hb1)
  clear HC hb1 hx0
  go_wp2_with fail
  have HK4 : Hid (∀ W, Below x1.heap.size x1 W → (fun W => W.cell? ⟨w.heap.size, 1, none⟩ = some (.slice pa ps.length pc)) W) := fun W hW => ((HB1.out.keep hW).r3 (.head _)).2.2.1
  have HCL : Hid (∀ W, Below x1.heap.size x1 W → Calls Tryz.prog 60 #[.slice pa ps.length pc] W fun e w' => ∃ v, e = .returned v ∧ OwnX 3 1 clI w' W.heap.size v ps ∧ Below W.heap.size W w') := fun W hW => clone10_any pa pc ps W (HPO.out.keep (below_chain7 HX1.out hW)) (by omega)
  refine wp_region_held_drew (S := fun W => W.cell? ⟨w.heap.size, 1, none⟩ = some (.slice pa ps.length pc)) (by kernel_rfl) ?_ (fun hHeld => ?_)
  · exact HK4.out _ (below_drew1 _)
  refine wpAnyH_take (i := 1) (oi := ⟨some 14, _, _, _, _, _⟩) (v := ?_) rfl (by kernel_rfl) (by kernel_rfl) (by kernel_rfl) (fun _ _ _ h => h) (Or.inl ⟨by rfl, ?_⟩) hHeld ?_
  rotate_left
  · intro w hSw
    (try dsimp only at hSw)
    go_simp
    try with_reducible rfl
  try simp only [Act.put, List.setIfInBounds_toArray, List.set_cons_zero, List.set_cons_succ]
  refine wpAnyH_take (i := 2) (oi := ⟨some 15, _, _, _, _, _⟩) (v := ?_) rfl (by kernel_rfl) (by kernel_rfl) (by kernel_rfl) (fun _ _ _ h => h) (Or.inl ⟨by rfl, ?_⟩) hHeld ?_
  rotate_left
  · intro w hSw
    (try dsimp only at hSw)
    go_simp
    try with_reducible rfl
  try simp only [Act.put, List.setIfInBounds_toArray, List.set_cons_zero, List.set_cons_succ]
  refine wpAnyH_ready (rs := [0]) (by kernel_rfl) (by simp) ?_
  refine AllReadyH.cons (o := ⟨some 13, _, _, _, _, _⟩) rfl (fun K hK => ?_) AllReadyH.nil
  go_simp
  go_at_call 16
  refine (new_any _).mono ?_
  rintro e x2 ⟨rfl, hb2, ht2⟩
  have HW2 := Lib.hid (drew_c hb2)
  have HT2 := Lib.hid ht2
  clear hb2 ht2
  simp only [size_drew] at HT2
  simp only [size_drew]
  (try go_wp2_with fail)
  refine hK.out _ _ ?_ (fun hHeld1 => ?_)
  · exact HK4.out _ HW2.out
  clear hK K
  try simp only [Act.put, List.setIfInBounds_toArray, List.set_cons_zero, List.set_cons_succ]
  refine wpAnyH_ready (rs := [3]) (by kernel_rfl) (by simp) ?_
  refine AllReadyH.cons (o := ⟨some 16, _, _, _, _, _⟩) rfl (fun K hK => ?_) AllReadyH.nil
  go_simp
  go_at_call 60
  refine (HCL.out _ HW2.out).mono ?_
  rintro e x3 ⟨v, rfl, ho3, hb3⟩
  have HW3 := Lib.hid hb3
  have HO3 := Lib.hid ho3
  clear hb3 ho3
  obtain ⟨pa2, pc2, rfl⟩ := HO3.out.form
  (try go_wp2_with fail)
  refine hK.out _ _ ?_ (fun hHeld2 => ?_)
  · exact HK4.out _ (below_chain7 HW2.out HW3.out)
  clear hK K
  try simp only [Act.put, List.setIfInBounds_toArray, List.set_cons_zero, List.set_cons_succ]
  refine wpAnyH_take (i := 4) (oi := ⟨some 17, _, _, _, _, _⟩) (v := ?_) rfl (by kernel_rfl) (by kernel_rfl) (by kernel_rfl) (fun _ _ _ h => h) (Or.inl ⟨by rfl, ?_⟩) hHeld2 ?_
  rotate_left
  · intro w hSw
    (try dsimp only at hSw)
    go_simp
    try with_reducible rfl
  try simp only [Act.put, List.setIfInBounds_toArray, List.set_cons_zero, List.set_cons_succ]
  refine wpAnyH_ready (rs := [5]) (by kernel_rfl) (by simp) ?_
  refine AllReadyH.cons (o := ⟨some 18, _, _, _, _, _⟩) rfl (fun K hK => ?_) AllReadyH.nil
  go_simp
  refine hK.out _ _ ?_ (fun hHeld3 => ?_)
  · exact HK4.out _ ((below_chain7 HW2.out HW3.out).alloc (below_chain7 HW2.out HW3.out).size _)
  clear hK K
  try simp only [Act.put, List.setIfInBounds_toArray, List.set_cons_zero, List.set_cons_succ]
  refine wpAnyH_take (i := 6) (oi := ⟨some 5, _, _, _, _, _⟩) (v := ?_) rfl (by kernel_rfl) (by kernel_rfl) (by kernel_rfl) (fun _ _ _ h => h) (Or.inl ⟨by rfl, ?_⟩) hHeld3 ?_
  rotate_left
  · intro w hSw
    (try dsimp only at hSw)
    go_simp
    try with_reducible rfl
  try simp only [Act.put, List.setIfInBounds_toArray, List.set_cons_zero, List.set_cons_succ]
  refine wpAnyH_done (by kernel_rfl) ?_ _
  obtain ⟨Lp, hLb, hLl, hLo⟩ := HO3.out.blk
  have HS := Lib.hid (gate_first (tp := 61) (tg := 88) (v := .slice pa2 ps.length pc2) (P := #[.slice ra rs.length rc, .slice pa ps.length pc, .bool bare]) rfl HW1.out HW2.out HT2.out (HT2.out.lt _ (.head _)) HW3.out hLb hLl)
  have HLO := Lib.hid hLo
  clear hLb hLl hLo HO3 HW3 HT2 HW2 HK4 HCL HB1 HX1 HW1
  generalize x3.alloc (.cells #[.pointer (some ⟨x1.heap.size, 0, none⟩), .slice pa2 ps.length pc2] 88) = x4 at *
  generalize x3.heap.size = q at *
  generalize x1.heap.size = g at *
  obtain ⟨v, hv⟩ : ∃ v, v = Value.slice pa2 ps.length pc2 := ⟨_, rfl⟩
  rw [← hv] at HS HLO
  clear hv
  obtain ⟨lb, p0, p1, p2⟩ := HS.out.blks.r3 (b := w.heap.size) (.tail _ (.head _))
  obtain ⟨lq, q0, q1⟩ := HS.out.blks.r2 (b := q) (.head _)
  cases bare with
  | true =>
    have HPT : Hid (HT.nil.pt = polTo rs 0 (base10 true)) := rfl_base
    clear lb
    go_wp2
    clear p0 p1 p2
    go_loopw [30] (fun i wr => ∃ (j : Nat) (T : HT), j ≤ rs.length ∧ i = .int .i64 j ∧ Hid (St w wr g T ((q, #[.pointer (some ⟨g, 0, none⟩), v], 88) :: (w.heap.size, #[.slice ra rs.length rc, .slice pa ps.length pc, .bool true], 61) :: Lp)) ∧ Hid (T.pt = polTo rs j (base10 true))) (fun i _ => rs.length - (intOf i).toNat)
    case atStart => exact ⟨0, .nil, Nat.zero_le _, rfl, HS, HPT⟩
    case round =>
      obtain ⟨j, T, hj, rfl, HS, HP⟩ := hrel
      by_cases hlt : j < rs.length
      · obtain ⟨ad, rfl, x, hx, ⟨c0, c1, c2, c3⟩, hx1, hx2, _⟩ := (HRO.out.keep HS.out.below).at hlt
        have hjl : (j : Int) < rs.length := by omega
        have HS1 := Lib.hid (HS.out.new #[.int .u64 (x.hi : Nat), .int .u64 (x.lo : Nat), .int .i64 x.k, .bool x.a] 99)
        have HK10 : Hid (∀ Y T', St w Y g T' ((wr.heap.size, #[.int .u64 (x.hi : Nat), .int .u64 (x.lo : Nat), .int .i64 x.k, .bool x.a], 99) :: ((q, #[.pointer (some ⟨g, 0, none⟩), v], 88) :: (w.heap.size, #[.slice (some ad) rs.length rc, .slice pa ps.length pc, .bool true], 61) :: Lp)) → (fun W => W.cell? ⟨q, 0, none⟩ = some (.pointer (some ⟨g, 0, none⟩)) ∧ W.cell? ⟨wr.heap.size, 0, none⟩ = some (.int .u64 (x.hi : Nat)) ∧ W.cell? ⟨wr.heap.size, 1, none⟩ = some (.int .u64 (x.lo : Nat)) ∧ W.cell? ⟨wr.heap.size, 2, none⟩ = some (.int .i64 x.k) ∧ W.cell? ⟨wr.heap.size, 3, none⟩ = some (.bool x.a)) Y) := fun Y T' hY => ⟨(hY.blks.r2 (b := q) (.tail _ (.head _))).2.1, (hY.blks.q4 (.head _)).2⟩
        have HPU : Hid (∀ X, Below (wr.alloc (.cells #[.int .u64 (x.hi : Nat), .int .u64 (x.lo : Nat), .int .i64 x.k, .bool x.a] 99)).heap.size (wr.alloc (.cells #[.int .u64 (x.hi : Nat), .int .u64 (x.lo : Nat), .int .i64 x.k, .bool x.a] 99)) X → Calls Tryz.prog 51 #[.pointer (some ⟨g, 0, none⟩), .agg #[.int .u64 (x.hi : Nat), .int .u64 (x.lo : Nat), .int .i64 x.k], .int .i64 x.v] X fun e w' => ∃ T2, e = .returned (.bool true) ∧ Hid (St w w' g T2 ((wr.heap.size, #[.int .u64 (x.hi : Nat), .int .u64 (x.lo : Nat), .int .i64 x.k, .bool x.a], 99) :: ((q, #[.pointer (some ⟨g, 0, none⟩), v], 88) :: (w.heap.size, #[.slice (some ad) rs.length rc, .slice pa ps.length pc, .bool true], 61) :: Lp))) ∧ Hid (T2.pt = polTo rs (j + 1) (base10 true))) := fun X hX => by
          obtain ⟨k1, k2, k3⟩ := right_nat (all_at HR3.out hx)
          have hlen : T.pt.list.length < 1000000 := by
            rw [HP.out]
            have := polTo_len HOK.out HR3.out (base10_inv true) j
            have := base10_len true
            omega
          have := put_any g T x.hi x.lo x.k.toNat x.v X (HS1.out.keep hX).trie hx1 hx2 k1 k2 hlen
          rw [k3] at this
          refine this.mono ?_
          rintro e w' ⟨T2, rfl, hm, hp⟩
          exact ⟨T2, rfl, (HS1.out.keep hX).moved hm, by show T2.pt = _; rw [polTo_succ hx, ← HP.out]; exact hp⟩
        clear hx1 hx2
        go_wp2_with fail
        clear c0 c1 c2 c3
        refine wp_region_held_drew (S := fun W => W.cell? ⟨q, 0, none⟩ = some (.pointer (some ⟨g, 0, none⟩)) ∧ W.cell? ⟨wr.heap.size, 0, none⟩ = some (.int .u64 (x.hi : Nat)) ∧ W.cell? ⟨wr.heap.size, 1, none⟩ = some (.int .u64 (x.lo : Nat)) ∧ W.cell? ⟨wr.heap.size, 2, none⟩ = some (.int .i64 x.k) ∧ W.cell? ⟨wr.heap.size, 3, none⟩ = some (.bool x.a)) (by kernel_rfl) ?_ (fun hHeld => ?_)
        · exact HK10.out _ _ (HS1.out.keep (below_drew1 _))
        refine wpAnyH_take (i := 0) (oi := ⟨some 34, _, _, _, _, _⟩) (v := ?_) rfl (by kernel_rfl) (by kernel_rfl) (by kernel_rfl) (fun _ _ _ h => h) (Or.inl ⟨by rfl, ?_⟩) hHeld ?_
        rotate_left
        · intro w hSw
          (try dsimp only at hSw)
          go_simp
          try with_reducible rfl
        try simp only [Act.put, List.setIfInBounds_toArray, List.set_cons_zero, List.set_cons_succ]
        refine wpAnyH_take (i := 1) (oi := ⟨some 35, _, _, _, _, _⟩) (v := ?_) rfl (by kernel_rfl) (by kernel_rfl) (by kernel_rfl) (fun _ _ _ h => h) (Or.inl ⟨by rfl, ?_⟩) hHeld ?_
        rotate_left
        · intro w hSw
          (try dsimp only at hSw)
          go_simp
          try with_reducible rfl
        try simp only [Act.put, List.setIfInBounds_toArray, List.set_cons_zero, List.set_cons_succ]
        refine wpAnyH_take (i := 2) (oi := ⟨some 36, _, _, _, _, _⟩) (v := ?_) rfl (by kernel_rfl) (by kernel_rfl) (by kernel_rfl) (fun _ _ _ h => h) (Or.inl ⟨by rfl, ?_⟩) hHeld ?_
        rotate_left
        · intro w hSw
          (try dsimp only at hSw)
          go_simp
          try with_reducible rfl
        try simp only [Act.put, List.setIfInBounds_toArray, List.set_cons_zero, List.set_cons_succ]
        refine wpAnyH_take (i := 3) (oi := ⟨some 37, _, _, _, _, _⟩) (v := ?_) rfl (by kernel_rfl) (by kernel_rfl) (by kernel_rfl) (fun _ _ _ h => h) (Or.inl ⟨by rfl, ?_⟩) hHeld ?_
        rotate_left
        · intro w hSw
          (try dsimp only at hSw)
          go_simp
          try with_reducible rfl
        try simp only [Act.put, List.setIfInBounds_toArray, List.set_cons_zero, List.set_cons_succ]
        refine wpAnyH_take (i := 4) (oi := ⟨some 38, _, _, _, _, _⟩) (v := ?_) rfl (by kernel_rfl) (by kernel_rfl) (by kernel_rfl) (fun _ _ _ h => h) (Or.inl ⟨by rfl, ?_⟩) hHeld ?_
        rotate_left
        · intro w hSw
          (try dsimp only at hSw)
          go_simp
          try with_reducible rfl
        try simp only [Act.put, List.setIfInBounds_toArray, List.set_cons_zero, List.set_cons_succ]
        refine wpAnyH_take (i := 5) (oi := ⟨some 39, _, _, _, _, _⟩) (v := ?_) rfl (by kernel_rfl) (by kernel_rfl) (by kernel_rfl) (fun _ _ _ h => h) (Or.inl ⟨by rfl, ?_⟩) hHeld ?_
        rotate_left
        · intro w hSw
          (try dsimp only at hSw)
          go_simp
          try with_reducible rfl
        try simp only [Act.put, List.setIfInBounds_toArray, List.set_cons_zero, List.set_cons_succ]
        refine wpAnyH_take (i := 6) (oi := ⟨some 40, _, _, _, _, _⟩) (v := ?_) rfl (by kernel_rfl) (by kernel_rfl) (by kernel_rfl) (fun _ _ _ h => h) (Or.inl ⟨by rfl, ?_⟩) hHeld ?_
        rotate_left
        · intro w hSw
          (try dsimp only at hSw)
          go_simp
          try with_reducible rfl
        try simp only [Act.put, List.setIfInBounds_toArray, List.set_cons_zero, List.set_cons_succ]
        refine wpAnyH_ready (rs := [7]) (by kernel_rfl) (by simp) ?_
        refine AllReadyH.cons (o := ⟨some 41, _, _, _, _, _⟩) rfl (fun K hK => ?_) AllReadyH.nil
        go_simp
        go_at_call 61
        refine (verdict10_any x _).mono ?_
        rintro e y ⟨rfl, hby⟩
        have HY := Lib.hid (drew_c hby)
        clear hby
        (try go_wp2_with fail)
        refine hK.out _ _ ?_ (fun hHeld1 => ?_)
        · exact HK10.out _ _ (HS1.out.keep HY.out)
        clear hK K
        try simp only [Act.put, List.setIfInBounds_toArray, List.set_cons_zero, List.set_cons_succ]
        refine wpAnyH_ready (rs := [8]) (by kernel_rfl) (by simp) ?_
        refine AllReadyH.cons (o := ⟨some 42, _, _, _, _, _⟩) rfl (fun K hK => ?_) AllReadyH.nil
        go_simp
        go_at_call 51
        refine (HPU.out _ HY.out).mono ?_
        rintro e y2 ⟨T2, rfl, HS2, HP2⟩
        (try go_wp2_with fail)
        refine hK.out _ _ ?_ (fun hHeld2 => ?_)
        · exact HK10.out _ _ HS2.out
        clear hK K
        try simp only [Act.put, List.setIfInBounds_toArray, List.set_cons_zero, List.set_cons_succ]
        refine wpAnyH_done (by kernel_rfl) ?_ _
        go_wp2
        go_roundw
        case rel => exact ⟨j + 1, T2, by omega, by go_num, HS2.out.drop (fun e he => .tail _ he), HP2⟩
        case measure => simp [intOf]; omega
      · have hj' : j = rs.length := by omega
        subst hj'
        go_wp2
        go_ret2
        exact ⟨q, g, T, v, rfl, ⟨HS.out.trie, HS.out.blks _ (.head _), _, HLO.out _ (fun e he => HS.out.blks e (.tail _ (.tail _ he)))⟩, HP.out, HS.out.below⟩

  | false =>
    go_wp2_with fail
    refine (lay9_any g .nil 0 _ (maxVar_below HX.out HS.out.below) HS.out.trie (by decide)).mono ?_
    rintro e x5 ⟨T0, rfl, hm, hT⟩
    have HS5 := Lib.hid (HS.out.moved hm)
    have HPT : Hid (T0.pt = polTo rs 0 (base10 false)) := hT.trans lay_base
    clear hm hT HS lb p0 p1 p2 lq q0 q1
    have HS := Lib.hid HS5.out
    clear HS5
    obtain ⟨lb, p0, p1, p2⟩ := HS.out.blks.r3 (b := w.heap.size) (.tail _ (.head _))
    clear lb
    go_wp2
    clear p0 p1 p2
    go_loopw [30] (fun i wr => ∃ (j : Nat) (T : HT), j ≤ rs.length ∧ i = .int .i64 j ∧ Hid (St w wr g T ((q, #[.pointer (some ⟨g, 0, none⟩), v], 88) :: (w.heap.size, #[.slice ra rs.length rc, .slice pa ps.length pc, .bool false], 61) :: Lp)) ∧ Hid (T.pt = polTo rs j (base10 false))) (fun i _ => rs.length - (intOf i).toNat)
    case atStart => exact ⟨0, T0, Nat.zero_le _, rfl, HS, HPT⟩
    case round =>
      obtain ⟨j, T, hj, rfl, HS, HP⟩ := hrel
      by_cases hlt : j < rs.length
      · obtain ⟨ad, rfl, x, hx, ⟨c0, c1, c2, c3⟩, hx1, hx2, _⟩ := (HRO.out.keep HS.out.below).at hlt
        have hjl : (j : Int) < rs.length := by omega
        have HS1 := Lib.hid (HS.out.new #[.int .u64 (x.hi : Nat), .int .u64 (x.lo : Nat), .int .i64 x.k, .bool x.a] 99)
        have HK10 : Hid (∀ Y T', St w Y g T' ((wr.heap.size, #[.int .u64 (x.hi : Nat), .int .u64 (x.lo : Nat), .int .i64 x.k, .bool x.a], 99) :: ((q, #[.pointer (some ⟨g, 0, none⟩), v], 88) :: (w.heap.size, #[.slice (some ad) rs.length rc, .slice pa ps.length pc, .bool false], 61) :: Lp)) → (fun W => W.cell? ⟨q, 0, none⟩ = some (.pointer (some ⟨g, 0, none⟩)) ∧ W.cell? ⟨wr.heap.size, 0, none⟩ = some (.int .u64 (x.hi : Nat)) ∧ W.cell? ⟨wr.heap.size, 1, none⟩ = some (.int .u64 (x.lo : Nat)) ∧ W.cell? ⟨wr.heap.size, 2, none⟩ = some (.int .i64 x.k) ∧ W.cell? ⟨wr.heap.size, 3, none⟩ = some (.bool x.a)) Y) := fun Y T' hY => ⟨(hY.blks.r2 (b := q) (.tail _ (.head _))).2.1, (hY.blks.q4 (.head _)).2⟩
        have HPU : Hid (∀ X, Below (wr.alloc (.cells #[.int .u64 (x.hi : Nat), .int .u64 (x.lo : Nat), .int .i64 x.k, .bool x.a] 99)).heap.size (wr.alloc (.cells #[.int .u64 (x.hi : Nat), .int .u64 (x.lo : Nat), .int .i64 x.k, .bool x.a] 99)) X → Calls Tryz.prog 51 #[.pointer (some ⟨g, 0, none⟩), .agg #[.int .u64 (x.hi : Nat), .int .u64 (x.lo : Nat), .int .i64 x.k], .int .i64 x.v] X fun e w' => ∃ T2, e = .returned (.bool true) ∧ Hid (St w w' g T2 ((wr.heap.size, #[.int .u64 (x.hi : Nat), .int .u64 (x.lo : Nat), .int .i64 x.k, .bool x.a], 99) :: ((q, #[.pointer (some ⟨g, 0, none⟩), v], 88) :: (w.heap.size, #[.slice (some ad) rs.length rc, .slice pa ps.length pc, .bool false], 61) :: Lp))) ∧ Hid (T2.pt = polTo rs (j + 1) (base10 false))) := fun X hX => by
          obtain ⟨k1, k2, k3⟩ := right_nat (all_at HR3.out hx)
          have hlen : T.pt.list.length < 1000000 := by
            rw [HP.out]
            have := polTo_len HOK.out HR3.out (base10_inv false) j
            have := base10_len false
            omega
          have := put_any g T x.hi x.lo x.k.toNat x.v X (HS1.out.keep hX).trie hx1 hx2 k1 k2 hlen
          rw [k3] at this
          refine this.mono ?_
          rintro e w' ⟨T2, rfl, hm, hp⟩
          exact ⟨T2, rfl, (HS1.out.keep hX).moved hm, by show T2.pt = _; rw [polTo_succ hx, ← HP.out]; exact hp⟩
        clear hx1 hx2
        go_wp2_with fail
        clear c0 c1 c2 c3
        refine wp_region_held_drew (S := fun W => W.cell? ⟨q, 0, none⟩ = some (.pointer (some ⟨g, 0, none⟩)) ∧ W.cell? ⟨wr.heap.size, 0, none⟩ = some (.int .u64 (x.hi : Nat)) ∧ W.cell? ⟨wr.heap.size, 1, none⟩ = some (.int .u64 (x.lo : Nat)) ∧ W.cell? ⟨wr.heap.size, 2, none⟩ = some (.int .i64 x.k) ∧ W.cell? ⟨wr.heap.size, 3, none⟩ = some (.bool x.a)) (by kernel_rfl) ?_ (fun hHeld => ?_)
        · exact HK10.out _ _ (HS1.out.keep (below_drew1 _))
        refine wpAnyH_take (i := 0) (oi := ⟨some 34, _, _, _, _, _⟩) (v := ?_) rfl (by kernel_rfl) (by kernel_rfl) (by kernel_rfl) (fun _ _ _ h => h) (Or.inl ⟨by rfl, ?_⟩) hHeld ?_
        rotate_left
        · intro w hSw
          (try dsimp only at hSw)
          go_simp
          try with_reducible rfl
        try simp only [Act.put, List.setIfInBounds_toArray, List.set_cons_zero, List.set_cons_succ]
        refine wpAnyH_take (i := 1) (oi := ⟨some 35, _, _, _, _, _⟩) (v := ?_) rfl (by kernel_rfl) (by kernel_rfl) (by kernel_rfl) (fun _ _ _ h => h) (Or.inl ⟨by rfl, ?_⟩) hHeld ?_
        rotate_left
        · intro w hSw
          (try dsimp only at hSw)
          go_simp
          try with_reducible rfl
        try simp only [Act.put, List.setIfInBounds_toArray, List.set_cons_zero, List.set_cons_succ]
        refine wpAnyH_take (i := 2) (oi := ⟨some 36, _, _, _, _, _⟩) (v := ?_) rfl (by kernel_rfl) (by kernel_rfl) (by kernel_rfl) (fun _ _ _ h => h) (Or.inl ⟨by rfl, ?_⟩) hHeld ?_
        rotate_left
        · intro w hSw
          (try dsimp only at hSw)
          go_simp
          try with_reducible rfl
        try simp only [Act.put, List.setIfInBounds_toArray, List.set_cons_zero, List.set_cons_succ]
        refine wpAnyH_take (i := 3) (oi := ⟨some 37, _, _, _, _, _⟩) (v := ?_) rfl (by kernel_rfl) (by kernel_rfl) (by kernel_rfl) (fun _ _ _ h => h) (Or.inl ⟨by rfl, ?_⟩) hHeld ?_
        rotate_left
        · intro w hSw
          (try dsimp only at hSw)
          go_simp
          try with_reducible rfl
        try simp only [Act.put, List.setIfInBounds_toArray, List.set_cons_zero, List.set_cons_succ]
        refine wpAnyH_take (i := 4) (oi := ⟨some 38, _, _, _, _, _⟩) (v := ?_) rfl (by kernel_rfl) (by kernel_rfl) (by kernel_rfl) (fun _ _ _ h => h) (Or.inl ⟨by rfl, ?_⟩) hHeld ?_
        rotate_left
        · intro w hSw
          (try dsimp only at hSw)
          go_simp
          try with_reducible rfl
        try simp only [Act.put, List.setIfInBounds_toArray, List.set_cons_zero, List.set_cons_succ]
        refine wpAnyH_take (i := 5) (oi := ⟨some 39, _, _, _, _, _⟩) (v := ?_) rfl (by kernel_rfl) (by kernel_rfl) (by kernel_rfl) (fun _ _ _ h => h) (Or.inl ⟨by rfl, ?_⟩) hHeld ?_
        rotate_left
        · intro w hSw
          (try dsimp only at hSw)
          go_simp
          try with_reducible rfl
        try simp only [Act.put, List.setIfInBounds_toArray, List.set_cons_zero, List.set_cons_succ]
        refine wpAnyH_take (i := 6) (oi := ⟨some 40, _, _, _, _, _⟩) (v := ?_) rfl (by kernel_rfl) (by kernel_rfl) (by kernel_rfl) (fun _ _ _ h => h) (Or.inl ⟨by rfl, ?_⟩) hHeld ?_
        rotate_left
        · intro w hSw
          (try dsimp only at hSw)
          go_simp
          try with_reducible rfl
        try simp only [Act.put, List.setIfInBounds_toArray, List.set_cons_zero, List.set_cons_succ]
        refine wpAnyH_ready (rs := [7]) (by kernel_rfl) (by simp) ?_
        refine AllReadyH.cons (o := ⟨some 41, _, _, _, _, _⟩) rfl (fun K hK => ?_) AllReadyH.nil
        go_simp
        go_at_call 61
        refine (verdict10_any x _).mono ?_
        rintro e y ⟨rfl, hby⟩
        have HY := Lib.hid (drew_c hby)
        clear hby
        (try go_wp2_with fail)
        refine hK.out _ _ ?_ (fun hHeld1 => ?_)
        · exact HK10.out _ _ (HS1.out.keep HY.out)
        clear hK K
        try simp only [Act.put, List.setIfInBounds_toArray, List.set_cons_zero, List.set_cons_succ]
        refine wpAnyH_ready (rs := [8]) (by kernel_rfl) (by simp) ?_
        refine AllReadyH.cons (o := ⟨some 42, _, _, _, _, _⟩) rfl (fun K hK => ?_) AllReadyH.nil
        go_simp
        go_at_call 51
        refine (HPU.out _ HY.out).mono ?_
        rintro e y2 ⟨T2, rfl, HS2, HP2⟩
        (try go_wp2_with fail)
        refine hK.out _ _ ?_ (fun hHeld2 => ?_)
        · exact HK10.out _ _ HS2.out
        clear hK K
        try simp only [Act.put, List.setIfInBounds_toArray, List.set_cons_zero, List.set_cons_succ]
        refine wpAnyH_done (by kernel_rfl) ?_ _
        go_wp2
        go_roundw
        case rel => exact ⟨j + 1, T2, by omega, by go_num, HS2.out.drop (fun e he => .tail _ he), HP2⟩
        case measure => simp [intOf]; omega
      · have hj' : j = rs.length := by omega
        subst hj'
        go_wp2
        go_ret2
        exact ⟨q, g, T, v, rfl, ⟨HS.out.trie, HS.out.blks _ (.head _), _, HLO.out _ (fun e he => HS.out.blks e (.tail _ (.tail _ he)))⟩, HP.out, HS.out.below⟩
end

section
open Go.RowKit
set_option maxRecDepth 100000 in
set_option maxHeartbeats 1000000 in
theorem verd10_any (q g : Nat) (T : HT) (v : Value) (ps : List Int) (a : AZ) (w : World) (hg : IsGate w q g T v ps) (ha : a.Ok) :
    Calls Tryz.prog 33 #[.pointer (some ⟨q, 0, none⟩), a.val] w fun e w' => e = .returned (.bool (verdB T.pt a.wd)) ∧ Below w.heap.size w w' := by
  have HF : Hid (Calls Tryz.prog 18 #[.pointer (some ⟨g, 0, none⟩), a.val] w (RetF w (T.pt.find a.wd none))) := find_any g T a w hg.trie ha
  have q0 := cell_row hg.gate 0
  simp at q0
  unfold verdB
  clear hg ha
  generalize a.val = va at *
  cases hf : T.pt.find a.wd none with
  | none =>
    rw [hf] at HF
    go_enter Tryz.func33, Tryz.ntmps33
    go_wp2_with fail
    refine HF.out.mono ?_
    rintro e x1 ⟨rfl, hb1⟩
    simp only [entV]
    have hb2 := hb1.alloc hb1.size (.cells #[.int .u64 0, .int .u64 0, .int .i64 0] 37)
    go_wp2
    go_ret
    exact ⟨rfl, hb2⟩
  | some y =>
    rw [hf] at HF
    go_enter Tryz.func33, Tryz.ntmps33
    go_wp2_with fail
    refine HF.out.mono ?_
    rintro e x1 ⟨rfl, hb1⟩
    simp only [entV]
    have hb2 := hb1.alloc hb1.size (.cells #[.int .u64 (hiN y.W : Nat), .int .u64 (loN y.W : Nat), .int .i64 (y.n : Nat)] 37)
    go_wp2
    go_ret
    exact ⟨by first | rfl | exact ret_bool (by by_cases c : y.v = 1 <;> simp [c]), hb2⟩
set_option maxRecDepth 100000 in
set_option maxHeartbeats 1000000 in
theorem verd10_nilA (q g : Nat) (T : HT) (v : Value) (ps : List Int) (w : World) (hg : IsGate w q g T v ps) :
    Calls Tryz.prog 33 #[.pointer (some ⟨q, 0, none⟩), .nilIface] w fun e w' => e = .returned (.bool false) ∧ Below w.heap.size w w' := by
  have HF : Hid (Calls Tryz.prog 18 #[.pointer (some ⟨g, 0, none⟩), .nilIface] w (RetF w none)) := find_nilA (some ⟨g, 0, none⟩) w
  have q0 := cell_row hg.gate 0
  simp at q0
  clear hg
  go_enter Tryz.func33, Tryz.ntmps33
  go_wp2_with fail
  refine HF.out.mono ?_
  rintro e x1 ⟨rfl, hb1⟩
  simp only [entV]
  have hb2 := hb1.alloc hb1.size (.cells #[.int .u64 0, .int .u64 0, .int .i64 0] 37)
  go_wp2
  go_ret
  exact ⟨rfl, hb2⟩
set_option maxHeartbeats 1000000 in
theorem verd10_nilG (va : Value) (w : World) :
    Calls Tryz.prog 33 #[.pointer none, va] w fun e w' => e = .returned (.bool false) ∧ Below w.heap.size w w' := by
  go_enter Tryz.func33, Tryz.ntmps33
  go_wp2
  go_ret
  exact ⟨rfl, Below.refl _ _⟩
set_option maxHeartbeats 1000000 in
theorem allows10_no (u : Option Addr) (va : Value) (w : World) (HV : Hid (Calls Tryz.prog 33 #[.pointer u, va] w fun e w' => e = .returned (.bool false) ∧ Below w.heap.size w w')) :
    Calls Tryz.prog 32 #[.pointer u, va] w fun e w' => e = .returned (.bool false) ∧ Below w.heap.size w w' := by
  go_enter Tryz.func32, Tryz.ntmps32
  go_wp2_with fail
  refine HV.out.mono ?_
  rintro e x1 ⟨rfl, hb1⟩
  go_wp2
  go_ret
  exact ⟨rfl, hb1⟩
theorem inn_false {t : PT} {a : AZ} {j : Nat} {n : Int} (hn : (innerA a)[j]? = some n) (h : verdB t (AZ.four n).wd = false) : allowB t a = false := by
  unfold allowB innB
  rw [all_false (p := fun n => verdB t (AZ.four n).wd) hn h]; simp
theorem inn_true {t : PT} {a : AZ} (h0 : verdB t a.wd = true) (h : ∀ (i : Nat) (n : Int), (innerA a)[i]? = some n → verdB t (AZ.four n).wd = true) : allowB t a = true := by
  unfold allowB innB
  rw [h0, all_true (p := fun n => verdB t (AZ.four n).wd) h]; rfl
end

section
open Go.RowKit
theorem innerA_in (a : AZ) : ∀ n ∈ innerA a, 0 ≤ n ∧ n ≤ 4294967295 := by
  cases a with
  | four n => intro n h; cases h
  | six hi lo =>
    intro n h
    have h : n ∈ innerZ hi lo := h
    unfold innerZ inA inCo inC inD inE inF at h
    simp only [List.mem_append] at h
    rcases h with ((((h | h) | h) | h) | h) | h
    all_goals
      split at h
      · simp at h; omega
      · cases h
theorem innerA_ok {a : AZ} {j : Nat} {n : Int} (h : (innerA a)[j]? = some n) : (AZ.four n).Ok := innerA_in a n (List.mem_of_getElem? h)
set_option maxRecDepth 100000 in
set_option maxHeartbeats 2000000 in
theorem allows10_any (q g : Nat) (T : HT) (v : Value) (ps : List Int) (a : AZ) (w : World) (hg : IsGate w q g T v ps) (ha : a.Ok) :
    Calls Tryz.prog 32 #[.pointer (some ⟨q, 0, none⟩), a.val] w fun e w' => e = .returned (.bool (allowB T.pt a)) ∧ Below w.heap.size w w' := by
  have HV : Hid (∀ (b : AZ) (W : World), Below w.heap.size w W → b.Ok → Calls Tryz.prog 33 #[.pointer (some ⟨q, 0, none⟩), b.val] W fun e w' => e = .returned (.bool (verdB T.pt b.wd)) ∧ Below W.heap.size W w') := fun b W hW hb => verd10_any q g T v ps b W (hg.keep hW) hb
  cases hv : verdB T.pt a.wd with
  | false =>
    have h0 := HV.out a w (Below.refl _ _) ha
    rw [hv] at h0
    rw [show allowB T.pt a = false from by unfold allowB; rw [hv]; rfl]
    exact allows10_no _ _ w h0
  | true =>
    have HV0 := Lib.hid (HV.out a w (Below.refl _ _) ha)
    rw [hv] at HV0
    have HI : Hid (∀ W, Calls Tryz.prog 44 #[a.val] W (RetFours W (innerA a))) := fun W => inner_any a W ha
    have hll := innerA_len a
    generalize a.val = va at *
    clear hg ha
    go_enter Tryz.func32, Tryz.ntmps32
    go_wp2_with fail
    refine HV0.out.mono ?_
    rintro e x1 ⟨rfl, hb1⟩
    go_wp2_with fail
    refine (HI.out _).mono ?_
    rintro e x2 ⟨v2, rfl, hn2, hb2⟩
    obtain ⟨ao, c, rfl, hcs⟩ := hn2.row
    rw [List.length_map]
    have HW := Lib.hid (below_chain7 hb1 hb2)
    have HCS := Lib.hid hcs
    clear hb1 hb2 hn2 hcs HV0 HI
    go_wp2
    go_loopw [14] (fun i wr => ∃ j : Nat, j ≤ (innerA a).length ∧ i = .int .i64 j ∧ Hid (Below x2.heap.size x2 wr) ∧ Hid (∀ (i : Nat) (n : Int), i < j → (innerA a)[i]? = some n → verdB T.pt (AZ.four n).wd = true)) (fun i _ => (innerA a).length - (intOf i).toNat)
    case atStart => exact ⟨0, Nat.zero_le _, rfl, Below.refl _ _, fun i y hi => absurd hi (Nat.not_lt_zero _)⟩
    case round =>
      obtain ⟨j, hj, rfl, hbw, hok⟩ := hrel
      have HWW := Lib.hid (below_chain7 HW.out hbw.out)
      by_cases hlt : j < (innerA a).length
      · obtain ⟨n, hn⟩ : ∃ n, (innerA a)[j]? = some n := ⟨_, List.getElem?_eq_getElem hlt⟩
        obtain ⟨ad, rfl, hc⟩ := HCS.out j (.int .u32 n) (by rw [List.getElem?_map, hn]; rfl)
        have c0 : wr.cell? (ad.add j) = some (.int .u32 n) := (hbw.out.cell (World.block_lt_of_cell? x2 _ hc)).trans hc
        have HC : Hid (Calls Tryz.prog 33 #[.pointer (some ⟨q, 0, none⟩), .iface 92 (.int .u32 n)] wr fun e w' => e = .returned (.bool (verdB T.pt (AZ.four n).wd)) ∧ Below wr.heap.size wr w') := HV.out (.four n) wr HWW.out (innerA_ok hn)
        have hjl : (j : Int) < (innerA a).length := by omega
        clear hc
        go_wp2_with fail
        refine HC.out.mono ?_
        rintro e x3 ⟨rfl, hb3⟩
        have HB3 := Lib.hid hb3
        clear hb3 c0
        cases hp : verdB T.pt (AZ.four n).wd with
        | false =>
          go_wp2
          go_ret
          rw [inn_false hn hp]
          exact ⟨rfl, below_chain7 HWW.out HB3.out⟩
        | true =>
          have HOK : Hid (∀ (i : Nat) (n : Int), i < j + 1 → (innerA a)[i]? = some n → verdB T.pt (AZ.four n).wd = true) := fun i m hi hm => by
            by_cases c : i < j
            · exact hok.out i m c hm
            · rw [show i = j from by omega, hn] at hm
              exact Option.some.inj hm ▸ hp
          go_wp2
          go_roundw
          case rel => exact ⟨j + 1, by omega, by go_num, below_chain7 hbw.out HB3.out, HOK⟩
          case measure => simp [intOf]; omega
      · have hj' : j = (innerA a).length := by omega
        subst hj'
        have hal : allowB T.pt a = true := inn_true hv (fun i n hn => hok.out i n (List.getElem?_eq_some_iff.1 hn).1 hn)
        go_wp2
        go_ret
        rw [hal]
        exact ⟨rfl, HWW.out⟩
/-- is it one of the ports? -/
def hasPort (ps : List Int) (n : Int) : Bool := ps.contains n
set_option maxRecDepth 100000 in
set_option maxHeartbeats 1000000 in
theorem port10_any (q g : Nat) (T : HT) (v : Value) (ps : List Int) (n : Int) (w : World) (hg : IsGate w q g T v ps) (hl : ps.length ≤ 16) :
    Calls Tryz.prog 34 #[.pointer (some ⟨q, 0, none⟩), .int .i64 n] w fun e w' => e = .returned (.bool (hasPort ps n)) ∧ Below w.heap.size w w' := by
  have HC : Hid (Calls Tryz.prog 63 #[v, .int .i64 n] w fun e w' => e = .returned (.bool (hasPort ps n)) ∧ w' = w) := by
    obtain ⟨b, ho⟩ := hg.row
    obtain ⟨ao, c, rfl⟩ := ho.form
    have hr := ho.row clI_len
    have hf := ho.2
    rcases hf with ⟨e, hn⟩ | ⟨g', cap, cur, e, _⟩
    · have : ps = [] := List.eq_nil_of_length_eq_zero hn
      subst this
      exact Tryz.slices_Contains_int_empty ao c n w
    · simp only [Value.slice.injEq] at e
      obtain ⟨rfl, _, rfl⟩ := e
      have := Tryz.slices_Contains_int g' 0 ps.length c ps n w (Nat.le_refl _) (by omega) (fun j hj => by
        obtain ⟨ad, e, hc⟩ := hr j ps[j] (List.getElem?_eq_getElem hj)
        obtain rfl := Option.some.inj e
        have := hc 0 (by omega)
        simp only [Nat.mul_one, Nat.add_zero] at this
        rw [show (⟨g', 0, none⟩ : Addr).add j = ⟨g', 0 + j, none⟩ from by simp [Addr.add]; intro h; omega] at this
        rw [this, List.getD_eq_getElem?_getD, List.getElem?_eq_getElem hj]; rfl)
      rw [List.take_length] at this
      exact this
  have q1 := cell_row hg.gate 1
  simp at q1
  clear hg
  go_enter Tryz.func34, Tryz.ntmps34
  go_wp2_with fail
  refine HC.out.mono ?_
  rintro e x1 ⟨rfl, rfl⟩
  go_wp2
  go_ret
  exact ⟨rfl, Below.refl _ _⟩
set_option maxHeartbeats 1000000 in
theorem port10_nil (n : Int) (w : World) :
    Calls Tryz.prog 34 #[.pointer none, .int .i64 n] w fun e w' => e = .returned (.bool false) ∧ Below w.heap.size w w' := by
  go_enter Tryz.func34, Tryz.ntmps34
  go_wp2
  go_ret
  exact ⟨rfl, Below.refl _ _⟩
theorem infoA : (Tryz.prog.info? 25).map (fun i => (i.zero, i.size, i.bytes)) = some (some .nilIface, 1, 16) := by kernel_rfl
set_option maxRecDepth 100000 in
set_option maxHeartbeats 2000000 in
theorem denied10_one (u : Option Addr) (ty : TypeId) (vv : Value) (b : Bool) (k c : Nat) (w : World) (hc : w.heap[k]? = some (.cells #[.iface ty vv] 25)) (HA : Hid (Calls Tryz.prog 32 #[.pointer u, .iface ty vv] w fun e w' => e = .returned (.bool b) ∧ Below w.heap.size w w')) :
    Calls Tryz.prog 35 #[.pointer u, .slice (some ⟨k, 0, none⟩) 1 c] w fun e w' => ∃ ao c', e = .returned (.slice ao (if b = true then 0 else 1) c') ∧ Below w.heap.size w w' := by
  obtain ⟨i0, hi0, hz0, hz1, hz2⟩ := info_parts' infoA
  obtain ⟨m, hm⟩ : ∃ m : Nat, (if b = true then 0 else 1) = m := ⟨_, rfl⟩
  rw [hm]
  have HM := Lib.hid hm
  clear hm
  have c0 := cell_row hc 0
  simp at c0
  clear hc
  go_enter Tryz.func35, Tryz.ntmps35
  go_wp2
  go_loopw [5, 10] (fun s i wr => (i = .int .i64 0 ∧ s = .slice none 0 0 ∧ wr = w) ∨ (i = .int .i64 1 ∧ (∃ ao c', s = .slice ao m c') ∧ Hid (Below w.heap.size w wr))) (fun _ i _ => 1 - (intOf i).toNat)
  case atStart => exact .inl ⟨rfl, rfl, rfl⟩
  case round =>
    rcases hrel with ⟨rfl, rfl, rfl⟩ | ⟨rfl, ⟨ao, c', rfl⟩, hb⟩
    · cases b with
      | true =>
        go_wp2_with fail
        refine HA.out.mono ?_
        rintro e x1 ⟨rfl, hb1⟩
        go_wp2
        go_roundw
        case rel => exact .inr ⟨by go_num, ⟨none, 0, by rw [← HM.out]; rfl⟩, hb1⟩
        case measure => simp [intOf]
      | false =>
        go_wp2_with fail
        refine HA.out.mono ?_
        rintro e x1 ⟨rfl, hb1⟩
        have HW := Lib.hid hb1
        have hcn := cells_new x1 [.iface ty vv] 25
        have hoc : ∀ u ∈ [Value.iface ty vv], u.oneCell' = true := fun u hu => by rw [List.mem_singleton.1 hu]; rfl
        have hsz : x1.heap.size ≤ (x1.alloc (.cells #[.iface ty vv] 25)).heap.size := by simp
        clear hb1 c0
        go_wp2_with (first
          | (at_builtin; refine wpList_append_own _ rfl _ _ 74 rfl x1.heap.size 25 i0 .nilIface 1 16 Tryz.underlying74 hi0 hz0 hz1 hz2 rfl (by decide) (.slice none 0 0) 0 [] rfl (World.ownsRow_nil _ _ _ _) ⟨x1.heap.size, 0, none⟩ 1 1 [.iface ty vv] rfl rfl hcn hoc (by unfold maxLen; omega) (by omega) hsz ?_; intro s1 w1 hown1 hgrow1 _)
          | go_in)
        have hbw : Below wr.heap.size wr w1 := (HW.out.alloc HW.out.size _).grown hgrow1 (Nat.le_trans HW.out.size hsz) (fun k hk => by cases hk)
        obtain ⟨ao, c', rfl⟩ : ∃ a c, s1 = .slice a 1 c := by
          rcases hown1.2 with ⟨e, hn⟩ | ⟨g, cap, cur, e, _⟩
          · omega
          · exact ⟨_, _, e⟩
        go_roundw
        case rel => exact .inr ⟨by go_num, ⟨ao, c', by rw [← HM.out]; rfl⟩, hbw⟩
        case measure => simp [intOf]
    · go_wp2
      go_ret
      exact ⟨ao, c', rfl, hb.out⟩
end

section
open Go.RowKit
theorem Ru.cl_len (x : Ru) : x.cl.length = 4 := rfl
theorem OwnX.urow {t : TypeId} {w : World} {base : Nat} {ao : Option Addr} {n c : Nat} {l : List Ru} (h : OwnX t 4 Ru.cl w base (.slice ao n c) l) (ho : ∀ x ∈ l, x.Ok) : IsURow w ao l.length c l :=
  ⟨rfl, fun j x hx => ⟨h.row Ru.cl_len j x hx, ho x (List.mem_of_getElem? hx)⟩⟩
theorem OwnX.irow {t : TypeId} {w : World} {base : Nat} {ao : Option Addr} {n c : Nat} {l : List Int} (h : OwnX t 1 clI w base (.slice ao n c) l) (ho : ∀ x ∈ l, -9223372036854775808 ≤ x ∧ x ≤ 9223372036854775807) : IsIRow w ao l.length c l :=
  ⟨rfl, fun j x hx => by
    obtain ⟨ad, ha, hc⟩ := h.row clI_len j x hx
    have := hc 0 (by omega)
    refine ⟨⟨ad, ha, ?_⟩, ho x (List.mem_of_getElem? hx)⟩
    simpa [clI] using this⟩
theorem ex_lines : linesB ⟨#[97, 108, 108, 111, 119, 32, 48, 46, 48, 46, 48, 46, 48, 47, 48, 10, 112, 111, 114, 116, 32, 52, 52, 51]⟩ = [[97, 108, 108, 111, 119, 32, 48, 46, 48, 46, 48, 46, 48, 47, 48], [112, 111, 114, 116, 32, 52, 52, 51]] := by decide +kernel
theorem ex_w1 : wordsB [97, 108, 108, 111, 119, 32, 48, 46, 48, 46, 48, 46, 48, 47, 48] = [[97, 108, 108, 111, 119], [48, 46, 48, 46, 48, 46, 48, 47, 48]] := by decide +kernel
theorem ex_w2 : wordsB [112, 111, 114, 116, 32, 52, 52, 51] = [[112, 111, 114, 116], [52, 52, 51]] := by decide +kernel
theorem ex_l1 (p : Pl) : lineZ p [[97, 108, 108, 111, 119], [48, 46, 48, 46, 48, 46, 48, 47, 48]] = some ⟨p.rs ++ [ruOf 281470681743360 96 true], p.ps, p.bare⟩ := by
  rw [lineZ, if_neg (by decide)]
  show argZ p _ _ = _
  unfold argZ
  rw [if_neg (by decide), if_pos (.inl (by decide)), p8_a]
  rfl
theorem ex_l2 (p : Pl) : lineZ p [[112, 111, 114, 116], [52, 52, 51]] = some ⟨p.rs, p.ps ++ [443], p.bare⟩ := by
  rw [lineZ, if_neg (by decide)]
  show argZ p _ _ = _
  unfold argZ
  rw [if_pos (by decide), show decZ [52, 52, 51] maxI = (443, true) from by decide +kernel]
  rfl
theorem ex_parse : parseL .zero 0 (linesB ⟨#[97, 108, 108, 111, 119, 32, 48, 46, 48, 46, 48, 46, 48, 47, 48, 10, 112, 111, 114, 116, 32, 52, 52, 51]⟩) = (some ⟨[ruOf 281470681743360 96 true], [443], false⟩, 0) := by
  rw [ex_lines, parseL_some (by rw [ex_w1]; exact ex_l1 _), parseL_some (by rw [ex_w2]; exact ex_l2 _)]
  rfl
theorem ex_check : checkZ [ruOf 281470681743360 96 true] [443] = 0 := by decide +kernel
theorem ex_t : polZ [ruOf 281470681743360 96 true] false = (T9L.foldl (fun t r => t.put r.W r.n 0) PT.nil).put 281470681743360 96 1 := by
  have e : polZ [ruOf 281470681743360 96 true] false = (lay9 0 .nil).put (ruOf 281470681743360 96 true).W (ruOf 281470681743360 96 true).k.toNat (ruOf 281470681743360 96 true).v := by
    simp [polZ, polTo, base10]
  rw [e, show (ruOf 281470681743360 96 true).W = 281470681743360 from by decide, show (ruOf 281470681743360 96 true).k.toNat = 96 from by decide, show (ruOf 281470681743360 96 true).v = 1 from by decide]
  unfold lay9
  rw [T9_is]
theorem ex_a1 : allowB (polZ [ruOf 281470681743360 96 true] false) (.four 134744072) = true := by rw [ex_t]; decide +kernel
theorem ex_a2 : allowB (polZ [ruOf 281470681743360 96 true] false) (.four 2130706433) = false := by rw [ex_t]; decide +kernel
theorem ex_a3 : allowB (polZ [ruOf 281470681743360 96 true] false) (.six 0 281472812449793) = false := by rw [ex_t]; decide +kernel
theorem ex_ok : ∀ x ∈ [ruOf 281470681743360 96 true], x.Ok := fun x hx => by
  rw [List.mem_singleton.1 hx]
  exact ⟨by decide, by decide, by decide, by decide⟩
theorem sixes_row (W : World) (b : Nat) (h : W.heap[b]? = some (.cells #[.int .u16 0, .int .u16 0, .int .u16 0, .int .u16 0, .int .u16 0, .int .u16 65535, .int .u16 32512, .int .u16 1] 122)) : RowR W (.slice (some ⟨b, 0, none⟩) 8 8) ([0, 0, 0, 0, 0, 65535, 32512, 1].map (Value.int .u16)) := by
  refine ⟨some ⟨b, 0, none⟩, 8, rfl, fun j u hu => ⟨_, rfl, ?_⟩⟩
  rw [show (⟨b, 0, none⟩ : Addr).add j = ⟨b, j, none⟩ from by simp [Addr.add]; intro h; omega, cell_row h]
  simpa using hu
set_option maxRecDepth 100000 in
set_option maxHeartbeats 8000000 in
theorem awake010_any (w : World) (hbru : BruTab w) (hmax : MaxVar w) :
    Calls Tryz.prog 26 #[] w fun e w' => e = .returned (.bool true) ∧ Below w.heap.size w w' := by
  have HT := Lib.hid hbru
  have HX := Lib.hid hmax
  have HO1 : Hid (∀ W, Calls Tryz.prog 47 #[.int .u8 127, .int .u8 0, .int .u8 0, .int .u8 1] W fun e w' => e = .returned (.int .u32 2130706433) ∧ W = w') := fun W => of_any 127 0 0 1 W (by decide) (by decide) (by decide) (by decide)
  have HO2 : Hid (∀ W, Calls Tryz.prog 47 #[.int .u8 8, .int .u8 8, .int .u8 8, .int .u8 8] W fun e w' => e = .returned (.int .u32 134744072) ∧ W = w') := fun W => of_any 8 8 8 8 W (by decide) (by decide) (by decide) (by decide)
  have HP := Lib.hid (parse10_any ⟨#[97, 108, 108, 111, 119, 32, 48, 46, 48, 46, 48, 46, 48, 47, 48, 10, 112, 111, 114, 116, 32, 52, 52, 51]⟩ w (by decide) hmax)
  rw [ex_parse] at HP
  clear hbru hmax
  go_enter Tryz.func26, Tryz.ntmps26
  go_wp2_with fail
  refine HP.out.mono ?_
  rintro e x1 ⟨hb1, rv, pv, rfl, ho1, ho2⟩
  obtain ⟨ra, rc, rfl⟩ := ho1.form
  obtain ⟨pa, pc, rfl⟩ := ho2.form
  have hbA : Below w.heap.size w (x1.alloc (.cells #[.slice ra 1 rc, .slice pa 1 pc, .bool false] 61)) := hb1.alloc hb1.size _
  have hbB : Below x1.heap.size x1 (x1.alloc (.cells #[.slice ra 1 rc, .slice pa 1 pc, .bool false] 61)) := (Below.refl _ _).alloc (Nat.le_refl _) _
  have HBD := Lib.hid (build10_ok ra pa rc pc false [ruOf 281470681743360 96 true] [443] _ (maxVar_below HX.out hbA) ((ho1.urow ex_ok).keep hbB) ((ho2.irow (fun x hx => by rw [List.mem_singleton.1 hx]; decide)).keep hbB) ex_check)
  have HA := Lib.hid hbA
  clear hb1 ho1 ho2 hbA hbB HP
  go_wp2_with fail
  refine HBD.out.mono ?_
  rintro e x2 ⟨q, g, T, v, rfl, hg, hT, hb2⟩
  have HG2 := Lib.hid hg
  have HW2 := Lib.hid (below_chain7 HA.out hb2)
  have HPT := Lib.hid hT
  clear hg hT hb2 HA HBD
  go_wp2_with fail
  refine (awake9_any _ (bruTab_below HT.out HW2.out) (maxVar_below HX.out HW2.out)).mono ?_
  rintro e x3 ⟨rfl, hb3⟩
  have HG3 := Lib.hid (HG2.out.keep hb3)
  have HW3 := Lib.hid (below_chain7 HW2.out hb3)
  clear hb3 HG2 HW2
  go_wp2_with fail
  refine (port10_any q g T v [443] 443 _ HG3.out (by decide)).mono ?_
  rintro e x4 ⟨rfl, hb4⟩
  rw [show hasPort [443] 443 = true from by decide]
  have HG4 := Lib.hid (HG3.out.keep hb4)
  have HW4 := Lib.hid (below_chain7 HW3.out hb4)
  clear hb4 HG3 HW3
  go_wp2_with fail
  refine (port10_any q g T v [443] 80 _ HG4.out (by decide)).mono ?_
  rintro e x5 ⟨rfl, hb5⟩
  rw [show hasPort [443] 80 = false from by decide]
  have HG5 := Lib.hid (HG4.out.keep hb5)
  have HW5 := Lib.hid (below_chain7 HW4.out hb5)
  clear hb5 HG4 HW4
  have HAL : Hid (∀ (a : AZ) (W : World), IsGate W q g T v [443] → a.Ok → Calls Tryz.prog 32 #[.pointer (some ⟨q, 0, none⟩), a.val] W fun e w' => e = .returned (.bool (allowB (polZ [ruOf 281470681743360 96 true] false) a)) ∧ Below W.heap.size W w') := fun a W hW ha => by
    have := allows10_any q g T v [443] a W hW ha
    rwa [HPT.out] at this
  go_wp2_with fail
  refine (HO2.out _).mono ?_
  rintro e x6 ⟨rfl, rfl⟩
  go_wp2_with fail
  refine (HAL.out (.four 134744072) _ HG5.out ⟨by decide, by decide⟩).mono ?_
  rintro e x7 ⟨rfl, hb7⟩
  rw [ex_a1]
  have HG7 := Lib.hid (HG5.out.keep hb7)
  have HW7 := Lib.hid (below_chain7 HW5.out hb7)
  clear hb7 HG5 HW5
  go_wp2_with fail
  refine (HO1.out _).mono ?_
  rintro e x8 ⟨rfl, rfl⟩
  go_wp2_with fail
  refine (HAL.out (.four 2130706433) _ HG7.out ⟨by decide, by decide⟩).mono ?_
  rintro e x9 ⟨rfl, hb9⟩
  rw [ex_a2]
  have HG9 := Lib.hid (HG7.out.keep hb9)
  have HW9 := Lib.hid (below_chain7 HW7.out hb9)
  clear hb9 HG7 HW7
  go_wp2_with fail
  refine (sixOf_any _ [0, 0, 0, 0, 0, 65535, 32512, 1] _ (sixes_row _ _ (Go.Deep.blk_alloc_new _ _)) (by unfold In16; decide) (by decide)).mono ?_
  rintro e x10 ⟨rfl, hb10⟩
  rw [show hi4 [0, 0, 0, 0, 0, 65535, 32512, 1] = 0 from by decide, show lo4 [0, 0, 0, 0, 0, 65535, 32512, 1] = 281472812449793 from by decide]
  have HG10 := Lib.hid (HG9.out.keep (alloc_then hb10))
  have HW10 := Lib.hid (below_chain7 HW9.out (alloc_then hb10))
  clear hb10 HG9 HW9
  go_wp2_with fail
  refine (HAL.out (.six 0 281472812449793) _ HG10.out ⟨⟨by decide, by decide⟩, by decide, by decide⟩).mono ?_
  rintro e x11 ⟨rfl, hb11⟩
  rw [ex_a3]
  have HW11 := Lib.hid (below_chain7 HW10.out hb11)
  go_wp2
  go_ret
  exact ⟨rfl, HW11.out⟩
end

section
open Go.RowKit
def fewB (rs : List Ru) (ps : List Int) : Bool := decide (rs.length ≤ 60 ∧ ps.length ≤ 40)
set_option maxRecDepth 100000 in
set_option maxHeartbeats 1000000 in
theorem few10_any (ra pa : Option Addr) (rc pc : Nat) (bare : Bool) (rs : List Ru) (ps : List Int) (w : World) :
    Calls Tryz.prog 27 #[.agg #[.slice ra rs.length rc, .slice pa ps.length pc, .bool bare]] w fun e w' => e = .returned (.bool (fewB rs ps)) ∧ Below w.heap.size w w' := by
  have HW0 : Hid (Below w.heap.size w (w.alloc (.cells #[.slice ra rs.length rc, .slice pa ps.length pc, .bool bare] 61))) := (Below.refl _ _).alloc (Nat.le_refl _) _
  by_cases h1 : rs.length ≤ 60
  · have hd : decide ((rs.length : Int) ≤ 60) = true := decide_eq_true (by omega)
    by_cases h2 : ps.length ≤ 40
    · have hd2 : decide ((ps.length : Int) ≤ 40) = true := decide_eq_true (by omega)
      rw [show fewB rs ps = true from decide_eq_true ⟨h1, h2⟩]
      go_enter Tryz.func27, Tryz.ntmps27
      go_wp2
      go_ret
      exact ⟨rfl, HW0.out⟩
    · have hd2 : decide ((ps.length : Int) ≤ 40) = false := decide_eq_false (by omega)
      rw [show fewB rs ps = false from decide_eq_false (by omega)]
      go_enter Tryz.func27, Tryz.ntmps27
      go_wp2
      go_ret
      exact ⟨rfl, HW0.out⟩
  · have hd : decide ((rs.length : Int) ≤ 60) = false := decide_eq_false (by omega)
    rw [show fewB rs ps = false from decide_eq_false (by omega)]
    go_enter Tryz.func27, Tryz.ntmps27
    go_wp2
    go_ret
    exact ⟨rfl, HW0.out⟩
theorem IsURow.ok {w : World} {a : Option Addr} {len cap : Nat} {zs : List Ru} (h : IsURow w a len cap zs) : ∀ x ∈ zs, x.Ok := fun x hx => by
  obtain ⟨i, hi, e⟩ := List.getElem_of_mem hx
  exact (h.2 i x (by rw [List.getElem?_eq_getElem hi, e])).2
theorem polZ_lt {rs : List Ru} (ho : ∀ x ∈ rs, x.Ok) (hr : rulesB rs = true) (bare : Bool) : ∀ y ∈ (polZ rs bare).list, y.W < 2 ^ 128 := fun y hy => by
  rcases mem_polTo ho hr (base10_inv bare) rs.length hy with ⟨i, r, _, hr, h1, _⟩ | h
  · rw [h1]; exact Ru.W_lt (ho r (List.mem_of_getElem? hr))
  · unfold base10 at h
    split at h
    · cases h
    · obtain ⟨i, r, _, hr, rfl⟩ := (lay9_mem rfl y).1 h
      exact (T9_in hr).2.2
end

section
open Go.RowKit
theorem bestL_verd {t : PT} (h : t.Inv 0 0) (A : Nat) : verdB t A = (match bestL A t.list none with | none => false | some y => decide (y.v = 1)) := by
  unfold verdB
  rw [PT.find_list h A]
  cases bestL A t.list none <;> rfl
theorem rowE_nil (w : World) : RowE w (.slice none 0 0) [] := ⟨none, 0, rfl, fun j x hx => by cases hx⟩
set_option maxRecDepth 100000 in
set_option maxHeartbeats 4000000 in
theorem refVerdict10_any (ra pa : Option Addr) (rc pn pc : Nat) (bare : Bool) (rs : List Ru) (s : Bool) (ah al : Nat) (w : World) (hr : IsURow w ra rs.length rc rs) (hl : rs.length ≤ 256) (hrr : rulesB rs = true) (h3 : ah < 18446744073709551616) (h4 : al < 18446744073709551616) :
    Calls Tryz.prog 37 #[.agg #[.slice ra rs.length rc, .slice pa pn pc, .bool bare], .agg #[.bool s, .int .u64 (ah : Nat), .int .u64 (al : Nat)]] w fun e w' => e = .returned (.bool (verdB (polZ rs bare) (wideN ah al))) ∧ Below w.heap.size w w' := by
  have HRO := Lib.hid hr
  have HRR := Lib.hid hrr
  have HOK := Lib.hid hr.ok
  clear hr hrr
  cases bare with
  | true =>
    obtain ⟨x0, hx0⟩ : ∃ x, x = (w.alloc (.cells #[.slice ra rs.length rc, .slice pa pn pc, .bool true] 70)).alloc (.cells #[.bool s, .int .u64 (ah : Nat), .int .u64 (al : Nat)] 31) := ⟨_, rfl⟩
    have HW0 : Hid (Below w.heap.size w x0) := by rw [hx0]; exact ((Below.refl _ w).alloc (Nat.le_refl _) _).alloc (by simp) _
    have HB0 : Hid (Blks [(w.heap.size, #[.slice ra rs.length rc, .slice pa pn pc, .bool true], 70), (w.heap.size + 1, #[.bool s, .int .u64 (ah : Nat), .int .u64 (al : Nat)], 31)] x0) := by
      have h := ((Blks.empty w).new #[.slice ra rs.length rc, .slice pa pn pc, .bool true] 70).new #[.bool s, .int .u64 (ah : Nat), .int .u64 (al : Nat)] 31
      rw [← hx0, show (w.alloc (.cells #[.slice ra rs.length rc, .slice pa pn pc, .bool true] 70)).heap.size = w.heap.size + 1 from by simp] at h
      intro e he
      rcases List.mem_cons.1 he with q | q
      · rw [q]; exact h _ (.tail _ (.head _))
      · rw [List.mem_singleton.1 q]; exact h _ (.head _)
    go_enter Tryz.func37, Tryz.ntmps37
    go_wp2_with fail
    rw [← hx0]
    clear hx0
    have HW2 := Lib.hid HW0.out
    have HB2 := Lib.hid HB0.out
    have HS2 : Hid (RowE x0 (.slice none 0 0) (polTo rs 0 (base10 true)).list) := by
      show RowE _ _ _
      rw [show (polTo rs 0 (base10 true)).list = [] from by unfold polTo base10; simp; rfl]
      exact rowE_nil _
    clear HW0 HB0
    generalize x0 = x2 at *
    obtain ⟨lp, p0, p1, p2⟩ := HB2.out.r3 (.head _)
    go_wp2
    go_loopw [5, 33] (fun v i wr => ∃ j : Nat, j ≤ rs.length ∧ i = .int .i64 j ∧ Hid (RowE wr v (polTo rs j (base10 true)).list) ∧ Hid (Below x2.heap.size x2 wr)) (fun _ i _ => rs.length - (intOf i).toNat)
    case atStart => exact ⟨0, Nat.zero_le _, rfl, HS2, Below.refl _ _⟩
    case round =>
      obtain ⟨j, hj, rfl, HV, HW⟩ := hrel
      have hlen : (polTo rs j (base10 true)).list.length ≤ 400 := by
        have h1 := polTo_len HOK.out HRR.out (base10_inv true) j
        have h2 := base10_len true
        omega
      by_cases hlt : j < rs.length
      · obtain ⟨ad, rfl, x, hx, ⟨c0, c1, c2, c3⟩, hxo⟩ := (HRO.out.keep (below_chain7 HW2.out HW.out)).at hlt
        have hjl : (j : Int) < rs.length := by omega
        obtain ⟨_, _, k3⟩ := right_nat (all_at HRR.out hx)
        cases ha : x.a with
        | true =>
          have hv : x.v = 1 := by unfold Ru.v; rw [ha]; rfl
          have HP : Hid (Calls Tryz.prog 65 #[u5, .agg #[.int .u64 (x.hi : Nat), .int .u64 (x.lo : Nat), .int .i64 x.k], .int .i64 1] (wr.alloc (.cells #[.int .u64 (x.hi : Nat), .int .u64 (x.lo : Nat), .int .i64 x.k, .bool true] 125)) fun e w' => ∃ v', e = .returned (.tuple #[v', .bool true]) ∧ RowE w' v' (polTo rs (j + 1) (base10 true)).list ∧ Below wr.heap.size wr w') := by
            have hb : Below wr.heap.size wr (wr.alloc (.cells #[.int .u64 (x.hi : Nat), .int .u64 (x.lo : Nat), .int .i64 x.k, .bool true] 125)) := (Below.refl _ _).alloc (Nat.le_refl _) _
            have := refPut8_any u5 (polTo rs j (base10 true)).list x.hi x.lo x.k.toNat x.v _ hxo.1 hxo.2.1 (by rw [k3]; exact all_at HRR.out hx) (by omega) (HV.out.keep hb)
            rw [k3, hv] at this
            refine this.mono ?_
            rintro e w' ⟨v', he, ho, hbw⟩
            refine ⟨v', he, ?_, below_chain7 hb hbw⟩
            rw [polTo_list HOK.out HRR.out (base10_inv true) hx, hv]
            exact ho.row
          rw [ha] at c3
          go_wp2_with fail
          refine HP.out.mono ?_
          rintro e x5 ⟨v5, rfl, hv5, hb5⟩
          have HV5 := Lib.hid hv5
          have HW5 := Lib.hid (below_chain7 HW.out hb5)
          clear hv5 hb5 c0 c1 c2 c3 HP
          go_wp2
          go_roundw
          case rel => exact ⟨j + 1, by omega, by go_num, HV5, HW5⟩
          case measure => simp [intOf]; omega
        | false =>
          have hv : x.v = 0 := by unfold Ru.v; rw [ha]; rfl
          have HP : Hid (Calls Tryz.prog 65 #[u5, .agg #[.int .u64 (x.hi : Nat), .int .u64 (x.lo : Nat), .int .i64 x.k], .int .i64 0] (wr.alloc (.cells #[.int .u64 (x.hi : Nat), .int .u64 (x.lo : Nat), .int .i64 x.k, .bool false] 125)) fun e w' => ∃ v', e = .returned (.tuple #[v', .bool true]) ∧ RowE w' v' (polTo rs (j + 1) (base10 true)).list ∧ Below wr.heap.size wr w') := by
            have hb : Below wr.heap.size wr (wr.alloc (.cells #[.int .u64 (x.hi : Nat), .int .u64 (x.lo : Nat), .int .i64 x.k, .bool false] 125)) := (Below.refl _ _).alloc (Nat.le_refl _) _
            have := refPut8_any u5 (polTo rs j (base10 true)).list x.hi x.lo x.k.toNat x.v _ hxo.1 hxo.2.1 (by rw [k3]; exact all_at HRR.out hx) (by omega) (HV.out.keep hb)
            rw [k3, hv] at this
            refine this.mono ?_
            rintro e w' ⟨v', he, ho, hbw⟩
            refine ⟨v', he, ?_, below_chain7 hb hbw⟩
            rw [polTo_list HOK.out HRR.out (base10_inv true) hx, hv]
            exact ho.row
          rw [ha] at c3
          go_wp2_with fail
          refine HP.out.mono ?_
          rintro e x5 ⟨v5, rfl, hv5, hb5⟩
          have HV5 := Lib.hid hv5
          have HW5 := Lib.hid (below_chain7 HW.out hb5)
          clear hv5 hb5 c0 c1 c2 c3 HP
          go_wp2
          go_roundw
          case rel => exact ⟨j + 1, by omega, by go_num, HV5, HW5⟩
          case measure => simp [intOf]; omega
      · have hj' : j = rs.length := by omega
        subst hj'
        have HF := Lib.hid (refFind8_any u5 (polTo rs rs.length (base10 true)).list s ah al wr h3 h4 (polZ_lt HOK.out HRR.out true) (by omega) HV.out)
        have HR : Hid (verdB (polZ rs true) (wideN ah al) = (match bestL (wideN ah al) (polTo rs rs.length (base10 true)).list none with | none => false | some y => decide (y.v = 1))) := bestL_verd (polZ_inv HOK.out HRR.out true) _
        obtain ⟨la, a0, a1, a2⟩ := (HB2.out.keep HW.out).r3 (.tail _ (.head _))
        clear p0 p1 p2
        cases hb : bestL (wideN ah al) (polTo rs rs.length (base10 true)).list none with
        | none =>
          rw [hb] at HF HR
          go_wp2_with fail
          refine HF.out.mono ?_
          rintro e x5 ⟨rfl, hb5⟩
          simp only [entW, entC, Option.isSome]
          have hb6 := below_chain7 (below_chain7 HW2.out HW.out) (hb5.alloc hb5.size (.cells #[.int .u64 0, .int .u64 0, .int .i64 0, .int .i64 0] 134))
          go_wp2
          go_ret
          rw [HR.out]
          exact ⟨rfl, hb6⟩
        | some y =>
          rw [hb] at HF HR
          go_wp2_with fail
          refine HF.out.mono ?_
          rintro e x5 ⟨rfl, hb5⟩
          simp only [entW, entC, Option.isSome]
          have hb6 := below_chain7 (below_chain7 HW2.out HW.out) (hb5.alloc hb5.size (.cells #[.int .u64 (hiN y.W : Nat), .int .u64 (loN y.W : Nat), .int .i64 (y.n : Nat), .int .i64 y.v] 134))
          go_wp2
          go_ret
          rw [HR.out]
          exact ⟨by first | rfl | exact ret_bool (by by_cases c : y.v = 1 <;> simp [c]), hb6⟩
  | false =>
    obtain ⟨x0, hx0⟩ : ∃ x, x = (w.alloc (.cells #[.slice ra rs.length rc, .slice pa pn pc, .bool false] 70)).alloc (.cells #[.bool s, .int .u64 (ah : Nat), .int .u64 (al : Nat)] 31) := ⟨_, rfl⟩
    have HW0 : Hid (Below w.heap.size w x0) := by rw [hx0]; exact ((Below.refl _ w).alloc (Nat.le_refl _) _).alloc (by simp) _
    have HB0 : Hid (Blks [(w.heap.size, #[.slice ra rs.length rc, .slice pa pn pc, .bool false], 70), (w.heap.size + 1, #[.bool s, .int .u64 (ah : Nat), .int .u64 (al : Nat)], 31)] x0) := by
      have h := ((Blks.empty w).new #[.slice ra rs.length rc, .slice pa pn pc, .bool false] 70).new #[.bool s, .int .u64 (ah : Nat), .int .u64 (al : Nat)] 31
      rw [← hx0, show (w.alloc (.cells #[.slice ra rs.length rc, .slice pa pn pc, .bool false] 70)).heap.size = w.heap.size + 1 from by simp] at h
      intro e he
      rcases List.mem_cons.1 he with q | q
      · rw [q]; exact h _ (.tail _ (.head _))
      · rw [List.mem_singleton.1 q]; exact h _ (.head _)
    go_enter Tryz.func37, Tryz.ntmps37
    go_wp2_with fail
    rw [← hx0]
    clear hx0
    refine (refRows9_any x0).mono ?_
    rintro e x1 ⟨b, rfl, _, hblk, hb1⟩
    have HW1 := Lib.hid (below_chain7 HW0.out hb1)
    have HB1 := Lib.hid (HB0.out.keep hb1)
    have HT1 := Lib.hid hblk
    clear hblk hb1 HW0 HB0
    go_wp2
    go_loopw [5, 18] (fun v i wr => ∃ k : Nat, k ≤ 27 ∧ i = .int .i64 k ∧ Hid (RowE wr v (layTo 0 k .nil).list) ∧ Hid (Below x1.heap.size x1 wr)) (fun _ i _ => 27 - (intOf i).toNat)
    case atStart => exact ⟨0, Nat.zero_le _, rfl, rowE_nil _, Below.refl _ _⟩
    case round =>
      obtain ⟨k, hk, rfl, HV, HW⟩ := hrel
      by_cases hlt : k < 27
      · obtain ⟨x, hx⟩ := T9_get hlt
        obtain ⟨hn, hrt, hxW⟩ := T9_in hx
        obtain ⟨c0, c1, c2, c3⟩ := tab_at ((HW.out.block b (block_lt HT1.out)).trans HT1.out) hx
        have hkl : (k : Int) < 27 := by omega
        have hlen := layTo_len (v := 0) nil_inv k
        have HP : Hid (Calls Tryz.prog 65 #[u5, .agg #[.int .u64 (hiN x.W : Nat), .int .u64 (loN x.W : Nat), .int .i64 (x.n : Nat)], .int .i64 0] (wr.alloc (.cells #[.int .u64 (hiN x.W : Nat), .int .u64 (loN x.W : Nat), .int .i64 (x.n : Nat), .string ⟨x.s.toArray⟩] 57)) fun e w' => ∃ v', e = .returned (.tuple #[v', .bool true]) ∧ RowE w' v' (layTo 0 (k + 1) .nil).list ∧ Below wr.heap.size wr w') := by
          have hb : Below wr.heap.size wr (wr.alloc (.cells #[.int .u64 (hiN x.W : Nat), .int .u64 (loN x.W : Nat), .int .i64 (x.n : Nat), .string ⟨x.s.toArray⟩] 57)) := (Below.refl _ _).alloc (Nat.le_refl _) _
          have := refPut8_any u5 (layTo 0 k .nil).list (hiN x.W) (loN x.W) x.n 0 _ (hiN_lt hxW) (loN_lt _) (by rw [wide_split]; exact pRightB_nat.2 ⟨hn, hrt⟩) (by simp [PT.list] at hlen; omega) (HV.out.keep hb)
          refine this.mono ?_
          rintro e w' ⟨v', he, ho, hbw⟩
          refine ⟨v', he, ?_, below_chain7 hb hbw⟩
          rw [layTo_list nil_inv hx, ← wide_split x.W]
          exact ho.row
        go_wp2_with fail
        refine HP.out.mono ?_
        rintro e x5 ⟨v5, rfl, hv5, hb5⟩
        have HV5 := Lib.hid hv5
        have HW5 := Lib.hid (below_chain7 HW.out hb5)
        clear hv5 hb5 c0 c1 c2 c3 HP
        go_wp2
        go_roundw
        case rel => exact ⟨k + 1, by omega, by go_num, HV5, HW5⟩
        case measure => simp [intOf]; omega
      · have hk' : k = 27 := by omega
        have hkd : decide ((k : Int) < 27) = false := decide_eq_false (by omega)
        have HS2 : Hid (RowE wr u5 (polTo rs 0 (base10 false)).list) := by
          show RowE _ _ _
          rw [show polTo rs 0 (base10 false) = layTo 0 27 .nil from by rw [layTo_end]; unfold polTo base10; simp]
          exact hk' ▸ HV.out
        have HW2 := Lib.hid (below_chain7 HW1.out HW.out)
        have HB2 := Lib.hid (HB1.out.keep HW.out)
        clear HV HW HW1 HB1 HT1
        rename World => x2
        generalize u5 = v27 at *
        clear hk' hlt hk
        obtain ⟨lp, p0, p1, p2⟩ := HB2.out.r3 (.head _)
        go_wp2
        go_loopw [5, 33] (fun v i wr => ∃ j : Nat, j ≤ rs.length ∧ i = .int .i64 j ∧ Hid (RowE wr v (polTo rs j (base10 false)).list) ∧ Hid (Below x2.heap.size x2 wr)) (fun _ i _ => rs.length - (intOf i).toNat)
        case atStart => exact ⟨0, Nat.zero_le _, rfl, HS2, Below.refl _ _⟩
        case round =>
          obtain ⟨j, hj, rfl, HV, HW⟩ := hrel
          have hlen : (polTo rs j (base10 false)).list.length ≤ 400 := by
            have h1 := polTo_len HOK.out HRR.out (base10_inv false) j
            have h2 := base10_len false
            omega
          by_cases hlt : j < rs.length
          · obtain ⟨ad, rfl, x, hx, ⟨c0, c1, c2, c3⟩, hxo⟩ := (HRO.out.keep (below_chain7 HW2.out HW.out)).at hlt
            have hjl : (j : Int) < rs.length := by omega
            obtain ⟨_, _, k3⟩ := right_nat (all_at HRR.out hx)
            cases ha : x.a with
            | true =>
              have hv : x.v = 1 := by unfold Ru.v; rw [ha]; rfl
              have HP : Hid (Calls Tryz.prog 65 #[u5, .agg #[.int .u64 (x.hi : Nat), .int .u64 (x.lo : Nat), .int .i64 x.k], .int .i64 1] (wr.alloc (.cells #[.int .u64 (x.hi : Nat), .int .u64 (x.lo : Nat), .int .i64 x.k, .bool true] 125)) fun e w' => ∃ v', e = .returned (.tuple #[v', .bool true]) ∧ RowE w' v' (polTo rs (j + 1) (base10 false)).list ∧ Below wr.heap.size wr w') := by
                have hb : Below wr.heap.size wr (wr.alloc (.cells #[.int .u64 (x.hi : Nat), .int .u64 (x.lo : Nat), .int .i64 x.k, .bool true] 125)) := (Below.refl _ _).alloc (Nat.le_refl _) _
                have := refPut8_any u5 (polTo rs j (base10 false)).list x.hi x.lo x.k.toNat x.v _ hxo.1 hxo.2.1 (by rw [k3]; exact all_at HRR.out hx) (by omega) (HV.out.keep hb)
                rw [k3, hv] at this
                refine this.mono ?_
                rintro e w' ⟨v', he, ho, hbw⟩
                refine ⟨v', he, ?_, below_chain7 hb hbw⟩
                rw [polTo_list HOK.out HRR.out (base10_inv false) hx, hv]
                exact ho.row
              rw [ha] at c3
              go_wp2_with fail
              refine HP.out.mono ?_
              rintro e x5 ⟨v5, rfl, hv5, hb5⟩
              have HV5 := Lib.hid hv5
              have HW5 := Lib.hid (below_chain7 HW.out hb5)
              clear hv5 hb5 c0 c1 c2 c3 HP
              go_wp2
              go_roundw
              case rel => exact ⟨j + 1, by omega, by go_num, HV5, HW5⟩
              case measure => simp [intOf]; omega
            | false =>
              have hv : x.v = 0 := by unfold Ru.v; rw [ha]; rfl
              have HP : Hid (Calls Tryz.prog 65 #[u5, .agg #[.int .u64 (x.hi : Nat), .int .u64 (x.lo : Nat), .int .i64 x.k], .int .i64 0] (wr.alloc (.cells #[.int .u64 (x.hi : Nat), .int .u64 (x.lo : Nat), .int .i64 x.k, .bool false] 125)) fun e w' => ∃ v', e = .returned (.tuple #[v', .bool true]) ∧ RowE w' v' (polTo rs (j + 1) (base10 false)).list ∧ Below wr.heap.size wr w') := by
                have hb : Below wr.heap.size wr (wr.alloc (.cells #[.int .u64 (x.hi : Nat), .int .u64 (x.lo : Nat), .int .i64 x.k, .bool false] 125)) := (Below.refl _ _).alloc (Nat.le_refl _) _
                have := refPut8_any u5 (polTo rs j (base10 false)).list x.hi x.lo x.k.toNat x.v _ hxo.1 hxo.2.1 (by rw [k3]; exact all_at HRR.out hx) (by omega) (HV.out.keep hb)
                rw [k3, hv] at this
                refine this.mono ?_
                rintro e w' ⟨v', he, ho, hbw⟩
                refine ⟨v', he, ?_, below_chain7 hb hbw⟩
                rw [polTo_list HOK.out HRR.out (base10_inv false) hx, hv]
                exact ho.row
              rw [ha] at c3
              go_wp2_with fail
              refine HP.out.mono ?_
              rintro e x5 ⟨v5, rfl, hv5, hb5⟩
              have HV5 := Lib.hid hv5
              have HW5 := Lib.hid (below_chain7 HW.out hb5)
              clear hv5 hb5 c0 c1 c2 c3 HP
              go_wp2
              go_roundw
              case rel => exact ⟨j + 1, by omega, by go_num, HV5, HW5⟩
              case measure => simp [intOf]; omega
          · have hj' : j = rs.length := by omega
            subst hj'
            have HF := Lib.hid (refFind8_any u5 (polTo rs rs.length (base10 false)).list s ah al wr h3 h4 (polZ_lt HOK.out HRR.out false) (by omega) HV.out)
            have HR : Hid (verdB (polZ rs false) (wideN ah al) = (match bestL (wideN ah al) (polTo rs rs.length (base10 false)).list none with | none => false | some y => decide (y.v = 1))) := bestL_verd (polZ_inv HOK.out HRR.out false) _
            obtain ⟨la, a0, a1, a2⟩ := (HB2.out.keep HW.out).r3 (.tail _ (.head _))
            clear p0 p1 p2
            cases hb : bestL (wideN ah al) (polTo rs rs.length (base10 false)).list none with
            | none =>
              rw [hb] at HF HR
              go_wp2_with fail
              refine HF.out.mono ?_
              rintro e x5 ⟨rfl, hb5⟩
              simp only [entW, entC, Option.isSome]
              have hb6 := below_chain7 (below_chain7 HW2.out HW.out) (hb5.alloc hb5.size (.cells #[.int .u64 0, .int .u64 0, .int .i64 0, .int .i64 0] 134))
              go_wp2
              go_ret
              rw [HR.out]
              exact ⟨rfl, hb6⟩
            | some y =>
              rw [hb] at HF HR
              go_wp2_with fail
              refine HF.out.mono ?_
              rintro e x5 ⟨rfl, hb5⟩
              simp only [entW, entC, Option.isSome]
              have hb6 := below_chain7 (below_chain7 HW2.out HW.out) (hb5.alloc hb5.size (.cells #[.int .u64 (hiN y.W : Nat), .int .u64 (loN y.W : Nat), .int .i64 (y.n : Nat), .int .i64 y.v] 134))
              go_wp2
              go_ret
              rw [HR.out]
              exact ⟨by first | rfl | exact ret_bool (by by_cases c : y.v = 1 <;> simp [c]), hb6⟩
set_option maxRecDepth 100000 in
set_option maxHeartbeats 4000000 in
theorem refAllows10_any (ra pa : Option Addr) (rc pn pc : Nat) (bare : Bool) (rs : List Ru) (a : AZ) (w : World) (hr : IsURow w ra rs.length rc rs) (hl : rs.length ≤ 256) (hrr : rulesB rs = true) (ho : a.Ok) :
    Calls Tryz.prog 36 #[.agg #[.slice ra rs.length rc, .slice pa pn pc, .bool bare], refV (refA (some a))] w fun e w' => e = .returned (.bool (allowB (polZ rs bare) a)) ∧ Below w.heap.size w w' := by
  obtain ⟨s, ah, al, hrv, h3, h4, hwd⟩ := ref_is9 a ho
  have HI : Hid (∀ W, Calls Tryz.prog 64 #[.agg #[.bool s, .int .u64 (ah : Nat), .int .u64 (al : Nat)]] W (RetU32s W (innerA a))) := fun W => hrv ▸ refInner_any a W ho
  rw [hrv]
  have HRO := Lib.hid hr
  have HRR := Lib.hid hrr
  have HV : Hid (∀ (q : Bool) (bh bl : Nat) (W : World), Below w.heap.size w W → bh < 18446744073709551616 → bl < 18446744073709551616 → Calls Tryz.prog 37 #[.agg #[.slice ra rs.length rc, .slice pa pn pc, .bool bare], .agg #[.bool q, .int .u64 (bh : Nat), .int .u64 (bl : Nat)]] W fun e w' => e = .returned (.bool (verdB (polZ rs bare) (wideN bh bl))) ∧ Below W.heap.size W w') := fun q bh bl W hW g1 g2 => refVerdict10_any ra pa rc pn pc bare rs q bh bl W (HRO.out.keep hW) hl HRR.out g1 g2
  have hll := innerA_len a
  clear hr hrr
  obtain ⟨x0, hx0⟩ : ∃ x, x = (w.alloc (.cells #[.slice ra rs.length rc, .slice pa pn pc, .bool bare] 70)).alloc (.cells #[.bool s, .int .u64 (ah : Nat), .int .u64 (al : Nat)] 31) := ⟨_, rfl⟩
  have HW0 : Hid (Below w.heap.size w x0) := by rw [hx0]; exact ((Below.refl _ w).alloc (Nat.le_refl _) _).alloc (by simp) _
  have HB0 : Hid (Blks [(w.heap.size, #[.slice ra rs.length rc, .slice pa pn pc, .bool bare], 70), (w.heap.size + 1, #[.bool s, .int .u64 (ah : Nat), .int .u64 (al : Nat)], 31)] x0) := by
    have h := ((Blks.empty w).new #[.slice ra rs.length rc, .slice pa pn pc, .bool bare] 70).new #[.bool s, .int .u64 (ah : Nat), .int .u64 (al : Nat)] 31
    rw [← hx0, show (w.alloc (.cells #[.slice ra rs.length rc, .slice pa pn pc, .bool bare] 70)).heap.size = w.heap.size + 1 from by simp] at h
    intro e he
    rcases List.mem_cons.1 he with q | q
    · rw [q]; exact h _ (.tail _ (.head _))
    · rw [List.mem_singleton.1 q]; exact h _ (.head _)
  have HV0 := Lib.hid (HV.out s ah al x0 HW0.out h3 h4)
  rw [hwd] at HV0
  go_enter Tryz.func36, Tryz.ntmps36
  go_wp2_with fail
  rw [← hx0]
  clear hx0
  obtain ⟨lp, p0, p1, p2⟩ := HB0.out.r3 (.head _)
  obtain ⟨la, a0, a1, a2⟩ := HB0.out.r3 (.tail _ (.head _))
  cases hv : verdB (polZ rs bare) a.wd with
  | false =>
    rw [hv] at HV0
    refine HV0.out.mono ?_
    rintro e x1 ⟨rfl, hb1⟩
    go_wp2
    go_ret
    rw [show allowB (polZ rs bare) a = false from by unfold allowB; rw [hv]; rfl]
    exact ⟨rfl, below_chain7 HW0.out hb1⟩
  | true =>
    rw [hv] at HV0
    refine HV0.out.mono ?_
    rintro e x1 ⟨rfl, hb1⟩
    have HW1 := Lib.hid (below_chain7 HW0.out hb1)
    have HB1 := Lib.hid (HB0.out.keep hb1)
    clear hb1 p0 p1 p2 a0 a1 a2 HV0
    obtain ⟨la, a0, a1, a2⟩ := HB1.out.r3 (.tail _ (.head _))
    go_wp2_with fail
    refine (HI.out _).mono ?_
    rintro e x2 ⟨v2, rfl, hn2, hb2⟩
    obtain ⟨ao, c, rfl, hcs⟩ := hn2.row
    rw [List.length_map]
    have HW2 := Lib.hid (below_chain7 HW1.out hb2)
    have HB2 := Lib.hid (HB1.out.keep hb2)
    have HCS := Lib.hid hcs
    clear hb2 hn2 hcs HI HB1 HW1 a0 a1 a2
    go_wp2
    go_loopw [14] (fun i wr => ∃ j : Nat, j ≤ (innerA a).length ∧ i = .int .i64 j ∧ Hid (Below x2.heap.size x2 wr) ∧ Hid (∀ (i : Nat) (n : Int), i < j → (innerA a)[i]? = some n → verdB (polZ rs bare) (AZ.four n).wd = true)) (fun i _ => (innerA a).length - (intOf i).toNat)
    case atStart => exact ⟨0, Nat.zero_le _, rfl, Below.refl _ _, fun i y hi => absurd hi (Nat.not_lt_zero _)⟩
    case round =>
      obtain ⟨j, hj, rfl, hbw, hok⟩ := hrel
      have HWW := Lib.hid (below_chain7 HW2.out hbw.out)
      by_cases hlt : j < (innerA a).length
      · obtain ⟨n, hn⟩ : ∃ n, (innerA a)[j]? = some n := ⟨_, List.getElem?_eq_getElem hlt⟩
        obtain ⟨ad, rfl, hc⟩ := HCS.out j (.int .u32 n) (by rw [List.getElem?_map, hn]; rfl)
        have c0 : wr.cell? (ad.add j) = some (.int .u32 n) := (hbw.out.cell (World.block_lt_of_cell? x2 _ hc)).trans hc
        have hno := innerA_ok hn
        have HC : Hid (∀ W, Below wr.heap.size wr W → Calls Tryz.prog 37 #[.agg #[.slice ra rs.length rc, .slice pa pn pc, .bool bare], .agg #[.bool false, .int .u64 0, .int .u64 (281470681743360 + n)]] W fun e w' => e = .returned (.bool (verdB (polZ rs bare) (AZ.four n).wd)) ∧ Below wr.heap.size wr w') := fun W hW => by
          have := HV.out false 0 (281470681743360 + n).toNat W (below_chain7 HWW.out hW) (by decide) (by have := hno.1; have := hno.2; omega)
          rw [show (((281470681743360 + n).toNat : Nat) : Int) = 281470681743360 + n from by have := hno.1; omega] at this
          exact this.mono (fun e w' h => ⟨h.1, below_chain7 hW h.2⟩)
        have HFO : Hid (∀ W, Below wr.heap.size wr W → Calls Tryz.prog 50 #[.int .u32 n] W fun e w' => e = .returned (.agg #[.bool false, .int .u64 0, .int .u64 (281470681743360 + n)]) ∧ Below wr.heap.size wr w') := fun W hW => (refFour_any n W hno.1 hno.2).mono (fun e w' h => ⟨h.1, below_chain7 hW h.2⟩)
        have HK : Hid (∀ W, Below wr.heap.size wr W → W.cell? ⟨w.heap.size, 0, none⟩ = some (.slice ra rs.length rc) ∧ W.cell? ⟨w.heap.size, 1, none⟩ = some (.slice pa pn pc) ∧ W.cell? ⟨w.heap.size, 2, none⟩ = some (.bool bare)) := fun W hW => ((HB2.out.keep (below_chain7 hbw.out hW)).r3 (.head _)).2
        have hjl : (j : Int) < (innerA a).length := by omega
        clear hc hno
        cases hp : verdB (polZ rs bare) (AZ.four n).wd with
        | false =>
          rw [hp] at HC
          go_wp2
          go_region_held3 (fun W => W.cell? ⟨w.heap.size, 0, none⟩ = some (.slice ra rs.length rc) ∧ W.cell? ⟨w.heap.size, 1, none⟩ = some (.slice pa pn pc) ∧ W.cell? ⟨w.heap.size, 2, none⟩ = some (.bool bare)) (first | exact HK.out _ (below_drew1 _) | exact HK.out _ hb5 | exact HK.out _ hb6) (first
            | (go_simp; go_at_call 50; ((with_reducible refine (HFO.out _ (below_drew1 _)).mono ?_); rintro e x5 ⟨rfl, hb5⟩))
            | (go_simp; go_at_call 37; ((with_reducible refine (HC.out _ hb5).mono ?_); rintro e x6 ⟨rfl, hb6⟩)))
          go_wp2
          go_ret
          rw [inn_false hn hp]
          exact ⟨rfl, below_chain7 HWW.out hb6⟩
        | true =>
          rw [hp] at HC
          have HOK : Hid (∀ (i : Nat) (n : Int), i < j + 1 → (innerA a)[i]? = some n → verdB (polZ rs bare) (AZ.four n).wd = true) := fun i m hi hm => by
            by_cases c : i < j
            · exact hok.out i m c hm
            · rw [show i = j from by omega, hn] at hm
              exact Option.some.inj hm ▸ hp
          go_wp2
          go_region_held3 (fun W => W.cell? ⟨w.heap.size, 0, none⟩ = some (.slice ra rs.length rc) ∧ W.cell? ⟨w.heap.size, 1, none⟩ = some (.slice pa pn pc) ∧ W.cell? ⟨w.heap.size, 2, none⟩ = some (.bool bare)) (first | exact HK.out _ (below_drew1 _) | exact HK.out _ hb5 | exact HK.out _ hb6) (first
            | (go_simp; go_at_call 50; ((with_reducible refine (HFO.out _ (below_drew1 _)).mono ?_); rintro e x5 ⟨rfl, hb5⟩))
            | (go_simp; go_at_call 37; ((with_reducible refine (HC.out _ hb5).mono ?_); rintro e x6 ⟨rfl, hb6⟩)))
          have HW6 := Lib.hid (below_chain7 hbw.out hb6)
          go_wp2
          go_roundw
          case rel => exact ⟨j + 1, by omega, by go_num, HW6, HOK⟩
          case measure => simp [intOf]; omega
      · have hj' : j = (innerA a).length := by omega
        subst hj'
        have hal : allowB (polZ rs bare) a = true := inn_true hv (fun i n hn => hok.out i n (List.getElem?_eq_some_iff.1 hn).1 hn)
        go_wp2
        go_ret
        rw [hal]
        exact ⟨rfl, HWW.out⟩
theorem has_not {ps : List Int} {n : Int} (h : ∀ (i : Nat) (x : Int), ps[i]? = some x → x ≠ n) : hasPort ps n = false := by
  unfold hasPort
  rw [Bool.eq_false_iff]
  intro q
  have hm : n ∈ ps := by simpa using q
  obtain ⟨i, hi, e⟩ := List.getElem_of_mem hm
  exact h i n (by rw [List.getElem?_eq_getElem hi, e]) rfl
theorem has_yes {ps : List Int} {n : Int} {i : Nat} (h : ps[i]? = some n) : hasPort ps n = true := by
  unfold hasPort
  have := List.mem_of_getElem? h
  simpa using this
set_option maxRecDepth 100000 in
set_option maxHeartbeats 1000000 in
theorem refPort10_any (ra pa : Option Addr) (rn rc pc : Nat) (bare : Bool) (ps : List Int) (n : Int) (w : World) (hp : IsIRow w pa ps.length pc ps) (hlen : ps.length ≤ 1000000) :
    Calls Tryz.prog 38 #[.agg #[.slice ra rn rc, .slice pa ps.length pc, .bool bare], .int .i64 n] w fun e w' => e = .returned (.bool (hasPort ps n)) ∧ Below w.heap.size w w' := by
  have HPO := Lib.hid hp
  clear hp
  have HW0 : Hid (Below w.heap.size w (w.alloc (.cells #[.slice ra rn rc, .slice pa ps.length pc, .bool bare] 70))) := (Below.refl _ _).alloc (Nat.le_refl _) _
  go_enter Tryz.func38, Tryz.ntmps38
  go_wp2
  generalize w.alloc (.cells #[.slice ra rn rc, .slice pa ps.length pc, .bool bare] 70) = x0 at *
  go_loopw [10] (fun i wr => ∃ k : Nat, k ≤ ps.length ∧ i = .int .i64 k ∧ wr = x0 ∧ Hid (∀ (i : Nat) (y : Int), i < k → ps[i]? = some y → y ≠ n)) (fun i _ => ps.length - (intOf i).toNat)
  case atStart => exact ⟨0, Nat.zero_le _, rfl, rfl, fun i y hi => absurd hi (Nat.not_lt_zero _)⟩
  case round =>
    obtain ⟨k, hk, rfl, rfl, hok⟩ := hrel
    by_cases hkt : k < ps.length
    · obtain ⟨ad, rfl, m, hm, r0, _⟩ := HPO.out.at HW0.out hkt
      have hkl : (k : Int) < ps.length := by omega
      by_cases hmn : m = n
      · have hd : (m == n) = true := beq_iff_eq.2 hmn
        go_wp2
        go_ret
        rw [has_yes (hmn ▸ hm)]
        exact ⟨rfl, HW0.out⟩
      · have hd : (m == n) = false := beq_eq_false_iff_ne.2 hmn
        have HOK : Hid (∀ (i : Nat) (y : Int), i < k + 1 → ps[i]? = some y → y ≠ n) := fun i y hi hy => by
          by_cases c : i < k
          · exact hok.out i y c hy
          · rw [show i = k from by omega, hm] at hy
            exact Option.some.inj hy ▸ hmn
        go_wp2
        go_roundw
        case rel => exact ⟨k + 1, by omega, by go_num, by first | rfl | trivial, HOK⟩
        case measure => simp [intOf]; omega
    · have hk' : k = ps.length := by omega
      subst hk'
      have hf := has_not (fun i y hy => hok.out i y (List.getElem?_eq_some_iff.1 hy).1 hy)
      go_wp2
      go_ret
      rw [hf]
      exact ⟨rfl, HW0.out⟩
end

section
open Go.RowKit
theorem infoRU : (Tryz.prog.info? 125).map (fun i => (i.zero, i.size, i.bytes)) = some (some (.agg #[.int .u64 0, .int .u64 0, .int .i64 0, .bool false]), 4, 32) := by kernel_rfl
theorem tyQP : 70 ≠ 125 := by decide
/-- a policy of the document's under way, beside other blocks -/
structure QS (w x : World) (base gp : Nat) (rv pv : Value) (rs : List Ru) (bare : Bool) (L : List (Nat × Array Value × TypeId)) : Prop where
  below : Below base w x
  blk : x.heap[gp]? = some (.cells #[rv, pv, .bool bare] 70)
  rows : OwnX 125 4 Ru.cl x base rv rs
  gpb : base ≤ gp
  size : base ≤ x.heap.size
  blks : Blks L x
  apart : ∀ e ∈ L, e.1 ≠ gp ∧ e.2.2 ≠ 125
theorem QS.keep {w x y : World} {base gp : Nat} {rv pv : Value} {rs : List Ru} {bare : Bool} {L : List (Nat × Array Value × TypeId)} (h : QS w x base gp rv pv rs bare L) (hb : Below x.heap.size x y) : QS w y base gp rv pv rs bare L :=
  ⟨h.below.trans (hb.mono h.size), (hb.block gp (block_lt h.blk)).trans h.blk, h.rows.keep hb, h.gpb, Nat.le_trans h.size hb.size, h.blks.keep hb, h.apart⟩
theorem QS.grown {w x y z : World} {base gp : Nat} {rv pv : Value} {rs : List Ru} {bare : Bool} {L : List (Nat × Array Value × TypeId)} (h : QS w x base gp rv pv rs bare L) (hb : Below x.heap.size x y) (hg : y.grownBy z rv.ownBlock) : z.heap[gp]? = some (.cells #[rv, pv, .bool bare] 70) :=
  have h1 := h.keep hb
  (hg.block gp (block_lt h1.blk) (fun e => h1.rows.other h1.blk tyQP e.symm)).trans h1.blk
theorem QS.rule {w x y z : World} {base gp : Nat} {rv rv' pv : Value} {rs : List Ru} {bare : Bool} {L : List (Nat × Array Value × TypeId)} {r : Ru} (h : QS w x base gp rv pv rs bare L) (hb : Below x.heap.size x y) (hg : y.grownBy z rv.ownBlock) (hr : z.ownsRow base 125 4 rv' (rs.length + 1) (rs.flatMap Ru.cl ++ r.cl)) : QS w (z.setCell ⟨gp, 0, none⟩ rv') base gp rv' pv (rs ++ [r]) bare L := by
  have h1 := h.keep hb
  have h2 : Below base y z := (Below.refl base y).grown hg h1.size (fun k hk => (World.ownsRow.lt h1.rows k hk).1)
  have hbz := h.grown hb hg
  refine ⟨(h1.below.trans h2).setCell (p := ⟨gp, 0, none⟩) h.gpb _, set_row hbz 0 _, (OwnX.snoc hr : OwnX _ _ _ _ _ _ (rs ++ [r])).setOther hbz tyQP 0 _, h.gpb, ?_, fun e he => ?_, h.apart⟩
  · rw [show (z.setCell ⟨gp, 0, none⟩ rv').heap.size = z.heap.size by simp [World.setCell]]
    exact Nat.le_trans h1.size h2.size
  · have hb1 := h1.blks e he
    have hz := (hg.block e.1 (block_lt hb1) (fun q => h1.rows.other hb1 (h.apart e he).2 q.symm)).trans hb1
    exact (Below.heap_setCell _ _ _ _ (h.apart e he).1).trans hz
theorem cells_next10 (w : World) (o : Obj) (c : List Value) (t : TypeId) : ∀ (j : Nat) (u : Value), c[j]? = some u → ((w.alloc o).alloc (.cells c.toArray t)).cell? ((⟨w.heap.size + 1, 0, none⟩ : Addr).add j) = some u := fun j u h => by
  have := cells_new (w.alloc o) c t j u h
  simpa using this
theorem ru_one (x : Ru) : ∀ u ∈ [Value.int .u64 (x.hi : Nat), .int .u64 (x.lo : Nat), .int .i64 x.k, .bool x.a], u.oneCell' = true := fun u hu => by
  simp at hu
  rcases hu with rfl | rfl | rfl | rfl <;> rfl
theorem IsURow.rx {w : World} {a : Option Addr} {len cap : Nat} {zs : List Ru} (h : IsURow w a len cap zs) : RowX 4 Ru.cl w a zs := fun j x hx => (h.2 j x hx).1
theorem IsIRow.rx {w : World} {a : Option Addr} {len cap : Nat} {zs : List Int} (h : IsIRow w a len cap zs) : RowX 1 clI w a zs := fun j x hx => by
  obtain ⟨⟨ad, e, hc⟩, _⟩ := h.2 j x hx
  refine ⟨ad, e, fun i hi => ?_⟩
  obtain rfl : i = 0 := by omega
  simpa [clI] using hc
theorem RowX.r4 {w : World} {a : Option Addr} {l : List Ru} (h : RowX 4 Ru.cl w a l) {j : Nat} {x : Ru} (hx : l[j]? = some x) :
    ∃ (ad : Addr) (_ : a = some ad), w.cell? (ad.add (j * 4)) = some (.int .u64 (x.hi : Nat)) ∧ w.cell? ⟨(ad.add (j * 4)).block, (ad.add (j * 4)).off + 1, none⟩ = some (.int .u64 (x.lo : Nat)) ∧ w.cell? ⟨(ad.add (j * 4)).block, (ad.add (j * 4)).off + 2, none⟩ = some (.int .i64 x.k) ∧ w.cell? ⟨(ad.add (j * 4)).block, (ad.add (j * 4)).off + 3, none⟩ = some (.bool x.a) := by
  obtain ⟨ad, e, hc⟩ := h j x hx
  refine ⟨ad, e, ?_, ?_, ?_, ?_⟩
  · exact hc 0 (by omega)
  · have := hc 1 (by omega); rw [← Go.Deep.add_add] at this; exact this
  · have := hc 2 (by omega); rw [← Go.Deep.add_add] at this; exact this
  · have := hc 3 (by omega); rw [← Go.Deep.add_add] at this; exact this
theorem RowX.r1 {w : World} {a : Option Addr} {l : List Int} (h : RowX 1 clI w a l) {j : Nat} {x : Int} (hx : l[j]? = some x) :
    ∃ (ad : Addr) (_ : a = some ad), w.cell? (ad.add j) = some (.int .i64 x) := by
  obtain ⟨ad, e, hc⟩ := h j x hx
  refine ⟨ad, e, ?_⟩
  have := hc 0 (by omega)
  rw [Nat.mul_one] at this
  exact this
set_option maxRecDepth 100000 in
set_option maxHeartbeats 4000000 in
theorem of10X_any (ra pa : Option Addr) (rc pn pc : Nat) (bare : Bool) (rs : List Ru) (w : World) (hr : RowX 4 Ru.cl w ra rs) (hl : rs.length ≤ 100000) :
    Calls Tryz.prog 30 #[.agg #[.slice ra rs.length rc, .slice pa pn pc, .bool bare]] w fun e w' => ∃ rv, e = .returned (.agg #[rv, .slice pa pn pc, .bool bare]) ∧ OwnX 125 4 Ru.cl w' w.heap.size rv rs ∧ Below w.heap.size w w' := by
  have HRO := Lib.hid hr
  clear hr
  obtain ⟨i0, hi0, hz0, hz1, hz2⟩ := info_parts' infoRU
  obtain ⟨x0, hx0⟩ : ∃ x, x = ((w.alloc (.cells #[.slice ra rs.length rc, .slice pa pn pc, .bool bare] 61)).alloc (.cells #[.slice none 0 0, .slice none 0 0, .bool false] 70)).alloc (.cells #[.slice none 0 0, .slice pa pn pc, .bool bare] 70) := ⟨_, rfl⟩
  have HQ0 : Hid (QS w x0 w.heap.size (w.heap.size + 2) (.slice none 0 0) (.slice pa pn pc) [] bare [(w.heap.size + 1, #[.slice none 0 0, .slice none 0 0, .bool false], 70)]) := by
    have h2 := ((Blks.empty (w.alloc (.cells #[.slice ra rs.length rc, .slice pa pn pc, .bool bare] 61))).new #[.slice none 0 0, .slice none 0 0, .bool false] 70).new #[.slice none 0 0, .slice pa pn pc, .bool bare] 70
    rw [← hx0] at h2
    have s1 : (w.alloc (.cells #[.slice ra rs.length rc, .slice pa pn pc, .bool bare] 61)).heap.size = w.heap.size + 1 := by simp
    have s2 : ((w.alloc (.cells #[.slice ra rs.length rc, .slice pa pn pc, .bool bare] 61)).alloc (.cells #[.slice none 0 0, .slice none 0 0, .bool false] 70)).heap.size = w.heap.size + 2 := by simp
    rw [s1, s2] at h2
    have hb : Below w.heap.size w x0 := by rw [hx0]; exact (((Below.refl _ w).alloc (Nat.le_refl _) _).alloc (by simp) _).alloc (by simp; omega) _
    exact ⟨hb, h2 _ (.head _), OwnX.nil _ _, by omega, hb.size, fun e he => h2 e (.tail _ he), fun e he => by rw [List.mem_singleton.1 he]; exact ⟨by simp, tyQP⟩⟩
  go_enter Tryz.func30, Tryz.ntmps30
  go_wp2
  rw [← hx0]
  clear hx0
  go_loopw [14] (fun i wr => ∃ (j : Nat) (rv : Value), j ≤ rs.length ∧ i = .int .i64 j ∧ Hid (QS w wr w.heap.size (w.heap.size + 2) rv (.slice pa pn pc) (rs.take j) bare [(w.heap.size + 1, #[.slice none 0 0, .slice none 0 0, .bool false], 70)])) (fun i _ => rs.length - (intOf i).toNat)
  case atStart => exact ⟨0, _, Nat.zero_le _, rfl, HQ0⟩
  case round =>
    obtain ⟨j, rv, hj, rfl, HQ⟩ := hrel
    by_cases hlt : j < rs.length
    · obtain ⟨x, hx⟩ : ∃ x, rs[j]? = some x := ⟨_, List.getElem?_eq_getElem hlt⟩
      obtain ⟨ad, rfl, c0, c1, c2, c3⟩ := (HRO.out.keep Ru.cl_len HQ.out.below).r4 hx
      have hjl : (j : Int) < rs.length := by omega
      have HM : Hid (rs.take (j + 1) = rs.take j ++ [x]) := by show _ = _; rw [List.take_add_one, hx]; rfl
      have hml : (rs.take j).length ≤ 100000 := by rw [List.length_take]; omega
      generalize rs.take j = m at *
      obtain ⟨ra', rc', rfl⟩ := HQ.out.rows.form
      have a0 := cell_row HQ.out.blk 0
      simp at a0
      have hgl : w.heap.size + 2 < wr.heap.size := block_lt HQ.out.blk
      have HB2 : Hid (Below wr.heap.size wr ((wr.alloc (.cells #[.int .u64 (x.hi : Nat), .int .u64 (x.lo : Nat), .int .i64 x.k, .bool x.a] 99)).alloc (.cells #[.int .u64 (x.hi : Nat), .int .u64 (x.lo : Nat), .int .i64 x.k, .bool x.a] 125))) := ((Below.refl _ _).alloc (Nat.le_refl _) _).alloc (by simp) _
      have HQ2 := Lib.hid (HQ.out.keep HB2.out)
      have hcn := cells_next10 wr (.cells #[.int .u64 (x.hi : Nat), .int .u64 (x.lo : Nat), .int .i64 x.k, .bool x.a] 99) [.int .u64 (x.hi : Nat), .int .u64 (x.lo : Nat), .int .i64 x.k, .bool x.a] 125
      have hoc := ru_one x
      have HKG : Hid (∀ z, ((wr.alloc (.cells #[.int .u64 (x.hi : Nat), .int .u64 (x.lo : Nat), .int .i64 x.k, .bool x.a] 99)).alloc (.cells #[.int .u64 (x.hi : Nat), .int .u64 (x.lo : Nat), .int .i64 x.k, .bool x.a] 125)).grownBy z (Value.slice ra' m.length rc').ownBlock → z.heap[w.heap.size + 2]? = some (.cells #[.slice ra' m.length rc', .slice pa pn pc, .bool bare] 70)) := fun z hg => HQ.out.grown HB2.out hg
      go_wp2_with (first
        | (at_builtin; refine wpList_append_own _ rfl _ _ 68 rfl w.heap.size 125 i0 (.agg #[.int .u64 0, .int .u64 0, .int .i64 0, .bool false]) 4 32 Tryz.underlying68 hi0 hz0 hz1 hz2 rfl (by decide) (.slice ra' m.length rc') m.length (m.flatMap Ru.cl) rfl HQ2.out.rows ⟨wr.heap.size + 1, 0, none⟩ 1 1 [.int .u64 (x.hi : Nat), .int .u64 (x.lo : Nat), .int .i64 x.k, .bool x.a] rfl rfl hcn hoc (by unfold maxLen; omega) (by omega) HQ2.out.size ?_; intro s1 w1 hown1 hgrow1 _; obtain ⟨sa, sc, rfl⟩ := own_form hown1; have hbz := HKG.out _ hgrow1; have z0 := cell_row hbz 0; have z1 := frozen_row hbz 0; simp at z0)
        | go_in)
      have HN : Hid (QS w (w1.setCell ⟨w.heap.size + 2, 0, none⟩ (.slice sa (m.length + 1) sc)) w.heap.size (w.heap.size + 2) (.slice sa (m.length + 1) sc) (.slice pa pn pc) (rs.take (j + 1)) bare [(w.heap.size + 1, #[.slice none 0 0, .slice none 0 0, .bool false], 70)]) := by
        show QS _ _ _ _ _ _ _ _ _
        rw [HM.out]; exact HQ.out.rule HB2.out hgrow1 hown1
      go_roundw
      case rel => exact ⟨j + 1, _, by omega, by go_num, HN⟩
      case measure => simp [intOf]; omega
    · have hj' : j = rs.length := by omega
      subst hj'
      rw [List.take_length] at HQ
      obtain ⟨ra', rc', rfl⟩ := HQ.out.rows.form
      obtain ⟨lr, r0, r1, r2⟩ := HQ.out.blks.r3 (.head _)
      have p0 := cell_row HQ.out.blk 0
      have p1 := cell_row HQ.out.blk 1
      have p2 := cell_row HQ.out.blk 2
      simp at p0 p1 p2
      have f0 := frozen_row (HQ.out.blks _ (.head _)) 0
      have f1 := frozen_row (HQ.out.blks _ (.head _)) 1
      have f2 := frozen_row (HQ.out.blks _ (.head _)) 2
      have hrow := set3_row (HQ.out.blks (w.heap.size + 1, _, _) (.head _)) (.slice ra' rs.length rc') (.slice pa pn pc) (.bool bare)
      have s0 := cell_row hrow 0
      have s1 := cell_row hrow 1
      have s2 := cell_row hrow 2
      have HB3 := Lib.hid (set3_below HQ.out.below (Nat.le_succ w.heap.size) (.slice ra' rs.length rc') (.slice pa pn pc) (.bool bare))
      have HO1 := Lib.hid (HQ.out.rows.set3 (HQ.out.blks (w.heap.size + 1, _, _) (.head _)) tyQP (.slice ra' rs.length rc') (.slice pa pn pc) (.bool bare))
      simp at s0 s1 s2
      have HR := Lib.hid (And.intro s0 (And.intro s1 s2))
      clear s0 s1 s2 hrow
      go_wp2
      obtain ⟨s0, s1, s2⟩ := HR.out
      refine bodyPost_ret (v := .agg #[.slice ra' rs.length rc', .slice pa pn pc, .bool bare]) (by simp [results, Tryz.results30, go_sem, s0, s1, s2]) rfl ?_
      exact ⟨_, rfl, HO1.out, HB3.out⟩
theorem of10_any (ra pa : Option Addr) (rc pn pc : Nat) (bare : Bool) (rs : List Ru) (w : World) (hr : IsURow w ra rs.length rc rs) (hl : rs.length ≤ 100000) :
    Calls Tryz.prog 30 #[.agg #[.slice ra rs.length rc, .slice pa pn pc, .bool bare]] w fun e w' => ∃ rv, e = .returned (.agg #[rv, .slice pa pn pc, .bool bare]) ∧ OwnX 125 4 Ru.cl w' w.heap.size rv rs ∧ Below w.heap.size w w' := of10X_any ra pa rc pn pc bare rs w hr.rx hl
end

section
open Go.RowKit
theorem val_if10 (y : AZ) : ∃ t u, y.val = .iface t u := by cases y <;> exact ⟨_, _, rfl⟩
set_option maxRecDepth 100000 in
set_option maxHeartbeats 16000000 in
theorem policyTells_walk (a0_0 : Option Addr) (len0_0 cap0_0 : Nat) (z0_0 : List Ru) (a0_1 : Option Addr) (len0_1 cap0_1 : Nat) (z0_1 : List Int) (a0_2 : Bool) (a1 : Bool) (a2 a3 a4 : Int) (w2 : (Lit.int .u64 a2).wf = true) (w3 : (Lit.int .u64 a3).wf = true) (_w4 : (Lit.int .i64 a4).wf = true) (w : World) (w0_0 : IsURow w a0_0 len0_0 cap0_0 z0_0) (w0_1 : IsIRow w a0_1 len0_1 cap0_1 z0_1) (hbru : BruTab w) (hmax : MaxVar w) :
    Calls Tryz.prog 6 #[.agg #[.slice a0_0 len0_0 cap0_0, .slice a0_1 len0_1 cap0_1, .bool a0_2], .bool a1, .int .u64 a2, .int .u64 a3, .int .i64 a4] w fun e w' => e = .returned (.bool true) ∧ Below w.heap.size w w' := by
  obtain ⟨hh, rfl, b5⟩ := bounds_u64r w2
  obtain ⟨hl, rfl, b6⟩ := bounds_u64r w3
  have hl0 : z0_0.length = len0_0 := w0_0.1
  have hl1 : z0_1.length = len0_1 := w0_1.1
  subst hl0 hl1
  have HT := Lib.hid hbru
  have HX := Lib.hid hmax
  have HRO := Lib.hid w0_0
  have HPO := Lib.hid w0_1
  have hok : (AZ.make a1 hh hl).Ok := make_ok a1 hh hl (by omega) (by omega) (by omega) (by omega)
  obtain ⟨a, ea⟩ : ∃ a, AZ.make a1 hh hl = a := ⟨_, rfl⟩
  rw [ea] at hok
  obtain ⟨ty, vv, hva⟩ : ∃ t v, a.val = .iface t v := val_if10 a
  have HM : Hid (∀ W, Calls Tryz.prog 12 #[.bool a1, .int .u64 (hh : Nat), .int .u64 (hl : Nat)] W fun e w' => e = .returned (.iface ty vv) ∧ W = w') := fun W => by
    have := make6_any a1 hh hl W; rwa [ea, hva] at this
  have HOK := Lib.hid hok
  have HVA := Lib.hid hva
  have HB0 := Lib.hid ((Blks.empty w).new #[.slice a0_0 z0_0.length cap0_0, .slice a0_1 z0_1.length cap0_1, .bool a0_2] 61)
  have HW0 : Hid (Below w.heap.size w (w.alloc (.cells #[.slice a0_0 z0_0.length cap0_0, .slice a0_1 z0_1.length cap0_1, .bool a0_2] 61))) := (Below.refl _ _).alloc (Nat.le_refl _) _
  clear hbru hmax w0_0 w0_1 hok hva ea b5 b6
  go_enter Tryz.func6, Tryz.ntmps6
  go_wp2_with fail
  refine (awake010_any _ (bruTab_below HT.out HW0.out) (maxVar_below HX.out HW0.out)).mono ?_
  rintro e x1 ⟨rfl, hb1⟩
  have HW1 := Lib.hid (below_chain7 HW0.out hb1)
  have HB1 := Lib.hid (HB0.out.keep hb1)
  clear hb1 HB0 HW0
  obtain ⟨l1, p0, p1, p2⟩ := HB1.out.r3 (.head _)
  by_cases h300 : 300 < z0_0.length
  · have hd : decide (300 < (z0_0.length : Int)) = true := decide_eq_true (by omega)
    go_wp2
    go_ret
    exact ⟨rfl, HW1.out⟩
  have hd : decide (300 < (z0_0.length : Int)) = false := decide_eq_false (by omega)
  go_upto_region 3 with fail
  go_cut [38] (fun v wc => (∃ b : Bool, v = .bool b) ∧ Hid (Below x1.heap.size x1 wc))
  case first =>
    go_wp2_with fail
    refine (few10_any _ _ _ _ _ _ _ _).mono ?_
    rintro e x2 ⟨rfl, hb2⟩
    have HV2 := Lib.hid hb2
    clear l1 p0 p1 p2
    obtain ⟨l1, p0, p1, p2⟩ := (HB1.out.keep hb2).r3 (.head _)
    clear hb2
    cases fewB z0_0 z0_1 with
    | true =>
      go_wp2
      go_meet
      exact ⟨⟨_, rfl⟩, HV2⟩
    | false =>
      by_cases h256 : z0_0.length ≤ 256
      · have hd2 : decide ((z0_0.length : Int) ≤ 256) = true := decide_eq_true (by omega)
        by_cases h16 : z0_1.length ≤ 16
        · have hd3 : decide ((z0_1.length : Int) ≤ 16) = true := decide_eq_true (by omega)
          go_wp2
          go_meet
          exact ⟨⟨_, rfl⟩, HV2⟩
        · have hd3 : decide ((z0_1.length : Int) ≤ 16) = false := decide_eq_false (by omega)
          go_wp2
          go_meet
          exact ⟨⟨_, rfl⟩, HV2⟩
      · have hd2 : decide ((z0_0.length : Int) ≤ 256) = false := decide_eq_false (by omega)
        go_wp2
        go_meet
        exact ⟨⟨_, rfl⟩, HV2⟩
  case rest =>
  obtain ⟨⟨b38, rfl⟩, HC2⟩ := hcut
  rename World => x2
  have HW2 := Lib.hid (below_chain7 HW1.out HC2.out)
  have HB2 := Lib.hid (HB1.out.keep HC2.out)
  clear l1 p0 p1 p2 HB1 HW1 HC2
  cases b38 with
  | true =>
    go_wp2
    go_ret
    exact ⟨rfl, HW2.out⟩
  | false =>
  obtain ⟨l1, p0, p1, p2⟩ := HB2.out.r3 (.head _)
  have HOF : Hid (∀ W, Below w.heap.size w W → Calls Tryz.prog 30 #[.agg #[.slice a0_0 z0_0.length cap0_0, .slice a0_1 z0_1.length cap0_1, .bool a0_2]] W fun e w' => ∃ b c, e = .returned (.agg #[.slice b z0_0.length c, .slice a0_1 z0_1.length cap0_1, .bool a0_2]) ∧ IsURow w' b z0_0.length c z0_0 ∧ Below W.heap.size W w') := fun W hW => (of10_any a0_0 a0_1 cap0_0 z0_1.length cap0_1 a0_2 z0_0 W (HRO.out.keep hW) (by omega)).mono (fun e w' ⟨rv, he, ho, hb⟩ => by
    obtain ⟨a, c, rfl⟩ := ho.form
    exact ⟨a, c, he, ho.urow HRO.out.ok, hb⟩)
  have HCK : Hid (∀ W, Below w.heap.size w W → Calls Tryz.prog 31 #[.agg #[.slice a0_0 z0_0.length cap0_0, .slice a0_1 z0_1.length cap0_1, .bool a0_2]] W fun e w' => e = .returned (.int .i64 (checkZ z0_0 z0_1)) ∧ Below W.heap.size W w') := fun W hW => check10_any a0_0 a0_1 cap0_0 cap0_1 a0_2 z0_0 z0_1 W (HRO.out.keep hW) (HPO.out.keep hW)
  by_cases hc : checkZ z0_0 z0_1 = 0
  · obtain ⟨hn1, hn2, hr, _⟩ := check_zero hc
    have HBD := Lib.hid (build10_ok a0_0 a0_1 cap0_0 cap0_1 a0_2 z0_0 z0_1 _ (maxVar_below HX.out HW2.out) (HRO.out.keep HW2.out) (HPO.out.keep HW2.out) hc)
    rw [hc] at HCK
    have HRR := Lib.hid hr
    have HRC : Hid (∀ b c W, IsURow W b z0_0.length c z0_0 → Below w.heap.size w W → Calls Tryz.prog 29 #[.agg #[.slice b z0_0.length c, .slice a0_1 z0_1.length cap0_1, .bool a0_2]] W fun e w' => e = .returned (.int .i64 0) ∧ Below W.heap.size W w') := fun b c W h hW => by
      have := refCheck10_any b a0_1 c cap0_1 a0_2 z0_0 z0_1 W h (HPO.out.keep hW)
      rwa [hc] at this
    clear hc hr
    go_wp2_with fail
    refine HBD.out.mono ?_
    rintro e x3 ⟨q, g, T, v, rfl, hg, hT, hb3⟩
    have HG3 := Lib.hid hg
    have HW3 := Lib.hid (below_chain7 HW2.out hb3)
    have HB3 := Lib.hid (HB2.out.keep hb3)
    have HTT := Lib.hid hT
    clear hg hT hb3 HB2 HW2 HBD l1 p0 p1 p2
    obtain ⟨l1, p0, p1, p2⟩ := HB3.out.r3 (.head _)
    go_wp2_with fail
    refine (HOF.out _ HW3.out).mono ?_
    rintro e x4 ⟨b4, c4, rfl, hu4, hb4⟩
    have HW4 := Lib.hid (below_chain7 HW3.out hb4)
    have HU4 := Lib.hid hu4
    clear hu4
    go_wp2_with fail
    refine (HRC.out _ _ _ HU4.out HW4.out).mono ?_
    rintro e x5 ⟨rfl, hb5⟩
    have HW5 := Lib.hid (below_chain7 HW4.out hb5)
    have HG5 := Lib.hid (HG3.out.keep (below_chain7 hb4 hb5))
    have HB5 := Lib.hid (HB3.out.keep (below_chain7 hb4 hb5))
    clear hb4 hb5 HB3 HW3 HW4 HG3 HU4 l1 p0 p1 p2 HRC
    obtain ⟨l1, p0, p1, p2⟩ := HB5.out.r3 (.head _)
    go_wp2_with fail
    refine (HCK.out _ HW5.out).mono ?_
    rintro e x6 ⟨rfl, hb6⟩
    have HW6 := Lib.hid (below_chain7 HW5.out hb6)
    have HG6 := Lib.hid (HG5.out.keep hb6)
    have HB6 := Lib.hid (HB5.out.keep hb6)
    clear hb6 HB5 HW5 HG5 l1 p0 p1 p2 HCK
    obtain ⟨l1, p0, p1, p2⟩ := HB6.out.r3 (.head _)
    go_wp2_with fail
    refine (HM.out _).mono ?_
    rintro e x7 ⟨rfl, rfl⟩
    go_wp2_with fail
    refine (HOF.out _ HW6.out).mono ?_
    rintro e x8 ⟨b8, c8, rfl, hu8, hb8⟩
    have HW8 := Lib.hid (below_chain7 HW6.out hb8)
    have HU8 := Lib.hid hu8
    have HLO : Hid (∀ W, Calls Tryz.prog 15 #[.iface ty vv] W fun e w' => e = .returned (refV (refA (some a))) ∧ Below W.heap.size W w') := fun W => by
      have := lawOf_any (some a) W (fun b e => by cases e; exact HOK.out)
      rw [show optV (some a) = a.val from rfl, HVA.out] at this
      exact this
    clear hu8
    go_wp2_with fail
    refine (HLO.out _).mono ?_
    rintro e x9 ⟨rfl, hb9⟩
    have HW9 := Lib.hid (below_chain7 HW8.out hb9)
    have HRA := Lib.hid (refAllows10_any b8 a0_1 c8 z0_1.length cap0_1 a0_2 z0_0 a x9 (HU8.out.keep hb9) hn1 HRR.out HOK.out)
    rw [← HTT.out] at HRA
    obtain ⟨sb, ah, al, hrv, h3, h4, hwd⟩ := ref_is9 a HOK.out
    rw [hrv] at HRA HLO
    rw [hrv]
    have HG9 := Lib.hid (HG6.out.keep (below_chain7 hb8 hb9))
    have HB9 := Lib.hid (HB6.out.keep (below_chain7 hb8 hb9))
    clear hb8 hb9 HB6 HG6 HW6 HW8 HU8 l1 p0 p1 p2
    go_wp2_with fail
    refine HRA.out.mono ?_
    rintro e y ⟨rfl, hby⟩
    have HWY := Lib.hid (below_chain7 HW9.out hby)
    have HG := Lib.hid (HG9.out.keep hby)
    have HBY := Lib.hid (HB9.out.keep hby)
    clear hby HW9 HG9 HB9 HRA
    have HK : Hid (∀ W, Below y.heap.size y W → W.cell? ⟨w.heap.size, 0, none⟩ = some (.slice a0_0 z0_0.length cap0_0) ∧ W.cell? ⟨w.heap.size, 1, none⟩ = some (.slice a0_1 z0_1.length cap0_1) ∧ W.cell? ⟨w.heap.size, 2, none⟩ = some (.bool a0_2)) := fun W hW => ((HBY.out.keep hW).r3 (.head _)).2
    have HVE : Hid (∀ W, Below y.heap.size y W → Calls Tryz.prog 33 #[.pointer (some ⟨q, 0, none⟩), .iface ty vv] W fun e w' => e = .returned (.bool (verdB T.pt a.wd)) ∧ Below y.heap.size y w') := fun W hW => by
      have := HVA.out ▸ verd10_any q g T v z0_1 a W (HG.out.keep hW) HOK.out
      exact this.mono (fun e w' h => ⟨h.1, below_chain7 hW h.2⟩)
    have HAE : Hid (∀ W, Below y.heap.size y W → Calls Tryz.prog 32 #[.pointer (some ⟨q, 0, none⟩), .iface ty vv] W fun e w' => e = .returned (.bool (allowB T.pt a)) ∧ Below y.heap.size y w') := fun W hW => by
      have := HVA.out ▸ allows10_any q g T v z0_1 a W (HG.out.keep hW) HOK.out
      exact this.mono (fun e w' h => ⟨h.1, below_chain7 hW h.2⟩)
    have HPE : Hid (∀ W, Below y.heap.size y W → Calls Tryz.prog 34 #[.pointer (some ⟨q, 0, none⟩), .int .i64 a4] W fun e w' => e = .returned (.bool (hasPort z0_1 a4)) ∧ Below y.heap.size y w') := fun W hW => by
      have := port10_any q g T v z0_1 a4 W (HG.out.keep hW) hn2
      exact this.mono (fun e w' h => ⟨h.1, below_chain7 hW h.2⟩)
    have HVN : Hid (∀ W, Below y.heap.size y W → Calls Tryz.prog 33 #[.pointer (some ⟨q, 0, none⟩), .nilIface] W fun e w' => e = .returned (.bool false) ∧ Below y.heap.size y w') := fun W hW => by
      have := verd10_nilA q g T v z0_1 W (HG.out.keep hW)
      exact this.mono (fun e w' h => ⟨h.1, below_chain7 hW h.2⟩)
    have HAN : Hid (∀ W, Below y.heap.size y W → Calls Tryz.prog 32 #[.pointer (some ⟨q, 0, none⟩), .nilIface] W fun e w' => e = .returned (.bool false) ∧ Below y.heap.size y w') := fun W hW => by
      have := allows10_no (some ⟨q, 0, none⟩) .nilIface W (verd10_nilA q g T v z0_1 W (HG.out.keep hW))
      exact this.mono (fun e w' h => ⟨h.1, below_chain7 hW h.2⟩)
    have HLE : Hid (∀ W, Below y.heap.size y W → Calls Tryz.prog 15 #[.iface ty vv] W fun e w' => e = .returned (.agg #[.bool sb, .int .u64 (ah : Nat), .int .u64 (al : Nat)]) ∧ Below y.heap.size y w' ∧ Below W.heap.size W w') := fun W hW => (HLO.out W).mono (fun e w' h => ⟨h.1, below_chain7 hW h.2, h.2⟩)
    have HOE : Hid (∀ W, Below y.heap.size y W → Calls Tryz.prog 30 #[.agg #[.slice a0_0 z0_0.length cap0_0, .slice a0_1 z0_1.length cap0_1, .bool a0_2]] W fun e w' => ∃ b c, e = .returned (.agg #[.slice b z0_0.length c, .slice a0_1 z0_1.length cap0_1, .bool a0_2]) ∧ IsURow w' b z0_0.length c z0_0 ∧ Below y.heap.size y w' ∧ Below W.heap.size W w') := fun W hW => (HOF.out W (below_chain7 HWY.out hW)).mono (fun e w' ⟨b, c, he, hu, hb⟩ => ⟨b, c, he, hu, below_chain7 hW hb, hb⟩)
    have HRV : Hid (∀ b c W, Below y.heap.size y W → IsURow W b z0_0.length c z0_0 → Calls Tryz.prog 37 #[.agg #[.slice b z0_0.length c, .slice a0_1 z0_1.length cap0_1, .bool a0_2], .agg #[.bool sb, .int .u64 (ah : Nat), .int .u64 (al : Nat)]] W fun e w' => e = .returned (.bool (verdB T.pt a.wd)) ∧ Below y.heap.size y w') := fun b c W hW hu => by
      have := refVerdict10_any b a0_1 c z0_1.length cap0_1 a0_2 z0_0 sb ah al W hu hn1 HRR.out h3 h4
      rw [hwd, ← HTT.out] at this
      exact this.mono (fun e w' h => ⟨h.1, below_chain7 hW h.2⟩)
    have HRP : Hid (∀ b c W, Below y.heap.size y W → Calls Tryz.prog 38 #[.agg #[.slice b z0_0.length c, .slice a0_1 z0_1.length cap0_1, .bool a0_2], .int .i64 a4] W fun e w' => e = .returned (.bool (hasPort z0_1 a4)) ∧ Below y.heap.size y w') := fun b c W hW => (refPort10_any b a0_1 z0_0.length c cap0_1 a0_2 z0_1 a4 W (HPO.out.keep (below_chain7 HWY.out hW)) (by omega)).mono (fun e w' h => ⟨h.1, below_chain7 hW h.2⟩)
    have HDE : Hid (∀ k W, Below y.heap.size y W → W.heap[k]? = some (.cells #[.iface ty vv] 25) → Calls Tryz.prog 35 #[.pointer (some ⟨q, 0, none⟩), .slice (some ⟨k, 0, none⟩) 1 1] W fun e w' => ∃ ao c', e = .returned (.slice ao (if allowB T.pt a = true then 0 else 1) c') ∧ Below y.heap.size y w') := fun k W hW hk => by
      have hA := allows10_any q g T v z0_1 a W (HG.out.keep hW) HOK.out
      rw [HVA.out] at hA
      exact (denied10_one (some ⟨q, 0, none⟩) ty vv (allowB T.pt a) k 1 W hk hA).mono (fun e w' ⟨ao, c', h1, h2⟩ => ⟨ao, c', h1, below_chain7 hW h2⟩)
    clear HLO HOF hrv hwd h3 h4 HTT
    generalize verdB T.pt a.wd = vd at *
    generalize hasPort z0_1 a4 = hp at *
    have hvd : (vd == vd) = true := by cases vd <;> rfl
    have hhp : (hp == hp) = true := by cases hp <;> rfl
    cases hal : allowB T.pt a with
    | false =>
      rw [hal] at HAE HDE
      rw [show (if (false : Bool) = true then 0 else 1) = 1 from rfl] at HDE
      go_wp2_with fail
      go_region_held3 (fun W => W.cell? ⟨w.heap.size, 0, none⟩ = some (.slice a0_0 z0_0.length cap0_0) ∧ W.cell? ⟨w.heap.size, 1, none⟩ = some (.slice a0_1 z0_1.length cap0_1) ∧ W.cell? ⟨w.heap.size, 2, none⟩ = some (.bool a0_2)) (first | exact HK.out _ (below_drew1 _) | exact HK.out _ hb10 | exact HK.out _ hb11 | exact HK.out _ hb12 | exact HK.out _ hb13 | exact HK.out _ hb14 | exact HK.out _ (hb14.alloc hb14.size _) | exact HK.out _ hb15 | exact HK.out _ hb16 | exact HK.out _ hb17 | exact HK.out _ hb18 | exact HK.out _ hb19 | exact HK.out _ hb20) (first
        | (go_simp; go_at_call 33; ((with_reducible refine (HVE.out _ (below_drew1 _)).mono ?_); rintro e x10 ⟨rfl, hb10⟩))
        | (go_simp; go_at_call 30; ((with_reducible refine (HOE.out _ hb10).mono ?_); rintro e x11 ⟨b11, c11, rfl, hu11, hb11, _⟩))
        | (go_simp; go_at_call 15; ((with_reducible refine (HLE.out _ hb11).mono ?_); rintro e x12 ⟨rfl, hb12, hc12⟩))
        | (go_simp; go_at_call 37; ((with_reducible refine (HRV.out _ _ _ hb12 (hu11.keep hc12)).mono ?_); rintro e x13 ⟨rfl, hb13⟩))
        | (go_simp; go_at_call 32; ((with_reducible refine (HAE.out _ hb13).mono ?_); rintro e x14 ⟨rfl, hb14⟩))
        | (go_simp; go_at_call 35; ((with_reducible refine (HDE.out _ _ (hb14.alloc hb14.size _) (Go.Deep.blk_alloc_new _ _)).mono ?_); rintro e x15 ⟨ao15, c15, rfl, hb15⟩))
        | (go_simp; go_at_call 34; ((with_reducible refine (HPE.out _ hb15).mono ?_); rintro e x16 ⟨rfl, hb16⟩))
        | (go_simp; go_at_call 30; ((with_reducible refine (HOE.out _ hb16).mono ?_); rintro e x17 ⟨b17, c17, rfl, hu17, hb17, _⟩))
        | (go_simp; go_at_call 38; ((with_reducible refine (HRP.out _ _ _ hb17).mono ?_); rintro e x18 ⟨rfl, hb18⟩))
        | (go_simp; go_at_call 32; ((with_reducible refine (HAN.out _ hb18).mono ?_); rintro e x19 ⟨rfl, hb19⟩))
        | (go_simp; go_at_call 33; ((with_reducible refine (HVN.out _ hb19).mono ?_); rintro e x20 ⟨rfl, hb20⟩)))
      go_wp2
      go_ret
      exact ⟨by first | rfl | exact ret_bool (by simp), below_chain7 HWY.out hb20⟩
    | true =>
      rw [hal] at HAE HDE
      rw [show (if (true : Bool) = true then 0 else 1) = 0 from rfl] at HDE
      go_wp2_with fail
      go_region_held3 (fun W => W.cell? ⟨w.heap.size, 0, none⟩ = some (.slice a0_0 z0_0.length cap0_0) ∧ W.cell? ⟨w.heap.size, 1, none⟩ = some (.slice a0_1 z0_1.length cap0_1) ∧ W.cell? ⟨w.heap.size, 2, none⟩ = some (.bool a0_2)) (first | exact HK.out _ (below_drew1 _) | exact HK.out _ hb10 | exact HK.out _ hb11 | exact HK.out _ hb12 | exact HK.out _ hb13 | exact HK.out _ hb14 | exact HK.out _ (hb14.alloc hb14.size _) | exact HK.out _ hb15 | exact HK.out _ hb16 | exact HK.out _ hb17 | exact HK.out _ hb18 | exact HK.out _ hb19 | exact HK.out _ hb20) (first
        | (go_simp; go_at_call 33; ((with_reducible refine (HVE.out _ (below_drew1 _)).mono ?_); rintro e x10 ⟨rfl, hb10⟩))
        | (go_simp; go_at_call 30; ((with_reducible refine (HOE.out _ hb10).mono ?_); rintro e x11 ⟨b11, c11, rfl, hu11, hb11, _⟩))
        | (go_simp; go_at_call 15; ((with_reducible refine (HLE.out _ hb11).mono ?_); rintro e x12 ⟨rfl, hb12, hc12⟩))
        | (go_simp; go_at_call 37; ((with_reducible refine (HRV.out _ _ _ hb12 (hu11.keep hc12)).mono ?_); rintro e x13 ⟨rfl, hb13⟩))
        | (go_simp; go_at_call 32; ((with_reducible refine (HAE.out _ hb13).mono ?_); rintro e x14 ⟨rfl, hb14⟩))
        | (go_simp; go_at_call 35; ((with_reducible refine (HDE.out _ _ (hb14.alloc hb14.size _) (Go.Deep.blk_alloc_new _ _)).mono ?_); rintro e x15 ⟨ao15, c15, rfl, hb15⟩))
        | (go_simp; go_at_call 34; ((with_reducible refine (HPE.out _ hb15).mono ?_); rintro e x16 ⟨rfl, hb16⟩))
        | (go_simp; go_at_call 30; ((with_reducible refine (HOE.out _ hb16).mono ?_); rintro e x17 ⟨b17, c17, rfl, hu17, hb17, _⟩))
        | (go_simp; go_at_call 38; ((with_reducible refine (HRP.out _ _ _ hb17).mono ?_); rintro e x18 ⟨rfl, hb18⟩))
        | (go_simp; go_at_call 32; ((with_reducible refine (HAN.out _ hb18).mono ?_); rintro e x19 ⟨rfl, hb19⟩))
        | (go_simp; go_at_call 33; ((with_reducible refine (HVN.out _ hb19).mono ?_); rintro e x20 ⟨rfl, hb20⟩)))
      go_wp2
      go_ret
      exact ⟨by first | rfl | exact ret_bool (by simp), below_chain7 HWY.out hb20⟩
  · have hne : (checkZ z0_0 z0_1 == 0) = false := beq_eq_false_iff_ne.2 hc
    have hne2 : (checkZ z0_0 z0_1 != checkZ z0_0 z0_1) = false := by simp
    have HBD := Lib.hid (build10_bad a0_0 a0_1 cap0_0 cap0_1 a0_2 z0_0 z0_1 _ (HRO.out.keep HW2.out) (HPO.out.keep HW2.out) hc)
    have HRC : Hid (∀ b c W, IsURow W b z0_0.length c z0_0 → Below w.heap.size w W → Calls Tryz.prog 29 #[.agg #[.slice b z0_0.length c, .slice a0_1 z0_1.length cap0_1, .bool a0_2]] W fun e w' => e = .returned (.int .i64 (checkZ z0_0 z0_1)) ∧ Below W.heap.size W w') := fun b c W h hW => refCheck10_any b a0_1 c cap0_1 a0_2 z0_0 z0_1 W h (HPO.out.keep hW)
    clear hc
    generalize checkZ z0_0 z0_1 = cz at *
    go_wp2_with fail
    refine HBD.out.mono ?_
    rintro e x3 ⟨rfl, hb3⟩
    have HW3 := Lib.hid (below_chain7 HW2.out hb3)
    have HB3 := Lib.hid (HB2.out.keep hb3)
    clear hb3 HB2 HW2 HBD l1 p0 p1 p2
    obtain ⟨l1, p0, p1, p2⟩ := HB3.out.r3 (.head _)
    go_wp2_with fail
    refine (HOF.out _ HW3.out).mono ?_
    rintro e x4 ⟨b4, c4, rfl, hu4, hb4⟩
    have HW4 := Lib.hid (below_chain7 HW3.out hb4)
    have HU4 := Lib.hid hu4
    clear hu4
    go_wp2_with fail
    refine (HRC.out _ _ _ HU4.out HW4.out).mono ?_
    rintro e x5 ⟨rfl, hb5⟩
    have HW5 := Lib.hid (below_chain7 HW4.out hb5)
    have HB5 := Lib.hid (HB3.out.keep (below_chain7 hb4 hb5))
    clear hb4 hb5 HB3 HW3 HW4 HU4 l1 p0 p1 p2 HRC
    obtain ⟨l1, p0, p1, p2⟩ := HB5.out.r3 (.head _)
    go_wp2_with fail
    refine (HCK.out _ HW5.out).mono ?_
    rintro e x6 ⟨rfl, hb6⟩
    have HW6 := Lib.hid (below_chain7 HW5.out hb6)
    clear hb6 HB5 HW5 l1 p0 p1 p2 HCK
    go_wp2_with fail
    refine (HM.out _).mono ?_
    rintro e x7 ⟨rfl, rfl⟩
    go_wp2_with fail
    refine (allows10_no none (.iface ty vv) _ (verd10_nilG _ _)).mono ?_
    rintro e x8 ⟨rfl, hb8⟩
    have HW8 := Lib.hid (below_chain7 HW6.out hb8)
    clear hb8
    go_wp2_with fail
    refine (verd10_nilG (.iface ty vv) _).mono ?_
    rintro e x9 ⟨rfl, hb9⟩
    have HW9 := Lib.hid (below_chain7 HW8.out hb9)
    clear hb9
    go_wp2_with fail
    refine (port10_nil _ _).mono ?_
    rintro e x10 ⟨rfl, hb10⟩
    have HW10 := Lib.hid (below_chain7 HW9.out hb10)
    clear hb10
    have HDE := Lib.hid (denied10_one none ty vv false x10.heap.size 1 (x10.alloc (.cells #[.iface ty vv] 25)) (Go.Deep.blk_alloc_new _ _) (allows10_no none (.iface ty vv) _ (verd10_nilG _ _)))
    have HW11 : Hid (Below w.heap.size w (x10.alloc (.cells #[.iface ty vv] 25))) := HW10.out.alloc HW10.out.size _
    go_wp2_with fail
    refine HDE.out.mono ?_
    rintro e x12 ⟨ao, c', rfl, hb12⟩
    rw [show (if (false : Bool) = true then 0 else 1) = 1 from rfl]
    go_wp2
    go_ret
    exact ⟨by first | rfl | exact ret_bool (by simp), below_chain7 HW11.out hb12⟩
end

end Go.Proofs.YtoobiaifogackaaGreatDoor
