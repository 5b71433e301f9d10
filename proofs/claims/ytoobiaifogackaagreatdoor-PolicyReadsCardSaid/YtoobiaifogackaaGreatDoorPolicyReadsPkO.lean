/-
  What the law PolicyReads leans on, and its walk (15 of 16).
-/
import Derived.Lib.ItoaMem
import Derived.Deep.DeepCutAuto
import Derived.Test.YtoobiaifogackaaGreatDoorPolicyReadsPkN
import Derived.Test.YtoobiaifogackaaGreatDoorPolicyReadsPkI
namespace Go.Proofs.YtoobiaifogackaaGreatDoor
section
open Go.RowKit
def Gr (l : List UInt8) : Prop := ∀ c ∈ l, 32 < c.toNat
theorem Gr.no {l : List UInt8} (h : Gr l) : (32 : UInt8) ∉ l ∧ (10 : UInt8) ∉ l := ⟨fun q => absurd (h _ q) (by decide), fun q => absurd (h _ q) (by decide)⟩
theorem Gr.nil : Gr [] := fun _ h => by cases h
/-- a rule's line, a port's -/
def wordR (a : Bool) : List UInt8 := if a = true then wAllow else wDeny
def lineR (x : Ru) : List UInt8 := wordR x.a ++ 32 :: textPf x.hi x.lo x.k
def lineP (n : Int) : List UInt8 := wPort ++ 32 :: Lib.itoa n
def headB (bare : Bool) : List UInt8 := if bare = true then wBare ++ [10] else []
def endL (l : List UInt8) : List UInt8 := l ++ [10]
/-- what is printed -/
def printZ (rs : List Ru) (ps : List Int) (bare : Bool) : List UInt8 := headB bare ++ rs.flatMap (fun x => endL (lineR x)) ++ ps.flatMap (fun n => endL (lineP n))
theorem lineR_len {x : Ru} (ho : x.Ok) : (endL (lineR x)).length ≤ 120 := by
  have := textPf_len x.hi x.lo x.k ho.1 ho.2.1 ho.2.2.1 ho.2.2.2
  have h2 : (wordR x.a).length ≤ 5 := by cases x.a <;> decide
  unfold endL lineR
  simp only [List.length_append, List.length_cons, List.length_nil]; omega
theorem lineP_len {n : Int} (h0 : -9223372036854775808 ≤ n) (h1 : n ≤ 9223372036854775807) : (endL (lineP n)).length ≤ 120 := by
  have := Lib.itoa_length_le n h0 h1
  unfold endL lineP wPort
  simp only [List.length_append, List.length_cons, List.length_nil]; omega
theorem bytes_flat {α : Type} {f : α → List UInt8} {m : Nat} : ∀ l : List α, (∀ x ∈ l, (f x).length ≤ m) → (l.flatMap f).length ≤ l.length * m
  | [], _ => by simp
  | x :: l, h => by
    have h1 := h x (.head _)
    have h2 := bytes_flat l (fun y hy => h y (.tail _ hy))
    rw [List.flatMap_cons, List.length_append, List.length_cons, Nat.succ_mul]
    omega
theorem headB_len (bare : Bool) : (headB bare).length ≤ 5 := by cases bare <;> decide
end

section
open Go.RowKit
def firstHash : List (List UInt8) → Bool
  | [] => false
  | a :: _ => hashB a
def docWords (l : List UInt8) : List (List UInt8) := if firstHash (wordsB l) = true then [] else wordsB l
theorem doc_nil {l : List UInt8} (p : Pl) (h : docWords l = []) : lineZ p (wordsB l) = some p := by
  unfold docWords at h
  split at h
  · rename_i c
    cases e : wordsB l with
    | nil => rfl
    | cons a r =>
      rw [e] at c
      have c : hashB a = true := c
      cases r with
      | nil => rw [lineZ]; exact if_pos c
      | cons b r =>
        cases r with
        | nil => rw [lineZ]; exact if_pos c
        | cons d r => rw [lineZ]; exact if_pos c
  · rw [h]; rfl
theorem doc_cons {l : List UInt8} (h : docWords l ≠ []) : ∃ a r, wordsB l = a :: r ∧ docWords l = a :: r ∧ hashB a = false := by
  unfold docWords at h ⊢
  split at h
  · exact absurd rfl h
  · rename_i c
    rw [if_neg c]
    cases e : wordsB l with
    | nil => rw [e] at h; exact absurd rfl h
    | cons a r => rw [e] at c; exact ⟨a, r, rfl, rfl, by simpa [firstHash] using c⟩
theorem words_ne {l a : List UInt8} (h : a ∈ wordsB l) : a ≠ [] := fun e => by
  have := (List.mem_filter.1 h).2
  rw [e] at this
  cases this
theorem hash_head {a : List UInt8} (h : a ≠ []) : hashB a = decide (((a.getD 0 0).toNat : Int) = 35) := by
  cases a with
  | nil => exact absurd rfl h
  | cons c a =>
    have e : hashB (c :: a) = (c == 35) := by unfold hashB Lib.hasPrefix; simp [List.isPrefixOf]; exact BEq.comm
    rw [e]
    show (c == 35) = decide ((c.toNat : Int) = 35)
    by_cases hc : c = 35
    · subst hc; rfl
    · rw [beq_eq_false_iff_ne.2 hc, eq_comm, decide_eq_false_iff_not]
      intro q
      exact hc (UInt8.toNat_inj.1 (by show c.toNat = 35; omega))
/-- what is there stays, but rows of rules and of numbers -/
def KeptX (x y : World) : Prop := ∀ (b : Nat) (c : Array Value) (t : TypeId), x.heap[b]? = some (.cells c t) → t ≠ 125 → t ≠ 3 → y.heap[b]? = some (.cells c t)
theorem KeptX.below {x y : World} (hb : Below x.heap.size x y) : KeptX x y := fun b _ _ h _ _ => (hb.block b (block_lt h)).trans h
theorem KeptX.trans {x y z : World} (h : KeptX x y) (k : KeptX y z) : KeptX x z := fun b c t q h1 h2 => k b c t (h b c t q h1 h2) h1 h2
theorem KeptX.grownR {y z : World} {base : Nat} {v : Value} {l : List Ru} (h : OwnX 125 4 Ru.cl y base v l) (hg : y.grownBy z v.ownBlock) : KeptX y z := fun b _ _ q h1 _ => (hg.block b (block_lt q) (fun e => h.other q h1 e.symm)).trans q
theorem KeptX.grownI {y z : World} {base : Nat} {v : Value} {l : List Int} (h : OwnX 3 1 clI y base v l) (hg : y.grownBy z v.ownBlock) : KeptX y z := fun b _ _ q _ h2 => (hg.block b (block_lt q) (fun e => h.other q h2 e.symm)).trans q
theorem KeptX.own {x z : World} (h : KeptX x z) {b : Nat} (hb : x.heap.size ≤ b) (i : Nat) (u : Value) : KeptX x (z.setCell ⟨b, i, none⟩ u) := fun b' c t q h1 h2 => (set_other (b := b') (b' := b) (fun e => by have := block_lt q; omega) _ _).trans (h b' c t q h1 h2)
theorem tyQI : 70 ≠ 3 := by decide
theorem tyRRI : 125 ≠ 3 := by decide
theorem tyIRR : 3 ≠ 125 := by decide
/-- a policy's rows, the call's own -/
structure RS (w x : World) (base : Nat) (rv pv : Value) (p : Pl) : Prop where
  below : Below base w x
  rows : OwnX 125 4 Ru.cl x base rv p.rs
  ports : OwnX 3 1 clI x base pv p.ps
  size : base ≤ x.heap.size
theorem RS.keep {w x y : World} {base : Nat} {rv pv : Value} {p : Pl} (h : RS w x base rv pv p) (hb : Below x.heap.size x y) : RS w y base rv pv p :=
  ⟨h.below.trans (hb.mono h.size), h.rows.keep hb, h.ports.keep hb, Nat.le_trans h.size hb.size⟩
/-- within a line: the policy's box, and the answer's -/
structure LN (w x y : World) (base : Nat) (rv pv : Value) (p : Pl) : Prop where
  rs : RS w y base rv pv p
  old : base ≤ x.heap.size
  kept : KeptX x y
  box : y.heap[x.heap.size]? = some (.cells #[rv, pv, .bool p.bare] 70)
  res : y.heap[x.heap.size + 1]? = some (.cells #[.slice none 0 0, .slice none 0 0, .bool false] 70)
theorem LN.keep {w x y z : World} {base : Nat} {rv pv : Value} {p : Pl} (h : LN w x y base rv pv p) (hb : Below y.heap.size y z) : LN w x z base rv pv p :=
  ⟨h.rs.keep hb, h.old, h.kept.trans (KeptX.below hb), (hb.block _ (block_lt h.box)).trans h.box, (hb.block _ (block_lt h.res)).trans h.res⟩
theorem LN.first {w x : World} {base : Nat} {rv pv : Value} {p : Pl} (h : RS w x base rv pv p) : LN w x ((x.alloc (.cells #[rv, pv, .bool p.bare] 70)).alloc (.cells #[.slice none 0 0, .slice none 0 0, .bool false] 70)) base rv pv p := by
  have hb : Below x.heap.size x ((x.alloc (.cells #[rv, pv, .bool p.bare] 70)).alloc (.cells #[.slice none 0 0, .slice none 0 0, .bool false] 70)) := ((Below.refl _ x).alloc (Nat.le_refl _) _).alloc (by simp) _
  have hL := ((Blks.empty x).new #[rv, pv, .bool p.bare] 70).new #[.slice none 0 0, .slice none 0 0, .bool false] 70
  rw [show (x.alloc (.cells #[rv, pv, .bool p.bare] 70)).heap.size = x.heap.size + 1 from by simp] at hL
  exact ⟨h.keep hb, h.size, KeptX.below hb, hL _ (.tail _ (.head _)), hL _ (.head _)⟩
theorem LN.bare {w x y : World} {base : Nat} {rv pv : Value} {p : Pl} (h : LN w x y base rv pv p) : LN w x (y.setCell ⟨x.heap.size, 2, none⟩ (.bool true)) base rv pv ⟨p.rs, p.ps, true⟩ := by
  refine ⟨⟨h.rs.below.setCell (p := ⟨x.heap.size, 2, none⟩) h.old _, h.rs.rows.setOther h.box tyQP 2 _, h.rs.ports.setOther h.box tyQI 2 _, ?_⟩, h.old, h.kept.own (Nat.le_refl _) 2 _, set_row h.box 2 _, (set_other (by omega) _ _).trans h.res⟩
  rw [show (y.setCell ⟨x.heap.size, 2, none⟩ (.bool true)).heap.size = y.heap.size by simp [World.setCell]]
  exact h.rs.size
theorem LN.grownI {w x y Y z : World} {base : Nat} {rv pv : Value} {p : Pl} (h : LN w x y base rv pv p) (hb : Below y.heap.size y Y) (hg : Y.grownBy z pv.ownBlock) : z.heap[x.heap.size]? = some (.cells #[rv, pv, .bool p.bare] 70) :=
  KeptX.grownI (h.keep hb).rs.ports hg _ _ _ (h.keep hb).box tyQP tyQI
theorem LN.grownR {w x y Y z : World} {base : Nat} {rv pv : Value} {p : Pl} (h : LN w x y base rv pv p) (hb : Below y.heap.size y Y) (hg : Y.grownBy z rv.ownBlock) : z.heap[x.heap.size]? = some (.cells #[rv, pv, .bool p.bare] 70) :=
  KeptX.grownR (h.keep hb).rs.rows hg _ _ _ (h.keep hb).box tyQP tyQI
theorem LN.port {w x y Y z : World} {base : Nat} {rv pv pv' : Value} {p : Pl} {n : Int} (h : LN w x y base rv pv p) (hb : Below y.heap.size y Y) (hg : Y.grownBy z pv.ownBlock) (hr : z.ownsRow base 3 1 pv' (p.ps.length + 1) (p.ps.flatMap clI ++ clI n)) : LN w x (z.setCell ⟨x.heap.size, 1, none⟩ pv') base rv pv' ⟨p.rs, p.ps ++ [n], p.bare⟩ := by
  have h1 := h.keep hb
  have h2 : Below base Y z := (Below.refl base Y).grown hg h1.rs.size (fun k hk => (World.ownsRow.lt h1.rs.ports k hk).1)
  have hk := KeptX.grownI h1.rs.ports hg
  have hbz := hk _ _ _ h1.box tyQP tyQI
  have hrz := hk _ _ _ h1.res tyQP tyQI
  refine ⟨⟨(h1.rs.below.trans h2).setCell (p := ⟨x.heap.size, 1, none⟩) h.old _, (h1.rs.rows.grownOther h1.rs.ports hg tyRRI).setOther hbz tyQP 1 _, (OwnX.snoc hr : OwnX _ _ _ _ _ _ (p.ps ++ [n])).setOther hbz tyQI 1 _, ?_⟩, h.old, (h1.kept.trans hk).own (Nat.le_refl _) 1 _, set_row hbz 1 _, (set_other (by omega) _ _).trans hrz⟩
  rw [show (z.setCell ⟨x.heap.size, 1, none⟩ pv').heap.size = z.heap.size by simp [World.setCell]]
  exact Nat.le_trans h1.rs.size h2.size
theorem LN.rule {w x y Y z : World} {base : Nat} {rv rv' pv : Value} {p : Pl} {r : Ru} (h : LN w x y base rv pv p) (hb : Below y.heap.size y Y) (hg : Y.grownBy z rv.ownBlock) (hr : z.ownsRow base 125 4 rv' (p.rs.length + 1) (p.rs.flatMap Ru.cl ++ r.cl)) : LN w x (z.setCell ⟨x.heap.size, 0, none⟩ rv') base rv' pv ⟨p.rs ++ [r], p.ps, p.bare⟩ := by
  have h1 := h.keep hb
  have h2 : Below base Y z := (Below.refl base Y).grown hg h1.rs.size (fun k hk => (World.ownsRow.lt h1.rs.rows k hk).1)
  have hk := KeptX.grownR h1.rs.rows hg
  have hbz := hk _ _ _ h1.box tyQP tyQI
  have hrz := hk _ _ _ h1.res tyQP tyQI
  refine ⟨⟨(h1.rs.below.trans h2).setCell (p := ⟨x.heap.size, 0, none⟩) h.old _, (OwnX.snoc hr : OwnX _ _ _ _ _ _ (p.rs ++ [r])).setOther hbz tyQP 0 _, (h1.rs.ports.grownOther h1.rs.rows hg tyIRR).setOther hbz tyQI 0 _, ?_⟩, h.old, (h1.kept.trans hk).own (Nat.le_refl _) 0 _, set_row hbz 0 _, (set_other (by omega) _ _).trans hrz⟩
  rw [show (z.setCell ⟨x.heap.size, 0, none⟩ rv').heap.size = z.heap.size by simp [World.setCell]]
  exact Nat.le_trans h1.rs.size h2.size
/-- what a line answers: the policy, and whether it is so -/
def RetLn (w : World) (base : Nat) (x : World) (o : Option Pl) (e : Ending) (x' : World) : Prop :=
  KeptX x x' ∧ ∃ (q : Pl) (ra pa : Option Addr) (rc pc n1 n2 : Nat), n1 = q.rs.length ∧ n2 = q.ps.length ∧ e = .returned (.tuple #[.agg #[.slice ra n1 rc, .slice pa n2 pc, .bool q.bare], .bool o.isSome]) ∧ RS w x' base (.slice ra n1 rc) (.slice pa n2 pc) q ∧ ∀ p, o = some p → q = p
theorem LN.done {w x y : World} {base : Nat} {rv pv : Value} {p : Pl} (h : LN w x y base rv pv p) : RS w (((y.setCell ⟨x.heap.size + 1, 0, none⟩ rv).setCell ⟨x.heap.size + 1, 1, none⟩ pv).setCell ⟨x.heap.size + 1, 2, none⟩ (.bool p.bare)) base rv pv p ∧ KeptX x (((y.setCell ⟨x.heap.size + 1, 0, none⟩ rv).setCell ⟨x.heap.size + 1, 1, none⟩ pv).setCell ⟨x.heap.size + 1, 2, none⟩ (.bool p.bare)) := by
  refine ⟨⟨set3_below h.rs.below (Nat.le_succ_of_le h.old) _ _ _, h.rs.rows.set3 h.res tyQP _ _ _, h.rs.ports.set3 h.res tyQI _ _ _, ?_⟩, ((h.kept.own (Nat.le_succ _) 0 _).own (Nat.le_succ _) 1 _).own (Nat.le_succ _) 2 _⟩
  rw [show (((y.setCell ⟨x.heap.size + 1, 0, none⟩ rv).setCell ⟨x.heap.size + 1, 1, none⟩ pv).setCell ⟨x.heap.size + 1, 2, none⟩ (.bool p.bare)).heap.size = y.heap.size by simp [World.setCell]]
  exact h.rs.size
set_option maxRecDepth 100000 in
set_option maxHeartbeats 2000000 in
theorem refWords10_any (s : ByteArray) (w : World) (hs : s.size ≤ 1000000) :
    Calls Tryz.prog 71 #[.string s] w (RetParts w.heap.size (docWords s.data.toList) w) := by
  obtain ⟨i0, hi, hz0, hz1, hz2⟩ := info_parts infoS10
  have HS := Lib.hid (refSplit_any s ⟨#[32]⟩ w (by omega) (by decide))
  rw [show (ByteArray.mk #[32]).data.toList = [32] from rfl] at HS
  have hql : (splitB (hasB [32]) s.data.toList).length ≤ 1000001 := by
    have := split_count (hasB [32]) s.data.toList
    have e : s.data.toList.length = s.size := Array.length_toList
    omega
  have HW : Hid (wordsB s.data.toList = (splitB (hasB [32]) s.data.toList).filter neB) := rfl
  have HNE : Hid (∀ a ∈ wordsB s.data.toList, a ≠ []) := fun a h => words_ne h
  have HD : Hid (docWords s.data.toList = if firstHash (wordsB s.data.toList) = true then [] else wordsB s.data.toList) := rfl
  generalize splitB (hasB [32]) s.data.toList = qs at *
  generalize wordsB s.data.toList = ws at *
  generalize docWords s.data.toList = ds at *
  go_enter Tryz.func71, Tryz.ntmps71
  go_wp2_with fail
  refine HS.out.mono ?_
  rintro e x1 ⟨v, rfl, hv, hb1⟩
  obtain ⟨va, vc, rfl⟩ := own_form hv
  have HB1 := Lib.hid hb1
  have HV := Lib.hid hv
  clear hv hb1 HS
  go_wp2
  go_loopw [3, 9] (fun u i wr => ∃ j : Nat, j ≤ qs.length ∧ i = .int .i64 j ∧ Parts x1.heap.size wr u ((qs.take j).filter neB) ∧ Below x1.heap.size x1 wr) (fun _ i _ => qs.length - (intOf i).toNat)
  case atStart => exact ⟨0, Nat.zero_le _, rfl, Parts.nil _ _, Below.refl _ _⟩
  case round =>
    obtain ⟨j, hj, rfl, hu, hb⟩ := hrel
    by_cases hlt : j < qs.length
    · obtain ⟨x, hx⟩ : ∃ x, qs[j]? = some x := ⟨_, List.getElem?_eq_getElem hlt⟩
      obtain ⟨g, c, hvf, cs, hg, hcs⟩ := Parts.at HV.out (fun e => by rw [e] at hlt; simp at hlt)
      injection hvf with h1 h2 h3
      subst h1 h3
      have c0 : wr.cell? ⟨g, j, none⟩ = some (.string ⟨x.toArray⟩) := by
        rw [cell_row ((hb.block g (block_lt hg)).trans hg) j]
        exact hcs j x hx
      have hjl : (j : Int) < qs.length := by omega
      have HT : Hid ((qs.take (j + 1)).filter neB = (qs.take j).filter neB ++ [x].filter neB) := by show _ = _; rw [List.take_add_one, hx, List.filter_append]; rfl
      have hfl : ((qs.take j).filter neB).length ≤ 1000001 := by
        have h1 := List.length_filter_le neB (qs.take j)
        rw [List.length_take] at h1
        omega
      generalize (qs.take j).filter neB = m at *
      have hsz : x1.heap.size ≤ wr.heap.size := hb.size
      cases hn : neB x with
      | true =>
        have hnx : (x == []) = false := by cases x <;> simp_all [neB]
        have hnx2 : (x != []) = true := by cases x <;> simp_all [neB]
        have HF : Hid ([x].filter neB = [x]) := by show _ = _; simp [hn]
        unfold Parts at hu
        go_wp2_with (at_builtin; refine wp_append1 _ rfl _ _ 45 rfl x1.heap.size 9 i0 (.string ⟨#[]⟩) 16 Tryz.underlying45 hi hz0 hz1 hz2 rfl _ _ _ rfl hu (.string ⟨x.toArray⟩) rfl rfl (by omega) (by omega) hsz ?_; intro v' w1 hown' hk')
        go_roundw
        case rel =>
          refine ⟨j + 1, by omega, by go_num, ?_, hb.trans hk'⟩
          rw [HT.out, HF.out]
          exact Parts.snoc hown' rfl
        case measure => simp [intOf]; omega
      | false =>
        have hnx : x = [] := by cases x <;> simp_all [neB]
        have HF : Hid ([x].filter neB = []) := by show _ = _; simp [hn]
        subst hnx
        go_wp2
        go_roundw
        case rel =>
          refine ⟨j + 1, by omega, by go_num, ?_, hb⟩
          rw [HT.out, HF.out, List.append_nil]
          exact hu
        case measure => simp [intOf]; omega
    · have hj' : j = qs.length := by omega
      subst hj'
      rw [List.take_length, ← HW.out] at hu
      have HBW := Lib.hid (HB1.out.trans (hb.mono HB1.out.size))
      have HOW : Hid (Parts w.heap.size wr _ ws) := own_base hu HB1.out.size
      cases ws with
      | nil =>
        have hds : ds = [] := by rw [HD.out]; simp [firstHash]
        obtain ⟨ua, uc, rfl⟩ := own_form hu
        go_wp2
        go_ret
        rw [hds]
        exact ⟨_, rfl, HOW.out, HBW.out⟩
      | cons a r =>
        obtain ⟨g, c, rfl, cs, hg, hcs⟩ := Parts.at hu (by simp)
        have hane := HNE.out a (.head _)
        have c0 : wr.cell? ⟨g, 0, none⟩ = some (.string ⟨a.toArray⟩) := by
          rw [cell_row hg 0]
          exact hcs 0 a rfl
        have hal : 0 < a.length := by cases a with | nil => exact absurd rfl hane | cons _ _ => simp
        have hgt0 : 0 < (a :: r).length := by simp
        obtain ⟨nw, hnw⟩ : ∃ n, (a :: r).length = n := ⟨_, rfl⟩
        rw [hnw] at HOW hgt0
        have hgt : decide (0 < (nw : Int)) = true := decide_eq_true (by omega)
        have hgt2 : decide (0 < nw) = true := decide_eq_true hgt0
        rw [hnw]
        have hsz : 0 < (ByteArray.mk a.toArray).size := by rw [size_mk]; exact hal
        have hby : (((ByteArray.mk a.toArray)[0]'hsz).toNat : Int) = ((a.getD 0 0).toNat : Int) := by
          cases a with
          | nil => exact absurd rfl hane
          | cons c a => rfl
        have hhh := hash_head hane
        obtain ⟨n0, hn0⟩ : ∃ n : Int, ((a.getD 0 0).toNat : Int) = n := ⟨_, rfl⟩
        rw [hn0] at hby hhh
        cases hh : hashB a with
        | true =>
          rw [hh] at hhh
          have hd : (n0 == 35) = true := beq_iff_eq.2 (by simpa using hhh.symm)
          have hds : ds = [] := by rw [HD.out]; exact if_pos hh
          clear hhh hn0 hane hal hh hu hb
          go_wp2
          go_ret
          rw [hds]
          exact ⟨_, rfl, Parts.nil _ _, HBW.out⟩
        | false =>
          rw [hh] at hhh
          have hd : (n0 == 35) = false := beq_eq_false_iff_ne.2 (by simpa using hhh.symm)
          have hds : ds = a :: r := by rw [HD.out]; exact if_neg (by show ¬ hashB a = true; rw [hh]; simp)
          clear hhh hn0 hane hal hh hu hb
          go_wp2
          go_ret
          rw [hds]
          exact ⟨_, rfl, HOW.out, HBW.out⟩
end

section
open Go.RowKit
set_option maxRecDepth 100000 in
set_option maxHeartbeats 2000000 in
theorem lineD_bare (w x : World) (base g c : Nat) (rv pv : Value) (p : Pl) (a : List UInt8) (h : RS w x base rv pv p) (c0 : x.cell? ⟨g, 0, none⟩ = some (.string ⟨a.toArray⟩)) (hb : (a == [98, 97, 114, 101]) = true) :
    Calls Tryz.prog 72 #[.agg #[rv, pv, .bool p.bare], .slice (some ⟨g, 0, none⟩) 1 c] x (RetLn w base x (some ⟨p.rs, p.ps, true⟩)) := by
  obtain ⟨ra, rc, rfl⟩ := h.rows.form
  obtain ⟨pa, pc, rfl⟩ := h.ports.form
  obtain ⟨x0, hx0⟩ : ∃ y, y = (x.alloc (.cells #[.slice ra p.rs.length rc, .slice pa p.ps.length pc, .bool p.bare] 70)).alloc (.cells #[.slice none 0 0, .slice none 0 0, .bool false] 70) := ⟨_, rfl⟩
  have HL : Hid (LN w x x0 base (.slice ra p.rs.length rc) (.slice pa p.ps.length pc) p) := by show LN _ _ _ _ _ _ _; rw [hx0]; exact LN.first h
  have hbx : Below x.heap.size x x0 := by rw [hx0]; exact ((Below.refl _ x).alloc (Nat.le_refl _) _).alloc (by simp) _
  have d0 : x0.cell? ⟨g, 0, none⟩ = some (.string ⟨a.toArray⟩) := (hbx.cell (World.block_lt_of_cell? x _ c0)).trans c0
  clear h c0 hbx
  go_enter Tryz.func72, Tryz.ntmps72
  go_upto_region 1 with fail
  rw [← hx0]
  clear hx0
  have p0 := cell_row HL.out.box 0
  have p1 := cell_row HL.out.box 1
  have p2 := cell_row HL.out.box 2
  simp at p0 p1 p2
  have fz := frozen_row HL.out.box 2
  have lb := block_lt HL.out.box
  go_upto_region 3 with fail
  have HL2 := Lib.hid HL.out.bare
  clear p0 p1 p2 fz lb d0
  generalize x0.setCell ⟨x.heap.size, 2, none⟩ (.bool true) = y at *
  have p0 := cell_row HL2.out.box 0
  have p1 := cell_row HL2.out.box 1
  have p2 := cell_row HL2.out.box 2
  simp at p0 p1 p2
  have lr := block_lt HL2.out.res
  have r0 := cell_row HL2.out.res 0
  have r1 := cell_row HL2.out.res 1
  have r2 := cell_row HL2.out.res 2
  simp at r0 r1 r2
  have f0 := frozen_row HL2.out.res 0
  have f1 := frozen_row HL2.out.res 1
  have f2 := frozen_row HL2.out.res 2
  have hrow := set3_row HL2.out.res (.slice ra p.rs.length rc) (.slice pa p.ps.length pc) (.bool true)
  have s0 := cell_row hrow 0
  have s1 := cell_row hrow 1
  have s2 := cell_row hrow 2
  simp at s0 s1 s2
  have HRR := Lib.hid (And.intro s0 (And.intro s1 s2))
  have HDN := Lib.hid HL2.out.done
  clear s0 s1 s2 hrow
  go_wp2
  obtain ⟨s0, s1, s2⟩ := HRR.out
  refine bodyPost_ret (v := .tuple #[.agg #[.slice ra p.rs.length rc, .slice pa p.ps.length pc, .bool true], .bool true]) (by simp [results, Tryz.results72, go_sem, s0, s1, s2]) rfl ?_
  refine ⟨HDN.out.2, ⟨p.rs, p.ps, true⟩, _, _, _, _, _, _, ?_, ?_, rfl, HDN.out.1, fun p2 e => by cases e; rfl⟩ <;> simp
set_option maxRecDepth 100000 in
set_option maxHeartbeats 2000000 in
theorem line_one (w x : World) (base g c : Nat) (rv pv : Value) (p : Pl) (a : List UInt8) (h : RS w x base rv pv p) (c0 : x.cell? ⟨g, 0, none⟩ = some (.string ⟨a.toArray⟩)) (hb : (a == [98, 97, 114, 101]) = false) :
    Calls Tryz.prog 72 #[.agg #[rv, pv, .bool p.bare], .slice (some ⟨g, 0, none⟩) 1 c] x (RetLn w base x none) := by
  obtain ⟨ra, rc, rfl⟩ := h.rows.form
  obtain ⟨pa, pc, rfl⟩ := h.ports.form
  obtain ⟨x0, hx0⟩ : ∃ y, y = (x.alloc (.cells #[.slice ra p.rs.length rc, .slice pa p.ps.length pc, .bool p.bare] 70)).alloc (.cells #[.slice none 0 0, .slice none 0 0, .bool false] 70) := ⟨_, rfl⟩
  have HL : Hid (LN w x x0 base (.slice ra p.rs.length rc) (.slice pa p.ps.length pc) p) := by show LN _ _ _ _ _ _ _; rw [hx0]; exact LN.first h
  have hbx : Below x.heap.size x x0 := by rw [hx0]; exact ((Below.refl _ x).alloc (Nat.le_refl _) _).alloc (by simp) _
  have d0 : x0.cell? ⟨g, 0, none⟩ = some (.string ⟨a.toArray⟩) := (hbx.cell (World.block_lt_of_cell? x _ c0)).trans c0
  clear h c0 hbx
  go_enter Tryz.func72, Tryz.ntmps72
  go_upto_region 1 with fail
  rw [← hx0]
  clear hx0
  have p0 := cell_row HL.out.box 0
  have p1 := cell_row HL.out.box 1
  have p2 := cell_row HL.out.box 2
  simp at p0 p1 p2
  have lr := block_lt HL.out.res
  have r0 := cell_row HL.out.res 0
  have r1 := cell_row HL.out.res 1
  have r2 := cell_row HL.out.res 2
  simp at r0 r1 r2
  have f0 := frozen_row HL.out.res 0
  have f1 := frozen_row HL.out.res 1
  have f2 := frozen_row HL.out.res 2
  have hrow := set3_row HL.out.res (.slice ra p.rs.length rc) (.slice pa p.ps.length pc) (.bool p.bare)
  have s0 := cell_row hrow 0
  have s1 := cell_row hrow 1
  have s2 := cell_row hrow 2
  simp at s0 s1 s2
  have HRR := Lib.hid (And.intro s0 (And.intro s1 s2))
  have HDN := Lib.hid HL.out.done
  clear s0 s1 s2 hrow
  go_wp2
  obtain ⟨s0, s1, s2⟩ := HRR.out
  refine bodyPost_ret (v := .tuple #[.agg #[.slice ra p.rs.length rc, .slice pa p.ps.length pc, .bool p.bare], .bool false]) (by simp [results, Tryz.results72, go_sem, s0, s1, s2]) rfl ?_
  refine ⟨HDN.out.2, p, _, _, _, _, _, _, ?_, ?_, rfl, HDN.out.1, fun p2 e => by cases e⟩ <;> simp
set_option maxRecDepth 100000 in
set_option maxHeartbeats 2000000 in
theorem line_many (w x : World) (base g c n : Nat) (rv pv : Value) (p : Pl) (h : RS w x base rv pv p) (hn : 3 ≤ n) :
    Calls Tryz.prog 72 #[.agg #[rv, pv, .bool p.bare], .slice (some ⟨g, 0, none⟩) n c] x (RetLn w base x none) := by
  obtain ⟨ra, rc, rfl⟩ := h.rows.form
  obtain ⟨pa, pc, rfl⟩ := h.ports.form
  obtain ⟨x0, hx0⟩ : ∃ y, y = (x.alloc (.cells #[.slice ra p.rs.length rc, .slice pa p.ps.length pc, .bool p.bare] 70)).alloc (.cells #[.slice none 0 0, .slice none 0 0, .bool false] 70) := ⟨_, rfl⟩
  have HL : Hid (LN w x x0 base (.slice ra p.rs.length rc) (.slice pa p.ps.length pc) p) := by show LN _ _ _ _ _ _ _; rw [hx0]; exact LN.first h
  have hbx : Below x.heap.size x x0 := by rw [hx0]; exact ((Below.refl _ x).alloc (Nat.le_refl _) _).alloc (by simp) _
  clear h hbx
  have hd1 : ((n : Int) == 1) = false := by rw [beq_eq_false_iff_ne]; omega
  have hd2 : ((n : Int) != 2) = true := by rw [bne_iff_ne]; omega
  go_enter Tryz.func72, Tryz.ntmps72
  go_upto_region 1 with fail
  rw [← hx0]
  clear hx0
  have p0 := cell_row HL.out.box 0
  have p1 := cell_row HL.out.box 1
  have p2 := cell_row HL.out.box 2
  simp at p0 p1 p2
  have lr := block_lt HL.out.res
  have r0 := cell_row HL.out.res 0
  have r1 := cell_row HL.out.res 1
  have r2 := cell_row HL.out.res 2
  simp at r0 r1 r2
  have f0 := frozen_row HL.out.res 0
  have f1 := frozen_row HL.out.res 1
  have f2 := frozen_row HL.out.res 2
  have hrow := set3_row HL.out.res (.slice ra p.rs.length rc) (.slice pa p.ps.length pc) (.bool p.bare)
  have s0 := cell_row hrow 0
  have s1 := cell_row hrow 1
  have s2 := cell_row hrow 2
  simp at s0 s1 s2
  have HRR := Lib.hid (And.intro s0 (And.intro s1 s2))
  have HDN := Lib.hid HL.out.done
  clear s0 s1 s2 hrow
  go_wp2
  obtain ⟨s0, s1, s2⟩ := HRR.out
  refine bodyPost_ret (v := .tuple #[.agg #[.slice ra p.rs.length rc, .slice pa p.ps.length pc, .bool p.bare], .bool false]) (by simp [results, Tryz.results72, go_sem, s0, s1, s2]) rfl ?_
  refine ⟨HDN.out.2, p, _, _, _, _, _, _, ?_, ?_, rfl, HDN.out.1, fun p2 e => by cases e⟩ <;> simp
set_option maxRecDepth 100000 in
set_option maxHeartbeats 2000000 in
theorem line_other (w x : World) (base g c : Nat) (rv pv : Value) (p : Pl) (a : List UInt8) (h : RS w x base rv pv p) (c0 : x.cell? ⟨g, 0, none⟩ = some (.string ⟨a.toArray⟩)) (hp : (a == [112, 111, 114, 116]) = false) (ha : (a == [97, 108, 108, 111, 119]) = false) (hd : (a == [100, 101, 110, 121]) = false) :
    Calls Tryz.prog 72 #[.agg #[rv, pv, .bool p.bare], .slice (some ⟨g, 0, none⟩) 2 c] x (RetLn w base x none) := by
  obtain ⟨ra, rc, rfl⟩ := h.rows.form
  obtain ⟨pa, pc, rfl⟩ := h.ports.form
  obtain ⟨x0, hx0⟩ : ∃ y, y = (x.alloc (.cells #[.slice ra p.rs.length rc, .slice pa p.ps.length pc, .bool p.bare] 70)).alloc (.cells #[.slice none 0 0, .slice none 0 0, .bool false] 70) := ⟨_, rfl⟩
  have HL : Hid (LN w x x0 base (.slice ra p.rs.length rc) (.slice pa p.ps.length pc) p) := by show LN _ _ _ _ _ _ _; rw [hx0]; exact LN.first h
  have hbx : Below x.heap.size x x0 := by rw [hx0]; exact ((Below.refl _ x).alloc (Nat.le_refl _) _).alloc (by simp) _
  have d0 : x0.cell? ⟨g, 0, none⟩ = some (.string ⟨a.toArray⟩) := (hbx.cell (World.block_lt_of_cell? x _ c0)).trans c0
  clear h c0 hbx
  have ha2 : (a != [97, 108, 108, 111, 119]) = true := by rw [bne, ha]; rfl
  have hd2 : (a != [100, 101, 110, 121]) = true := by rw [bne, hd]; rfl
  go_enter Tryz.func72, Tryz.ntmps72
  go_upto_region 1 with fail
  rw [← hx0]
  clear hx0
  have p0 := cell_row HL.out.box 0
  have p1 := cell_row HL.out.box 1
  have p2 := cell_row HL.out.box 2
  simp at p0 p1 p2
  have lr := block_lt HL.out.res
  have r0 := cell_row HL.out.res 0
  have r1 := cell_row HL.out.res 1
  have r2 := cell_row HL.out.res 2
  simp at r0 r1 r2
  have f0 := frozen_row HL.out.res 0
  have f1 := frozen_row HL.out.res 1
  have f2 := frozen_row HL.out.res 2
  have hrow := set3_row HL.out.res (.slice ra p.rs.length rc) (.slice pa p.ps.length pc) (.bool p.bare)
  have s0 := cell_row hrow 0
  have s1 := cell_row hrow 1
  have s2 := cell_row hrow 2
  simp at s0 s1 s2
  have HRR := Lib.hid (And.intro s0 (And.intro s1 s2))
  have HDN := Lib.hid HL.out.done
  clear s0 s1 s2 hrow
  go_wp2
  obtain ⟨s0, s1, s2⟩ := HRR.out
  refine bodyPost_ret (v := .tuple #[.agg #[.slice ra p.rs.length rc, .slice pa p.ps.length pc, .bool p.bare], .bool false]) (by simp [results, Tryz.results72, go_sem, s0, s1, s2]) rfl ?_
  refine ⟨HDN.out.2, p, _, _, _, _, _, _, ?_, ?_, rfl, HDN.out.1, fun p2 e => by cases e⟩ <;> simp
set_option maxRecDepth 100000 in
set_option maxHeartbeats 2000000 in
theorem line_port10 (w x : World) (base g c : Nat) (rv pv : Value) (p : Pl) (a b : List UInt8) (n : Int) (ok : Bool) (h : RS w x base rv pv p) (c0 : x.cell? ⟨g, 0, none⟩ = some (.string ⟨a.toArray⟩)) (c1 : x.cell? ⟨g, 1, none⟩ = some (.string ⟨b.toArray⟩)) (hp : (a == [112, 111, 114, 116]) = true) (hb : b.length ≤ 1000000) (hd : decZ b maxI = (n, ok)) (hl : p.ps.length ≤ 1000000) (o : Option Pl) (ho : o = if ok = true then some ⟨p.rs, p.ps ++ [n], p.bare⟩ else none) :
    Calls Tryz.prog 72 #[.agg #[rv, pv, .bool p.bare], .slice (some ⟨g, 0, none⟩) 2 c] x (RetLn w base x o) := by
  obtain ⟨ra, rc, rfl⟩ := h.rows.form
  obtain ⟨pa, pc, rfl⟩ := h.ports.form
  obtain ⟨x0, hx0⟩ : ∃ y, y = (x.alloc (.cells #[.slice ra p.rs.length rc, .slice pa p.ps.length pc, .bool p.bare] 70)).alloc (.cells #[.slice none 0 0, .slice none 0 0, .bool false] 70) := ⟨_, rfl⟩
  have HL : Hid (LN w x x0 base (.slice ra p.rs.length rc) (.slice pa p.ps.length pc) p) := by show LN _ _ _ _ _ _ _; rw [hx0]; exact LN.first h
  have hbx : Below x.heap.size x x0 := by rw [hx0]; exact ((Below.refl _ x).alloc (Nat.le_refl _) _).alloc (by simp) _
  have HOO := Lib.hid ho
  clear ho
  have d0 : x0.cell? ⟨g, 0, none⟩ = some (.string ⟨a.toArray⟩) := (hbx.cell (World.block_lt_of_cell? x _ c0)).trans c0
  have d1 : x0.cell? ⟨g, 1, none⟩ = some (.string ⟨b.toArray⟩) := (hbx.cell (World.block_lt_of_cell? x _ c1)).trans c1
  have HD := Lib.hid (refDecimal_any ⟨b.toArray⟩ 9223372036854775807 x0 (by rw [size_mk]; omega) (by decide) (by decide))
  rw [show decZ (ByteArray.mk b.toArray).data.toList 9223372036854775807 = (n, ok) from hd] at HD
  clear h c0 c1 hbx hd
  obtain ⟨i0, hi0, hz0, hz1, hz2⟩ := info_parts' infoI
  go_enter Tryz.func72, Tryz.ntmps72
  go_upto_region 1 with fail
  rw [← hx0]
  clear hx0
  go_wp2_with fail
  refine HD.out.mono ?_
  rintro e x1 ⟨rfl, hb1⟩
  have HL1 := Lib.hid (HL.out.keep hb1)
  clear hb1 HD HL d0 d1
  have p0 := cell_row HL1.out.box 0
  have p1 := cell_row HL1.out.box 1
  have p2 := cell_row HL1.out.box 2
  simp at p0 p1 p2
  have lb := block_lt HL1.out.box
  have hb2 : Below x1.heap.size x1 (x1.alloc (.cells #[.int .i64 n] 3)) := (Below.refl _ _).alloc (Nat.le_refl _) _
  have HB2 := Lib.hid hb2
  have HL2 := Lib.hid (HL1.out.keep hb2)
  clear hb2
  have HKG : Hid (∀ z, (x1.alloc (.cells #[.int .i64 n] 3)).grownBy z (Value.slice pa p.ps.length pc).ownBlock → z.heap[x.heap.size]? = some (.cells #[.slice ra p.rs.length rc, .slice pa p.ps.length pc, .bool p.bare] 70)) := fun z hg => HL1.out.grownI HB2.out hg
  have hcn := cells_new x1 [.int .i64 n] 3
  have hoc : ∀ u ∈ [Value.int .i64 n], u.oneCell' = true := fun u hu => by rw [List.mem_singleton.1 hu]; rfl
  have hsz := HL2.out.rs.size
  go_upto_region 9 with (first
    | (at_builtin; refine wpList_append_own _ rfl _ _ 59 rfl base 3 i0 (.int .i64 0) 1 8 Tryz.underlying59 hi0 hz0 hz1 hz2 rfl (by decide) (.slice pa p.ps.length pc) p.ps.length (p.ps.flatMap clI) rfl HL2.out.rs.ports ⟨x1.heap.size, 0, none⟩ 1 1 [.int .i64 n] rfl rfl hcn hoc (by unfold maxLen; omega) (by omega) hsz ?_; intro s1 w1 hown1 hgrow1 _; obtain ⟨sa, sc, rfl⟩ := own_form hown1; have hbz := HKG.out _ hgrow1; have z0 := cell_row hbz 1; have z1 := frozen_row hbz 1; simp at z0)
    | go_in)
  have HL3 := Lib.hid (HL1.out.port HB2.out hgrow1 hown1)
  clear p0 p1 p2 lb HB2 HL2 HKG hcn hoc hsz hgrow1 hown1 hbz z0 z1
  generalize w1.setCell ⟨x.heap.size, 1, none⟩ (.slice sa (p.ps.length + 1) sc) = y at *
  cases ok with
  | true =>
    have ho := HOO.out
    rw [if_pos rfl] at ho
    subst ho
    have p0 := cell_row HL3.out.box 0
    have p1 := cell_row HL3.out.box 1
    have p2 := cell_row HL3.out.box 2
    simp at p0 p1 p2
    have lr := block_lt HL3.out.res
    have r0 := cell_row HL3.out.res 0
    have r1 := cell_row HL3.out.res 1
    have r2 := cell_row HL3.out.res 2
    simp at r0 r1 r2
    have f0 := frozen_row HL3.out.res 0
    have f1 := frozen_row HL3.out.res 1
    have f2 := frozen_row HL3.out.res 2
    have hrow := set3_row HL3.out.res (.slice ra p.rs.length rc) (.slice sa (p.ps.length + 1) sc) (.bool p.bare)
    have s0 := cell_row hrow 0
    have s1 := cell_row hrow 1
    have s2 := cell_row hrow 2
    simp at s0 s1 s2
    have HRR := Lib.hid (And.intro s0 (And.intro s1 s2))
    have HDN := Lib.hid HL3.out.done
    clear s0 s1 s2 hrow
    go_wp2
    obtain ⟨s0, s1, s2⟩ := HRR.out
    refine bodyPost_ret (v := .tuple #[.agg #[.slice ra p.rs.length rc, .slice sa (p.ps.length + 1) sc, .bool p.bare], .bool true]) (by simp [results, Tryz.results72, go_sem, s0, s1, s2]) rfl ?_
    refine ⟨HDN.out.2, ⟨p.rs, p.ps ++ [n], p.bare⟩, _, _, _, _, _, _, ?_, ?_, rfl, HDN.out.1, fun p2 e => by cases e; rfl⟩ <;> simp
  | false =>
    have ho := HOO.out
    rw [if_neg (by simp)] at ho
    subst ho
    have p0 := cell_row HL3.out.box 0
    have p1 := cell_row HL3.out.box 1
    have p2 := cell_row HL3.out.box 2
    simp at p0 p1 p2
    have lr := block_lt HL3.out.res
    have r0 := cell_row HL3.out.res 0
    have r1 := cell_row HL3.out.res 1
    have r2 := cell_row HL3.out.res 2
    simp at r0 r1 r2
    have f0 := frozen_row HL3.out.res 0
    have f1 := frozen_row HL3.out.res 1
    have f2 := frozen_row HL3.out.res 2
    have hrow := set3_row HL3.out.res (.slice ra p.rs.length rc) (.slice sa (p.ps.length + 1) sc) (.bool p.bare)
    have s0 := cell_row hrow 0
    have s1 := cell_row hrow 1
    have s2 := cell_row hrow 2
    simp at s0 s1 s2
    have HRR := Lib.hid (And.intro s0 (And.intro s1 s2))
    have HDN := Lib.hid HL3.out.done
    clear s0 s1 s2 hrow
    go_wp2
    obtain ⟨s0, s1, s2⟩ := HRR.out
    refine bodyPost_ret (v := .tuple #[.agg #[.slice ra p.rs.length rc, .slice sa (p.ps.length + 1) sc, .bool p.bare], .bool false]) (by simp [results, Tryz.results72, go_sem, s0, s1, s2]) rfl ?_
    refine ⟨HDN.out.2, ⟨p.rs, p.ps ++ [n], p.bare⟩, _, _, _, _, _, _, ?_, ?_, rfl, HDN.out.1, fun p2 e => by cases e⟩ <;> simp
end

section
open Go.RowKit
theorem ty7R : 50 ≠ 125 := by decide
theorem ty7I : 50 ≠ 3 := by decide
theorem tySRR : 9 ≠ 125 := by decide
theorem tySI2 : 9 ≠ 3 := by decide
set_option maxRecDepth 100000 in
set_option maxHeartbeats 8000000 in
theorem line_rule_true (w x : World) (base g c : Nat) (rv pv : Value) (p : Pl) (a b : List UInt8) (ok : Bool) (W k : Nat) (cs : Array Value) (h : RS w x base rv pv p) (hg : x.heap[g]? = some (.cells cs 9)) (c0' : cs[0]? = some (.string ⟨a.toArray⟩)) (c1' : cs[1]? = some (.string ⟨b.toArray⟩)) (hp : (a == [112, 111, 114, 116]) = false) (ha : (a == [97, 108, 108, 111, 119]) = true) (hz : Hid (∀ X : World, Calls Tryz.prog 100 #[.string ⟨b.toArray⟩] X fun e X' => e = .returned (.tuple #[.agg #[.int .u64 (hiN W : Nat), .int .u64 (loN W : Nat), .int .i64 (k : Nat)], .bool ok]) ∧ Below X.heap.size X X')) (hl : p.rs.length ≤ 1000000) (o : Option Pl) (ho : o = if ok = true then some ⟨p.rs ++ [ruOf W k true], p.ps, p.bare⟩ else none) :
    Calls Tryz.prog 72 #[.agg #[rv, pv, .bool p.bare], .slice (some ⟨g, 0, none⟩) 2 c] x (RetLn w base x o) := by
  obtain ⟨ra, rc, rfl⟩ := h.rows.form
  obtain ⟨pa, pc, rfl⟩ := h.ports.form
  obtain ⟨x0, hx0⟩ : ∃ y, y = (x.alloc (.cells #[.slice ra p.rs.length rc, .slice pa p.ps.length pc, .bool p.bare] 70)).alloc (.cells #[.slice none 0 0, .slice none 0 0, .bool false] 70) := ⟨_, rfl⟩
  have HL : Hid (LN w x x0 base (.slice ra p.rs.length rc) (.slice pa p.ps.length pc) p) := by show LN _ _ _ _ _ _ _; rw [hx0]; exact LN.first h
  have hbx : Below x.heap.size x x0 := by rw [hx0]; exact ((Below.refl _ x).alloc (Nat.le_refl _) _).alloc (by simp) _
  have HOO := Lib.hid ho
  clear ho
  have hgx : g < x.heap.size := block_lt hg
  have hgb := (hbx.block g hgx).trans hg
  have d0 : x0.cell? ⟨g, 0, none⟩ = some (.string ⟨a.toArray⟩) := by rw [cell_row hgb 0]; exact c0'
  have d1 : x0.cell? ⟨g, 1, none⟩ = some (.string ⟨b.toArray⟩) := by rw [cell_row hgb 1]; exact c1'
  have ha2 : (a != [97, 108, 108, 111, 119]) = false := by rw [bne, ha]; rfl
  have HGB := Lib.hid hgb
  clear h hbx hg hgb
  obtain ⟨i0, hi0, hz0, hz1, hz2⟩ := info_parts' infoRU
  go_enter Tryz.func72, Tryz.ntmps72
  go_upto_region 1 with fail
  rw [← hx0]
  clear hx0
  go_wp2_with fail
  refine (hz.out _).mono ?_
  rintro e x1 ⟨rfl, hb1⟩
  have HL1 := Lib.hid (HL.out.keep hb1)
  have hgb1 := (hb1.block g (block_lt HGB.out)).trans HGB.out
  have hal : Below x1.heap.size x1 (x1.alloc (.cells #[.int .u64 (hiN W : Nat), .int .u64 (loN W : Nat), .int .i64 (k : Nat)] 50)) := (Below.refl _ _).alloc (Nat.le_refl _) _
  have HL2 := Lib.hid (HL1.out.keep hal)
  have HGB2 := Lib.hid ((hal.block g (block_lt hgb1)).trans hgb1)
  have HP8 := Lib.hid ((Blks.empty x1).new #[.int .u64 (hiN W : Nat), .int .u64 (loN W : Nat), .int .i64 (k : Nat)] 50)
  have HG8 : Hid (x.heap.size + 1 < x1.heap.size) := block_lt HL1.out.res
  clear hb1 hal hgb1 HL HL1 HGB d0 d1
  go_upto_region 13 with fail
  generalize x1.alloc (.cells #[.int .u64 (hiN W : Nat), .int .u64 (loN W : Nat), .int .i64 (k : Nat)] 50) = x2 at *
  generalize x1.heap.size = g8 at *
  go_cut [71] (fun s1 wc => Hid (LN w x wc base s1 (.slice pa p.ps.length pc) ⟨p.rs ++ [ruOf W k true], p.ps, p.bare⟩))
  case first =>
    have HK3 : Hid (∀ X, Below x2.heap.size x2 X → (fun (X : World) => (X.cell? ⟨g8, 0, none⟩ = some (.int .u64 (hiN W : Nat)) ∧ X.cell? ⟨g8, 1, none⟩ = some (.int .u64 (loN W : Nat)) ∧ X.cell? ⟨g8, 2, none⟩ = some (.int .i64 (k : Nat))) ∧ X.cell? ⟨g, 0, none⟩ = some (.string ⟨a.toArray⟩)) X) := fun X hX => ⟨((HP8.out.keep hX).r3 (.head _)).2, by rw [cell_row ((hX.block g (block_lt HGB2.out)).trans HGB2.out) 0]; exact c0'⟩
    have HB2 : Hid (Below x2.heap.size x2 (x2.alloc (.cells #[.int .u64 (hiN W : Nat), .int .u64 (loN W : Nat), .int .i64 (k : Nat), .bool true] 125)).drew) := below_drewA x2 _
    have HL3 := Lib.hid (HL2.out.keep HB2.out)
    have hcn : ∀ (j : Nat) (u : Value), ([.int .u64 (hiN W : Nat), .int .u64 (loN W : Nat), .int .i64 (k : Nat), .bool true] : List Value)[j]? = some u → (x2.alloc (.cells #[.int .u64 (hiN W : Nat), .int .u64 (loN W : Nat), .int .i64 (k : Nat), .bool true] 125)).drew.cell? ((⟨x2.heap.size, 0, none⟩ : Addr).add j) = some u := cells_new x2 [.int .u64 (hiN W : Nat), .int .u64 (loN W : Nat), .int .i64 (k : Nat), .bool true] 125
    have hoc : ∀ u ∈ ([.int .u64 (hiN W : Nat), .int .u64 (loN W : Nat), .int .i64 (k : Nat), .bool true] : List Value), u.oneCell' = true := ru_one (ruOf W k true)
    have HKG : Hid (∀ z, (x2.alloc (.cells #[.int .u64 (hiN W : Nat), .int .u64 (loN W : Nat), .int .i64 (k : Nat), .bool true] 125)).drew.grownBy z (Value.slice ra p.rs.length rc).ownBlock → ((fun (X : World) => (X.cell? ⟨g8, 0, none⟩ = some (.int .u64 (hiN W : Nat)) ∧ X.cell? ⟨g8, 1, none⟩ = some (.int .u64 (loN W : Nat)) ∧ X.cell? ⟨g8, 2, none⟩ = some (.int .i64 (k : Nat))) ∧ X.cell? ⟨g, 0, none⟩ = some (.string ⟨a.toArray⟩)) z) ∧ z.heap[x.heap.size]? = some (.cells #[.slice ra p.rs.length rc, .slice pa p.ps.length pc, .bool p.bare] 70)) := fun z hg => by
      have hk := KeptX.grownR HL3.out.rs.rows hg
      have h8 := hk _ _ _ ((HP8.out.keep HB2.out) _ (.head _)) ty7R ty7I
      have hs := hk _ _ _ ((HB2.out.block g (block_lt HGB2.out)).trans HGB2.out) tySRR tySI2
      exact ⟨⟨(row3 h8).1, by show z.cell? _ = _; rw [cell_row hs 0]; exact c0'⟩, hk _ _ _ HL3.out.box tyQP tyQI⟩
    have HKT : Hid (∀ (z : World) (u : Value), ((fun (X : World) => (X.cell? ⟨g8, 0, none⟩ = some (.int .u64 (hiN W : Nat)) ∧ X.cell? ⟨g8, 1, none⟩ = some (.int .u64 (loN W : Nat)) ∧ X.cell? ⟨g8, 2, none⟩ = some (.int .i64 (k : Nat))) ∧ X.cell? ⟨g, 0, none⟩ = some (.string ⟨a.toArray⟩)) z) → ((fun (X : World) => (X.cell? ⟨g8, 0, none⟩ = some (.int .u64 (hiN W : Nat)) ∧ X.cell? ⟨g8, 1, none⟩ = some (.int .u64 (loN W : Nat)) ∧ X.cell? ⟨g8, 2, none⟩ = some (.int .i64 (k : Nat))) ∧ X.cell? ⟨g, 0, none⟩ = some (.string ⟨a.toArray⟩)) (z.setCell ⟨x.heap.size, 0, none⟩ u))) := fun z u hz => by
      have hne : x.heap.size ≠ g8 := by have := HG8.out; omega
      have hng : x.heap.size ≠ g := by omega
      have e : ∀ i, (z.setCell ⟨x.heap.size, 0, none⟩ u).cell? ⟨g8, i, none⟩ = z.cell? ⟨g8, i, none⟩ := fun i => World.cell?_setCell_far z ⟨x.heap.size, 0, none⟩ ⟨g8, i, none⟩ u hne
      have e2 : ∀ i, (z.setCell ⟨x.heap.size, 0, none⟩ u).cell? ⟨g, i, none⟩ = z.cell? ⟨g, i, none⟩ := fun i => World.cell?_setCell_far z ⟨x.heap.size, 0, none⟩ ⟨g, i, none⟩ u hng
      refine ⟨⟨?_, ?_, ?_⟩, ?_⟩
      · rw [e]; exact hz.1.1
      · rw [e]; exact hz.1.2.1
      · rw [e]; exact hz.1.2.2
      · rw [e2]; exact hz.2
    have a0 := cell_row HL2.out.box 0
    simp at a0
    have b0 := cell_row HL3.out.box 0
    simp at b0
    have lb := block_lt HL2.out.box
    refine wp_region_held_drew (S := fun (X : World) => (X.cell? ⟨g8, 0, none⟩ = some (.int .u64 (hiN W : Nat)) ∧ X.cell? ⟨g8, 1, none⟩ = some (.int .u64 (loN W : Nat)) ∧ X.cell? ⟨g8, 2, none⟩ = some (.int .i64 (k : Nat))) ∧ X.cell? ⟨g, 0, none⟩ = some (.string ⟨a.toArray⟩)) (by kernel_rfl) ?_ (fun hHeld => ?_)
    · exact HK3.out _ (below_drew1 _)
    refine wpAnyH_take (i := 0) (oi := ⟨some 62, _, _, _, _, _⟩) (v := ?_) rfl (by kernel_rfl) (by kernel_rfl) (by kernel_rfl) (fun _ _ _ h => h) (Or.inl ⟨by rfl, ?_⟩) hHeld ?_
    rotate_left
    · intro w hSw
      (try dsimp only at hSw)
      go_simp
      try with_reducible rfl
    try simp only [Act.put, List.setIfInBounds_toArray, List.set_cons_zero, List.set_cons_succ]
    refine wpAnyH_take (i := 2) (oi := ⟨some 64, _, _, _, _, _⟩) (v := ?_) rfl (by kernel_rfl) (by kernel_rfl) (by kernel_rfl) (fun _ _ _ h => h) (Or.inl ⟨by rfl, ?_⟩) hHeld ?_
    rotate_left
    · intro w hSw
      (try dsimp only at hSw)
      go_simp
      try with_reducible rfl
    try simp only [Act.put, List.setIfInBounds_toArray, List.set_cons_zero, List.set_cons_succ]
    refine wpAnyH_take (i := 3) (oi := ⟨some 65, _, _, _, _, _⟩) (v := ?_) rfl (by kernel_rfl) (by kernel_rfl) (by kernel_rfl) (fun _ _ _ h => h) (Or.inl ⟨by rfl, ?_⟩) hHeld ?_
    rotate_left
    · intro w hSw
      (try dsimp only at hSw)
      go_simp
      try with_reducible rfl
    try simp only [Act.put, List.setIfInBounds_toArray, List.set_cons_zero, List.set_cons_succ]
    refine wpAnyH_take (i := 4) (oi := ⟨some 66, _, _, _, _, _⟩) (v := ?_) rfl (by kernel_rfl) (by kernel_rfl) (by kernel_rfl) (fun _ _ _ h => h) (Or.inl ⟨by rfl, ?_⟩) hHeld ?_
    rotate_left
    · intro w hSw
      (try dsimp only at hSw)
      go_simp
      try with_reducible rfl
    try simp only [Act.put, List.setIfInBounds_toArray, List.set_cons_zero, List.set_cons_succ]
    refine wpAnyH_take (i := 5) (oi := ⟨some 67, _, _, _, _, _⟩) (v := ?_) rfl (by kernel_rfl) (by kernel_rfl) (by kernel_rfl) (fun _ _ _ h => h) (Or.inl ⟨by rfl, ?_⟩) hHeld ?_
    rotate_left
    · intro w hSw
      (try dsimp only at hSw)
      go_simp
      try with_reducible rfl
    try simp only [Act.put, List.setIfInBounds_toArray, List.set_cons_zero, List.set_cons_succ]
    refine wpAnyH_take (i := 6) (oi := ⟨some 68, _, _, _, _, _⟩) (v := ?_) rfl (by kernel_rfl) (by kernel_rfl) (by kernel_rfl) (fun _ _ _ h => h) (Or.inl ⟨by rfl, ?_⟩) hHeld ?_
    rotate_left
    · intro w hSw
      (try dsimp only at hSw)
      go_simp
      try with_reducible rfl
    try simp only [Act.put, List.setIfInBounds_toArray, List.set_cons_zero, List.set_cons_succ]
    refine wpAnyH_take (i := 7) (oi := ⟨some 69, _, _, _, _, _⟩) (v := ?_) rfl (by kernel_rfl) (by kernel_rfl) (by kernel_rfl) (fun _ _ _ h => h) (Or.inl ⟨by rfl, ?_⟩) hHeld ?_
    rotate_left
    · intro w hSw
      (try dsimp only at hSw)
      go_simp
      try with_reducible rfl
    try simp only [Act.put, List.setIfInBounds_toArray, List.set_cons_zero, List.set_cons_succ]
    refine wpAnyH_ready (rs := [1, 8]) (by kernel_rfl) (by simp) ?_
    refine AllReadyH.cons (o := ⟨some 63, _, _, _, _, _⟩) rfl (fun K hK => ?_) (AllReadyH.cons (o := ⟨some 70, _, _, _, _, _⟩) rfl (fun K hK => ?_) AllReadyH.nil)
    · go_simp
      refine hK.out _ _ ?_ (fun hHeld1 => ?_)
      · exact HK3.out _ (below_drew1 _)
      clear hK K
      try simp only [Act.put, List.setIfInBounds_toArray, List.set_cons_zero, List.set_cons_succ]
      refine wpAnyH_ready (rs := [8]) (by kernel_rfl) (by simp) ?_
      refine AllReadyH.cons (o := ⟨some 70, _, _, _, _, _⟩) rfl (fun K hK => ?_) AllReadyH.nil
      go_simp
      refine hK.out _ _ ?_ (fun hHeld2 => ?_)
      · exact HK3.out _ HB2.out
      clear hK K
      try simp only [Act.put, List.setIfInBounds_toArray, List.set_cons_zero, List.set_cons_succ]
      refine wpAnyH_ready (rs := [9]) (by kernel_rfl) (by simp) ?_
      refine AllReadyH.cons (o := ⟨some 71, _, _, _, _, _⟩) rfl (fun K hK => ?_) AllReadyH.nil
      rw [if_pos (by kernel_rfl)]
      refine wp_append_own _ _ _ 68 rfl base 125 i0 (.agg #[.int .u64 0, .int .u64 0, .int .i64 0, .bool false]) 4 32 Tryz.underlying68 hi0 hz0 hz1 hz2 rfl (by decide) (.slice ra p.rs.length rc) p.rs.length (p.rs.flatMap Ru.cl) rfl HL3.out.rs.rows ⟨x2.heap.size, 0, none⟩ 1 1 [.int .u64 (hiN W : Nat), .int .u64 (loN W : Nat), .int .i64 (k : Nat), .bool true] rfl rfl hcn hoc (by unfold maxLen; omega) (by omega) HL3.out.rs.size ?_
      intro s1 w1 hown1 hgrow1 _
      obtain ⟨sa, sc, rfl⟩ := own_form hown1
      obtain ⟨hsw, hbz⟩ := HKG.out _ hgrow1
      have z0 := cell_row hbz 0
      have z1 := frozen_row hbz 0
      simp at z0
      refine hK.out _ _ ?_ (fun hHeld9 => ?_)
      · exact hsw
      clear hK K
      try simp only [Act.put, List.setIfInBounds_toArray, List.set_cons_zero, List.set_cons_succ]
      refine wpAnyH_take (i := 10) (oi := ⟨some 72, _, _, _, _, _⟩) (v := ?_) rfl (by kernel_rfl) (by kernel_rfl) (by kernel_rfl) (fun _ _ _ h => h) (Or.inl ⟨by rfl, ?_⟩) hHeld9 ?_
      rotate_left
      · intro w hSw
        (try dsimp only at hSw)
        go_simp
        try with_reducible rfl
      try simp only [Act.put, List.setIfInBounds_toArray, List.set_cons_zero, List.set_cons_succ]
      refine wpAnyH_ready (rs := [11]) (by kernel_rfl) (by simp) ?_
      refine AllReadyH.cons (o := ⟨none, _, _, _, _, _⟩) rfl (fun K hK => ?_) AllReadyH.nil
      go_simp
      refine hK.out _ _ ?_ (fun hHeld12 => ?_)
      · exact HKT.out _ _ hsw
      clear hK K
      try simp only [Act.put, List.setIfInBounds_toArray, List.set_cons_zero, List.set_cons_succ]
      refine wpAnyH_done (by kernel_rfl) ?_ _
      have HL4 := Lib.hid (HL2.out.rule (r := ruOf W k true) HB2.out hgrow1 hown1)
      try go_wp2
      go_meet
      exact HL4
    · go_simp
      refine hK.out _ _ ?_ (fun hHeld1 => ?_)
      · exact HK3.out _ HB2.out
      clear hK K
      try simp only [Act.put, List.setIfInBounds_toArray, List.set_cons_zero, List.set_cons_succ]
      refine wpAnyH_ready (rs := [1]) (by kernel_rfl) (by simp) ?_
      refine AllReadyH.cons (o := ⟨some 63, _, _, _, _, _⟩) rfl (fun K hK => ?_) AllReadyH.nil
      go_simp
      refine hK.out _ _ ?_ (fun hHeld2 => ?_)
      · exact HK3.out _ HB2.out
      clear hK K
      try simp only [Act.put, List.setIfInBounds_toArray, List.set_cons_zero, List.set_cons_succ]
      refine wpAnyH_ready (rs := [9]) (by kernel_rfl) (by simp) ?_
      refine AllReadyH.cons (o := ⟨some 71, _, _, _, _, _⟩) rfl (fun K hK => ?_) AllReadyH.nil
      rw [if_pos (by kernel_rfl)]
      refine wp_append_own _ _ _ 68 rfl base 125 i0 (.agg #[.int .u64 0, .int .u64 0, .int .i64 0, .bool false]) 4 32 Tryz.underlying68 hi0 hz0 hz1 hz2 rfl (by decide) (.slice ra p.rs.length rc) p.rs.length (p.rs.flatMap Ru.cl) rfl HL3.out.rs.rows ⟨x2.heap.size, 0, none⟩ 1 1 [.int .u64 (hiN W : Nat), .int .u64 (loN W : Nat), .int .i64 (k : Nat), .bool true] rfl rfl hcn hoc (by unfold maxLen; omega) (by omega) HL3.out.rs.size ?_
      intro s1 w1 hown1 hgrow1 _
      obtain ⟨sa, sc, rfl⟩ := own_form hown1
      obtain ⟨hsw, hbz⟩ := HKG.out _ hgrow1
      have z0 := cell_row hbz 0
      have z1 := frozen_row hbz 0
      simp at z0
      refine hK.out _ _ ?_ (fun hHeld9 => ?_)
      · exact hsw
      clear hK K
      try simp only [Act.put, List.setIfInBounds_toArray, List.set_cons_zero, List.set_cons_succ]
      refine wpAnyH_take (i := 10) (oi := ⟨some 72, _, _, _, _, _⟩) (v := ?_) rfl (by kernel_rfl) (by kernel_rfl) (by kernel_rfl) (fun _ _ _ h => h) (Or.inl ⟨by rfl, ?_⟩) hHeld9 ?_
      rotate_left
      · intro w hSw
        (try dsimp only at hSw)
        go_simp
        try with_reducible rfl
      try simp only [Act.put, List.setIfInBounds_toArray, List.set_cons_zero, List.set_cons_succ]
      refine wpAnyH_ready (rs := [11]) (by kernel_rfl) (by simp) ?_
      refine AllReadyH.cons (o := ⟨none, _, _, _, _, _⟩) rfl (fun K hK => ?_) AllReadyH.nil
      go_simp
      refine hK.out _ _ ?_ (fun hHeld12 => ?_)
      · exact HKT.out _ _ hsw
      clear hK K
      try simp only [Act.put, List.setIfInBounds_toArray, List.set_cons_zero, List.set_cons_succ]
      refine wpAnyH_done (by kernel_rfl) ?_ _
      have HL4 := Lib.hid (HL2.out.rule (r := ruOf W k true) HB2.out hgrow1 hown1)
      try go_wp2
      go_meet
      exact HL4
  case rest =>
  have HL4 := hcut
  clear hcut HL2 HGB2 HP8
  rename World => y
  obtain ⟨sa, sc, rfl⟩ := HL4.out.rs.rows.form
  rw [show (p.rs ++ [ruOf W k true]).length = p.rs.length + 1 from by simp] at HL4 ⊢
  cases ok with
  | true =>
    have ho := HOO.out
    rw [if_pos rfl] at ho
    subst ho
    have p0 := cell_row HL4.out.box 0
    have p1 := cell_row HL4.out.box 1
    have p2 := cell_row HL4.out.box 2
    simp at p0 p1 p2
    have lr := block_lt HL4.out.res
    have r0 := cell_row HL4.out.res 0
    have r1 := cell_row HL4.out.res 1
    have r2 := cell_row HL4.out.res 2
    simp at r0 r1 r2
    have f0 := frozen_row HL4.out.res 0
    have f1 := frozen_row HL4.out.res 1
    have f2 := frozen_row HL4.out.res 2
    have hrow := set3_row HL4.out.res (.slice sa (p.rs.length + 1) sc) (.slice pa p.ps.length pc) (.bool p.bare)
    have s0 := cell_row hrow 0
    have s1 := cell_row hrow 1
    have s2 := cell_row hrow 2
    simp at s0 s1 s2
    have HRR := Lib.hid (And.intro s0 (And.intro s1 s2))
    have HDN := Lib.hid HL4.out.done
    clear s0 s1 s2 hrow
    go_wp2
    obtain ⟨s0, s1, s2⟩ := HRR.out
    refine bodyPost_ret (v := .tuple #[.agg #[.slice sa (p.rs.length + 1) sc, .slice pa p.ps.length pc, .bool p.bare], .bool true]) (by simp [results, Tryz.results72, go_sem, s0, s1, s2]) rfl ?_
    refine ⟨HDN.out.2, ⟨p.rs ++ [ruOf W k true], p.ps, p.bare⟩, _, _, _, _, _, _, ?_, ?_, rfl, HDN.out.1, fun p2 e => by cases e; rfl⟩ <;> simp
  | false =>
    have ho := HOO.out
    rw [if_neg (by simp)] at ho
    subst ho
    have p0 := cell_row HL4.out.box 0
    have p1 := cell_row HL4.out.box 1
    have p2 := cell_row HL4.out.box 2
    simp at p0 p1 p2
    have lr := block_lt HL4.out.res
    have r0 := cell_row HL4.out.res 0
    have r1 := cell_row HL4.out.res 1
    have r2 := cell_row HL4.out.res 2
    simp at r0 r1 r2
    have f0 := frozen_row HL4.out.res 0
    have f1 := frozen_row HL4.out.res 1
    have f2 := frozen_row HL4.out.res 2
    have hrow := set3_row HL4.out.res (.slice sa (p.rs.length + 1) sc) (.slice pa p.ps.length pc) (.bool p.bare)
    have s0 := cell_row hrow 0
    have s1 := cell_row hrow 1
    have s2 := cell_row hrow 2
    simp at s0 s1 s2
    have HRR := Lib.hid (And.intro s0 (And.intro s1 s2))
    have HDN := Lib.hid HL4.out.done
    clear s0 s1 s2 hrow
    go_wp2
    obtain ⟨s0, s1, s2⟩ := HRR.out
    refine bodyPost_ret (v := .tuple #[.agg #[.slice sa (p.rs.length + 1) sc, .slice pa p.ps.length pc, .bool p.bare], .bool false]) (by simp [results, Tryz.results72, go_sem, s0, s1, s2]) rfl ?_
    refine ⟨HDN.out.2, ⟨p.rs ++ [ruOf W k true], p.ps, p.bare⟩, _, _, _, _, _, _, ?_, ?_, rfl, HDN.out.1, fun p2 e => by cases e⟩ <;> simp
set_option maxRecDepth 100000 in
set_option maxHeartbeats 8000000 in
theorem line_rule_false (w x : World) (base g c : Nat) (rv pv : Value) (p : Pl) (a b : List UInt8) (ok : Bool) (W k : Nat) (cs : Array Value) (h : RS w x base rv pv p) (hg : x.heap[g]? = some (.cells cs 9)) (c0' : cs[0]? = some (.string ⟨a.toArray⟩)) (c1' : cs[1]? = some (.string ⟨b.toArray⟩)) (hp : (a == [112, 111, 114, 116]) = false) (ha : (a == [97, 108, 108, 111, 119]) = false) (hd : (a == [100, 101, 110, 121]) = true) (hz : Hid (∀ X : World, Calls Tryz.prog 100 #[.string ⟨b.toArray⟩] X fun e X' => e = .returned (.tuple #[.agg #[.int .u64 (hiN W : Nat), .int .u64 (loN W : Nat), .int .i64 (k : Nat)], .bool ok]) ∧ Below X.heap.size X X')) (hl : p.rs.length ≤ 1000000) (o : Option Pl) (ho : o = if ok = true then some ⟨p.rs ++ [ruOf W k false], p.ps, p.bare⟩ else none) :
    Calls Tryz.prog 72 #[.agg #[rv, pv, .bool p.bare], .slice (some ⟨g, 0, none⟩) 2 c] x (RetLn w base x o) := by
  obtain ⟨ra, rc, rfl⟩ := h.rows.form
  obtain ⟨pa, pc, rfl⟩ := h.ports.form
  obtain ⟨x0, hx0⟩ : ∃ y, y = (x.alloc (.cells #[.slice ra p.rs.length rc, .slice pa p.ps.length pc, .bool p.bare] 70)).alloc (.cells #[.slice none 0 0, .slice none 0 0, .bool false] 70) := ⟨_, rfl⟩
  have HL : Hid (LN w x x0 base (.slice ra p.rs.length rc) (.slice pa p.ps.length pc) p) := by show LN _ _ _ _ _ _ _; rw [hx0]; exact LN.first h
  have hbx : Below x.heap.size x x0 := by rw [hx0]; exact ((Below.refl _ x).alloc (Nat.le_refl _) _).alloc (by simp) _
  have HOO := Lib.hid ho
  clear ho
  have hgx : g < x.heap.size := block_lt hg
  have hgb := (hbx.block g hgx).trans hg
  have d0 : x0.cell? ⟨g, 0, none⟩ = some (.string ⟨a.toArray⟩) := by rw [cell_row hgb 0]; exact c0'
  have d1 : x0.cell? ⟨g, 1, none⟩ = some (.string ⟨b.toArray⟩) := by rw [cell_row hgb 1]; exact c1'
  have ha2 : (a != [97, 108, 108, 111, 119]) = true := by rw [bne, ha]; rfl
  have hd2 : (a != [100, 101, 110, 121]) = false := by rw [bne, hd]; rfl
  have HGB := Lib.hid hgb
  clear h hbx hg hgb
  obtain ⟨i0, hi0, hz0, hz1, hz2⟩ := info_parts' infoRU
  go_enter Tryz.func72, Tryz.ntmps72
  go_upto_region 1 with fail
  rw [← hx0]
  clear hx0
  go_wp2_with fail
  refine (hz.out _).mono ?_
  rintro e x1 ⟨rfl, hb1⟩
  have HL1 := Lib.hid (HL.out.keep hb1)
  have hgb1 := (hb1.block g (block_lt HGB.out)).trans HGB.out
  have hal : Below x1.heap.size x1 (x1.alloc (.cells #[.int .u64 (hiN W : Nat), .int .u64 (loN W : Nat), .int .i64 (k : Nat)] 50)) := (Below.refl _ _).alloc (Nat.le_refl _) _
  have HL2 := Lib.hid (HL1.out.keep hal)
  have HGB2 := Lib.hid ((hal.block g (block_lt hgb1)).trans hgb1)
  have HP8 := Lib.hid ((Blks.empty x1).new #[.int .u64 (hiN W : Nat), .int .u64 (loN W : Nat), .int .i64 (k : Nat)] 50)
  have HG8 : Hid (x.heap.size + 1 < x1.heap.size) := block_lt HL1.out.res
  clear hb1 hal hgb1 HL HL1 HGB d0 d1
  go_upto_region 13 with fail
  generalize x1.alloc (.cells #[.int .u64 (hiN W : Nat), .int .u64 (loN W : Nat), .int .i64 (k : Nat)] 50) = x2 at *
  generalize x1.heap.size = g8 at *
  go_cut [71] (fun s1 wc => Hid (LN w x wc base s1 (.slice pa p.ps.length pc) ⟨p.rs ++ [ruOf W k false], p.ps, p.bare⟩))
  case first =>
    have HK3 : Hid (∀ X, Below x2.heap.size x2 X → (fun (X : World) => (X.cell? ⟨g8, 0, none⟩ = some (.int .u64 (hiN W : Nat)) ∧ X.cell? ⟨g8, 1, none⟩ = some (.int .u64 (loN W : Nat)) ∧ X.cell? ⟨g8, 2, none⟩ = some (.int .i64 (k : Nat))) ∧ X.cell? ⟨g, 0, none⟩ = some (.string ⟨a.toArray⟩)) X) := fun X hX => ⟨((HP8.out.keep hX).r3 (.head _)).2, by rw [cell_row ((hX.block g (block_lt HGB2.out)).trans HGB2.out) 0]; exact c0'⟩
    have HB2 : Hid (Below x2.heap.size x2 (x2.alloc (.cells #[.int .u64 (hiN W : Nat), .int .u64 (loN W : Nat), .int .i64 (k : Nat), .bool false] 125)).drew) := below_drewA x2 _
    have HL3 := Lib.hid (HL2.out.keep HB2.out)
    have hcn : ∀ (j : Nat) (u : Value), ([.int .u64 (hiN W : Nat), .int .u64 (loN W : Nat), .int .i64 (k : Nat), .bool false] : List Value)[j]? = some u → (x2.alloc (.cells #[.int .u64 (hiN W : Nat), .int .u64 (loN W : Nat), .int .i64 (k : Nat), .bool false] 125)).drew.cell? ((⟨x2.heap.size, 0, none⟩ : Addr).add j) = some u := cells_new x2 [.int .u64 (hiN W : Nat), .int .u64 (loN W : Nat), .int .i64 (k : Nat), .bool false] 125
    have hoc : ∀ u ∈ ([.int .u64 (hiN W : Nat), .int .u64 (loN W : Nat), .int .i64 (k : Nat), .bool false] : List Value), u.oneCell' = true := ru_one (ruOf W k false)
    have HKG : Hid (∀ z, (x2.alloc (.cells #[.int .u64 (hiN W : Nat), .int .u64 (loN W : Nat), .int .i64 (k : Nat), .bool false] 125)).drew.grownBy z (Value.slice ra p.rs.length rc).ownBlock → ((fun (X : World) => (X.cell? ⟨g8, 0, none⟩ = some (.int .u64 (hiN W : Nat)) ∧ X.cell? ⟨g8, 1, none⟩ = some (.int .u64 (loN W : Nat)) ∧ X.cell? ⟨g8, 2, none⟩ = some (.int .i64 (k : Nat))) ∧ X.cell? ⟨g, 0, none⟩ = some (.string ⟨a.toArray⟩)) z) ∧ z.heap[x.heap.size]? = some (.cells #[.slice ra p.rs.length rc, .slice pa p.ps.length pc, .bool p.bare] 70)) := fun z hg => by
      have hk := KeptX.grownR HL3.out.rs.rows hg
      have h8 := hk _ _ _ ((HP8.out.keep HB2.out) _ (.head _)) ty7R ty7I
      have hs := hk _ _ _ ((HB2.out.block g (block_lt HGB2.out)).trans HGB2.out) tySRR tySI2
      exact ⟨⟨(row3 h8).1, by show z.cell? _ = _; rw [cell_row hs 0]; exact c0'⟩, hk _ _ _ HL3.out.box tyQP tyQI⟩
    have HKT : Hid (∀ (z : World) (u : Value), ((fun (X : World) => (X.cell? ⟨g8, 0, none⟩ = some (.int .u64 (hiN W : Nat)) ∧ X.cell? ⟨g8, 1, none⟩ = some (.int .u64 (loN W : Nat)) ∧ X.cell? ⟨g8, 2, none⟩ = some (.int .i64 (k : Nat))) ∧ X.cell? ⟨g, 0, none⟩ = some (.string ⟨a.toArray⟩)) z) → ((fun (X : World) => (X.cell? ⟨g8, 0, none⟩ = some (.int .u64 (hiN W : Nat)) ∧ X.cell? ⟨g8, 1, none⟩ = some (.int .u64 (loN W : Nat)) ∧ X.cell? ⟨g8, 2, none⟩ = some (.int .i64 (k : Nat))) ∧ X.cell? ⟨g, 0, none⟩ = some (.string ⟨a.toArray⟩)) (z.setCell ⟨x.heap.size, 0, none⟩ u))) := fun z u hz => by
      have hne : x.heap.size ≠ g8 := by have := HG8.out; omega
      have hng : x.heap.size ≠ g := by omega
      have e : ∀ i, (z.setCell ⟨x.heap.size, 0, none⟩ u).cell? ⟨g8, i, none⟩ = z.cell? ⟨g8, i, none⟩ := fun i => World.cell?_setCell_far z ⟨x.heap.size, 0, none⟩ ⟨g8, i, none⟩ u hne
      have e2 : ∀ i, (z.setCell ⟨x.heap.size, 0, none⟩ u).cell? ⟨g, i, none⟩ = z.cell? ⟨g, i, none⟩ := fun i => World.cell?_setCell_far z ⟨x.heap.size, 0, none⟩ ⟨g, i, none⟩ u hng
      refine ⟨⟨?_, ?_, ?_⟩, ?_⟩
      · rw [e]; exact hz.1.1
      · rw [e]; exact hz.1.2.1
      · rw [e]; exact hz.1.2.2
      · rw [e2]; exact hz.2
    have a0 := cell_row HL2.out.box 0
    simp at a0
    have b0 := cell_row HL3.out.box 0
    simp at b0
    have lb := block_lt HL2.out.box
    refine wp_region_held_drew (S := fun (X : World) => (X.cell? ⟨g8, 0, none⟩ = some (.int .u64 (hiN W : Nat)) ∧ X.cell? ⟨g8, 1, none⟩ = some (.int .u64 (loN W : Nat)) ∧ X.cell? ⟨g8, 2, none⟩ = some (.int .i64 (k : Nat))) ∧ X.cell? ⟨g, 0, none⟩ = some (.string ⟨a.toArray⟩)) (by kernel_rfl) ?_ (fun hHeld => ?_)
    · exact HK3.out _ (below_drew1 _)
    refine wpAnyH_take (i := 0) (oi := ⟨some 62, _, _, _, _, _⟩) (v := ?_) rfl (by kernel_rfl) (by kernel_rfl) (by kernel_rfl) (fun _ _ _ h => h) (Or.inl ⟨by rfl, ?_⟩) hHeld ?_
    rotate_left
    · intro w hSw
      (try dsimp only at hSw)
      go_simp
      try with_reducible rfl
    try simp only [Act.put, List.setIfInBounds_toArray, List.set_cons_zero, List.set_cons_succ]
    refine wpAnyH_take (i := 2) (oi := ⟨some 64, _, _, _, _, _⟩) (v := ?_) rfl (by kernel_rfl) (by kernel_rfl) (by kernel_rfl) (fun _ _ _ h => h) (Or.inl ⟨by rfl, ?_⟩) hHeld ?_
    rotate_left
    · intro w hSw
      (try dsimp only at hSw)
      go_simp
      try with_reducible rfl
    try simp only [Act.put, List.setIfInBounds_toArray, List.set_cons_zero, List.set_cons_succ]
    refine wpAnyH_take (i := 3) (oi := ⟨some 65, _, _, _, _, _⟩) (v := ?_) rfl (by kernel_rfl) (by kernel_rfl) (by kernel_rfl) (fun _ _ _ h => h) (Or.inl ⟨by rfl, ?_⟩) hHeld ?_
    rotate_left
    · intro w hSw
      (try dsimp only at hSw)
      go_simp
      try with_reducible rfl
    try simp only [Act.put, List.setIfInBounds_toArray, List.set_cons_zero, List.set_cons_succ]
    refine wpAnyH_take (i := 4) (oi := ⟨some 66, _, _, _, _, _⟩) (v := ?_) rfl (by kernel_rfl) (by kernel_rfl) (by kernel_rfl) (fun _ _ _ h => h) (Or.inl ⟨by rfl, ?_⟩) hHeld ?_
    rotate_left
    · intro w hSw
      (try dsimp only at hSw)
      go_simp
      try with_reducible rfl
    try simp only [Act.put, List.setIfInBounds_toArray, List.set_cons_zero, List.set_cons_succ]
    refine wpAnyH_take (i := 5) (oi := ⟨some 67, _, _, _, _, _⟩) (v := ?_) rfl (by kernel_rfl) (by kernel_rfl) (by kernel_rfl) (fun _ _ _ h => h) (Or.inl ⟨by rfl, ?_⟩) hHeld ?_
    rotate_left
    · intro w hSw
      (try dsimp only at hSw)
      go_simp
      try with_reducible rfl
    try simp only [Act.put, List.setIfInBounds_toArray, List.set_cons_zero, List.set_cons_succ]
    refine wpAnyH_take (i := 6) (oi := ⟨some 68, _, _, _, _, _⟩) (v := ?_) rfl (by kernel_rfl) (by kernel_rfl) (by kernel_rfl) (fun _ _ _ h => h) (Or.inl ⟨by rfl, ?_⟩) hHeld ?_
    rotate_left
    · intro w hSw
      (try dsimp only at hSw)
      go_simp
      try with_reducible rfl
    try simp only [Act.put, List.setIfInBounds_toArray, List.set_cons_zero, List.set_cons_succ]
    refine wpAnyH_take (i := 7) (oi := ⟨some 69, _, _, _, _, _⟩) (v := ?_) rfl (by kernel_rfl) (by kernel_rfl) (by kernel_rfl) (fun _ _ _ h => h) (Or.inl ⟨by rfl, ?_⟩) hHeld ?_
    rotate_left
    · intro w hSw
      (try dsimp only at hSw)
      go_simp
      try with_reducible rfl
    try simp only [Act.put, List.setIfInBounds_toArray, List.set_cons_zero, List.set_cons_succ]
    refine wpAnyH_ready (rs := [1, 8]) (by kernel_rfl) (by simp) ?_
    refine AllReadyH.cons (o := ⟨some 63, _, _, _, _, _⟩) rfl (fun K hK => ?_) (AllReadyH.cons (o := ⟨some 70, _, _, _, _, _⟩) rfl (fun K hK => ?_) AllReadyH.nil)
    · go_simp
      refine hK.out _ _ ?_ (fun hHeld1 => ?_)
      · exact HK3.out _ (below_drew1 _)
      clear hK K
      try simp only [Act.put, List.setIfInBounds_toArray, List.set_cons_zero, List.set_cons_succ]
      refine wpAnyH_ready (rs := [8]) (by kernel_rfl) (by simp) ?_
      refine AllReadyH.cons (o := ⟨some 70, _, _, _, _, _⟩) rfl (fun K hK => ?_) AllReadyH.nil
      go_simp
      refine hK.out _ _ ?_ (fun hHeld2 => ?_)
      · exact HK3.out _ HB2.out
      clear hK K
      try simp only [Act.put, List.setIfInBounds_toArray, List.set_cons_zero, List.set_cons_succ]
      refine wpAnyH_ready (rs := [9]) (by kernel_rfl) (by simp) ?_
      refine AllReadyH.cons (o := ⟨some 71, _, _, _, _, _⟩) rfl (fun K hK => ?_) AllReadyH.nil
      rw [if_pos (by kernel_rfl)]
      refine wp_append_own _ _ _ 68 rfl base 125 i0 (.agg #[.int .u64 0, .int .u64 0, .int .i64 0, .bool false]) 4 32 Tryz.underlying68 hi0 hz0 hz1 hz2 rfl (by decide) (.slice ra p.rs.length rc) p.rs.length (p.rs.flatMap Ru.cl) rfl HL3.out.rs.rows ⟨x2.heap.size, 0, none⟩ 1 1 [.int .u64 (hiN W : Nat), .int .u64 (loN W : Nat), .int .i64 (k : Nat), .bool false] rfl rfl hcn hoc (by unfold maxLen; omega) (by omega) HL3.out.rs.size ?_
      intro s1 w1 hown1 hgrow1 _
      obtain ⟨sa, sc, rfl⟩ := own_form hown1
      obtain ⟨hsw, hbz⟩ := HKG.out _ hgrow1
      have z0 := cell_row hbz 0
      have z1 := frozen_row hbz 0
      simp at z0
      refine hK.out _ _ ?_ (fun hHeld9 => ?_)
      · exact hsw
      clear hK K
      try simp only [Act.put, List.setIfInBounds_toArray, List.set_cons_zero, List.set_cons_succ]
      refine wpAnyH_take (i := 10) (oi := ⟨some 72, _, _, _, _, _⟩) (v := ?_) rfl (by kernel_rfl) (by kernel_rfl) (by kernel_rfl) (fun _ _ _ h => h) (Or.inl ⟨by rfl, ?_⟩) hHeld9 ?_
      rotate_left
      · intro w hSw
        (try dsimp only at hSw)
        go_simp
        try with_reducible rfl
      try simp only [Act.put, List.setIfInBounds_toArray, List.set_cons_zero, List.set_cons_succ]
      refine wpAnyH_ready (rs := [11]) (by kernel_rfl) (by simp) ?_
      refine AllReadyH.cons (o := ⟨none, _, _, _, _, _⟩) rfl (fun K hK => ?_) AllReadyH.nil
      go_simp
      refine hK.out _ _ ?_ (fun hHeld12 => ?_)
      · exact HKT.out _ _ hsw
      clear hK K
      try simp only [Act.put, List.setIfInBounds_toArray, List.set_cons_zero, List.set_cons_succ]
      refine wpAnyH_done (by kernel_rfl) ?_ _
      have HL4 := Lib.hid (HL2.out.rule (r := ruOf W k false) HB2.out hgrow1 hown1)
      try go_wp2
      go_meet
      exact HL4
    · go_simp
      refine hK.out _ _ ?_ (fun hHeld1 => ?_)
      · exact HK3.out _ HB2.out
      clear hK K
      try simp only [Act.put, List.setIfInBounds_toArray, List.set_cons_zero, List.set_cons_succ]
      refine wpAnyH_ready (rs := [1]) (by kernel_rfl) (by simp) ?_
      refine AllReadyH.cons (o := ⟨some 63, _, _, _, _, _⟩) rfl (fun K hK => ?_) AllReadyH.nil
      go_simp
      refine hK.out _ _ ?_ (fun hHeld2 => ?_)
      · exact HK3.out _ HB2.out
      clear hK K
      try simp only [Act.put, List.setIfInBounds_toArray, List.set_cons_zero, List.set_cons_succ]
      refine wpAnyH_ready (rs := [9]) (by kernel_rfl) (by simp) ?_
      refine AllReadyH.cons (o := ⟨some 71, _, _, _, _, _⟩) rfl (fun K hK => ?_) AllReadyH.nil
      rw [if_pos (by kernel_rfl)]
      refine wp_append_own _ _ _ 68 rfl base 125 i0 (.agg #[.int .u64 0, .int .u64 0, .int .i64 0, .bool false]) 4 32 Tryz.underlying68 hi0 hz0 hz1 hz2 rfl (by decide) (.slice ra p.rs.length rc) p.rs.length (p.rs.flatMap Ru.cl) rfl HL3.out.rs.rows ⟨x2.heap.size, 0, none⟩ 1 1 [.int .u64 (hiN W : Nat), .int .u64 (loN W : Nat), .int .i64 (k : Nat), .bool false] rfl rfl hcn hoc (by unfold maxLen; omega) (by omega) HL3.out.rs.size ?_
      intro s1 w1 hown1 hgrow1 _
      obtain ⟨sa, sc, rfl⟩ := own_form hown1
      obtain ⟨hsw, hbz⟩ := HKG.out _ hgrow1
      have z0 := cell_row hbz 0
      have z1 := frozen_row hbz 0
      simp at z0
      refine hK.out _ _ ?_ (fun hHeld9 => ?_)
      · exact hsw
      clear hK K
      try simp only [Act.put, List.setIfInBounds_toArray, List.set_cons_zero, List.set_cons_succ]
      refine wpAnyH_take (i := 10) (oi := ⟨some 72, _, _, _, _, _⟩) (v := ?_) rfl (by kernel_rfl) (by kernel_rfl) (by kernel_rfl) (fun _ _ _ h => h) (Or.inl ⟨by rfl, ?_⟩) hHeld9 ?_
      rotate_left
      · intro w hSw
        (try dsimp only at hSw)
        go_simp
        try with_reducible rfl
      try simp only [Act.put, List.setIfInBounds_toArray, List.set_cons_zero, List.set_cons_succ]
      refine wpAnyH_ready (rs := [11]) (by kernel_rfl) (by simp) ?_
      refine AllReadyH.cons (o := ⟨none, _, _, _, _, _⟩) rfl (fun K hK => ?_) AllReadyH.nil
      go_simp
      refine hK.out _ _ ?_ (fun hHeld12 => ?_)
      · exact HKT.out _ _ hsw
      clear hK K
      try simp only [Act.put, List.setIfInBounds_toArray, List.set_cons_zero, List.set_cons_succ]
      refine wpAnyH_done (by kernel_rfl) ?_ _
      have HL4 := Lib.hid (HL2.out.rule (r := ruOf W k false) HB2.out hgrow1 hown1)
      try go_wp2
      go_meet
      exact HL4
  case rest =>
  have HL4 := hcut
  clear hcut HL2 HGB2 HP8
  rename World => y
  obtain ⟨sa, sc, rfl⟩ := HL4.out.rs.rows.form
  rw [show (p.rs ++ [ruOf W k false]).length = p.rs.length + 1 from by simp] at HL4 ⊢
  cases ok with
  | true =>
    have ho := HOO.out
    rw [if_pos rfl] at ho
    subst ho
    have p0 := cell_row HL4.out.box 0
    have p1 := cell_row HL4.out.box 1
    have p2 := cell_row HL4.out.box 2
    simp at p0 p1 p2
    have lr := block_lt HL4.out.res
    have r0 := cell_row HL4.out.res 0
    have r1 := cell_row HL4.out.res 1
    have r2 := cell_row HL4.out.res 2
    simp at r0 r1 r2
    have f0 := frozen_row HL4.out.res 0
    have f1 := frozen_row HL4.out.res 1
    have f2 := frozen_row HL4.out.res 2
    have hrow := set3_row HL4.out.res (.slice sa (p.rs.length + 1) sc) (.slice pa p.ps.length pc) (.bool p.bare)
    have s0 := cell_row hrow 0
    have s1 := cell_row hrow 1
    have s2 := cell_row hrow 2
    simp at s0 s1 s2
    have HRR := Lib.hid (And.intro s0 (And.intro s1 s2))
    have HDN := Lib.hid HL4.out.done
    clear s0 s1 s2 hrow
    go_wp2
    obtain ⟨s0, s1, s2⟩ := HRR.out
    refine bodyPost_ret (v := .tuple #[.agg #[.slice sa (p.rs.length + 1) sc, .slice pa p.ps.length pc, .bool p.bare], .bool true]) (by simp [results, Tryz.results72, go_sem, s0, s1, s2]) rfl ?_
    refine ⟨HDN.out.2, ⟨p.rs ++ [ruOf W k false], p.ps, p.bare⟩, _, _, _, _, _, _, ?_, ?_, rfl, HDN.out.1, fun p2 e => by cases e; rfl⟩ <;> simp
  | false =>
    have ho := HOO.out
    rw [if_neg (by simp)] at ho
    subst ho
    have p0 := cell_row HL4.out.box 0
    have p1 := cell_row HL4.out.box 1
    have p2 := cell_row HL4.out.box 2
    simp at p0 p1 p2
    have lr := block_lt HL4.out.res
    have r0 := cell_row HL4.out.res 0
    have r1 := cell_row HL4.out.res 1
    have r2 := cell_row HL4.out.res 2
    simp at r0 r1 r2
    have f0 := frozen_row HL4.out.res 0
    have f1 := frozen_row HL4.out.res 1
    have f2 := frozen_row HL4.out.res 2
    have hrow := set3_row HL4.out.res (.slice sa (p.rs.length + 1) sc) (.slice pa p.ps.length pc) (.bool p.bare)
    have s0 := cell_row hrow 0
    have s1 := cell_row hrow 1
    have s2 := cell_row hrow 2
    simp at s0 s1 s2
    have HRR := Lib.hid (And.intro s0 (And.intro s1 s2))
    have HDN := Lib.hid HL4.out.done
    clear s0 s1 s2 hrow
    go_wp2
    obtain ⟨s0, s1, s2⟩ := HRR.out
    refine bodyPost_ret (v := .tuple #[.agg #[.slice sa (p.rs.length + 1) sc, .slice pa p.ps.length pc, .bool p.bare], .bool false]) (by simp [results, Tryz.results72, go_sem, s0, s1, s2]) rfl ?_
    refine ⟨HDN.out.2, ⟨p.rs ++ [ruOf W k false], p.ps, p.bare⟩, _, _, _, _, _, _, ?_, ?_, rfl, HDN.out.1, fun p2 e => by cases e⟩ <;> simp
end

section
open Go.RowKit
theorem refLine10_any (w x : World) (base : Nat) (rv pv : Value) (p : Pl) (B : Nat) (v : Value) (a : List UInt8) (r : List (List UInt8)) (h : RS w x base rv pv p) (hw : Parts B x v (a :: r)) (hh : hashB a = false) (hs : ∀ b ∈ a :: r, b.length ≤ 1000000) (hl1 : p.rs.length ≤ 1000000) (hl2 : p.ps.length ≤ 1000000) :
    Calls Tryz.prog 72 #[.agg #[rv, pv, .bool p.bare], v] x (RetLn w base x (lineZ p (a :: r))) := by
  obtain ⟨g, c, rfl, cs, hg, hcs⟩ := Parts.at hw (by simp)
  have c0' : cs[0]? = some (.string ⟨a.toArray⟩) := hcs 0 a rfl
  have c0 : x.cell? ⟨g, 0, none⟩ = some (.string ⟨a.toArray⟩) := by rw [cell_row hg 0]; exact c0'
  cases r with
  | nil =>
    cases hb : (a == wBare) with
    | true =>
      have e : lineZ p [a] = some ⟨p.rs, p.ps, true⟩ := by rw [lineZ, if_neg (by rw [hh]; simp)]; show (if (a == wBare) = true then _ else _) = _; rw [if_pos hb]
      rw [e]
      exact lineD_bare w x base g c rv pv p a h c0 hb
    | false =>
      have e : lineZ p [a] = none := by rw [lineZ, if_neg (by rw [hh]; simp)]; show (if (a == wBare) = true then _ else _) = _; rw [if_neg (by rw [hb]; simp)]
      rw [e]
      exact line_one w x base g c rv pv p a h c0 hb
  | cons b r =>
    cases r with
    | cons d r =>
      have e : lineZ p (a :: b :: d :: r) = none := by rw [lineZ, if_neg (by rw [hh]; simp)]
      rw [e]
      exact line_many w x base g c (a :: b :: d :: r).length rv pv p h (by simp)
    | nil =>
      have c1' : cs[1]? = some (.string ⟨b.toArray⟩) := hcs 1 b rfl
      have c1 : x.cell? ⟨g, 1, none⟩ = some (.string ⟨b.toArray⟩) := by rw [cell_row hg 1]; exact c1'
      have hbl : b.length ≤ 1000000 := hs b (.tail _ (.head _))
      have e : lineZ p [a, b] = argZ p a b := by rw [lineZ, if_neg (by rw [hh]; simp)]
      rw [e]
      unfold argZ
      cases hp : (a == wPort) with
      | true =>
        rw [if_pos rfl]
        obtain ⟨n, ok, hd⟩ : ∃ n ok, decZ b maxI = (n, ok) := ⟨_, _, rfl⟩
        rw [hd]
        exact line_port10 w x base g c rv pv p a b n ok h c0 c1 hp hbl hd hl2 _ rfl
      | false =>
        rw [if_neg (by simp)]
        have hz : ∀ X : World, Calls Tryz.prog 100 #[.string ⟨b.toArray⟩] X (RetPf X (parseP b)) := fun X => by
          have := rParse_any ⟨b.toArray⟩ X (by rw [size_mk]; omega)
          exact this
        cases ha : (a == wAllow) with
        | true =>
          rw [if_pos (.inl rfl)]
          cases hq : parseP b with
          | none =>
            rw [hq] at hz
            exact line_rule_true w x base g c rv pv p a b false 0 0 cs h hg c0' c1' hp ha hz hl1 _ rfl
          | some q =>
            rw [hq] at hz
            exact line_rule_true w x base g c rv pv p a b true q.1 q.2 cs h hg c0' c1' hp ha hz hl1 _ rfl
        | false =>
          cases hd : (a == wDeny) with
          | true =>
            rw [if_pos (.inr rfl)]
            cases hq : parseP b with
            | none =>
              rw [hq] at hz
              exact line_rule_false w x base g c rv pv p a b false 0 0 cs h hg c0' c1' hp ha hd hz hl1 _ rfl
            | some q =>
              rw [hq] at hz
              exact line_rule_false w x base g c rv pv p a b true q.1 q.2 cs h hg c0' c1' hp ha hd hz hl1 _ rfl
          | false =>
            rw [if_neg (by simp)]
            exact line_other w x base g c rv pv p a h c0 hp ha hd
/-- what the document's Parse returns -/
def RetRp (w : World) (o : Option Pl × Nat) (e : Ending) (w' : World) : Prop :=
  Below w.heap.size w w' ∧ match o.1 with
  | some p => ∃ rv pv, e = .returned (.tuple #[.agg #[rv, pv, .bool p.bare], .int .i64 0, .int .i64 0]) ∧ OwnX 125 4 Ru.cl w' w.heap.size rv p.rs ∧ OwnX 3 1 clI w' w.heap.size pv p.ps
  | none => e = .returned (.tuple #[.agg #[.slice none 0 0, .slice none 0 0, .bool false], .int .i64 (o.2 : Nat), .int .i64 4])
/-- within Parse: the policy's box, and the answer's -/
structure PQ (w y : World) (rv pv : Value) (p : Pl) : Prop where
  rs : RS w y w.heap.size rv pv p
  box : y.heap[w.heap.size + 1]? = some (.cells #[rv, pv, .bool p.bare] 70)
  res : y.heap[w.heap.size]? = some (.cells #[.slice none 0 0, .slice none 0 0, .bool false] 70)
theorem PQ.keep {w y z : World} {rv pv : Value} {p : Pl} (h : PQ w y rv pv p) (hb : Below y.heap.size y z) : PQ w z rv pv p :=
  ⟨h.rs.keep hb, (hb.block _ (block_lt h.box)).trans h.box, (hb.block _ (block_lt h.res)).trans h.res⟩
theorem PQ.first (w : World) : PQ w ((w.alloc (.cells #[.slice none 0 0, .slice none 0 0, .bool false] 70)).alloc (.cells #[.slice none 0 0, .slice none 0 0, .bool false] 70)) (.slice none 0 0) (.slice none 0 0) .zero := by
  have hb : Below w.heap.size w ((w.alloc (.cells #[.slice none 0 0, .slice none 0 0, .bool false] 70)).alloc (.cells #[.slice none 0 0, .slice none 0 0, .bool false] 70)) := ((Below.refl _ w).alloc (Nat.le_refl _) _).alloc (by simp) _
  have hL := ((Blks.empty w).new #[.slice none 0 0, .slice none 0 0, .bool false] 70).new #[.slice none 0 0, .slice none 0 0, .bool false] 70
  rw [show (w.alloc (.cells #[.slice none 0 0, .slice none 0 0, .bool false] 70)).heap.size = w.heap.size + 1 from by simp] at hL
  exact ⟨⟨hb, OwnX.nil _ _, OwnX.nil _ _, hb.size⟩, hL _ (.head _), hL _ (.tail _ (.head _))⟩
theorem PQ.set {w y : World} {rv pv rv' pv' : Value} {p q : Pl} (h : RS w y w.heap.size rv' pv' q) (hbox : y.heap[w.heap.size + 1]? = some (.cells #[rv, pv, .bool p.bare] 70)) (hres : y.heap[w.heap.size]? = some (.cells #[.slice none 0 0, .slice none 0 0, .bool false] 70)) : PQ w (((y.setCell ⟨w.heap.size + 1, 0, none⟩ rv').setCell ⟨w.heap.size + 1, 1, none⟩ pv').setCell ⟨w.heap.size + 1, 2, none⟩ (.bool q.bare)) rv' pv' q := by
  refine ⟨⟨set3_below h.below (Nat.le_succ _) _ _ _, h.rows.set3 hbox tyQP _ _ _, h.ports.set3 hbox tyQI _ _ _, ?_⟩, set3_row hbox _ _ _, ?_⟩
  · rw [show (((y.setCell ⟨w.heap.size + 1, 0, none⟩ rv').setCell ⟨w.heap.size + 1, 1, none⟩ pv').setCell ⟨w.heap.size + 1, 2, none⟩ (.bool q.bare)).heap.size = y.heap.size by simp [World.setCell]]
    exact h.size
  · exact (set_other (by omega) _ _).trans ((set_other (by omega) _ _).trans ((set_other (by omega) _ _).trans hres))
set_option maxRecDepth 100000 in
set_option maxHeartbeats 4000000 in
theorem refParse10_any (s : ByteArray) (w : World) (hs : s.size ≤ 100000) :
    Calls Tryz.prog 40 #[.string s] w (RetRp w (parseL .zero 0 (linesB s))) := by
  have hll : (linesB s).length ≤ 100001 := by
    have := split_count (hasB [10]) s.data.toList
    have e : s.data.toList.length = s.size := Array.length_toList
    unfold linesB
    omega
  have hsm : ∀ l ∈ linesB s, l.length ≤ 100000 := fun l hl => by
    have := split_small (hasB [10]) s.data.toList l hl
    rw [Array.length_toList] at this
    exact Nat.le_trans this hs
  have HSM := Lib.hid hsm
  have hls : linesB s ≠ [] := fun e => by
    have h0 : 0 < (linesB s).length := splitB_ne _ _
    rw [e] at h0
    simp at h0
  obtain ⟨x0, hx0⟩ : ∃ y, y = (w.alloc (.cells #[.slice none 0 0, .slice none 0 0, .bool false] 70)).alloc (.cells #[.slice none 0 0, .slice none 0 0, .bool false] 70) := ⟨_, rfl⟩
  have HP0 : Hid (PQ w x0 (.slice none 0 0) (.slice none 0 0) .zero) := by show PQ _ _ _ _ _; rw [hx0]; exact PQ.first w
  have HS := Lib.hid (refSplit_any s ⟨#[10]⟩ x0 (by omega) (by decide))
  rw [show splitB (hasB (ByteArray.mk #[10]).data.toList) s.data.toList = linesB s from rfl] at HS
  generalize linesB s = ls at *
  clear hsm
  go_enter Tryz.func40, Tryz.ntmps40
  go_wp2_with fail
  rw [← hx0]
  clear hx0
  refine HS.out.mono ?_
  rintro e x1 ⟨v, rfl, hv, hb1⟩
  obtain ⟨va, vc, rfl⟩ := own_form hv
  have HP1 := Lib.hid (HP0.out.keep hb1)
  have HV := Lib.hid hv
  clear hv hb1 HS HP0
  obtain ⟨g, c, hvf, cs, hg, hcs⟩ := Parts.at HV.out hls
  injection hvf with h1 h2 h3
  subst h1 h3
  have HLG := Lib.hid hg
  have HCS := Lib.hid hcs
  clear hg hcs HV h2
  go_wp2
  go_loopw [14] (fun i wr => ∃ (j : Nat) (p : Pl) (rv pv : Value), j ≤ ls.length ∧ i = .int .i64 j ∧ Hid (PQ w wr rv pv p) ∧ Hid (wr.heap[g]? = some (.cells cs 9)) ∧ Hid (parseL .zero 0 ls = parseL p j (ls.drop j)) ∧ p.rs.length ≤ j ∧ p.ps.length ≤ j) (fun i _ => ls.length - (intOf i).toNat)
  case atStart => exact ⟨0, .zero, _, _, Nat.zero_le _, rfl, HP1, HLG, rfl, Nat.zero_le _, Nat.zero_le _⟩
  case round =>
    obtain ⟨j, p, rv, pv, hj, rfl, HP, HL, HE, hr1, hr2⟩ := hrel
    by_cases hlt : j < ls.length
    · obtain ⟨l, hl⟩ : ∃ l, ls[j]? = some l := ⟨_, List.getElem?_eq_getElem hlt⟩
      have c0 : wr.cell? ⟨g, j, none⟩ = some (.string ⟨l.toArray⟩) := by
        rw [cell_row HL.out]
        exact HCS.out j l hl
      have hjl : (j : Int) < ls.length := by omega
      have hsl : l.length ≤ 100000 := HSM.out l (List.mem_of_getElem? hl)
      have HWD : Hid (Calls Tryz.prog 71 #[.string ⟨l.toArray⟩] wr (RetParts wr.heap.size (docWords l) wr)) := refWords10_any ⟨l.toArray⟩ wr (by rw [size_mk]; omega)
      have HDR : Hid (ls.drop j = l :: ls.drop (j + 1)) := by
        show _ = _
        rw [List.drop_eq_getElem_cons hlt]
        congr 1
        rw [List.getElem?_eq_getElem hlt] at hl
        exact Option.some.inj hl
      go_wp2_with fail
      refine HWD.out.mono ?_
      rintro e x2 ⟨v, rfl, hpv, hb2⟩
      have HP2 := Lib.hid (HP.out.keep hb2)
      have HL2 := Lib.hid ((hb2.block g (block_lt HL.out)).trans HL.out)
      clear hb2 HWD c0
      by_cases hdw : docWords l = []
      · have HQ : Hid (parseL .zero 0 ls = parseL p (j + 1) (ls.drop (j + 1))) := by show _ = _; rw [HE.out, HDR.out, parseL_some (doc_nil p hdw)]
        rw [hdw] at hpv
        obtain ⟨ua, uc, rfl⟩ := own_form hpv
        clear hpv hdw
        go_wp2
        go_roundw
        case rel => exact ⟨j + 1, p, rv, pv, by omega, by go_num, HP2, HL2, HQ, by omega, by omega⟩
        case measure => simp [intOf]; omega
      · obtain ⟨a, r, hwb, hdl, hh⟩ := doc_cons hdw
        rw [hdl] at hpv
        have hws : ∀ b ∈ a :: r, b.length ≤ 1000000 := fun b hb => Nat.le_trans (words_small hsl b (hwb ▸ hb)) (by omega)
        have HT := Lib.hid (refLine10_any w x2 w.heap.size rv pv p _ v a r HP2.out.rs hpv hh hws (by omega) (by omega))
        obtain ⟨ua, uc, rfl⟩ := own_form hpv
        have hne0 : (((a :: r).length : Int) == 0) = false := by rw [beq_eq_false_iff_ne]; simp; omega
        obtain ⟨ra, rc, rfl⟩ := HP2.out.rs.rows.form
        obtain ⟨pa, pc, rfl⟩ := HP2.out.rs.ports.form
        clear hpv hdw hws hh hdl
        have b0 := cell_row HP2.out.box 0
        have b1 := cell_row HP2.out.box 1
        have b2 := cell_row HP2.out.box 2
        simp at b0 b1 b2
        cases hz : lineZ p (wordsB l) with
        | some q2 =>
          have hz2 := hz
          rw [hwb] at hz2
          rw [hz2] at HT
          have HQ : Hid (parseL .zero 0 ls = parseL q2 (j + 1) (ls.drop (j + 1))) := by show _ = _; rw [HE.out, HDR.out, parseL_some hz]
          obtain ⟨hq1, hq2⟩ := lineZ_len hz
          clear hz hz2 hwb
          generalize (a :: r).length = nw at *
          go_wp2_with fail
          refine HT.out.mono ?_
          rintro e x3 ⟨hkx, q, qa, qb, qc, qd, n1, n2, rfl, rfl, rfl, hrs, hqo⟩
          obtain rfl : q = q2 := hqo _ rfl
          simp only [Option.isSome]
          have hal : Below x3.heap.size x3 (x3.alloc (.cells #[.slice qa q.rs.length qc, .slice qb q.ps.length qd, .bool q.bare] 70)) := (Below.refl _ _).alloc (Nat.le_refl _) _
          have HRS := Lib.hid (hrs.keep hal)
          have HBX := Lib.hid ((hal.block _ (block_lt (hkx _ _ _ HP2.out.box tyQP tyQI))).trans (hkx _ _ _ HP2.out.box tyQP tyQI))
          have HRE := Lib.hid ((hal.block _ (block_lt (hkx _ _ _ HP2.out.res tyQP tyQI))).trans (hkx _ _ _ HP2.out.res tyQP tyQI))
          have HL3 := Lib.hid ((hal.block _ (block_lt (hkx _ _ _ HL2.out tySRR tySI2))).trans (hkx _ _ _ HL2.out tySRR tySI2))
          have HN9 := Lib.hid ((Blks.empty x3).new #[.slice qa q.rs.length qc, .slice qb q.ps.length qd, .bool q.bare] 70)
          clear b0 b1 b2 hkx hrs hal HT HP2 HL2
          go_upto_region 8 with fail
          generalize x3.alloc (.cells #[.slice qa q.rs.length qc, .slice qb q.ps.length qd, .bool q.bare] 70) = y at *
          generalize x3.heap.size = g9 at *
          obtain ⟨l9, n0, n1, n2⟩ := HN9.out.r3 (.head _)
          have b0 := cell_row HBX.out 0
          have b1 := cell_row HBX.out 1
          have b2 := cell_row HBX.out 2
          simp at b0 b1 b2
          have f0 := frozen_row HBX.out 0
          have f1 := frozen_row HBX.out 1
          have f2 := frozen_row HBX.out 2
          have lb := block_lt HBX.out
          have HP4 := Lib.hid (PQ.set HRS.out HBX.out HRE.out)
          have hgne : g ≠ w.heap.size + 1 := fun e => by
            have h1 := HBX.out
            rw [← e, HL3.out] at h1
            injection h1 with h1
            injection h1 with _ h1
            exact absurd h1 (by decide)
          have HL4 : Hid ((((y.setCell ⟨w.heap.size + 1, 0, none⟩ (.slice qa q.rs.length qc)).setCell ⟨w.heap.size + 1, 1, none⟩ (.slice qb q.ps.length qd)).setCell ⟨w.heap.size + 1, 2, none⟩ (.bool q.bare)).heap[g]? = some (.cells cs 9)) := by
            show _ = _
            exact (set_other hgne _ _).trans ((set_other hgne _ _).trans ((set_other hgne _ _).trans HL3.out))
          clear hgne HN9 HRS HBX HRE HL3 hqo
          go_wp2
          go_roundw
          case rel => exact ⟨j + 1, q, _, _, by omega, by go_num, HP4, HL4, HQ, by omega, by omega⟩
          case measure => simp [intOf]; omega
        | none =>
          have hz2 := hz
          rw [hwb] at hz2
          rw [hz2] at HT
          have HQ : Hid (parseL .zero 0 ls = (none, j + 1)) := by show _ = _; rw [HE.out, HDR.out, parseL_none hz]
          clear hz hz2 hwb
          generalize (a :: r).length = nw at *
          go_wp2_with fail
          refine HT.out.mono ?_
          rintro e x3 ⟨hkx, q, qa, qb, qc, qd, n1, n2, rfl, rfl, rfl, hrs, _⟩
          simp only [Option.isSome]
          have hal : Below x3.heap.size x3 (x3.alloc (.cells #[.slice qa q.rs.length qc, .slice qb q.ps.length qd, .bool q.bare] 70)) := (Below.refl _ _).alloc (Nat.le_refl _) _
          have HRS := Lib.hid (hrs.keep hal)
          have HRE := Lib.hid ((hal.block _ (block_lt (hkx _ _ _ HP2.out.res tyQP tyQI))).trans (hkx _ _ _ HP2.out.res tyQP tyQI))
          clear b0 b1 b2 hkx hrs hal HT HP2 HL2
          go_upto_region 8 with fail
          generalize x3.alloc (.cells #[.slice qa q.rs.length qc, .slice qb q.ps.length qd, .bool q.bare] 70) = y at *
          have r0 := cell_row HRE.out 0
          have r1 := cell_row HRE.out 1
          have r2 := cell_row HRE.out 2
          simp at r0 r1 r2
          have f0 := frozen_row HRE.out 0
          have f1 := frozen_row HRE.out 1
          have f2 := frozen_row HRE.out 2
          have lb := block_lt HRE.out
          have hrow := set3_row HRE.out (.slice none 0 0) (.slice none 0 0) (.bool false)
          have s0 := cell_row hrow 0
          have s1 := cell_row hrow 1
          have s2 := cell_row hrow 2
          simp at s0 s1 s2
          have HB3 := Lib.hid (set3_below HRS.out.below (Nat.le_refl _) (.slice none 0 0) (.slice none 0 0) (.bool false))
          have HR := Lib.hid (And.intro s0 (And.intro s1 s2))
          clear s0 s1 s2 hrow HRS HRE
          go_wp2
          obtain ⟨s0, s1, s2⟩ := HR.out
          refine bodyPost_ret (v := .tuple #[.agg #[.slice none 0 0, .slice none 0 0, .bool false], .int .i64 ((j + 1 : Nat) : Int), .int .i64 4]) (by simp [results, Tryz.results40, go_sem, s0, s1, s2]) rfl ?_
          rw [HQ.out]
          exact ⟨HB3.out, rfl⟩
    · have hj' : j = ls.length := by omega
      subst hj'
      have HQ : Hid (parseL .zero 0 ls = (some p, 0)) := by show _ = _; rw [HE.out, List.drop_length]; rfl
      obtain ⟨ra, rc, rfl⟩ := HP.out.rs.rows.form
      obtain ⟨pa, pc, rfl⟩ := HP.out.rs.ports.form
      have p0 := cell_row HP.out.box 0
      have p1 := cell_row HP.out.box 1
      have p2 := cell_row HP.out.box 2
      simp at p0 p1 p2
      have r0 := cell_row HP.out.res 0
      have r1 := cell_row HP.out.res 1
      have r2 := cell_row HP.out.res 2
      simp at r0 r1 r2
      have lr := block_lt HP.out.res
      have f0 := frozen_row HP.out.res 0
      have f1 := frozen_row HP.out.res 1
      have f2 := frozen_row HP.out.res 2
      have hrow := set3_row HP.out.res (.slice ra p.rs.length rc) (.slice pa p.ps.length pc) (.bool p.bare)
      have s0 := cell_row hrow 0
      have s1 := cell_row hrow 1
      have s2 := cell_row hrow 2
      simp at s0 s1 s2
      have HB3 := Lib.hid (set3_below HP.out.rs.below (Nat.le_refl _) (.slice ra p.rs.length rc) (.slice pa p.ps.length pc) (.bool p.bare))
      have HO1 := Lib.hid (HP.out.rs.rows.set3 HP.out.res tyQP (.slice ra p.rs.length rc) (.slice pa p.ps.length pc) (.bool p.bare))
      have HO2 := Lib.hid (HP.out.rs.ports.set3 HP.out.res tyQI (.slice ra p.rs.length rc) (.slice pa p.ps.length pc) (.bool p.bare))
      have HR := Lib.hid (And.intro s0 (And.intro s1 s2))
      clear s0 s1 s2 hrow
      go_wp2
      obtain ⟨s0, s1, s2⟩ := HR.out
      refine bodyPost_ret (v := .tuple #[.agg #[.slice ra p.rs.length rc, .slice pa p.ps.length pc, .bool p.bare], .int .i64 0, .int .i64 0]) (by simp [results, Tryz.results40, go_sem, s0, s1, s2]) rfl ?_
      rw [HQ.out]
      exact ⟨HB3.out, _, _, rfl, HO1.out, HO2.out⟩
end

section
open Go.RowKit
theorem add_run (a b : List UInt8) (h : a.length + b.length ≤ 1000000000) : ∀ W, (Op.stringOp .add ⟨a.toArray⟩ ⟨b.toArray⟩).run Tryz.prog W = .ok (.string ⟨(a ++ b).toArray⟩) W := fun W => by
  rw [run_string_add_sum W _ _ (by rw [size_mk, size_mk]; omega), cat2]
theorem add_fit (a b : List UInt8) (h : a.length + b.length ≤ 1000000000) : ¬ ((ByteArray.mk a.toArray).size + (ByteArray.mk b.toArray).size > 9223372036854775807) := by rw [size_mk, size_mk]; omega
set_option maxHeartbeats 1000000 in
theorem word10_any (x : Ru) (w : World) :
    Calls Tryz.prog 76 #[.agg #[.int .u64 (x.hi : Nat), .int .u64 (x.lo : Nat), .int .i64 x.k, .bool x.a]] w fun e w' => e = .returned (.string ⟨(wordR x.a).toArray⟩) ∧ Below w.heap.size w w' := by
  cases ha : x.a with
  | true =>
    go_enter Tryz.func76, Tryz.ntmps76
    go_wp2
    go_ret
    exact ⟨rfl, (Below.refl _ _).alloc (Nat.le_refl _) _⟩
  | false =>
    go_enter Tryz.func76, Tryz.ntmps76
    go_wp2
    go_ret
    exact ⟨rfl, (Below.refl _ _).alloc (Nat.le_refl _) _⟩
/-- a policy, and what is written of it -/
structure PB (w wr : World) (b : Nat) (P : Array Value) (acc : List UInt8) : Prop where
  below : Below w.heap.size w wr
  eb : b = w.heap.size + 1
  blk : wr.heap[w.heap.size]? = some (.cells P 61)
  isb : Lib.IsBuilderF 146 5 b b (Lib.byteCells acc) wr
  size : b < wr.heap.size
theorem PB.keep {w wr x : World} {b : Nat} {P : Array Value} {acc : List UInt8} (h : PB w wr b P acc) (hb : Below wr.heap.size wr x) : PB w x b P acc :=
  ⟨below_chain7 h.below hb, h.eb, (hb.block _ (block_lt h.blk)).trans h.blk, isb_below h.isb hb, Nat.lt_of_lt_of_le h.size hb.size⟩
theorem PB.write {w wr : World} {b : Nat} {P : Array Value} {acc s : List UInt8} (h : PB w wr b P acc) (hl : acc.length + s.length ≤ 1000000000) :
    Calls Tryz.prog 75 #[.pointer (some ⟨b, 0, none⟩), .string ⟨s.toArray⟩] wr fun e x => (∃ n : Int, e = .returned (.tuple #[.int .i64 n, .nilIface])) ∧ PB w x b P (acc ++ s) ∧ Lib.OthersKept 5 (some b) wr x := by
  refine (Tryz.Builder_WriteString_k b b _ _ _ h.isb (by rw [Lib.byteCells_length, size_mk]; omega) (Nat.le_of_lt h.size)).mono ?_
  rintro e x ⟨rfl, h4, b4, k4⟩
  have hle : w.heap.size ≤ b := by rw [h.eb]; omega
  have hlt : w.heap.size < b := by rw [h.eb]; omega
  refine ⟨⟨_, rfl⟩, ⟨h.below.trans (b4.mono hle), h.eb, (b4.block _ hlt).trans h.blk, ?_, Nat.lt_of_lt_of_le h.size b4.size⟩, k4⟩
  rw [Lib.byteCells_append]
  exact .inr h4
theorem PB.first (w : World) (P : Array Value) : PB w ((w.alloc (.cells P 61)).alloc (.cells #[.pointer none, .slice none 0 0] 146)) (w.heap.size + 1) P [] := by
  have h0 := (Blks.empty w).new P 61
  have hs : (w.alloc (.cells P 61)).heap.size = w.heap.size + 1 := by simp
  refine ⟨((Below.refl _ w).alloc (Nat.le_refl _) _).alloc (by simp) _, rfl, (h0.keep ((Below.refl _ _).alloc (Nat.le_refl _) _)) _ (.head _), ?_, by simp⟩
  have := Lib.IsBuilderF.of (Lib.fresh_isBuilder 146 5 (w.alloc (.cells P 61)))
  rw [hs] at this
  exact this
theorem tyU8 : 99 ≠ 5 := by decide
theorem rule_box {y : World} {g : Nat} {c0 c1 c2 c3 : Value} {t : TypeId} (h : y.heap[g]? = some (.cells #[c0, c1, c2, c3] t)) : y.cell? ⟨g, 0, none⟩ = some c0 ∧ y.cell? ⟨g, 1, none⟩ = some c1 ∧ y.cell? ⟨g, 2, none⟩ = some c2 ∧ y.cell? ⟨g, 3, none⟩ = some c3 := by
  have L : Blks [(g, #[c0, c1, c2, c3], t)] y := fun e he => by rw [List.mem_singleton.1 he]; exact h
  exact (L.q4 (.head _)).2
theorem flat_take {α : Type} {f : α → List UInt8} {l : List α} {j : Nat} {x : α} (h : l[j]? = some x) (a : List UInt8) : a ++ (l.take (j + 1)).flatMap f = a ++ (l.take j).flatMap f ++ f x := by
  rw [List.take_add_one, h, List.flatMap_append]; simp
theorem take_len {α : Type} {f : α → List UInt8} {l : List α} {m : Nat} (h : ∀ x ∈ l, (f x).length ≤ m) (j : Nat) : ((l.take j).flatMap f).length ≤ l.length * m := by
  have h1 := bytes_flat (l.take j) (fun x hx => h x (List.mem_of_mem_take hx))
  have h2 : (l.take j).length ≤ l.length := by rw [List.length_take]; omega
  exact Nat.le_trans h1 (Nat.mul_le_mul_right m h2)
theorem IsIRow.ok {w : World} {a : Option Addr} {len cap : Nat} {zs : List Int} (h : IsIRow w a len cap zs) : ∀ x ∈ zs, -9223372036854775808 ≤ x ∧ x ≤ 9223372036854775807 := fun x hx => by
  obtain ⟨i, hi, e⟩ := List.getElem_of_mem hx
  exact (h.2 i x (by rw [List.getElem?_eq_getElem hi, e])).2
theorem Ru.text_len {x : Ru} (h : x.Ok) : (textPf x.hi x.lo x.k).length ≤ 100 := textPf_len x.hi x.lo x.k h.1 h.2.1 h.2.2.1 h.2.2.2
theorem wordR_len (a : Bool) : (wordR a).length ≤ 5 := by cases a <;> decide
set_option maxRecDepth 100000 in
set_option maxHeartbeats 8000000 in
theorem print10_any (ra pa : Option Addr) (rc pc : Nat) (bare : Bool) (rs : List Ru) (ps : List Int) (w : World) (hpow : PowTab w) (hbru : BruTab w) (hr : IsURow w ra rs.length rc rs) (hp : IsIRow w pa ps.length pc ps) (l1 : rs.length ≤ 1000) (l2 : ps.length ≤ 1000) :
    Calls Tryz.prog 42 #[.agg #[.slice ra rs.length rc, .slice pa ps.length pc, .bool bare]] w (RetStr w (printZ rs ps bare)) := by
  have HRO := Lib.hid hr
  have HPO := Lib.hid hp
  have HPW := Lib.hid hpow
  have HBR := Lib.hid hbru
  have HRK := Lib.hid hr.ok
  have HPK := Lib.hid hp.ok
  clear hpow hbru hr hp
  cases bare with
  | true =>
    have HF := Lib.hid (PB.first w #[.slice ra rs.length rc, .slice pa ps.length pc, .bool true])
    go_enter Tryz.func42, Tryz.ntmps42
    go_wp2_with fail
    refine (HF.out.write (s := [98, 97, 114, 101, 10]) (by simp)).mono ?_
    rintro e x1 ⟨⟨n1, rfl⟩, hp1, _⟩
    obtain ⟨PA, hPA⟩ : ∃ X : Array Value, X = #[.slice ra rs.length rc, .slice pa ps.length pc, .bool true] := ⟨_, rfl⟩
    have HPA := Lib.hid hPA
    have HP1 : Hid (PB w x1 (w.heap.size + 1) PA (headB true)) := by show PB _ _ _ _ _; rw [hPA]; exact hp1
    have p0 := cell_row hp1.blk 0
    simp at p0
    clear hp1 HF hPA
    go_wp2
    go_loopw [14] (fun i wr => ∃ j : Nat, j ≤ rs.length ∧ i = .int .i64 j ∧ Hid (PB w wr (w.heap.size + 1) PA (headB true ++ (rs.take j).flatMap (fun x => endL (lineR x))))) (fun i _ => rs.length - (intOf i).toNat)
    case atStart => exact ⟨0, Nat.zero_le _, rfl, by show PB _ _ _ _ _; simpa using HP1.out⟩
    case round =>
      obtain ⟨j, hj, rfl, HP⟩ := hrel
      by_cases hlt : j < rs.length
      · obtain ⟨ad, rfl, x, hx, ⟨c0, c1, c2, c3⟩, hxo⟩ := (HRO.out.keep HP.out.below).at hlt
        have HXO := Lib.hid hxo
        have hjl : (j : Int) < rs.length := by omega
        have HSN := Lib.hid (flat_take (f := fun x => endL (lineR x)) hx (headB true))
        have hal : (headB true ++ (rs.take j).flatMap (fun x => endL (lineR x))).length ≤ 200000 := by
          have h1 := take_len (f := fun x => endL (lineR x)) (fun y hy => lineR_len (HRK.out y hy)) j
          have h2 := headB_len true
          rw [List.length_append]; omega
        generalize headB true ++ (rs.take j).flatMap (fun x => endL (lineR x)) = acc at *
        have hTl := Ru.text_len HXO.out
        have hWl := wordR_len x.a
        have HEQ : Hid (endL (lineR x) = wordR x.a ++ [32] ++ textPf x.hi x.lo x.k ++ [10]) := by show _ = _; simp [endL, lineR]
        have HBX := Lib.hid ((Blks.empty wr).new #[.int .u64 (x.hi : Nat), .int .u64 (x.lo : Nat), .int .i64 x.k, .bool x.a] 99)
        have HBE : Hid (Below wr.heap.size wr (wr.alloc (.cells #[.int .u64 (x.hi : Nat), .int .u64 (x.lo : Nat), .int .i64 x.k, .bool x.a] 99))) := (Below.refl _ _).alloc (Nat.le_refl _) _
        have HPY := Lib.hid (HP.out.keep HBE.out)
        go_wp2
        generalize wr.alloc (.cells #[.int .u64 (x.hi : Nat), .int .u64 (x.lo : Nat), .int .i64 x.k, .bool x.a] 99) = y at *
        obtain ⟨g, hgw⟩ : ∃ g, wr.heap.size = g := ⟨_, rfl⟩
        rw [hgw] at HBX ⊢
        have HGB : Hid (w.heap.size + 1 < g) := hgw ▸ HP.out.size
        clear hxo c0 c1 c2 c3 hgw HP HBE
        have HWD : Hid (∀ W, Below y.heap.size y W → Calls Tryz.prog 76 #[.agg #[.int .u64 (x.hi : Nat), .int .u64 (x.lo : Nat), .int .i64 x.k, .bool x.a]] W fun e w' => e = .returned (.string ⟨(wordR x.a).toArray⟩) ∧ Below y.heap.size y w') := fun W hW => (word10_any x W).mono (fun e w' h => ⟨h.1, below_chain7 hW h.2⟩)
        have HTX : Hid (∀ W, Below y.heap.size y W → Calls Tryz.prog 77 #[.agg #[.int .u64 (x.hi : Nat), .int .u64 (x.lo : Nat), .int .i64 x.k]] W fun e w' => e = .returned (.string ⟨(textPf x.hi x.lo x.k).toArray⟩) ∧ Below y.heap.size y w') := fun W hW => (pText_any x.hi x.lo x.k W HXO.out.1 HXO.out.2.1 HXO.out.2.2.1 HXO.out.2.2.2 (powTab_below HPW.out (below_chain7 HPY.out.below hW)) (bruTab_below HBR.out (below_chain7 HPY.out.below hW))).mono (fun e w' h => ⟨h.1, below_chain7 hW h.2⟩)
        generalize wordR x.a = Wd at *
        generalize textPf x.hi x.lo x.k = T at *
        obtain ⟨Z1, hZ1⟩ : ∃ z, z = Wd ++ [32] := ⟨_, rfl⟩
        obtain ⟨Z2, hZ2⟩ : ∃ z, z = Z1 ++ T := ⟨_, rfl⟩
        obtain ⟨Z3, hZ3⟩ : ∃ z, z = Z2 ++ [10] := ⟨_, rfl⟩
        have l1' : Z1.length = Wd.length + 1 := by rw [hZ1]; simp
        have l2' : Z2.length = Z1.length + T.length := by rw [hZ2]; simp
        have l3' : Z3.length = Z2.length + 1 := by rw [hZ3]; simp
        have hadd1 : ∀ W, (Op.stringOp .add ⟨Wd.toArray⟩ ⟨#[32]⟩).run Tryz.prog W = .ok (.string ⟨Z1.toArray⟩) W := by rw [hZ1]; exact add_run Wd [32] (by simp; omega)
        have hadd2 : ∀ W, (Op.stringOp .add ⟨Z1.toArray⟩ ⟨T.toArray⟩).run Tryz.prog W = .ok (.string ⟨Z2.toArray⟩) W := by rw [hZ2]; exact add_run Z1 T (by omega)
        have hadd3 : ∀ W, (Op.stringOp .add ⟨Z2.toArray⟩ ⟨#[10]⟩).run Tryz.prog W = .ok (.string ⟨Z3.toArray⟩) W := by rw [hZ3]; exact add_run Z2 [10] (by simp; omega)
        have hg1 : ¬ ((ByteArray.mk Wd.toArray).size + (ByteArray.mk #[32]).size > 9223372036854775807) := add_fit Wd [32] (by simp; omega)
        have hg2 : ¬ ((ByteArray.mk Z1.toArray).size + (ByteArray.mk T.toArray).size > 9223372036854775807) := add_fit Z1 T (by omega)
        have hg3 : ¬ ((ByteArray.mk Z2.toArray).size + (ByteArray.mk #[10]).size > 9223372036854775807) := add_fit Z2 [10] (by simp; omega)
        have HZ : Hid (endL (lineR x) = Z3) := by show _ = _; rw [HEQ.out, hZ3, hZ2, hZ1]
        have HK : Hid (∀ W, Below y.heap.size y W → W.cell? ⟨g, 0, none⟩ = some (.int .u64 (x.hi : Nat)) ∧ W.cell? ⟨g, 1, none⟩ = some (.int .u64 (x.lo : Nat)) ∧ W.cell? ⟨g, 2, none⟩ = some (.int .i64 x.k) ∧ W.cell? ⟨g, 3, none⟩ = some (.bool x.a)) := fun W hW => ((HBX.out.keep hW).q4 (.head _)).2
        have HWS : Hid (∀ W, Below y.heap.size y W → Calls Tryz.prog 75 #[.pointer (some ⟨w.heap.size + 1, 0, none⟩), .string ⟨Z3.toArray⟩] W fun e w' => (∃ n : Int, e = .returned (.tuple #[.int .i64 n, .nilIface])) ∧ PB w w' (w.heap.size + 1) PA (acc ++ Z3) ∧ (w'.cell? ⟨g, 0, none⟩ = some (.int .u64 (x.hi : Nat)) ∧ w'.cell? ⟨g, 1, none⟩ = some (.int .u64 (x.lo : Nat)) ∧ w'.cell? ⟨g, 2, none⟩ = some (.int .i64 x.k) ∧ w'.cell? ⟨g, 3, none⟩ = some (.bool x.a))) := fun W hW => ((HPY.out.keep hW).write (s := Z3) (by omega)).mono (fun e w' h => ⟨h.1, h.2.1, by
          have hgw := (HBX.out.keep hW) _ (.head _)
          have hgb := HGB.out
          exact rule_box (h.2.2 g _ hgw (fun e => by simp only [Option.some.injEq] at e; omega) (fun c fz e => by injection e with _ e; exact tyU8 e))⟩)
        clear hZ1 hZ2 hZ3 HEQ HPY HBX
        go_region_held3 (fun W => W.cell? ⟨g, 0, none⟩ = some (.int .u64 (x.hi : Nat)) ∧ W.cell? ⟨g, 1, none⟩ = some (.int .u64 (x.lo : Nat)) ∧ W.cell? ⟨g, 2, none⟩ = some (.int .i64 x.k) ∧ W.cell? ⟨g, 3, none⟩ = some (.bool x.a)) (first | exact HK.out _ (below_drew1 _) | exact HK.out _ hb5 | exact HK.out _ hb6 | exact hs7) (first
          | (go_simp; go_at_call 76; ((with_reducible refine (HWD.out _ (below_drew1 _)).mono ?_); rintro e x5 ⟨rfl, hb5⟩))
          | (go_simp; go_at_call 77; ((with_reducible refine (HTX.out _ hb5).mono ?_); rintro e x6 ⟨rfl, hb6⟩))
          | (go_simp; go_at_call 75; ((with_reducible refine (HWS.out _ hb6).mono ?_); rintro e x7 ⟨⟨n7, rfl⟩, hp7, hs7⟩)))
        have HP7 : Hid (PB w x7 (w.heap.size + 1) PA (headB true ++ (rs.take (j + 1)).flatMap (fun x => endL (lineR x)))) := by
          show PB _ _ _ _ _
          rw [HSN.out, HZ.out]; exact hp7
        clear hp7 hs7
        go_wp2
        go_roundw
        case rel => exact ⟨j + 1, by omega, by go_num, HP7⟩
        case measure => simp [intOf]; omega
      · have hj' : j = rs.length := by omega
        subst hj'
        rw [List.take_length] at HP
        have hal : (headB true ++ rs.flatMap (fun x => endL (lineR x))).length ≤ 200000 := by
          have h1 := bytes_flat (f := fun x => endL (lineR x)) rs (fun y hy => lineR_len (HRK.out y hy))
          have h2 := headB_len true
          rw [List.length_append]; omega
        have HEN : Hid (printZ rs ps true = headB true ++ rs.flatMap (fun x => endL (lineR x)) ++ ps.flatMap (fun n => endL (lineP n))) := rfl
        generalize headB true ++ rs.flatMap (fun x => endL (lineR x)) = acc0 at *
        generalize printZ rs ps true = OUT at *
        have p1 := cell_row HP.out.blk 1
        rw [HPA.out] at p1
        simp at p1
        have HPP := Lib.hid HP.out
        go_wp2
        go_loopw [31] (fun i wr => ∃ k : Nat, k ≤ ps.length ∧ i = .int .i64 k ∧ Hid (PB w wr (w.heap.size + 1) PA (acc0 ++ (ps.take k).flatMap (fun n => endL (lineP n))))) (fun i _ => ps.length - (intOf i).toNat)
        case atStart => exact ⟨0, Nat.zero_le _, rfl, by show PB _ _ _ _ _; simpa using HPP.out⟩
        case round =>
          obtain ⟨k, hk, rfl, HQ⟩ := hrel
          by_cases hkt : k < ps.length
          · obtain ⟨ad, rfl, n, hn, r0, hnb⟩ := HPO.out.at HQ.out.below hkt
            have hkl : (k : Int) < ps.length := by omega
            have HSN := Lib.hid (flat_take (f := fun n => endL (lineP n)) hn acc0)
            have hal2 : (acc0 ++ (ps.take k).flatMap (fun n => endL (lineP n))).length ≤ 400000 := by
              have h1 := take_len (f := fun n => endL (lineP n)) (fun y hy => lineP_len (HPK.out y hy).1 (HPK.out y hy).2) k
              rw [List.length_append]; omega
            generalize acc0 ++ (ps.take k).flatMap (fun n => endL (lineP n)) = acc at *
            have hIl := Lib.itoa_length_le n hnb.1 hnb.2
            have HEQ : Hid (endL (lineP n) = wPort ++ [32] ++ Lib.itoa n ++ [10]) := by show _ = _; simp [endL, lineP]
            have HIT := Lib.hid (itoaP_any n wr hnb.1 hnb.2 (powTab_below HPW.out HQ.out.below))
            generalize Lib.itoa n = I at *
            obtain ⟨Z1, hZ1⟩ : ∃ z, z = wPort ++ [32] ++ I := ⟨_, rfl⟩
            obtain ⟨Z2, hZ2⟩ : ∃ z, z = Z1 ++ [10] := ⟨_, rfl⟩
            have l1' : Z1.length = 5 + I.length := by rw [hZ1]; simp [wPort]; omega
            have l2' : Z2.length = Z1.length + 1 := by rw [hZ2]; simp
            have hadd1 : ∀ W, (Op.stringOp .add ⟨#[112, 111, 114, 116, 32]⟩ ⟨I.toArray⟩).run Tryz.prog W = .ok (.string ⟨Z1.toArray⟩) W := by rw [hZ1]; exact add_run [112, 111, 114, 116, 32] I (by simp; omega)
            have hadd2 : ∀ W, (Op.stringOp .add ⟨Z1.toArray⟩ ⟨#[10]⟩).run Tryz.prog W = .ok (.string ⟨Z2.toArray⟩) W := by rw [hZ2]; exact add_run Z1 [10] (by simp; omega)
            have hg1 : ¬ ((ByteArray.mk #[112, 111, 114, 116, 32]).size + (ByteArray.mk I.toArray).size > 9223372036854775807) := add_fit [112, 111, 114, 116, 32] I (by simp; omega)
            have hg2 : ¬ ((ByteArray.mk Z1.toArray).size + (ByteArray.mk #[10]).size > 9223372036854775807) := add_fit Z1 [10] (by simp; omega)
            have HZ : Hid (endL (lineP n) = Z2) := by show _ = _; rw [HEQ.out, hZ2, hZ1]
            clear hZ1 hZ2 HEQ
            go_wp2_with fail
            refine HIT.out.mono ?_
            rintro e x5 ⟨rfl, hb5⟩
            have HQ5 := Lib.hid (HQ.out.keep hb5)
            clear hb5 r0 HIT HQ
            go_wp2_with fail
            refine (HQ5.out.write (s := Z2) (by omega)).mono ?_
            rintro e x6 ⟨⟨n6, rfl⟩, hp6, _⟩
            have HP6 : Hid (PB w x6 (w.heap.size + 1) PA (acc0 ++ (ps.take (k + 1)).flatMap (fun n => endL (lineP n)))) := by
              show PB _ _ _ _ _
              rw [HSN.out, HZ.out]; exact hp6
            clear hp6 HQ5
            go_wp2
            go_roundw
            case rel => exact ⟨k + 1, by omega, by go_num, HP6⟩
            case measure => simp [intOf]; omega
          · have hk' : k = ps.length := by omega
            subst hk'
            rw [List.take_length] at HQ
            have hal2 : (acc0 ++ ps.flatMap (fun n => endL (lineP n))).length ≤ 400000 := by
              have h1 := bytes_flat (f := fun n => endL (lineP n)) ps (fun y hy => lineP_len (HPK.out y hy).1 (HPK.out y hy).2)
              rw [List.length_append]; omega
            have hsz : w.heap.size + 1 ≤ wr.heap.size := Nat.le_of_lt HQ.out.size
            generalize acc0 ++ ps.flatMap (fun n => endL (lineP n)) = acc at *
            go_wp2_with fail
            refine (Tryz.Builder_String_any_k (w.heap.size + 1) (w.heap.size + 1) _ _ HQ.out.isb hsz).mono ?_
            rintro e x5 ⟨rfl, _, b5, _⟩
            go_wp2
            go_ret
            rw [HEN.out]
            exact ⟨rfl, HQ.out.below.trans (b5.mono (by omega))⟩
  | false =>
    obtain ⟨x1, hx1⟩ : ∃ x, x = (w.alloc (.cells #[.slice ra rs.length rc, .slice pa ps.length pc, .bool false] 61)).alloc (.cells #[.pointer none, .slice none 0 0] 146) := ⟨_, rfl⟩
    obtain ⟨PA, hPA⟩ : ∃ X : Array Value, X = #[.slice ra rs.length rc, .slice pa ps.length pc, .bool false] := ⟨_, rfl⟩
    have HPA := Lib.hid hPA
    have HP1 : Hid (PB w x1 (w.heap.size + 1) PA (headB false)) := by show PB _ _ _ _ _; rw [hx1, hPA]; exact PB.first w _
    clear hPA
    go_enter Tryz.func42, Tryz.ntmps42
    go_wp2
    rw [← hx1]
    clear hx1
    go_loopw [14] (fun i wr => ∃ j : Nat, j ≤ rs.length ∧ i = .int .i64 j ∧ Hid (PB w wr (w.heap.size + 1) PA (headB false ++ (rs.take j).flatMap (fun x => endL (lineR x))))) (fun i _ => rs.length - (intOf i).toNat)
    case atStart => exact ⟨0, Nat.zero_le _, rfl, by show PB _ _ _ _ _; simpa using HP1.out⟩
    case round =>
      obtain ⟨j, hj, rfl, HP⟩ := hrel
      by_cases hlt : j < rs.length
      · obtain ⟨ad, rfl, x, hx, ⟨c0, c1, c2, c3⟩, hxo⟩ := (HRO.out.keep HP.out.below).at hlt
        have HXO := Lib.hid hxo
        have hjl : (j : Int) < rs.length := by omega
        have HSN := Lib.hid (flat_take (f := fun x => endL (lineR x)) hx (headB false))
        have hal : (headB false ++ (rs.take j).flatMap (fun x => endL (lineR x))).length ≤ 200000 := by
          have h1 := take_len (f := fun x => endL (lineR x)) (fun y hy => lineR_len (HRK.out y hy)) j
          have h2 := headB_len false
          rw [List.length_append]; omega
        generalize headB false ++ (rs.take j).flatMap (fun x => endL (lineR x)) = acc at *
        have hTl := Ru.text_len HXO.out
        have hWl := wordR_len x.a
        have HEQ : Hid (endL (lineR x) = wordR x.a ++ [32] ++ textPf x.hi x.lo x.k ++ [10]) := by show _ = _; simp [endL, lineR]
        have HBX := Lib.hid ((Blks.empty wr).new #[.int .u64 (x.hi : Nat), .int .u64 (x.lo : Nat), .int .i64 x.k, .bool x.a] 99)
        have HBE : Hid (Below wr.heap.size wr (wr.alloc (.cells #[.int .u64 (x.hi : Nat), .int .u64 (x.lo : Nat), .int .i64 x.k, .bool x.a] 99))) := (Below.refl _ _).alloc (Nat.le_refl _) _
        have HPY := Lib.hid (HP.out.keep HBE.out)
        go_wp2
        generalize wr.alloc (.cells #[.int .u64 (x.hi : Nat), .int .u64 (x.lo : Nat), .int .i64 x.k, .bool x.a] 99) = y at *
        obtain ⟨g, hgw⟩ : ∃ g, wr.heap.size = g := ⟨_, rfl⟩
        rw [hgw] at HBX ⊢
        have HGB : Hid (w.heap.size + 1 < g) := hgw ▸ HP.out.size
        clear hxo c0 c1 c2 c3 hgw HP HBE
        have HWD : Hid (∀ W, Below y.heap.size y W → Calls Tryz.prog 76 #[.agg #[.int .u64 (x.hi : Nat), .int .u64 (x.lo : Nat), .int .i64 x.k, .bool x.a]] W fun e w' => e = .returned (.string ⟨(wordR x.a).toArray⟩) ∧ Below y.heap.size y w') := fun W hW => (word10_any x W).mono (fun e w' h => ⟨h.1, below_chain7 hW h.2⟩)
        have HTX : Hid (∀ W, Below y.heap.size y W → Calls Tryz.prog 77 #[.agg #[.int .u64 (x.hi : Nat), .int .u64 (x.lo : Nat), .int .i64 x.k]] W fun e w' => e = .returned (.string ⟨(textPf x.hi x.lo x.k).toArray⟩) ∧ Below y.heap.size y w') := fun W hW => (pText_any x.hi x.lo x.k W HXO.out.1 HXO.out.2.1 HXO.out.2.2.1 HXO.out.2.2.2 (powTab_below HPW.out (below_chain7 HPY.out.below hW)) (bruTab_below HBR.out (below_chain7 HPY.out.below hW))).mono (fun e w' h => ⟨h.1, below_chain7 hW h.2⟩)
        generalize wordR x.a = Wd at *
        generalize textPf x.hi x.lo x.k = T at *
        obtain ⟨Z1, hZ1⟩ : ∃ z, z = Wd ++ [32] := ⟨_, rfl⟩
        obtain ⟨Z2, hZ2⟩ : ∃ z, z = Z1 ++ T := ⟨_, rfl⟩
        obtain ⟨Z3, hZ3⟩ : ∃ z, z = Z2 ++ [10] := ⟨_, rfl⟩
        have l1' : Z1.length = Wd.length + 1 := by rw [hZ1]; simp
        have l2' : Z2.length = Z1.length + T.length := by rw [hZ2]; simp
        have l3' : Z3.length = Z2.length + 1 := by rw [hZ3]; simp
        have hadd1 : ∀ W, (Op.stringOp .add ⟨Wd.toArray⟩ ⟨#[32]⟩).run Tryz.prog W = .ok (.string ⟨Z1.toArray⟩) W := by rw [hZ1]; exact add_run Wd [32] (by simp; omega)
        have hadd2 : ∀ W, (Op.stringOp .add ⟨Z1.toArray⟩ ⟨T.toArray⟩).run Tryz.prog W = .ok (.string ⟨Z2.toArray⟩) W := by rw [hZ2]; exact add_run Z1 T (by omega)
        have hadd3 : ∀ W, (Op.stringOp .add ⟨Z2.toArray⟩ ⟨#[10]⟩).run Tryz.prog W = .ok (.string ⟨Z3.toArray⟩) W := by rw [hZ3]; exact add_run Z2 [10] (by simp; omega)
        have hg1 : ¬ ((ByteArray.mk Wd.toArray).size + (ByteArray.mk #[32]).size > 9223372036854775807) := add_fit Wd [32] (by simp; omega)
        have hg2 : ¬ ((ByteArray.mk Z1.toArray).size + (ByteArray.mk T.toArray).size > 9223372036854775807) := add_fit Z1 T (by omega)
        have hg3 : ¬ ((ByteArray.mk Z2.toArray).size + (ByteArray.mk #[10]).size > 9223372036854775807) := add_fit Z2 [10] (by simp; omega)
        have HZ : Hid (endL (lineR x) = Z3) := by show _ = _; rw [HEQ.out, hZ3, hZ2, hZ1]
        have HK : Hid (∀ W, Below y.heap.size y W → W.cell? ⟨g, 0, none⟩ = some (.int .u64 (x.hi : Nat)) ∧ W.cell? ⟨g, 1, none⟩ = some (.int .u64 (x.lo : Nat)) ∧ W.cell? ⟨g, 2, none⟩ = some (.int .i64 x.k) ∧ W.cell? ⟨g, 3, none⟩ = some (.bool x.a)) := fun W hW => ((HBX.out.keep hW).q4 (.head _)).2
        have HWS : Hid (∀ W, Below y.heap.size y W → Calls Tryz.prog 75 #[.pointer (some ⟨w.heap.size + 1, 0, none⟩), .string ⟨Z3.toArray⟩] W fun e w' => (∃ n : Int, e = .returned (.tuple #[.int .i64 n, .nilIface])) ∧ PB w w' (w.heap.size + 1) PA (acc ++ Z3) ∧ (w'.cell? ⟨g, 0, none⟩ = some (.int .u64 (x.hi : Nat)) ∧ w'.cell? ⟨g, 1, none⟩ = some (.int .u64 (x.lo : Nat)) ∧ w'.cell? ⟨g, 2, none⟩ = some (.int .i64 x.k) ∧ w'.cell? ⟨g, 3, none⟩ = some (.bool x.a))) := fun W hW => ((HPY.out.keep hW).write (s := Z3) (by omega)).mono (fun e w' h => ⟨h.1, h.2.1, by
          have hgw := (HBX.out.keep hW) _ (.head _)
          have hgb := HGB.out
          exact rule_box (h.2.2 g _ hgw (fun e => by simp only [Option.some.injEq] at e; omega) (fun c fz e => by injection e with _ e; exact tyU8 e))⟩)
        clear hZ1 hZ2 hZ3 HEQ HPY HBX
        go_region_held3 (fun W => W.cell? ⟨g, 0, none⟩ = some (.int .u64 (x.hi : Nat)) ∧ W.cell? ⟨g, 1, none⟩ = some (.int .u64 (x.lo : Nat)) ∧ W.cell? ⟨g, 2, none⟩ = some (.int .i64 x.k) ∧ W.cell? ⟨g, 3, none⟩ = some (.bool x.a)) (first | exact HK.out _ (below_drew1 _) | exact HK.out _ hb5 | exact HK.out _ hb6 | exact hs7) (first
          | (go_simp; go_at_call 76; ((with_reducible refine (HWD.out _ (below_drew1 _)).mono ?_); rintro e x5 ⟨rfl, hb5⟩))
          | (go_simp; go_at_call 77; ((with_reducible refine (HTX.out _ hb5).mono ?_); rintro e x6 ⟨rfl, hb6⟩))
          | (go_simp; go_at_call 75; ((with_reducible refine (HWS.out _ hb6).mono ?_); rintro e x7 ⟨⟨n7, rfl⟩, hp7, hs7⟩)))
        have HP7 : Hid (PB w x7 (w.heap.size + 1) PA (headB false ++ (rs.take (j + 1)).flatMap (fun x => endL (lineR x)))) := by
          show PB _ _ _ _ _
          rw [HSN.out, HZ.out]; exact hp7
        clear hp7 hs7
        go_wp2
        go_roundw
        case rel => exact ⟨j + 1, by omega, by go_num, HP7⟩
        case measure => simp [intOf]; omega
      · have hj' : j = rs.length := by omega
        subst hj'
        rw [List.take_length] at HP
        have hal : (headB false ++ rs.flatMap (fun x => endL (lineR x))).length ≤ 200000 := by
          have h1 := bytes_flat (f := fun x => endL (lineR x)) rs (fun y hy => lineR_len (HRK.out y hy))
          have h2 := headB_len false
          rw [List.length_append]; omega
        have HEN : Hid (printZ rs ps false = headB false ++ rs.flatMap (fun x => endL (lineR x)) ++ ps.flatMap (fun n => endL (lineP n))) := rfl
        generalize headB false ++ rs.flatMap (fun x => endL (lineR x)) = acc0 at *
        generalize printZ rs ps false = OUT at *
        have p1 := cell_row HP.out.blk 1
        rw [HPA.out] at p1
        simp at p1
        have HPP := Lib.hid HP.out
        go_wp2
        go_loopw [31] (fun i wr => ∃ k : Nat, k ≤ ps.length ∧ i = .int .i64 k ∧ Hid (PB w wr (w.heap.size + 1) PA (acc0 ++ (ps.take k).flatMap (fun n => endL (lineP n))))) (fun i _ => ps.length - (intOf i).toNat)
        case atStart => exact ⟨0, Nat.zero_le _, rfl, by show PB _ _ _ _ _; simpa using HPP.out⟩
        case round =>
          obtain ⟨k, hk, rfl, HQ⟩ := hrel
          by_cases hkt : k < ps.length
          · obtain ⟨ad, rfl, n, hn, r0, hnb⟩ := HPO.out.at HQ.out.below hkt
            have hkl : (k : Int) < ps.length := by omega
            have HSN := Lib.hid (flat_take (f := fun n => endL (lineP n)) hn acc0)
            have hal2 : (acc0 ++ (ps.take k).flatMap (fun n => endL (lineP n))).length ≤ 400000 := by
              have h1 := take_len (f := fun n => endL (lineP n)) (fun y hy => lineP_len (HPK.out y hy).1 (HPK.out y hy).2) k
              rw [List.length_append]; omega
            generalize acc0 ++ (ps.take k).flatMap (fun n => endL (lineP n)) = acc at *
            have hIl := Lib.itoa_length_le n hnb.1 hnb.2
            have HEQ : Hid (endL (lineP n) = wPort ++ [32] ++ Lib.itoa n ++ [10]) := by show _ = _; simp [endL, lineP]
            have HIT := Lib.hid (itoaP_any n wr hnb.1 hnb.2 (powTab_below HPW.out HQ.out.below))
            generalize Lib.itoa n = I at *
            obtain ⟨Z1, hZ1⟩ : ∃ z, z = wPort ++ [32] ++ I := ⟨_, rfl⟩
            obtain ⟨Z2, hZ2⟩ : ∃ z, z = Z1 ++ [10] := ⟨_, rfl⟩
            have l1' : Z1.length = 5 + I.length := by rw [hZ1]; simp [wPort]; omega
            have l2' : Z2.length = Z1.length + 1 := by rw [hZ2]; simp
            have hadd1 : ∀ W, (Op.stringOp .add ⟨#[112, 111, 114, 116, 32]⟩ ⟨I.toArray⟩).run Tryz.prog W = .ok (.string ⟨Z1.toArray⟩) W := by rw [hZ1]; exact add_run [112, 111, 114, 116, 32] I (by simp; omega)
            have hadd2 : ∀ W, (Op.stringOp .add ⟨Z1.toArray⟩ ⟨#[10]⟩).run Tryz.prog W = .ok (.string ⟨Z2.toArray⟩) W := by rw [hZ2]; exact add_run Z1 [10] (by simp; omega)
            have hg1 : ¬ ((ByteArray.mk #[112, 111, 114, 116, 32]).size + (ByteArray.mk I.toArray).size > 9223372036854775807) := add_fit [112, 111, 114, 116, 32] I (by simp; omega)
            have hg2 : ¬ ((ByteArray.mk Z1.toArray).size + (ByteArray.mk #[10]).size > 9223372036854775807) := add_fit Z1 [10] (by simp; omega)
            have HZ : Hid (endL (lineP n) = Z2) := by show _ = _; rw [HEQ.out, hZ2, hZ1]
            clear hZ1 hZ2 HEQ
            go_wp2_with fail
            refine HIT.out.mono ?_
            rintro e x5 ⟨rfl, hb5⟩
            have HQ5 := Lib.hid (HQ.out.keep hb5)
            clear hb5 r0 HIT HQ
            go_wp2_with fail
            refine (HQ5.out.write (s := Z2) (by omega)).mono ?_
            rintro e x6 ⟨⟨n6, rfl⟩, hp6, _⟩
            have HP6 : Hid (PB w x6 (w.heap.size + 1) PA (acc0 ++ (ps.take (k + 1)).flatMap (fun n => endL (lineP n)))) := by
              show PB _ _ _ _ _
              rw [HSN.out, HZ.out]; exact hp6
            clear hp6 HQ5
            go_wp2
            go_roundw
            case rel => exact ⟨k + 1, by omega, by go_num, HP6⟩
            case measure => simp [intOf]; omega
          · have hk' : k = ps.length := by omega
            subst hk'
            rw [List.take_length] at HQ
            have hal2 : (acc0 ++ ps.flatMap (fun n => endL (lineP n))).length ≤ 400000 := by
              have h1 := bytes_flat (f := fun n => endL (lineP n)) ps (fun y hy => lineP_len (HPK.out y hy).1 (HPK.out y hy).2)
              rw [List.length_append]; omega
            have hsz : w.heap.size + 1 ≤ wr.heap.size := Nat.le_of_lt HQ.out.size
            generalize acc0 ++ ps.flatMap (fun n => endL (lineP n)) = acc at *
            go_wp2_with fail
            refine (Tryz.Builder_String_any_k (w.heap.size + 1) (w.heap.size + 1) _ _ HQ.out.isb hsz).mono ?_
            rintro e x5 ⟨rfl, _, b5, _⟩
            go_wp2
            go_ret
            rw [HEN.out]
            exact ⟨rfl, HQ.out.below.trans (b5.mono (by omega))⟩
set_option maxRecDepth 100000 in
set_option maxHeartbeats 8000000 in
theorem refPrint10_any (ra pa : Option Addr) (rc pc : Nat) (bare : Bool) (rs : List Ru) (ps : List Int) (w : World) (hpow : PowTab w) (hr : IsURow w ra rs.length rc rs) (hp : IsIRow w pa ps.length pc ps) (l1 : rs.length ≤ 1000) (l2 : ps.length ≤ 1000) :
    Calls Tryz.prog 43 #[.agg #[.slice ra rs.length rc, .slice pa ps.length pc, .bool bare]] w (RetStr w (printZ rs ps bare)) := by
  have HRO := Lib.hid hr
  have HPO := Lib.hid hp
  have HPW := Lib.hid hpow
  have HRK := Lib.hid hr.ok
  have HPK := Lib.hid hp.ok
  clear hpow hr hp
  cases bare with
  | true =>
    obtain ⟨wA, hwA⟩ : ∃ x, x = w.alloc (.cells #[.slice ra rs.length rc, .slice pa ps.length pc, .bool true] 70) := ⟨_, rfl⟩
    have HA : Hid (Below w.heap.size w wA) := by rw [hwA]; exact (Below.refl _ _).alloc (Nat.le_refl _) _
    have HBP : Hid (Blks [(w.heap.size, #[.slice ra rs.length rc, .slice pa ps.length pc, .bool true], 70)] wA) := by rw [hwA]; exact (Blks.empty w).new _ _
    go_enter Tryz.func43, Tryz.ntmps43
    go_wp2
    rw [← hwA]
    clear hwA
    go_loopw [3, 13] (fun s i wr => ∃ j : Nat, j ≤ rs.length ∧ i = .int .i64 j ∧ s = .string ⟨(headB true ++ (rs.take j).flatMap (fun x => endL (lineR x))).toArray⟩ ∧ Hid (Below wA.heap.size wA wr)) (fun _ i _ => rs.length - (intOf i).toNat)
    case atStart => exact ⟨0, Nat.zero_le _, rfl, by simp [headB, wBare], Below.refl _ _⟩
    case round =>
      obtain ⟨j, hj, rfl, rfl, HW⟩ := hrel
      by_cases hlt : j < rs.length
      · obtain ⟨ad, rfl, x, hx, ⟨c0, c1, c2, c3⟩, hxo⟩ := (HRO.out.keep (below_chain7 HA.out HW.out)).at hlt
        have HXO := Lib.hid hxo
        have hjl : (j : Int) < rs.length := by omega
        have HSN := Lib.hid (flat_take (f := fun x => endL (lineR x)) hx (headB true))
        have hal : (headB true ++ (rs.take j).flatMap (fun x => endL (lineR x))).length ≤ 200000 := by
          have h1 := take_len (f := fun x => endL (lineR x)) (fun y hy => lineR_len (HRK.out y hy)) j
          have h2 := headB_len true
          rw [List.length_append]; omega
        generalize headB true ++ (rs.take j).flatMap (fun x => endL (lineR x)) = acc at *
        cases ha : x.a with
        | true =>
          have HEQ : Hid (endL (lineR x) = [97, 108, 108, 111, 119, 32] ++ textPf x.hi x.lo x.k ++ [10]) := by show _ = _; simp [endL, lineR, wordR, ha, wAllow]
          have HTX := Lib.hid (rText_any x.hi x.lo x.k (wr.alloc (.cells #[.int .u64 (x.hi : Nat), .int .u64 (x.lo : Nat), .int .i64 x.k, .bool true] 125)) HXO.out.1 HXO.out.2.1 HXO.out.2.2.1 HXO.out.2.2.2 (powTab_below HPW.out (below_chain7 (below_chain7 HA.out HW.out) ((Below.refl _ _).alloc (Nat.le_refl _) _))))
          have HBE : Hid (Below wr.heap.size wr (wr.alloc (.cells #[.int .u64 (x.hi : Nat), .int .u64 (x.lo : Nat), .int .i64 x.k, .bool true] 125))) := (Below.refl _ _).alloc (Nat.le_refl _) _
          have hTl := Ru.text_len HXO.out
          generalize textPf x.hi x.lo x.k = T at *
          obtain ⟨Z1, hZ1⟩ : ∃ z, z = acc ++ [97, 108, 108, 111, 119, 32] := ⟨_, rfl⟩
          obtain ⟨Z2, hZ2⟩ : ∃ z, z = Z1 ++ T := ⟨_, rfl⟩
          obtain ⟨Z3, hZ3⟩ : ∃ z, z = Z2 ++ [10] := ⟨_, rfl⟩
          have l1' : Z1.length ≤ acc.length + 6 := by rw [hZ1]; simp
          have l2' : Z2.length = Z1.length + T.length := by rw [hZ2]; simp
          have hadd1 : ∀ W, (Op.stringOp .add ⟨acc.toArray⟩ ⟨#[97, 108, 108, 111, 119, 32]⟩).run Tryz.prog W = .ok (.string ⟨Z1.toArray⟩) W := by rw [hZ1]; exact add_run acc [97, 108, 108, 111, 119, 32] (by simp; omega)
          have hadd2 : ∀ W, (Op.stringOp .add ⟨Z1.toArray⟩ ⟨T.toArray⟩).run Tryz.prog W = .ok (.string ⟨Z2.toArray⟩) W := by rw [hZ2]; exact add_run Z1 T (by omega)
          have hadd3 : ∀ W, (Op.stringOp .add ⟨Z2.toArray⟩ ⟨#[10]⟩).run Tryz.prog W = .ok (.string ⟨Z3.toArray⟩) W := by rw [hZ3]; exact add_run Z2 [10] (by simp; omega)
          have hg1 : ¬ ((ByteArray.mk acc.toArray).size + (ByteArray.mk #[97, 108, 108, 111, 119, 32]).size > 9223372036854775807) := add_fit acc [97, 108, 108, 111, 119, 32] (by simp; omega)
          have hg2 : ¬ ((ByteArray.mk Z1.toArray).size + (ByteArray.mk T.toArray).size > 9223372036854775807) := add_fit Z1 T (by omega)
          have hg3 : ¬ ((ByteArray.mk Z2.toArray).size + (ByteArray.mk #[10]).size > 9223372036854775807) := add_fit Z2 [10] (by simp; omega)
          have HZ : Hid (headB true ++ (rs.take (j + 1)).flatMap (fun x => endL (lineR x)) = Z3) := by show _ = _; rw [HSN.out, HEQ.out, hZ3, hZ2, hZ1]; simp
          clear hZ1 hZ2 hZ3 HEQ hxo
          rw [ha] at c3
          go_wp2_with fail
          refine HTX.out.mono ?_
          rintro e x5 ⟨rfl, hb5⟩
          have HW5 := Lib.hid (below_chain7 (below_chain7 HW.out HBE.out) hb5)
          clear hb5 c0 c1 c2 c3 HTX HBE
          go_wp2
          go_roundw
          case rel => exact ⟨j + 1, by omega, by go_num, by rw [HZ.out], HW5⟩
          case measure => simp [intOf]; omega
        | false =>
          have HEQ : Hid (endL (lineR x) = [100, 101, 110, 121, 32] ++ textPf x.hi x.lo x.k ++ [10]) := by show _ = _; simp [endL, lineR, wordR, ha, wDeny]
          have HTX := Lib.hid (rText_any x.hi x.lo x.k (wr.alloc (.cells #[.int .u64 (x.hi : Nat), .int .u64 (x.lo : Nat), .int .i64 x.k, .bool false] 125)) HXO.out.1 HXO.out.2.1 HXO.out.2.2.1 HXO.out.2.2.2 (powTab_below HPW.out (below_chain7 (below_chain7 HA.out HW.out) ((Below.refl _ _).alloc (Nat.le_refl _) _))))
          have HBE : Hid (Below wr.heap.size wr (wr.alloc (.cells #[.int .u64 (x.hi : Nat), .int .u64 (x.lo : Nat), .int .i64 x.k, .bool false] 125))) := (Below.refl _ _).alloc (Nat.le_refl _) _
          have hTl := Ru.text_len HXO.out
          generalize textPf x.hi x.lo x.k = T at *
          obtain ⟨Z1, hZ1⟩ : ∃ z, z = acc ++ [100, 101, 110, 121, 32] := ⟨_, rfl⟩
          obtain ⟨Z2, hZ2⟩ : ∃ z, z = Z1 ++ T := ⟨_, rfl⟩
          obtain ⟨Z3, hZ3⟩ : ∃ z, z = Z2 ++ [10] := ⟨_, rfl⟩
          have l1' : Z1.length ≤ acc.length + 6 := by rw [hZ1]; simp
          have l2' : Z2.length = Z1.length + T.length := by rw [hZ2]; simp
          have hadd1 : ∀ W, (Op.stringOp .add ⟨acc.toArray⟩ ⟨#[100, 101, 110, 121, 32]⟩).run Tryz.prog W = .ok (.string ⟨Z1.toArray⟩) W := by rw [hZ1]; exact add_run acc [100, 101, 110, 121, 32] (by simp; omega)
          have hadd2 : ∀ W, (Op.stringOp .add ⟨Z1.toArray⟩ ⟨T.toArray⟩).run Tryz.prog W = .ok (.string ⟨Z2.toArray⟩) W := by rw [hZ2]; exact add_run Z1 T (by omega)
          have hadd3 : ∀ W, (Op.stringOp .add ⟨Z2.toArray⟩ ⟨#[10]⟩).run Tryz.prog W = .ok (.string ⟨Z3.toArray⟩) W := by rw [hZ3]; exact add_run Z2 [10] (by simp; omega)
          have hg1 : ¬ ((ByteArray.mk acc.toArray).size + (ByteArray.mk #[100, 101, 110, 121, 32]).size > 9223372036854775807) := add_fit acc [100, 101, 110, 121, 32] (by simp; omega)
          have hg2 : ¬ ((ByteArray.mk Z1.toArray).size + (ByteArray.mk T.toArray).size > 9223372036854775807) := add_fit Z1 T (by omega)
          have hg3 : ¬ ((ByteArray.mk Z2.toArray).size + (ByteArray.mk #[10]).size > 9223372036854775807) := add_fit Z2 [10] (by simp; omega)
          have HZ : Hid (headB true ++ (rs.take (j + 1)).flatMap (fun x => endL (lineR x)) = Z3) := by show _ = _; rw [HSN.out, HEQ.out, hZ3, hZ2, hZ1]; simp
          clear hZ1 hZ2 hZ3 HEQ hxo
          rw [ha] at c3
          go_wp2_with fail
          refine HTX.out.mono ?_
          rintro e x5 ⟨rfl, hb5⟩
          have HW5 := Lib.hid (below_chain7 (below_chain7 HW.out HBE.out) hb5)
          clear hb5 c0 c1 c2 c3 HTX HBE
          go_wp2
          go_roundw
          case rel => exact ⟨j + 1, by omega, by go_num, by rw [HZ.out], HW5⟩
          case measure => simp [intOf]; omega
      · have hj' : j = rs.length := by omega
        subst hj'
        rw [List.take_length]
        have hal : (headB true ++ rs.flatMap (fun x => endL (lineR x))).length ≤ 200000 := by
          have h1 := bytes_flat (f := fun x => endL (lineR x)) rs (fun y hy => lineR_len (HRK.out y hy))
          have h2 := headB_len true
          rw [List.length_append]; omega
        have HEN : Hid (printZ rs ps true = headB true ++ rs.flatMap (fun x => endL (lineR x)) ++ ps.flatMap (fun n => endL (lineP n))) := rfl
        generalize headB true ++ rs.flatMap (fun x => endL (lineR x)) = acc0 at *
        generalize printZ rs ps true = OUT at *
        have p1 := cell_row ((HBP.out.keep HW.out) _ (.head _)) 1
        simp at p1
        go_wp2
        go_loopw [3, 37] (fun s i wr => ∃ k : Nat, k ≤ ps.length ∧ i = .int .i64 k ∧ s = .string ⟨(acc0 ++ (ps.take k).flatMap (fun n => endL (lineP n))).toArray⟩ ∧ Hid (Below wA.heap.size wA wr)) (fun _ i _ => ps.length - (intOf i).toNat)
        case atStart => exact ⟨0, Nat.zero_le _, rfl, by simp, HW⟩
        case round =>
          obtain ⟨k, hk, rfl, rfl, HV⟩ := hrel
          by_cases hkt : k < ps.length
          · obtain ⟨ad, rfl, n, hn, r0, hnb⟩ := HPO.out.at (below_chain7 HA.out HV.out) hkt
            have hkl : (k : Int) < ps.length := by omega
            have HSN := Lib.hid (flat_take (f := fun n => endL (lineP n)) hn acc0)
            have hal2 : (acc0 ++ (ps.take k).flatMap (fun n => endL (lineP n))).length ≤ 400000 := by
              have h1 := take_len (f := fun n => endL (lineP n)) (fun y hy => lineP_len (HPK.out y hy).1 (HPK.out y hy).2) k
              rw [List.length_append]; omega
            generalize acc0 ++ (ps.take k).flatMap (fun n => endL (lineP n)) = acc at *
            have hIl := Lib.itoa_length_le n hnb.1 hnb.2
            have HEQ : Hid (endL (lineP n) = [112, 111, 114, 116, 32] ++ Lib.itoa n ++ [10]) := by show _ = _; simp [endL, lineP, wPort]
            have HIT := Lib.hid (itoaP_any n wr hnb.1 hnb.2 (powTab_below HPW.out (below_chain7 HA.out HV.out)))
            generalize Lib.itoa n = I at *
            obtain ⟨Z1, hZ1⟩ : ∃ z, z = acc ++ [112, 111, 114, 116, 32] := ⟨_, rfl⟩
            obtain ⟨Z2, hZ2⟩ : ∃ z, z = Z1 ++ I := ⟨_, rfl⟩
            obtain ⟨Z3, hZ3⟩ : ∃ z, z = Z2 ++ [10] := ⟨_, rfl⟩
            have l1' : Z1.length = acc.length + 5 := by rw [hZ1]; simp
            have l2' : Z2.length = Z1.length + I.length := by rw [hZ2]; simp
            have hadd1 : ∀ W, (Op.stringOp .add ⟨acc.toArray⟩ ⟨#[112, 111, 114, 116, 32]⟩).run Tryz.prog W = .ok (.string ⟨Z1.toArray⟩) W := by rw [hZ1]; exact add_run acc [112, 111, 114, 116, 32] (by simp; omega)
            have hadd2 : ∀ W, (Op.stringOp .add ⟨Z1.toArray⟩ ⟨I.toArray⟩).run Tryz.prog W = .ok (.string ⟨Z2.toArray⟩) W := by rw [hZ2]; exact add_run Z1 I (by omega)
            have hadd3 : ∀ W, (Op.stringOp .add ⟨Z2.toArray⟩ ⟨#[10]⟩).run Tryz.prog W = .ok (.string ⟨Z3.toArray⟩) W := by rw [hZ3]; exact add_run Z2 [10] (by simp; omega)
            have hg1 : ¬ ((ByteArray.mk acc.toArray).size + (ByteArray.mk #[112, 111, 114, 116, 32]).size > 9223372036854775807) := add_fit acc [112, 111, 114, 116, 32] (by simp; omega)
            have hg2 : ¬ ((ByteArray.mk Z1.toArray).size + (ByteArray.mk I.toArray).size > 9223372036854775807) := add_fit Z1 I (by omega)
            have hg3 : ¬ ((ByteArray.mk Z2.toArray).size + (ByteArray.mk #[10]).size > 9223372036854775807) := add_fit Z2 [10] (by simp; omega)
            have HZ : Hid (acc0 ++ (ps.take (k + 1)).flatMap (fun n => endL (lineP n)) = Z3) := by show _ = _; rw [HSN.out, HEQ.out, hZ3, hZ2, hZ1]; simp
            clear hZ1 hZ2 hZ3 HEQ
            go_wp2_with fail
            refine HIT.out.mono ?_
            rintro e x5 ⟨rfl, hb5⟩
            have HV5 := Lib.hid (below_chain7 HV.out hb5)
            clear hb5 r0 HIT
            go_wp2
            go_roundw
            case rel => exact ⟨k + 1, by omega, by go_num, by rw [HZ.out], HV5⟩
            case measure => simp [intOf]; omega
          · have hk' : k = ps.length := by omega
            subst hk'
            rw [List.take_length]
            go_wp2
            go_ret
            rw [HEN.out]
            exact ⟨rfl, below_chain7 HA.out HV.out⟩
  | false =>
    obtain ⟨wA, hwA⟩ : ∃ x, x = w.alloc (.cells #[.slice ra rs.length rc, .slice pa ps.length pc, .bool false] 70) := ⟨_, rfl⟩
    have HA : Hid (Below w.heap.size w wA) := by rw [hwA]; exact (Below.refl _ _).alloc (Nat.le_refl _) _
    have HBP : Hid (Blks [(w.heap.size, #[.slice ra rs.length rc, .slice pa ps.length pc, .bool false], 70)] wA) := by rw [hwA]; exact (Blks.empty w).new _ _
    go_enter Tryz.func43, Tryz.ntmps43
    go_wp2
    rw [← hwA]
    clear hwA
    go_loopw [3, 13] (fun s i wr => ∃ j : Nat, j ≤ rs.length ∧ i = .int .i64 j ∧ s = .string ⟨(headB false ++ (rs.take j).flatMap (fun x => endL (lineR x))).toArray⟩ ∧ Hid (Below wA.heap.size wA wr)) (fun _ i _ => rs.length - (intOf i).toNat)
    case atStart => exact ⟨0, Nat.zero_le _, rfl, by simp [headB], Below.refl _ _⟩
    case round =>
      obtain ⟨j, hj, rfl, rfl, HW⟩ := hrel
      by_cases hlt : j < rs.length
      · obtain ⟨ad, rfl, x, hx, ⟨c0, c1, c2, c3⟩, hxo⟩ := (HRO.out.keep (below_chain7 HA.out HW.out)).at hlt
        have HXO := Lib.hid hxo
        have hjl : (j : Int) < rs.length := by omega
        have HSN := Lib.hid (flat_take (f := fun x => endL (lineR x)) hx (headB false))
        have hal : (headB false ++ (rs.take j).flatMap (fun x => endL (lineR x))).length ≤ 200000 := by
          have h1 := take_len (f := fun x => endL (lineR x)) (fun y hy => lineR_len (HRK.out y hy)) j
          have h2 := headB_len false
          rw [List.length_append]; omega
        generalize headB false ++ (rs.take j).flatMap (fun x => endL (lineR x)) = acc at *
        cases ha : x.a with
        | true =>
          have HEQ : Hid (endL (lineR x) = [97, 108, 108, 111, 119, 32] ++ textPf x.hi x.lo x.k ++ [10]) := by show _ = _; simp [endL, lineR, wordR, ha, wAllow]
          have HTX := Lib.hid (rText_any x.hi x.lo x.k (wr.alloc (.cells #[.int .u64 (x.hi : Nat), .int .u64 (x.lo : Nat), .int .i64 x.k, .bool true] 125)) HXO.out.1 HXO.out.2.1 HXO.out.2.2.1 HXO.out.2.2.2 (powTab_below HPW.out (below_chain7 (below_chain7 HA.out HW.out) ((Below.refl _ _).alloc (Nat.le_refl _) _))))
          have HBE : Hid (Below wr.heap.size wr (wr.alloc (.cells #[.int .u64 (x.hi : Nat), .int .u64 (x.lo : Nat), .int .i64 x.k, .bool true] 125))) := (Below.refl _ _).alloc (Nat.le_refl _) _
          have hTl := Ru.text_len HXO.out
          generalize textPf x.hi x.lo x.k = T at *
          obtain ⟨Z1, hZ1⟩ : ∃ z, z = acc ++ [97, 108, 108, 111, 119, 32] := ⟨_, rfl⟩
          obtain ⟨Z2, hZ2⟩ : ∃ z, z = Z1 ++ T := ⟨_, rfl⟩
          obtain ⟨Z3, hZ3⟩ : ∃ z, z = Z2 ++ [10] := ⟨_, rfl⟩
          have l1' : Z1.length ≤ acc.length + 6 := by rw [hZ1]; simp
          have l2' : Z2.length = Z1.length + T.length := by rw [hZ2]; simp
          have hadd1 : ∀ W, (Op.stringOp .add ⟨acc.toArray⟩ ⟨#[97, 108, 108, 111, 119, 32]⟩).run Tryz.prog W = .ok (.string ⟨Z1.toArray⟩) W := by rw [hZ1]; exact add_run acc [97, 108, 108, 111, 119, 32] (by simp; omega)
          have hadd2 : ∀ W, (Op.stringOp .add ⟨Z1.toArray⟩ ⟨T.toArray⟩).run Tryz.prog W = .ok (.string ⟨Z2.toArray⟩) W := by rw [hZ2]; exact add_run Z1 T (by omega)
          have hadd3 : ∀ W, (Op.stringOp .add ⟨Z2.toArray⟩ ⟨#[10]⟩).run Tryz.prog W = .ok (.string ⟨Z3.toArray⟩) W := by rw [hZ3]; exact add_run Z2 [10] (by simp; omega)
          have hg1 : ¬ ((ByteArray.mk acc.toArray).size + (ByteArray.mk #[97, 108, 108, 111, 119, 32]).size > 9223372036854775807) := add_fit acc [97, 108, 108, 111, 119, 32] (by simp; omega)
          have hg2 : ¬ ((ByteArray.mk Z1.toArray).size + (ByteArray.mk T.toArray).size > 9223372036854775807) := add_fit Z1 T (by omega)
          have hg3 : ¬ ((ByteArray.mk Z2.toArray).size + (ByteArray.mk #[10]).size > 9223372036854775807) := add_fit Z2 [10] (by simp; omega)
          have HZ : Hid (headB false ++ (rs.take (j + 1)).flatMap (fun x => endL (lineR x)) = Z3) := by show _ = _; rw [HSN.out, HEQ.out, hZ3, hZ2, hZ1]; simp
          clear hZ1 hZ2 hZ3 HEQ hxo
          rw [ha] at c3
          go_wp2_with fail
          refine HTX.out.mono ?_
          rintro e x5 ⟨rfl, hb5⟩
          have HW5 := Lib.hid (below_chain7 (below_chain7 HW.out HBE.out) hb5)
          clear hb5 c0 c1 c2 c3 HTX HBE
          go_wp2
          go_roundw
          case rel => exact ⟨j + 1, by omega, by go_num, by rw [HZ.out], HW5⟩
          case measure => simp [intOf]; omega
        | false =>
          have HEQ : Hid (endL (lineR x) = [100, 101, 110, 121, 32] ++ textPf x.hi x.lo x.k ++ [10]) := by show _ = _; simp [endL, lineR, wordR, ha, wDeny]
          have HTX := Lib.hid (rText_any x.hi x.lo x.k (wr.alloc (.cells #[.int .u64 (x.hi : Nat), .int .u64 (x.lo : Nat), .int .i64 x.k, .bool false] 125)) HXO.out.1 HXO.out.2.1 HXO.out.2.2.1 HXO.out.2.2.2 (powTab_below HPW.out (below_chain7 (below_chain7 HA.out HW.out) ((Below.refl _ _).alloc (Nat.le_refl _) _))))
          have HBE : Hid (Below wr.heap.size wr (wr.alloc (.cells #[.int .u64 (x.hi : Nat), .int .u64 (x.lo : Nat), .int .i64 x.k, .bool false] 125))) := (Below.refl _ _).alloc (Nat.le_refl _) _
          have hTl := Ru.text_len HXO.out
          generalize textPf x.hi x.lo x.k = T at *
          obtain ⟨Z1, hZ1⟩ : ∃ z, z = acc ++ [100, 101, 110, 121, 32] := ⟨_, rfl⟩
          obtain ⟨Z2, hZ2⟩ : ∃ z, z = Z1 ++ T := ⟨_, rfl⟩
          obtain ⟨Z3, hZ3⟩ : ∃ z, z = Z2 ++ [10] := ⟨_, rfl⟩
          have l1' : Z1.length ≤ acc.length + 6 := by rw [hZ1]; simp
          have l2' : Z2.length = Z1.length + T.length := by rw [hZ2]; simp
          have hadd1 : ∀ W, (Op.stringOp .add ⟨acc.toArray⟩ ⟨#[100, 101, 110, 121, 32]⟩).run Tryz.prog W = .ok (.string ⟨Z1.toArray⟩) W := by rw [hZ1]; exact add_run acc [100, 101, 110, 121, 32] (by simp; omega)
          have hadd2 : ∀ W, (Op.stringOp .add ⟨Z1.toArray⟩ ⟨T.toArray⟩).run Tryz.prog W = .ok (.string ⟨Z2.toArray⟩) W := by rw [hZ2]; exact add_run Z1 T (by omega)
          have hadd3 : ∀ W, (Op.stringOp .add ⟨Z2.toArray⟩ ⟨#[10]⟩).run Tryz.prog W = .ok (.string ⟨Z3.toArray⟩) W := by rw [hZ3]; exact add_run Z2 [10] (by simp; omega)
          have hg1 : ¬ ((ByteArray.mk acc.toArray).size + (ByteArray.mk #[100, 101, 110, 121, 32]).size > 9223372036854775807) := add_fit acc [100, 101, 110, 121, 32] (by simp; omega)
          have hg2 : ¬ ((ByteArray.mk Z1.toArray).size + (ByteArray.mk T.toArray).size > 9223372036854775807) := add_fit Z1 T (by omega)
          have hg3 : ¬ ((ByteArray.mk Z2.toArray).size + (ByteArray.mk #[10]).size > 9223372036854775807) := add_fit Z2 [10] (by simp; omega)
          have HZ : Hid (headB false ++ (rs.take (j + 1)).flatMap (fun x => endL (lineR x)) = Z3) := by show _ = _; rw [HSN.out, HEQ.out, hZ3, hZ2, hZ1]; simp
          clear hZ1 hZ2 hZ3 HEQ hxo
          rw [ha] at c3
          go_wp2_with fail
          refine HTX.out.mono ?_
          rintro e x5 ⟨rfl, hb5⟩
          have HW5 := Lib.hid (below_chain7 (below_chain7 HW.out HBE.out) hb5)
          clear hb5 c0 c1 c2 c3 HTX HBE
          go_wp2
          go_roundw
          case rel => exact ⟨j + 1, by omega, by go_num, by rw [HZ.out], HW5⟩
          case measure => simp [intOf]; omega
      · have hj' : j = rs.length := by omega
        subst hj'
        rw [List.take_length]
        have hal : (headB false ++ rs.flatMap (fun x => endL (lineR x))).length ≤ 200000 := by
          have h1 := bytes_flat (f := fun x => endL (lineR x)) rs (fun y hy => lineR_len (HRK.out y hy))
          have h2 := headB_len false
          rw [List.length_append]; omega
        have HEN : Hid (printZ rs ps false = headB false ++ rs.flatMap (fun x => endL (lineR x)) ++ ps.flatMap (fun n => endL (lineP n))) := rfl
        generalize headB false ++ rs.flatMap (fun x => endL (lineR x)) = acc0 at *
        generalize printZ rs ps false = OUT at *
        have p1 := cell_row ((HBP.out.keep HW.out) _ (.head _)) 1
        simp at p1
        go_wp2
        go_loopw [3, 37] (fun s i wr => ∃ k : Nat, k ≤ ps.length ∧ i = .int .i64 k ∧ s = .string ⟨(acc0 ++ (ps.take k).flatMap (fun n => endL (lineP n))).toArray⟩ ∧ Hid (Below wA.heap.size wA wr)) (fun _ i _ => ps.length - (intOf i).toNat)
        case atStart => exact ⟨0, Nat.zero_le _, rfl, by simp, HW⟩
        case round =>
          obtain ⟨k, hk, rfl, rfl, HV⟩ := hrel
          by_cases hkt : k < ps.length
          · obtain ⟨ad, rfl, n, hn, r0, hnb⟩ := HPO.out.at (below_chain7 HA.out HV.out) hkt
            have hkl : (k : Int) < ps.length := by omega
            have HSN := Lib.hid (flat_take (f := fun n => endL (lineP n)) hn acc0)
            have hal2 : (acc0 ++ (ps.take k).flatMap (fun n => endL (lineP n))).length ≤ 400000 := by
              have h1 := take_len (f := fun n => endL (lineP n)) (fun y hy => lineP_len (HPK.out y hy).1 (HPK.out y hy).2) k
              rw [List.length_append]; omega
            generalize acc0 ++ (ps.take k).flatMap (fun n => endL (lineP n)) = acc at *
            have hIl := Lib.itoa_length_le n hnb.1 hnb.2
            have HEQ : Hid (endL (lineP n) = [112, 111, 114, 116, 32] ++ Lib.itoa n ++ [10]) := by show _ = _; simp [endL, lineP, wPort]
            have HIT := Lib.hid (itoaP_any n wr hnb.1 hnb.2 (powTab_below HPW.out (below_chain7 HA.out HV.out)))
            generalize Lib.itoa n = I at *
            obtain ⟨Z1, hZ1⟩ : ∃ z, z = acc ++ [112, 111, 114, 116, 32] := ⟨_, rfl⟩
            obtain ⟨Z2, hZ2⟩ : ∃ z, z = Z1 ++ I := ⟨_, rfl⟩
            obtain ⟨Z3, hZ3⟩ : ∃ z, z = Z2 ++ [10] := ⟨_, rfl⟩
            have l1' : Z1.length = acc.length + 5 := by rw [hZ1]; simp
            have l2' : Z2.length = Z1.length + I.length := by rw [hZ2]; simp
            have hadd1 : ∀ W, (Op.stringOp .add ⟨acc.toArray⟩ ⟨#[112, 111, 114, 116, 32]⟩).run Tryz.prog W = .ok (.string ⟨Z1.toArray⟩) W := by rw [hZ1]; exact add_run acc [112, 111, 114, 116, 32] (by simp; omega)
            have hadd2 : ∀ W, (Op.stringOp .add ⟨Z1.toArray⟩ ⟨I.toArray⟩).run Tryz.prog W = .ok (.string ⟨Z2.toArray⟩) W := by rw [hZ2]; exact add_run Z1 I (by omega)
            have hadd3 : ∀ W, (Op.stringOp .add ⟨Z2.toArray⟩ ⟨#[10]⟩).run Tryz.prog W = .ok (.string ⟨Z3.toArray⟩) W := by rw [hZ3]; exact add_run Z2 [10] (by simp; omega)
            have hg1 : ¬ ((ByteArray.mk acc.toArray).size + (ByteArray.mk #[112, 111, 114, 116, 32]).size > 9223372036854775807) := add_fit acc [112, 111, 114, 116, 32] (by simp; omega)
            have hg2 : ¬ ((ByteArray.mk Z1.toArray).size + (ByteArray.mk I.toArray).size > 9223372036854775807) := add_fit Z1 I (by omega)
            have hg3 : ¬ ((ByteArray.mk Z2.toArray).size + (ByteArray.mk #[10]).size > 9223372036854775807) := add_fit Z2 [10] (by simp; omega)
            have HZ : Hid (acc0 ++ (ps.take (k + 1)).flatMap (fun n => endL (lineP n)) = Z3) := by show _ = _; rw [HSN.out, HEQ.out, hZ3, hZ2, hZ1]; simp
            clear hZ1 hZ2 hZ3 HEQ
            go_wp2_with fail
            refine HIT.out.mono ?_
            rintro e x5 ⟨rfl, hb5⟩
            have HV5 := Lib.hid (below_chain7 HV.out hb5)
            clear hb5 r0 HIT
            go_wp2
            go_roundw
            case rel => exact ⟨k + 1, by omega, by go_num, by rw [HZ.out], HV5⟩
            case measure => simp [intOf]; omega
          · have hk' : k = ps.length := by omega
            subst hk'
            rw [List.take_length]
            go_wp2
            go_ret
            rw [HEN.out]
            exact ⟨rfl, below_chain7 HA.out HV.out⟩
end

section
open Go.RowKit
theorem rowX_none {X : Type} (s : Nat) (cl : X → List Value) (w : World) : RowX s cl w none [] := fun j x hx => by cases hx
/-- what both Parses tell of a text -/
theorem reads_pair (s : ByteArray) (hs : s.size ≤ 50000) : ∃ (q : Pl) (ln er : Int), q.rs.length ≤ 50001 ∧ q.ps.length ≤ 50001 ∧
    (∀ x : World, MaxVar x → Calls Tryz.prog 39 #[.string s] x fun e x' => ∃ ra rc pa pc, e = .returned (.tuple #[.agg #[.slice ra q.rs.length rc, .slice pa q.ps.length pc, .bool q.bare], .int .i64 ln, .int .i64 er]) ∧ RowX 4 Ru.cl x' ra q.rs ∧ RowX 1 clI x' pa q.ps ∧ Below x.heap.size x x') ∧
    (∀ x : World, Calls Tryz.prog 40 #[.string s] x fun e x' => ∃ ra rc pa pc, e = .returned (.tuple #[.agg #[.slice ra q.rs.length rc, .slice pa q.ps.length pc, .bool q.bare], .int .i64 ln, .int .i64 er]) ∧ RowX 4 Ru.cl x' ra q.rs ∧ RowX 1 clI x' pa q.ps ∧ Below x.heap.size x x') := by
  have key : ∀ (ls : List (List UInt8)) (p q : Pl) (i m : Nat), parseL p i ls = (some q, m) → q.rs.length ≤ p.rs.length + ls.length ∧ q.ps.length ≤ p.ps.length + ls.length := fun ls => by
    induction ls with
    | nil => intro p q i m h; cases h; simp
    | cons l ls ih =>
      intro p q i m h
      cases hz : lineZ p (wordsB l) with
      | none => rw [parseL_none hz] at h; cases h
      | some z =>
        rw [parseL_some hz] at h
        obtain ⟨h1, h2⟩ := lineZ_len hz
        obtain ⟨h3, h4⟩ := ih z q _ _ h
        simp only [List.length_cons]
        omega
  have hll : (linesB s).length ≤ 50001 := by
    have := split_count (hasB [10]) s.data.toList
    have e : s.data.toList.length = s.size := Array.length_toList
    unfold linesB
    omega
  have h1 := fun x hx => parse10_any s x (by omega) hx
  have h2 := fun x => refParse10_any s x (by omega)
  obtain ⟨o, m, ho⟩ : ∃ o m, parseL .zero 0 (linesB s) = (o, m) := ⟨_, _, rfl⟩
  rw [ho] at h1 h2
  cases o with
  | some q =>
    obtain ⟨k1, k2⟩ := key _ _ _ _ _ ho
    have z1 : Pl.zero.rs.length = 0 := rfl
    have z2 : Pl.zero.ps.length = 0 := rfl
    refine ⟨q, 0, 0, by omega, by omega, fun x hx => (h1 x hx).mono ?_, fun x => (h2 x).mono ?_⟩
    · rintro e x' ⟨hb, rv, pv, rfl, o1, o2⟩
      obtain ⟨ra, rc, rfl⟩ := o1.form
      obtain ⟨pa, pc, rfl⟩ := o2.form
      exact ⟨ra, rc, pa, pc, rfl, o1.row Ru.cl_len, o2.row clI_len, hb⟩
    · rintro e x' ⟨hb, rv, pv, rfl, o1, o2⟩
      obtain ⟨ra, rc, rfl⟩ := o1.form
      obtain ⟨pa, pc, rfl⟩ := o2.form
      exact ⟨ra, rc, pa, pc, rfl, o1.row Ru.cl_len, o2.row clI_len, hb⟩
  | none =>
    refine ⟨.zero, m, 4, Nat.zero_le _, Nat.zero_le _, fun x hx => (h1 x hx).mono ?_, fun x => (h2 x).mono ?_⟩
    · rintro e x' ⟨hb, rfl⟩
      exact ⟨none, 0, none, 0, rfl, rowX_none _ _ _, rowX_none _ _ _, hb⟩
    · rintro e x' ⟨hb, rfl⟩
      exact ⟨none, 0, none, 0, rfl, rowX_none _ _ _, rowX_none _ _ _, hb⟩
set_option maxRecDepth 100000 in
set_option maxHeartbeats 16000000 in
theorem policyReads_walk (a0 : ByteArray) (a1_0 : Option Addr) (len1_0 cap1_0 : Nat) (z1_0 : List Ru) (a1_1 : Option Addr) (len1_1 cap1_1 : Nat) (z1_1 : List Int) (a1_2 : Bool) (_w0 : a0.size ≤ maxLen) (w : World) (w1_0 : IsURow w a1_0 len1_0 cap1_0 z1_0) (w1_1 : IsIRow w a1_1 len1_1 cap1_1 z1_1) (hpow : PowTab w) (hbru : BruTab w) (hmax : MaxVar w) :
    Calls Tryz.prog 7 #[.string a0, .agg #[.slice a1_0 len1_0 cap1_0, .slice a1_1 len1_1 cap1_1, .bool a1_2]] w fun e w' => e = .returned (.bool true) ∧ Below w.heap.size w w' := by
  have hl0 : z1_0.length = len1_0 := w1_0.1
  have hl1 : z1_1.length = len1_1 := w1_1.1
  subst hl0 hl1
  have HT := Lib.hid hbru
  have HX := Lib.hid hmax
  have HY := Lib.hid hpow
  have HRO := Lib.hid w1_0
  have HPO := Lib.hid w1_1
  have HB0 := Lib.hid ((Blks.empty w).new #[.slice a1_0 z1_0.length cap1_0, .slice a1_1 z1_1.length cap1_1, .bool a1_2] 61)
  have HW0 : Hid (Below w.heap.size w (w.alloc (.cells #[.slice a1_0 z1_0.length cap1_0, .slice a1_1 z1_1.length cap1_1, .bool a1_2] 61))) := (Below.refl _ _).alloc (Nat.le_refl _) _
  clear hbru hmax hpow w1_0 w1_1
  go_enter Tryz.func7, Tryz.ntmps7
  go_wp2_with fail
  refine (awake010_any _ (bruTab_below HT.out HW0.out) (maxVar_below HX.out HW0.out)).mono ?_
  rintro e x1 ⟨rfl, hb1⟩
  have HW1 := Lib.hid (below_chain7 HW0.out hb1)
  have HB1 := Lib.hid (HB0.out.keep hb1)
  clear hb1 HB0 HW0
  obtain ⟨l1, p0, p1, p2⟩ := HB1.out.r3 (.head _)
  by_cases h3000 : 3000 < a0.size
  · have hd : decide (3000 < (a0.size : Int)) = true := decide_eq_true (by omega)
    go_wp2
    go_ret
    exact ⟨rfl, HW1.out⟩
  have hd : decide (3000 < (a0.size : Int)) = false := decide_eq_false (by omega)
  go_wp2_with fail
  refine (few10_any _ _ _ _ _ _ _ _).mono ?_
  rintro e x2 ⟨rfl, hb2⟩
  have HW2 := Lib.hid (below_chain7 HW1.out hb2)
  have HB2 := Lib.hid (HB1.out.keep hb2)
  clear hb2 HB1 HW1 l1 p0 p1 p2
  cases hf : fewB z1_0 z1_1 with
  | false =>
    go_wp2
    go_ret
    exact ⟨rfl, HW2.out⟩
  | true =>
    obtain ⟨hf1, hf2⟩ : z1_0.length ≤ 60 ∧ z1_1.length ≤ 40 := by unfold fewB at hf; simpa using hf
    clear hf
    obtain ⟨q, ln, er, hq1, hq2, hpp, hrp⟩ := reads_pair a0 (by omega)
    have HPP := Lib.hid (hpp x2 (maxVar_below HX.out HW2.out))
    have HRP := Lib.hid hrp
    clear hpp hrp h3000
    go_wp2_with fail
    refine HPP.out.mono ?_
    rintro e x3 ⟨ra, rc, pa, pc, rfl, hr3, hp3, hb3⟩
    have HA3 : Hid (Below x3.heap.size x3 (x3.alloc (.cells #[.slice ra q.rs.length rc, .slice pa q.ps.length pc, .bool q.bare] 61))) := (Below.refl _ _).alloc (Nat.le_refl _) _
    have HB3 := Lib.hid ((HB2.out.keep hb3).new #[.slice ra q.rs.length rc, .slice pa q.ps.length pc, .bool q.bare] 61)
    have HW3 := Lib.hid (below_chain7 (below_chain7 HW2.out hb3) HA3.out)
    have HR3 := Lib.hid (hr3.keep Ru.cl_len HA3.out)
    have HP3 := Lib.hid (hp3.keep clI_len HA3.out)
    clear hb3 hr3 hp3 HB2 HW2 HPP
    go_wp2_with fail
    generalize x3.alloc (.cells #[.slice ra q.rs.length rc, .slice pa q.ps.length pc, .bool q.bare] 61) = x4 at *
    generalize x3.heap.size = g3 at *
    refine (HRP.out _).mono ?_
    rintro e x5 ⟨ra2, rc2, pa2, pc2, rfl, hr5, hp5, hb5⟩
    have HA5 : Hid (Below x5.heap.size x5 (x5.alloc (.cells #[.slice ra2 q.rs.length rc2, .slice pa2 q.ps.length pc2, .bool q.bare] 70))) := (Below.refl _ _).alloc (Nat.le_refl _) _
    have HB5 := Lib.hid ((HB3.out.keep hb5).new #[.slice ra2 q.rs.length rc2, .slice pa2 q.ps.length pc2, .bool q.bare] 70)
    have HW5 := Lib.hid (below_chain7 (below_chain7 HW3.out hb5) HA5.out)
    have HR5 := Lib.hid (HR3.out.keep Ru.cl_len (below_chain7 hb5 HA5.out))
    have HP5 := Lib.hid (HP3.out.keep clI_len (below_chain7 hb5 HA5.out))
    have HS5 := Lib.hid (hr5.keep Ru.cl_len HA5.out)
    have HQ5 := Lib.hid (hp5.keep clI_len HA5.out)
    clear hb5 hr5 hp5 HB3 HW3 HR3 HP3 HA3 HRP
    go_wp2_with fail
    generalize x5.alloc (.cells #[.slice ra2 q.rs.length rc2, .slice pa2 q.ps.length pc2, .bool q.bare] 70) = y at *
    generalize x5.heap.size = g5 at *
    have HQ : Hid (∀ W, Below y.heap.size y W → Calls Tryz.prog 30 #[.agg #[.slice ra q.rs.length rc, .slice pa q.ps.length pc, .bool q.bare]] W fun e w' => ∃ a c, e = .returned (.agg #[.slice a q.rs.length c, .slice pa q.ps.length pc, .bool q.bare]) ∧ RowX 4 Ru.cl w' a q.rs ∧ Below y.heap.size y w') := fun W hW => (of10X_any ra pa rc q.ps.length pc q.bare q.rs W (HR5.out.keep Ru.cl_len hW) (by omega)).mono (fun e w' ⟨rv, he, ho, hb⟩ => by
      obtain ⟨a, c, rfl⟩ := ho.form
      exact ⟨a, c, he, ho.row Ru.cl_len, below_chain7 hW hb⟩)
    have HS : Hid (∀ a c W, Below y.heap.size y W → RowX 4 Ru.cl W a q.rs → Calls Tryz.prog 41 #[.agg #[.slice a q.rs.length c, .slice pa q.ps.length pc, .bool q.bare], .agg #[.slice ra2 q.rs.length rc2, .slice pa2 q.ps.length pc2, .bool q.bare]] W fun e w' => e = .returned (.bool true) ∧ Below y.heap.size y w') := fun a c W hW h1 => (same10_any a ra2 pa pa2 c rc2 pc pc2 q.bare q.rs q.ps W h1 (HS5.out.keep Ru.cl_len hW) (HP5.out.keep clI_len hW) (HQ5.out.keep clI_len hW) (by omega) (by omega)).mono (fun e w' h => ⟨h.1, below_chain7 hW h.2⟩)
    have HPR : Hid (∀ W, Below y.heap.size y W → Calls Tryz.prog 42 #[.agg #[.slice a1_0 z1_0.length cap1_0, .slice a1_1 z1_1.length cap1_1, .bool a1_2]] W fun e w' => e = .returned (.string ⟨(printZ z1_0 z1_1 a1_2).toArray⟩) ∧ Below y.heap.size y w') := fun W hW => (print10_any a1_0 a1_1 cap1_0 cap1_1 a1_2 z1_0 z1_1 W (powTab_below HY.out (below_chain7 HW5.out hW)) (bruTab_below HT.out (below_chain7 HW5.out hW)) (HRO.out.keep (below_chain7 HW5.out hW)) (HPO.out.keep (below_chain7 HW5.out hW)) (by omega) (by omega)).mono (fun e w' h => ⟨h.1, below_chain7 hW h.2⟩)
    have HOP : Hid (∀ W, Below y.heap.size y W → Calls Tryz.prog 30 #[.agg #[.slice a1_0 z1_0.length cap1_0, .slice a1_1 z1_1.length cap1_1, .bool a1_2]] W fun e w' => ∃ a c, e = .returned (.agg #[.slice a z1_0.length c, .slice a1_1 z1_1.length cap1_1, .bool a1_2]) ∧ IsURow w' a z1_0.length c z1_0 ∧ Below y.heap.size y w') := fun W hW => (of10_any a1_0 a1_1 cap1_0 z1_1.length cap1_1 a1_2 z1_0 W (HRO.out.keep (below_chain7 HW5.out hW)) (by omega)).mono (fun e w' ⟨rv, he, ho, hb⟩ => by
      obtain ⟨a, c, rfl⟩ := ho.form
      exact ⟨a, c, he, ho.urow HRO.out.ok, below_chain7 hW hb⟩)
    have HRR : Hid (∀ a c W, Below y.heap.size y W → IsURow W a z1_0.length c z1_0 → Calls Tryz.prog 43 #[.agg #[.slice a z1_0.length c, .slice a1_1 z1_1.length cap1_1, .bool a1_2]] W fun e w' => e = .returned (.string ⟨(printZ z1_0 z1_1 a1_2).toArray⟩) ∧ Below y.heap.size y w') := fun a c W hW hu => (refPrint10_any a a1_1 c cap1_1 a1_2 z1_0 z1_1 W (powTab_below HY.out (below_chain7 HW5.out hW)) hu (HPO.out.keep (below_chain7 HW5.out hW)) (by omega) (by omega)).mono (fun e w' h => ⟨h.1, below_chain7 hW h.2⟩)
    generalize printZ z1_0 z1_1 a1_2 = TX at *
    have HK : Hid (∀ W, Below y.heap.size y W → (W.cell? ⟨w.heap.size, 0, none⟩ = some (.slice a1_0 z1_0.length cap1_0) ∧ W.cell? ⟨w.heap.size, 1, none⟩ = some (.slice a1_1 z1_1.length cap1_1) ∧ W.cell? ⟨w.heap.size, 2, none⟩ = some (.bool a1_2)) ∧ (W.cell? ⟨g3, 0, none⟩ = some (.slice ra q.rs.length rc) ∧ W.cell? ⟨g3, 1, none⟩ = some (.slice pa q.ps.length pc) ∧ W.cell? ⟨g3, 2, none⟩ = some (.bool q.bare)) ∧ W.cell? ⟨g5, 0, none⟩ = some (.slice ra2 q.rs.length rc2) ∧ W.cell? ⟨g5, 1, none⟩ = some (.slice pa2 q.ps.length pc2) ∧ W.cell? ⟨g5, 2, none⟩ = some (.bool q.bare)) := fun W hW => ⟨((HB5.out.keep hW).r3 (.tail _ (.tail _ (.head _)))).2, ((HB5.out.keep hW).r3 (.tail _ (.head _))).2, ((HB5.out.keep hW).r3 (.head _)).2⟩
    have hln : (ln == ln) = true := by simp
    have her : (er == er) = true := by simp
    generalize q.bare = qb at *
    generalize hqr : q.rs = qrs at *
    generalize hqp : q.ps = qps at *
    clear hqr hqp
    go_region_held3 (fun W => (W.cell? ⟨w.heap.size, 0, none⟩ = some (.slice a1_0 z1_0.length cap1_0) ∧ W.cell? ⟨w.heap.size, 1, none⟩ = some (.slice a1_1 z1_1.length cap1_1) ∧ W.cell? ⟨w.heap.size, 2, none⟩ = some (.bool a1_2)) ∧ (W.cell? ⟨g3, 0, none⟩ = some (.slice ra qrs.length rc) ∧ W.cell? ⟨g3, 1, none⟩ = some (.slice pa qps.length pc) ∧ W.cell? ⟨g3, 2, none⟩ = some (.bool qb)) ∧ W.cell? ⟨g5, 0, none⟩ = some (.slice ra2 qrs.length rc2) ∧ W.cell? ⟨g5, 1, none⟩ = some (.slice pa2 qps.length pc2) ∧ W.cell? ⟨g5, 2, none⟩ = some (.bool qb)) (first | exact HK.out _ (below_drew1 _) | exact HK.out _ hb6 | exact HK.out _ hb7 | exact HK.out _ hb8 | exact HK.out _ hb9 | exact HK.out _ hb10) (first
      | (go_simp; go_at_call 30; ((with_reducible refine (HQ.out _ (below_drew1 _)).mono ?_); rintro e x6 ⟨a6, c6, rfl, hr6, hb6⟩))
      | (go_simp; go_at_call 41; ((with_reducible refine (HS.out _ _ _ hb6 hr6).mono ?_); rintro e x7 ⟨rfl, hb7⟩))
      | (go_simp; go_at_call 42; ((with_reducible refine (HPR.out _ hb7).mono ?_); rintro e x8 ⟨rfl, hb8⟩))
      | (go_simp; go_at_call 30; ((with_reducible refine (HOP.out _ hb8).mono ?_); rintro e x9 ⟨a9, c9, rfl, hu9, hb9⟩))
      | (go_simp; go_at_call 43; ((with_reducible refine (HRR.out _ _ _ hb9 hu9).mono ?_); rintro e x10 ⟨rfl, hb10⟩)))
    go_wp2
    go_ret
    exact ⟨by first | rfl | exact ret_bool (by simp), below_chain7 HW5.out hb10⟩
end

end Go.Proofs.YtoobiaifogackaaGreatDoor
