/-
  What the law PolicyBack leans on, and its walk (15 of 16).
-/
import Derived.Lib.ItoaMem
import Derived.Test.YtoobiaifogackaaGreatDoorPolicyBackPkN
import Derived.Test.YtoobiaifogackaaGreatDoorPolicyBackPkI
namespace Go.Proofs.YtoobiaifogackaaGreatDoor
section
open Go.RowKit
def Gr (l : List UInt8) : Prop := ∀ c ∈ l, 32 < c.toNat
theorem Gr.app {a b : List UInt8} (h : Gr a) (k : Gr b) : Gr (a ++ b) := fun c hc => by
  rcases List.mem_append.1 hc with q | q
  · exact h c q
  · exact k c q
theorem Gr.no {l : List UInt8} (h : Gr l) : (32 : UInt8) ∉ l ∧ (10 : UInt8) ∉ l := ⟨fun q => absurd (h _ q) (by decide), fun q => absurd (h _ q) (by decide)⟩
theorem Gr.nil : Gr [] := fun _ h => by cases h
theorem gr_dig' : ∀ i : Fin 256, digC 16 (UInt8.ofNat i.val) = true → 32 < i.val := by decide +kernel
theorem gr_digs {b : Int} {l : List UInt8} (h : digsB b l = true) (hb : b ≤ 16) : Gr l := fun c hc => by
  have h1 := List.all_eq_true.1 (digs_mono hb h) c hc
  have h2 := c.toNat_lt
  have h3 := gr_dig' ⟨c.toNat, h2⟩
  simp only [UInt8.ofNat_toNat] at h3
  exact h3 h1
theorem gr_joinH (l : List Int) : Gr (joinH l) := by
  induction l with
  | nil => intro c h; simp [joinH, Lib.join] at h
  | cons x r ih =>
    cases r with
    | nil =>
      rw [show joinH [x] = hexI x from by simp [joinH, Lib.join]]
      exact gr_digs (hexD_facts x.toNat).1 (by decide)
    | cons y r =>
      rw [show joinH (x :: y :: r) = hexI x ++ [58] ++ joinH (y :: r) from join_cons _ _ _ _]
      exact ((gr_digs (hexD_facts x.toNat).1 (by decide)).app (fun c h => by rw [List.mem_singleton.1 h]; decide)).app ih
theorem gr_text6 (hi lo : Int) : Gr (text6Z hi lo) := by
  unfold text6Z textP
  split
  · exact gr_joinH _
  · exact ((gr_joinH _).app (fun c h => by simp at h; rw [h]; decide)).app (gr_joinH _)
theorem gr_dec3' : ∀ u : Fin 256, (dec3 u.val).all (fun c => decide (32 < c.toNat)) = true := by decide +kernel
theorem gr_dec3 (u : Nat) (h : u < 256) : Gr (dec3 u) := fun c g => by
  have := List.all_eq_true.1 (gr_dec3' ⟨u, h⟩) c g
  simpa using this
theorem gr_txtZ (n : Int) (h0 : 0 ≤ n) (h1 : n ≤ 4294967295) : Gr (txtZ n) := by
  have hp : Gr [46] := fun c h => by rw [List.mem_singleton.1 h]; decide
  unfold txtZ txt
  exact ((gr_dec3 _ (by omega)).app hp).app (((gr_dec3 _ (by omega)).app hp).app (((gr_dec3 _ (by omega)).app hp).app (gr_dec3 _ (by omega))))
theorem gr_itoa (n : Int) (h0 : 0 ≤ n) (h1 : n < 18446744073709551616) : Gr (Lib.itoa n) := by
  obtain ⟨u, rfl⟩ : ∃ u : Nat, n = u := ⟨n.toNat, by omega⟩
  rw [Lib.itoa_nonneg]
  exact gr_digs (isNum_dec u (by omega)).1.digs (by decide)
theorem gr_textPf (hi lo k : Nat) (hk : k ≤ 128) : Gr (textPf hi lo k) := by
  have hp : Gr [47] := fun c h => by rw [List.mem_singleton.1 h]; decide
  unfold textPf
  split
  · rename_i c
    unfold asFour at c
    rw [decide_eq_true_iff] at c
    exact ((gr_txtZ _ (by omega) (by omega)).app hp).app (gr_itoa _ (by omega) (by omega))
  · exact ((gr_text6 _ _).app hp).app (gr_itoa _ (by omega) (by omega))
theorem textPf_ne (hi lo : Nat) (n : Int) : textPf hi lo n ≠ [] := by
  unfold textPf
  split <;> simp
/-- a rule's line, a port's -/
def wordR (a : Bool) : List UInt8 := if a = true then wAllow else wDeny
def lineR (x : Ru) : List UInt8 := wordR x.a ++ 32 :: textPf x.hi x.lo x.k
def lineP (n : Int) : List UInt8 := wPort ++ 32 :: Lib.itoa n
def headB (bare : Bool) : List UInt8 := if bare = true then wBare ++ [10] else []
def endL (l : List UInt8) : List UInt8 := l ++ [10]
/-- what is printed -/
def printZ (rs : List Ru) (ps : List Int) (bare : Bool) : List UInt8 := headB bare ++ rs.flatMap (fun x => endL (lineR x)) ++ ps.flatMap (fun n => endL (lineP n))
theorem lines_flat : ∀ ls : List (List UInt8), (∀ l ∈ ls, (10 : UInt8) ∉ l) → splitB (hasB [10]) (ls.flatMap endL) = ls ++ [[]]
  | [], _ => by rw [List.flatMap_nil, sp_none (by simp)]; rfl
  | l :: ls, h => by
    rw [List.flatMap_cons, show endL l ++ ls.flatMap endL = l ++ 10 :: ls.flatMap endL from by simp [endL], sp_some _ (h l (.head _)), lines_flat ls (fun x hx => h x (.tail _ hx))]
    rfl
def linesZ (rs : List Ru) (ps : List Int) (bare : Bool) : List (List UInt8) := (if bare = true then [wBare] else []) ++ rs.map lineR ++ ps.map lineP
theorem print_lines (rs : List Ru) (ps : List Int) (bare : Bool) : printZ rs ps bare = (linesZ rs ps bare).flatMap endL := by
  unfold printZ linesZ headB
  rw [List.flatMap_append, List.flatMap_append, List.flatMap_map, List.flatMap_map]
  cases bare <;> simp [endL]
theorem words_two {a t : List UInt8} (ha : (32 : UInt8) ∉ a) (ht : (32 : UInt8) ∉ t) (na : a ≠ []) (nt : t ≠ []) : wordsB (a ++ 32 :: t) = [a, t] := by
  unfold wordsB
  rw [sp_some _ ha, sp_none ht]
  cases a with
  | nil => exact absurd rfl na
  | cons c a =>
    cases t with
    | nil => exact absurd rfl nt
    | cons d t => rfl
theorem wordR_facts (a : Bool) : (32 : UInt8) ∉ wordR a ∧ (10 : UInt8) ∉ wordR a ∧ wordR a ≠ [] ∧ hashB (wordR a) = false ∧ (wordR a == wPort) = false ∧ ((wordR a == wAllow) = a) ∧ ((wordR a == wAllow) = true ∨ (wordR a == wDeny) = true) := by
  cases a <;> decide
theorem line_rule {x : Ru} (p : Pl) (ho : x.Ok) (hr : pRightB x.W x.k = true) : lineZ p (wordsB (lineR x)) = some ⟨p.rs ++ [x], p.ps, p.bare⟩ := by
  obtain ⟨f1, _, f2, f3, f4, f5, f6⟩ := wordR_facts x.a
  obtain ⟨k1, k2, k3⟩ := right_nat hr
  have ht := parse_text ho.1 ho.2.1 k1 k2
  have hg := gr_textPf x.hi x.lo x.k.toNat k1
  rw [k3] at ht hg
  unfold lineR
  rw [words_two f1 hg.no.1 f2 (textPf_ne _ _ _)]
  rw [lineZ, if_neg (by rw [f3]; simp)]
  show argZ _ _ _ = _
  unfold argZ
  rw [if_neg (by rw [f4]; simp), if_pos f6, ht, f5]
  unfold ruOf
  simp only
  rw [show wideN x.hi x.lo = x.W from rfl, show hiN x.W = x.hi from hiN_wide ho.2.1, show loN x.W = x.lo from loN_wide ho.2.1, k3]
theorem line_port (p : Pl) {n : Int} (h : portB n = true) : lineZ p (wordsB (lineP n)) = some ⟨p.rs, p.ps ++ [n], p.bare⟩ := by
  unfold portB at h
  rw [decide_eq_true_iff] at h
  have hg := gr_itoa n (by omega) (by omega)
  obtain ⟨u, rfl⟩ : ∃ u : Nat, n = u := ⟨n.toNat, by omega⟩
  have hn := isNum_dec u (by omega)
  have hd := dec_dec hn.1 hn.2 maxI
  rw [if_pos (by unfold maxI; omega), ← Lib.itoa_nonneg] at hd
  have hne : Lib.itoa (u : Int) ≠ [] := by rw [Lib.itoa_nonneg]; exact hn.1.ne
  unfold lineP
  rw [words_two (by decide) hg.no.1 (by decide) hne]
  rw [lineZ, if_neg (by decide)]
  show argZ _ _ _ = _
  unfold argZ
  simp only [hd]
  rw [if_pos (by decide)]
  simp
theorem line_bare (p : Pl) : lineZ p (wordsB wBare) = some ⟨p.rs, p.ps, true⟩ := by
  rw [show wordsB wBare = [wBare] from by decide]
  rw [lineZ, if_neg (by decide)]
  show (if (wBare == wBare) = true then _ else _) = _
  rw [if_pos (by decide)]
theorem parseL_rules : ∀ (rs : List Ru) (p : Pl) (i : Nat) (ls : List (List UInt8)), (∀ x ∈ rs, x.Ok) → rulesB rs = true → parseL p i (rs.map lineR ++ ls) = parseL ⟨p.rs ++ rs, p.ps, p.bare⟩ (i + rs.length) ls
  | [], p, i, ls, _, _ => by simp
  | x :: rs, p, i, ls, ho, hr => by
    unfold rulesB at hr
    rw [List.all_cons, Bool.and_eq_true] at hr
    rw [List.map_cons, List.cons_append, parseL_some (line_rule p (ho x (.head _)) hr.1), parseL_rules rs _ _ ls (fun y hy => ho y (.tail _ hy)) hr.2]
    simp only [List.append_assoc, List.singleton_append, List.length_cons]
    rw [show i + 1 + rs.length = i + (rs.length + 1) from by omega]
theorem parseL_ports : ∀ (ps : List Int) (p : Pl) (i : Nat) (ls : List (List UInt8)), portsB ps = true → parseL p i (ps.map lineP ++ ls) = parseL ⟨p.rs, p.ps ++ ps, p.bare⟩ (i + ps.length) ls
  | [], p, i, ls, _ => by simp
  | x :: ps, p, i, ls, hr => by
    unfold portsB at hr
    rw [List.all_cons, Bool.and_eq_true] at hr
    rw [List.map_cons, List.cons_append, parseL_some (line_port p hr.1), parseL_ports ps _ _ ls hr.2]
    simp only [List.append_assoc, List.singleton_append, List.length_cons]
    rw [show i + 1 + ps.length = i + (ps.length + 1) from by omega]
theorem lineR_no {x : Ru} (hr : pRightB x.W x.k = true) : (10 : UInt8) ∉ lineR x := fun q => by
  obtain ⟨_, f1, _⟩ := wordR_facts x.a
  obtain ⟨k1, k2, k3⟩ := right_nat hr
  have hg := gr_textPf x.hi x.lo x.k.toNat k1
  rw [k3] at hg
  unfold lineR at q
  rcases List.mem_append.1 q with q | q
  · exact f1 q
  · rcases List.mem_cons.1 q with q | q
    · exact absurd q (by decide)
    · exact hg.no.2 q
theorem lineP_no {n : Int} (h : portB n = true) : (10 : UInt8) ∉ lineP n := fun q => by
  unfold portB at h
  rw [decide_eq_true_iff] at h
  have hg := gr_itoa n (by omega) (by omega)
  unfold lineP at q
  rcases List.mem_append.1 q with q | q
  · exact absurd q (by decide)
  · rcases List.mem_cons.1 q with q | q
    · exact absurd q (by decide)
    · exact hg.no.2 q
/-- what is printed of a policy that may be is read as it was -/
theorem print_back (rs : List Ru) (ps : List Int) (bare : Bool) (ho : ∀ x ∈ rs, x.Ok) (hr : rulesB rs = true) (hp : portsB ps = true) : parseL .zero 0 (splitB (hasB [10]) (printZ rs ps bare)) = (some ⟨rs, ps, bare⟩, 0) := by
  rw [print_lines, lines_flat]
  · unfold linesZ
    cases bare with
    | true =>
      rw [if_pos rfl, List.append_assoc, List.append_assoc, List.singleton_append, parseL_some (line_bare _), parseL_rules rs _ _ _ ho hr, parseL_ports ps _ _ _ hp, parseL_some (q := ⟨rs, ps, true⟩)]
      · rfl
      · rw [show wordsB [] = [] from by decide]; simp [lineZ, Pl.zero]
    | false =>
      rw [if_neg (by simp), List.nil_append, List.append_assoc, parseL_rules rs _ _ _ ho hr, parseL_ports ps _ _ _ hp, parseL_some (q := ⟨rs, ps, false⟩)]
      · rfl
      · rw [show wordsB [] = [] from by decide]; simp [lineZ, Pl.zero]
  · intro l hl
    unfold linesZ at hl
    rcases List.mem_append.1 hl with hl | hl
    · rcases List.mem_append.1 hl with hl | hl
      · split at hl
        · rw [List.mem_singleton.1 hl]; decide
        · cases hl
      · obtain ⟨x, hx, rfl⟩ := List.mem_map.1 hl
        obtain ⟨i, hi, e⟩ := List.getElem_of_mem hx
        exact lineR_no (all_at hr (by rw [List.getElem?_eq_getElem hi, e]))
    · obtain ⟨n, hn, rfl⟩ := List.mem_map.1 hl
      obtain ⟨i, hi, e⟩ := List.getElem_of_mem hn
      exact lineP_no (all_at hp (by rw [List.getElem?_eq_getElem hi, e]))
theorem lineR_len {x : Ru} (ho : x.Ok) : (endL (lineR x)).length ≤ 120 := by
  have := textPf_len x.hi x.lo x.k ho.1 ho.2.1 ho.2.2.1 ho.2.2.2
  have h2 : (wordR x.a).length ≤ 5 := by cases x.a <;> decide
  unfold endL lineR
  simp only [List.length_append, List.length_cons, List.length_nil]; omega
theorem lineP_len {n : Int} (h0 : -9223372036854775808 ≤ n) (h1 : n ≤ 9223372036854775807) : (endL (lineP n)).length ≤ 120 := by
  have := Lib.itoa_length_le n h0 h1
  unfold endL lineP wPort
  simp only [List.length_append, List.length_cons, List.length_nil]; omega
theorem bytes_flat {α : Type} {f : α → List UInt8} {m : Nat} : ∀ l : List α, (∀ x ∈ l, (f x).length ≤ m) → (l.flatMap f).length ≤ l.length * m
  | [], _ => by simp
  | x :: l, h => by
    have h1 := h x (.head _)
    have h2 := bytes_flat l (fun y hy => h y (.tail _ hy))
    rw [List.flatMap_cons, List.length_append, List.length_cons, Nat.succ_mul]
    omega
theorem headB_len (bare : Bool) : (headB bare).length ≤ 5 := by cases bare <;> decide
theorem print_len {rs : List Ru} {ps : List Int} (bare : Bool) (ho : ∀ x ∈ rs, x.Ok) (hp : ∀ n ∈ ps, -9223372036854775808 ≤ n ∧ n ≤ 9223372036854775807) : (printZ rs ps bare).length ≤ 5 + rs.length * 120 + ps.length * 120 := by
  have h1 := bytes_flat (f := fun x => endL (lineR x)) (m := 120) rs (fun x hx => lineR_len (ho x hx))
  have h2 := bytes_flat (f := fun n => endL (lineP n)) (m := 120) ps (fun n hn => lineP_len (hp n hn).1 (hp n hn).2)
  have h3 := headB_len bare
  unfold printZ
  simp only [List.length_append]; omega
end

section
open Go.RowKit
theorem add_run (a b : List UInt8) (h : a.length + b.length ≤ 1000000000) : ∀ W, (Op.stringOp .add ⟨a.toArray⟩ ⟨b.toArray⟩).run Tryz.prog W = .ok (.string ⟨(a ++ b).toArray⟩) W := fun W => by
  rw [run_string_add_sum W _ _ (by rw [size_mk, size_mk]; omega), cat2]
theorem add_fit (a b : List UInt8) (h : a.length + b.length ≤ 1000000000) : ¬ ((ByteArray.mk a.toArray).size + (ByteArray.mk b.toArray).size > 9223372036854775807) := by rw [size_mk, size_mk]; omega
set_option maxHeartbeats 1000000 in
theorem word10_any (x : Ru) (w : World) :
    Calls Tryz.prog 76 #[.agg #[.int .u64 (x.hi : Nat), .int .u64 (x.lo : Nat), .int .i64 x.k, .bool x.a]] w fun e w' => e = .returned (.string ⟨(wordR x.a).toArray⟩) ∧ Below w.heap.size w w' := by
  cases ha : x.a with
  | true =>
    go_enter Tryz.func76, Tryz.ntmps76
    go_wp2
    go_ret
    exact ⟨rfl, (Below.refl _ _).alloc (Nat.le_refl _) _⟩
  | false =>
    go_enter Tryz.func76, Tryz.ntmps76
    go_wp2
    go_ret
    exact ⟨rfl, (Below.refl _ _).alloc (Nat.le_refl _) _⟩
/-- a policy, and what is written of it -/
structure PB (w wr : World) (b : Nat) (P : Array Value) (acc : List UInt8) : Prop where
  below : Below w.heap.size w wr
  eb : b = w.heap.size + 1
  blk : wr.heap[w.heap.size]? = some (.cells P 61)
  isb : Lib.IsBuilderF 146 5 b b (Lib.byteCells acc) wr
  size : b < wr.heap.size
theorem PB.keep {w wr x : World} {b : Nat} {P : Array Value} {acc : List UInt8} (h : PB w wr b P acc) (hb : Below wr.heap.size wr x) : PB w x b P acc :=
  ⟨below_chain7 h.below hb, h.eb, (hb.block _ (block_lt h.blk)).trans h.blk, isb_below h.isb hb, Nat.lt_of_lt_of_le h.size hb.size⟩
theorem PB.write {w wr : World} {b : Nat} {P : Array Value} {acc s : List UInt8} (h : PB w wr b P acc) (hl : acc.length + s.length ≤ 1000000000) :
    Calls Tryz.prog 75 #[.pointer (some ⟨b, 0, none⟩), .string ⟨s.toArray⟩] wr fun e x => (∃ n : Int, e = .returned (.tuple #[.int .i64 n, .nilIface])) ∧ PB w x b P (acc ++ s) ∧ Lib.OthersKept 5 (some b) wr x := by
  refine (Tryz.Builder_WriteString_k b b _ _ _ h.isb (by rw [Lib.byteCells_length, size_mk]; omega) (Nat.le_of_lt h.size)).mono ?_
  rintro e x ⟨rfl, h4, b4, k4⟩
  have hle : w.heap.size ≤ b := by rw [h.eb]; omega
  have hlt : w.heap.size < b := by rw [h.eb]; omega
  refine ⟨⟨_, rfl⟩, ⟨h.below.trans (b4.mono hle), h.eb, (b4.block _ hlt).trans h.blk, ?_, Nat.lt_of_lt_of_le h.size b4.size⟩, k4⟩
  rw [Lib.byteCells_append]
  exact .inr h4
theorem PB.first (w : World) (P : Array Value) : PB w ((w.alloc (.cells P 61)).alloc (.cells #[.pointer none, .slice none 0 0] 146)) (w.heap.size + 1) P [] := by
  have h0 := (Blks.empty w).new P 61
  have hs : (w.alloc (.cells P 61)).heap.size = w.heap.size + 1 := by simp
  refine ⟨((Below.refl _ w).alloc (Nat.le_refl _) _).alloc (by simp) _, rfl, (h0.keep ((Below.refl _ _).alloc (Nat.le_refl _) _)) _ (.head _), ?_, by simp⟩
  have := Lib.IsBuilderF.of (Lib.fresh_isBuilder 146 5 (w.alloc (.cells P 61)))
  rw [hs] at this
  exact this
theorem tyU8 : 99 ≠ 5 := by decide
theorem rule_box {y : World} {g : Nat} {c0 c1 c2 c3 : Value} {t : TypeId} (h : y.heap[g]? = some (.cells #[c0, c1, c2, c3] t)) : y.cell? ⟨g, 0, none⟩ = some c0 ∧ y.cell? ⟨g, 1, none⟩ = some c1 ∧ y.cell? ⟨g, 2, none⟩ = some c2 ∧ y.cell? ⟨g, 3, none⟩ = some c3 := by
  have L : Blks [(g, #[c0, c1, c2, c3], t)] y := fun e he => by rw [List.mem_singleton.1 he]; exact h
  exact (L.q4 (.head _)).2
theorem flat_take {α : Type} {f : α → List UInt8} {l : List α} {j : Nat} {x : α} (h : l[j]? = some x) (a : List UInt8) : a ++ (l.take (j + 1)).flatMap f = a ++ (l.take j).flatMap f ++ f x := by
  rw [List.take_add_one, h, List.flatMap_append]; simp
theorem take_len {α : Type} {f : α → List UInt8} {l : List α} {m : Nat} (h : ∀ x ∈ l, (f x).length ≤ m) (j : Nat) : ((l.take j).flatMap f).length ≤ l.length * m := by
  have h1 := bytes_flat (l.take j) (fun x hx => h x (List.mem_of_mem_take hx))
  have h2 : (l.take j).length ≤ l.length := by rw [List.length_take]; omega
  exact Nat.le_trans h1 (Nat.mul_le_mul_right m h2)
theorem IsIRow.ok {w : World} {a : Option Addr} {len cap : Nat} {zs : List Int} (h : IsIRow w a len cap zs) : ∀ x ∈ zs, -9223372036854775808 ≤ x ∧ x ≤ 9223372036854775807 := fun x hx => by
  obtain ⟨i, hi, e⟩ := List.getElem_of_mem hx
  exact (h.2 i x (by rw [List.getElem?_eq_getElem hi, e])).2
theorem Ru.text_len {x : Ru} (h : x.Ok) : (textPf x.hi x.lo x.k).length ≤ 100 := textPf_len x.hi x.lo x.k h.1 h.2.1 h.2.2.1 h.2.2.2
theorem wordR_len (a : Bool) : (wordR a).length ≤ 5 := by cases a <;> decide
set_option maxRecDepth 100000 in
set_option maxHeartbeats 8000000 in
theorem print10_any (ra pa : Option Addr) (rc pc : Nat) (bare : Bool) (rs : List Ru) (ps : List Int) (w : World) (hpow : PowTab w) (hbru : BruTab w) (hr : IsURow w ra rs.length rc rs) (hp : IsIRow w pa ps.length pc ps) (l1 : rs.length ≤ 1000) (l2 : ps.length ≤ 1000) :
    Calls Tryz.prog 42 #[.agg #[.slice ra rs.length rc, .slice pa ps.length pc, .bool bare]] w (RetStr w (printZ rs ps bare)) := by
  have HRO := Lib.hid hr
  have HPO := Lib.hid hp
  have HPW := Lib.hid hpow
  have HBR := Lib.hid hbru
  have HRK := Lib.hid hr.ok
  have HPK := Lib.hid hp.ok
  clear hpow hbru hr hp
  cases bare with
  | true =>
    have HF := Lib.hid (PB.first w #[.slice ra rs.length rc, .slice pa ps.length pc, .bool true])
    go_enter Tryz.func42, Tryz.ntmps42
    go_wp2_with fail
    refine (HF.out.write (s := [98, 97, 114, 101, 10]) (by simp)).mono ?_
    rintro e x1 ⟨⟨n1, rfl⟩, hp1, _⟩
    obtain ⟨PA, hPA⟩ : ∃ X : Array Value, X = #[.slice ra rs.length rc, .slice pa ps.length pc, .bool true] := ⟨_, rfl⟩
    have HPA := Lib.hid hPA
    have HP1 : Hid (PB w x1 (w.heap.size + 1) PA (headB true)) := by show PB _ _ _ _ _; rw [hPA]; exact hp1
    have p0 := cell_row hp1.blk 0
    simp at p0
    clear hp1 HF hPA
    go_wp2
    go_loopw [14] (fun i wr => ∃ j : Nat, j ≤ rs.length ∧ i = .int .i64 j ∧ Hid (PB w wr (w.heap.size + 1) PA (headB true ++ (rs.take j).flatMap (fun x => endL (lineR x))))) (fun i _ => rs.length - (intOf i).toNat)
    case atStart => exact ⟨0, Nat.zero_le _, rfl, by show PB _ _ _ _ _; simpa using HP1.out⟩
    case round =>
      obtain ⟨j, hj, rfl, HP⟩ := hrel
      by_cases hlt : j < rs.length
      · obtain ⟨ad, rfl, x, hx, ⟨c0, c1, c2, c3⟩, hxo⟩ := (HRO.out.keep HP.out.below).at hlt
        have HXO := Lib.hid hxo
        have hjl : (j : Int) < rs.length := by omega
        have HSN := Lib.hid (flat_take (f := fun x => endL (lineR x)) hx (headB true))
        have hal : (headB true ++ (rs.take j).flatMap (fun x => endL (lineR x))).length ≤ 200000 := by
          have h1 := take_len (f := fun x => endL (lineR x)) (fun y hy => lineR_len (HRK.out y hy)) j
          have h2 := headB_len true
          rw [List.length_append]; omega
        generalize headB true ++ (rs.take j).flatMap (fun x => endL (lineR x)) = acc at *
        have hTl := Ru.text_len HXO.out
        have hWl := wordR_len x.a
        have HEQ : Hid (endL (lineR x) = wordR x.a ++ [32] ++ textPf x.hi x.lo x.k ++ [10]) := by show _ = _; simp [endL, lineR]
        have HBX := Lib.hid ((Blks.empty wr).new #[.int .u64 (x.hi : Nat), .int .u64 (x.lo : Nat), .int .i64 x.k, .bool x.a] 99)
        have HBE : Hid (Below wr.heap.size wr (wr.alloc (.cells #[.int .u64 (x.hi : Nat), .int .u64 (x.lo : Nat), .int .i64 x.k, .bool x.a] 99))) := (Below.refl _ _).alloc (Nat.le_refl _) _
        have HPY := Lib.hid (HP.out.keep HBE.out)
        go_wp2
        generalize wr.alloc (.cells #[.int .u64 (x.hi : Nat), .int .u64 (x.lo : Nat), .int .i64 x.k, .bool x.a] 99) = y at *
        obtain ⟨g, hgw⟩ : ∃ g, wr.heap.size = g := ⟨_, rfl⟩
        rw [hgw] at HBX ⊢
        have HGB : Hid (w.heap.size + 1 < g) := hgw ▸ HP.out.size
        clear hxo c0 c1 c2 c3 hgw HP HBE
        have HWD : Hid (∀ W, Below y.heap.size y W → Calls Tryz.prog 76 #[.agg #[.int .u64 (x.hi : Nat), .int .u64 (x.lo : Nat), .int .i64 x.k, .bool x.a]] W fun e w' => e = .returned (.string ⟨(wordR x.a).toArray⟩) ∧ Below y.heap.size y w') := fun W hW => (word10_any x W).mono (fun e w' h => ⟨h.1, below_chain7 hW h.2⟩)
        have HTX : Hid (∀ W, Below y.heap.size y W → Calls Tryz.prog 77 #[.agg #[.int .u64 (x.hi : Nat), .int .u64 (x.lo : Nat), .int .i64 x.k]] W fun e w' => e = .returned (.string ⟨(textPf x.hi x.lo x.k).toArray⟩) ∧ Below y.heap.size y w') := fun W hW => (pText_any x.hi x.lo x.k W HXO.out.1 HXO.out.2.1 HXO.out.2.2.1 HXO.out.2.2.2 (powTab_below HPW.out (below_chain7 HPY.out.below hW)) (bruTab_below HBR.out (below_chain7 HPY.out.below hW))).mono (fun e w' h => ⟨h.1, below_chain7 hW h.2⟩)
        generalize wordR x.a = Wd at *
        generalize textPf x.hi x.lo x.k = T at *
        obtain ⟨Z1, hZ1⟩ : ∃ z, z = Wd ++ [32] := ⟨_, rfl⟩
        obtain ⟨Z2, hZ2⟩ : ∃ z, z = Z1 ++ T := ⟨_, rfl⟩
        obtain ⟨Z3, hZ3⟩ : ∃ z, z = Z2 ++ [10] := ⟨_, rfl⟩
        have l1' : Z1.length = Wd.length + 1 := by rw [hZ1]; simp
        have l2' : Z2.length = Z1.length + T.length := by rw [hZ2]; simp
        have l3' : Z3.length = Z2.length + 1 := by rw [hZ3]; simp
        have hadd1 : ∀ W, (Op.stringOp .add ⟨Wd.toArray⟩ ⟨#[32]⟩).run Tryz.prog W = .ok (.string ⟨Z1.toArray⟩) W := by rw [hZ1]; exact add_run Wd [32] (by simp; omega)
        have hadd2 : ∀ W, (Op.stringOp .add ⟨Z1.toArray⟩ ⟨T.toArray⟩).run Tryz.prog W = .ok (.string ⟨Z2.toArray⟩) W := by rw [hZ2]; exact add_run Z1 T (by omega)
        have hadd3 : ∀ W, (Op.stringOp .add ⟨Z2.toArray⟩ ⟨#[10]⟩).run Tryz.prog W = .ok (.string ⟨Z3.toArray⟩) W := by rw [hZ3]; exact add_run Z2 [10] (by simp; omega)
        have hg1 : ¬ ((ByteArray.mk Wd.toArray).size + (ByteArray.mk #[32]).size > 9223372036854775807) := add_fit Wd [32] (by simp; omega)
        have hg2 : ¬ ((ByteArray.mk Z1.toArray).size + (ByteArray.mk T.toArray).size > 9223372036854775807) := add_fit Z1 T (by omega)
        have hg3 : ¬ ((ByteArray.mk Z2.toArray).size + (ByteArray.mk #[10]).size > 9223372036854775807) := add_fit Z2 [10] (by simp; omega)
        have HZ : Hid (endL (lineR x) = Z3) := by show _ = _; rw [HEQ.out, hZ3, hZ2, hZ1]
        have HK : Hid (∀ W, Below y.heap.size y W → W.cell? ⟨g, 0, none⟩ = some (.int .u64 (x.hi : Nat)) ∧ W.cell? ⟨g, 1, none⟩ = some (.int .u64 (x.lo : Nat)) ∧ W.cell? ⟨g, 2, none⟩ = some (.int .i64 x.k) ∧ W.cell? ⟨g, 3, none⟩ = some (.bool x.a)) := fun W hW => ((HBX.out.keep hW).q4 (.head _)).2
        have HWS : Hid (∀ W, Below y.heap.size y W → Calls Tryz.prog 75 #[.pointer (some ⟨w.heap.size + 1, 0, none⟩), .string ⟨Z3.toArray⟩] W fun e w' => (∃ n : Int, e = .returned (.tuple #[.int .i64 n, .nilIface])) ∧ PB w w' (w.heap.size + 1) PA (acc ++ Z3) ∧ (w'.cell? ⟨g, 0, none⟩ = some (.int .u64 (x.hi : Nat)) ∧ w'.cell? ⟨g, 1, none⟩ = some (.int .u64 (x.lo : Nat)) ∧ w'.cell? ⟨g, 2, none⟩ = some (.int .i64 x.k) ∧ w'.cell? ⟨g, 3, none⟩ = some (.bool x.a))) := fun W hW => ((HPY.out.keep hW).write (s := Z3) (by omega)).mono (fun e w' h => ⟨h.1, h.2.1, by
          have hgw := (HBX.out.keep hW) _ (.head _)
          have hgb := HGB.out
          exact rule_box (h.2.2 g _ hgw (fun e => by simp only [Option.some.injEq] at e; omega) (fun c fz e => by injection e with _ e; exact tyU8 e))⟩)
        clear hZ1 hZ2 hZ3 HEQ HPY HBX
        go_region_held3 (fun W => W.cell? ⟨g, 0, none⟩ = some (.int .u64 (x.hi : Nat)) ∧ W.cell? ⟨g, 1, none⟩ = some (.int .u64 (x.lo : Nat)) ∧ W.cell? ⟨g, 2, none⟩ = some (.int .i64 x.k) ∧ W.cell? ⟨g, 3, none⟩ = some (.bool x.a)) (first | exact HK.out _ (below_drew1 _) | exact HK.out _ hb5 | exact HK.out _ hb6 | exact hs7) (first
          | (go_simp; go_at_call 76; ((with_reducible refine (HWD.out _ (below_drew1 _)).mono ?_); rintro e x5 ⟨rfl, hb5⟩))
          | (go_simp; go_at_call 77; ((with_reducible refine (HTX.out _ hb5).mono ?_); rintro e x6 ⟨rfl, hb6⟩))
          | (go_simp; go_at_call 75; ((with_reducible refine (HWS.out _ hb6).mono ?_); rintro e x7 ⟨⟨n7, rfl⟩, hp7, hs7⟩)))
        have HP7 : Hid (PB w x7 (w.heap.size + 1) PA (headB true ++ (rs.take (j + 1)).flatMap (fun x => endL (lineR x)))) := by
          show PB _ _ _ _ _
          rw [HSN.out, HZ.out]; exact hp7
        clear hp7 hs7
        go_wp2
        go_roundw
        case rel => exact ⟨j + 1, by omega, by go_num, HP7⟩
        case measure => simp [intOf]; omega
      · have hj' : j = rs.length := by omega
        subst hj'
        rw [List.take_length] at HP
        have hal : (headB true ++ rs.flatMap (fun x => endL (lineR x))).length ≤ 200000 := by
          have h1 := bytes_flat (f := fun x => endL (lineR x)) rs (fun y hy => lineR_len (HRK.out y hy))
          have h2 := headB_len true
          rw [List.length_append]; omega
        have HEN : Hid (printZ rs ps true = headB true ++ rs.flatMap (fun x => endL (lineR x)) ++ ps.flatMap (fun n => endL (lineP n))) := rfl
        generalize headB true ++ rs.flatMap (fun x => endL (lineR x)) = acc0 at *
        generalize printZ rs ps true = OUT at *
        have p1 := cell_row HP.out.blk 1
        rw [HPA.out] at p1
        simp at p1
        have HPP := Lib.hid HP.out
        go_wp2
        go_loopw [31] (fun i wr => ∃ k : Nat, k ≤ ps.length ∧ i = .int .i64 k ∧ Hid (PB w wr (w.heap.size + 1) PA (acc0 ++ (ps.take k).flatMap (fun n => endL (lineP n))))) (fun i _ => ps.length - (intOf i).toNat)
        case atStart => exact ⟨0, Nat.zero_le _, rfl, by show PB _ _ _ _ _; simpa using HPP.out⟩
        case round =>
          obtain ⟨k, hk, rfl, HQ⟩ := hrel
          by_cases hkt : k < ps.length
          · obtain ⟨ad, rfl, n, hn, r0, hnb⟩ := HPO.out.at HQ.out.below hkt
            have hkl : (k : Int) < ps.length := by omega
            have HSN := Lib.hid (flat_take (f := fun n => endL (lineP n)) hn acc0)
            have hal2 : (acc0 ++ (ps.take k).flatMap (fun n => endL (lineP n))).length ≤ 400000 := by
              have h1 := take_len (f := fun n => endL (lineP n)) (fun y hy => lineP_len (HPK.out y hy).1 (HPK.out y hy).2) k
              rw [List.length_append]; omega
            generalize acc0 ++ (ps.take k).flatMap (fun n => endL (lineP n)) = acc at *
            have hIl := Lib.itoa_length_le n hnb.1 hnb.2
            have HEQ : Hid (endL (lineP n) = wPort ++ [32] ++ Lib.itoa n ++ [10]) := by show _ = _; simp [endL, lineP]
            have HIT := Lib.hid (itoaP_any n wr hnb.1 hnb.2 (powTab_below HPW.out HQ.out.below))
            generalize Lib.itoa n = I at *
            obtain ⟨Z1, hZ1⟩ : ∃ z, z = wPort ++ [32] ++ I := ⟨_, rfl⟩
            obtain ⟨Z2, hZ2⟩ : ∃ z, z = Z1 ++ [10] := ⟨_, rfl⟩
            have l1' : Z1.length = 5 + I.length := by rw [hZ1]; simp [wPort]; omega
            have l2' : Z2.length = Z1.length + 1 := by rw [hZ2]; simp
            have hadd1 : ∀ W, (Op.stringOp .add ⟨#[112, 111, 114, 116, 32]⟩ ⟨I.toArray⟩).run Tryz.prog W = .ok (.string ⟨Z1.toArray⟩) W := by rw [hZ1]; exact add_run [112, 111, 114, 116, 32] I (by simp; omega)
            have hadd2 : ∀ W, (Op.stringOp .add ⟨Z1.toArray⟩ ⟨#[10]⟩).run Tryz.prog W = .ok (.string ⟨Z2.toArray⟩) W := by rw [hZ2]; exact add_run Z1 [10] (by simp; omega)
            have hg1 : ¬ ((ByteArray.mk #[112, 111, 114, 116, 32]).size + (ByteArray.mk I.toArray).size > 9223372036854775807) := add_fit [112, 111, 114, 116, 32] I (by simp; omega)
            have hg2 : ¬ ((ByteArray.mk Z1.toArray).size + (ByteArray.mk #[10]).size > 9223372036854775807) := add_fit Z1 [10] (by simp; omega)
            have HZ : Hid (endL (lineP n) = Z2) := by show _ = _; rw [HEQ.out, hZ2, hZ1]
            clear hZ1 hZ2 HEQ
            go_wp2_with fail
            refine HIT.out.mono ?_
            rintro e x5 ⟨rfl, hb5⟩
            have HQ5 := Lib.hid (HQ.out.keep hb5)
            clear hb5 r0 HIT HQ
            go_wp2_with fail
            refine (HQ5.out.write (s := Z2) (by omega)).mono ?_
            rintro e x6 ⟨⟨n6, rfl⟩, hp6, _⟩
            have HP6 : Hid (PB w x6 (w.heap.size + 1) PA (acc0 ++ (ps.take (k + 1)).flatMap (fun n => endL (lineP n)))) := by
              show PB _ _ _ _ _
              rw [HSN.out, HZ.out]; exact hp6
            clear hp6 HQ5
            go_wp2
            go_roundw
            case rel => exact ⟨k + 1, by omega, by go_num, HP6⟩
            case measure => simp [intOf]; omega
          · have hk' : k = ps.length := by omega
            subst hk'
            rw [List.take_length] at HQ
            have hal2 : (acc0 ++ ps.flatMap (fun n => endL (lineP n))).length ≤ 400000 := by
              have h1 := bytes_flat (f := fun n => endL (lineP n)) ps (fun y hy => lineP_len (HPK.out y hy).1 (HPK.out y hy).2)
              rw [List.length_append]; omega
            have hsz : w.heap.size + 1 ≤ wr.heap.size := Nat.le_of_lt HQ.out.size
            generalize acc0 ++ ps.flatMap (fun n => endL (lineP n)) = acc at *
            go_wp2_with fail
            refine (Tryz.Builder_String_any_k (w.heap.size + 1) (w.heap.size + 1) _ _ HQ.out.isb hsz).mono ?_
            rintro e x5 ⟨rfl, _, b5, _⟩
            go_wp2
            go_ret
            rw [HEN.out]
            exact ⟨rfl, HQ.out.below.trans (b5.mono (by omega))⟩
  | false =>
    obtain ⟨x1, hx1⟩ : ∃ x, x = (w.alloc (.cells #[.slice ra rs.length rc, .slice pa ps.length pc, .bool false] 61)).alloc (.cells #[.pointer none, .slice none 0 0] 146) := ⟨_, rfl⟩
    obtain ⟨PA, hPA⟩ : ∃ X : Array Value, X = #[.slice ra rs.length rc, .slice pa ps.length pc, .bool false] := ⟨_, rfl⟩
    have HPA := Lib.hid hPA
    have HP1 : Hid (PB w x1 (w.heap.size + 1) PA (headB false)) := by show PB _ _ _ _ _; rw [hx1, hPA]; exact PB.first w _
    clear hPA
    go_enter Tryz.func42, Tryz.ntmps42
    go_wp2
    rw [← hx1]
    clear hx1
    go_loopw [14] (fun i wr => ∃ j : Nat, j ≤ rs.length ∧ i = .int .i64 j ∧ Hid (PB w wr (w.heap.size + 1) PA (headB false ++ (rs.take j).flatMap (fun x => endL (lineR x))))) (fun i _ => rs.length - (intOf i).toNat)
    case atStart => exact ⟨0, Nat.zero_le _, rfl, by show PB _ _ _ _ _; simpa using HP1.out⟩
    case round =>
      obtain ⟨j, hj, rfl, HP⟩ := hrel
      by_cases hlt : j < rs.length
      · obtain ⟨ad, rfl, x, hx, ⟨c0, c1, c2, c3⟩, hxo⟩ := (HRO.out.keep HP.out.below).at hlt
        have HXO := Lib.hid hxo
        have hjl : (j : Int) < rs.length := by omega
        have HSN := Lib.hid (flat_take (f := fun x => endL (lineR x)) hx (headB false))
        have hal : (headB false ++ (rs.take j).flatMap (fun x => endL (lineR x))).length ≤ 200000 := by
          have h1 := take_len (f := fun x => endL (lineR x)) (fun y hy => lineR_len (HRK.out y hy)) j
          have h2 := headB_len false
          rw [List.length_append]; omega
        generalize headB false ++ (rs.take j).flatMap (fun x => endL (lineR x)) = acc at *
        have hTl := Ru.text_len HXO.out
        have hWl := wordR_len x.a
        have HEQ : Hid (endL (lineR x) = wordR x.a ++ [32] ++ textPf x.hi x.lo x.k ++ [10]) := by show _ = _; simp [endL, lineR]
        have HBX := Lib.hid ((Blks.empty wr).new #[.int .u64 (x.hi : Nat), .int .u64 (x.lo : Nat), .int .i64 x.k, .bool x.a] 99)
        have HBE : Hid (Below wr.heap.size wr (wr.alloc (.cells #[.int .u64 (x.hi : Nat), .int .u64 (x.lo : Nat), .int .i64 x.k, .bool x.a] 99))) := (Below.refl _ _).alloc (Nat.le_refl _) _
        have HPY := Lib.hid (HP.out.keep HBE.out)
        go_wp2
        generalize wr.alloc (.cells #[.int .u64 (x.hi : Nat), .int .u64 (x.lo : Nat), .int .i64 x.k, .bool x.a] 99) = y at *
        obtain ⟨g, hgw⟩ : ∃ g, wr.heap.size = g := ⟨_, rfl⟩
        rw [hgw] at HBX ⊢
        have HGB : Hid (w.heap.size + 1 < g) := hgw ▸ HP.out.size
        clear hxo c0 c1 c2 c3 hgw HP HBE
        have HWD : Hid (∀ W, Below y.heap.size y W → Calls Tryz.prog 76 #[.agg #[.int .u64 (x.hi : Nat), .int .u64 (x.lo : Nat), .int .i64 x.k, .bool x.a]] W fun e w' => e = .returned (.string ⟨(wordR x.a).toArray⟩) ∧ Below y.heap.size y w') := fun W hW => (word10_any x W).mono (fun e w' h => ⟨h.1, below_chain7 hW h.2⟩)
        have HTX : Hid (∀ W, Below y.heap.size y W → Calls Tryz.prog 77 #[.agg #[.int .u64 (x.hi : Nat), .int .u64 (x.lo : Nat), .int .i64 x.k]] W fun e w' => e = .returned (.string ⟨(textPf x.hi x.lo x.k).toArray⟩) ∧ Below y.heap.size y w') := fun W hW => (pText_any x.hi x.lo x.k W HXO.out.1 HXO.out.2.1 HXO.out.2.2.1 HXO.out.2.2.2 (powTab_below HPW.out (below_chain7 HPY.out.below hW)) (bruTab_below HBR.out (below_chain7 HPY.out.below hW))).mono (fun e w' h => ⟨h.1, below_chain7 hW h.2⟩)
        generalize wordR x.a = Wd at *
        generalize textPf x.hi x.lo x.k = T at *
        obtain ⟨Z1, hZ1⟩ : ∃ z, z = Wd ++ [32] := ⟨_, rfl⟩
        obtain ⟨Z2, hZ2⟩ : ∃ z, z = Z1 ++ T := ⟨_, rfl⟩
        obtain ⟨Z3, hZ3⟩ : ∃ z, z = Z2 ++ [10] := ⟨_, rfl⟩
        have l1' : Z1.length = Wd.length + 1 := by rw [hZ1]; simp
        have l2' : Z2.length = Z1.length + T.length := by rw [hZ2]; simp
        have l3' : Z3.length = Z2.length + 1 := by rw [hZ3]; simp
        have hadd1 : ∀ W, (Op.stringOp .add ⟨Wd.toArray⟩ ⟨#[32]⟩).run Tryz.prog W = .ok (.string ⟨Z1.toArray⟩) W := by rw [hZ1]; exact add_run Wd [32] (by simp; omega)
        have hadd2 : ∀ W, (Op.stringOp .add ⟨Z1.toArray⟩ ⟨T.toArray⟩).run Tryz.prog W = .ok (.string ⟨Z2.toArray⟩) W := by rw [hZ2]; exact add_run Z1 T (by omega)
        have hadd3 : ∀ W, (Op.stringOp .add ⟨Z2.toArray⟩ ⟨#[10]⟩).run Tryz.prog W = .ok (.string ⟨Z3.toArray⟩) W := by rw [hZ3]; exact add_run Z2 [10] (by simp; omega)
        have hg1 : ¬ ((ByteArray.mk Wd.toArray).size + (ByteArray.mk #[32]).size > 9223372036854775807) := add_fit Wd [32] (by simp; omega)
        have hg2 : ¬ ((ByteArray.mk Z1.toArray).size + (ByteArray.mk T.toArray).size > 9223372036854775807) := add_fit Z1 T (by omega)
        have hg3 : ¬ ((ByteArray.mk Z2.toArray).size + (ByteArray.mk #[10]).size > 9223372036854775807) := add_fit Z2 [10] (by simp; omega)
        have HZ : Hid (endL (lineR x) = Z3) := by show _ = _; rw [HEQ.out, hZ3, hZ2, hZ1]
        have HK : Hid (∀ W, Below y.heap.size y W → W.cell? ⟨g, 0, none⟩ = some (.int .u64 (x.hi : Nat)) ∧ W.cell? ⟨g, 1, none⟩ = some (.int .u64 (x.lo : Nat)) ∧ W.cell? ⟨g, 2, none⟩ = some (.int .i64 x.k) ∧ W.cell? ⟨g, 3, none⟩ = some (.bool x.a)) := fun W hW => ((HBX.out.keep hW).q4 (.head _)).2
        have HWS : Hid (∀ W, Below y.heap.size y W → Calls Tryz.prog 75 #[.pointer (some ⟨w.heap.size + 1, 0, none⟩), .string ⟨Z3.toArray⟩] W fun e w' => (∃ n : Int, e = .returned (.tuple #[.int .i64 n, .nilIface])) ∧ PB w w' (w.heap.size + 1) PA (acc ++ Z3) ∧ (w'.cell? ⟨g, 0, none⟩ = some (.int .u64 (x.hi : Nat)) ∧ w'.cell? ⟨g, 1, none⟩ = some (.int .u64 (x.lo : Nat)) ∧ w'.cell? ⟨g, 2, none⟩ = some (.int .i64 x.k) ∧ w'.cell? ⟨g, 3, none⟩ = some (.bool x.a))) := fun W hW => ((HPY.out.keep hW).write (s := Z3) (by omega)).mono (fun e w' h => ⟨h.1, h.2.1, by
          have hgw := (HBX.out.keep hW) _ (.head _)
          have hgb := HGB.out
          exact rule_box (h.2.2 g _ hgw (fun e => by simp only [Option.some.injEq] at e; omega) (fun c fz e => by injection e with _ e; exact tyU8 e))⟩)
        clear hZ1 hZ2 hZ3 HEQ HPY HBX
        go_region_held3 (fun W => W.cell? ⟨g, 0, none⟩ = some (.int .u64 (x.hi : Nat)) ∧ W.cell? ⟨g, 1, none⟩ = some (.int .u64 (x.lo : Nat)) ∧ W.cell? ⟨g, 2, none⟩ = some (.int .i64 x.k) ∧ W.cell? ⟨g, 3, none⟩ = some (.bool x.a)) (first | exact HK.out _ (below_drew1 _) | exact HK.out _ hb5 | exact HK.out _ hb6 | exact hs7) (first
          | (go_simp; go_at_call 76; ((with_reducible refine (HWD.out _ (below_drew1 _)).mono ?_); rintro e x5 ⟨rfl, hb5⟩))
          | (go_simp; go_at_call 77; ((with_reducible refine (HTX.out _ hb5).mono ?_); rintro e x6 ⟨rfl, hb6⟩))
          | (go_simp; go_at_call 75; ((with_reducible refine (HWS.out _ hb6).mono ?_); rintro e x7 ⟨⟨n7, rfl⟩, hp7, hs7⟩)))
        have HP7 : Hid (PB w x7 (w.heap.size + 1) PA (headB false ++ (rs.take (j + 1)).flatMap (fun x => endL (lineR x)))) := by
          show PB _ _ _ _ _
          rw [HSN.out, HZ.out]; exact hp7
        clear hp7 hs7
        go_wp2
        go_roundw
        case rel => exact ⟨j + 1, by omega, by go_num, HP7⟩
        case measure => simp [intOf]; omega
      · have hj' : j = rs.length := by omega
        subst hj'
        rw [List.take_length] at HP
        have hal : (headB false ++ rs.flatMap (fun x => endL (lineR x))).length ≤ 200000 := by
          have h1 := bytes_flat (f := fun x => endL (lineR x)) rs (fun y hy => lineR_len (HRK.out y hy))
          have h2 := headB_len false
          rw [List.length_append]; omega
        have HEN : Hid (printZ rs ps false = headB false ++ rs.flatMap (fun x => endL (lineR x)) ++ ps.flatMap (fun n => endL (lineP n))) := rfl
        generalize headB false ++ rs.flatMap (fun x => endL (lineR x)) = acc0 at *
        generalize printZ rs ps false = OUT at *
        have p1 := cell_row HP.out.blk 1
        rw [HPA.out] at p1
        simp at p1
        have HPP := Lib.hid HP.out
        go_wp2
        go_loopw [31] (fun i wr => ∃ k : Nat, k ≤ ps.length ∧ i = .int .i64 k ∧ Hid (PB w wr (w.heap.size + 1) PA (acc0 ++ (ps.take k).flatMap (fun n => endL (lineP n))))) (fun i _ => ps.length - (intOf i).toNat)
        case atStart => exact ⟨0, Nat.zero_le _, rfl, by show PB _ _ _ _ _; simpa using HPP.out⟩
        case round =>
          obtain ⟨k, hk, rfl, HQ⟩ := hrel
          by_cases hkt : k < ps.length
          · obtain ⟨ad, rfl, n, hn, r0, hnb⟩ := HPO.out.at HQ.out.below hkt
            have hkl : (k : Int) < ps.length := by omega
            have HSN := Lib.hid (flat_take (f := fun n => endL (lineP n)) hn acc0)
            have hal2 : (acc0 ++ (ps.take k).flatMap (fun n => endL (lineP n))).length ≤ 400000 := by
              have h1 := take_len (f := fun n => endL (lineP n)) (fun y hy => lineP_len (HPK.out y hy).1 (HPK.out y hy).2) k
              rw [List.length_append]; omega
            generalize acc0 ++ (ps.take k).flatMap (fun n => endL (lineP n)) = acc at *
            have hIl := Lib.itoa_length_le n hnb.1 hnb.2
            have HEQ : Hid (endL (lineP n) = wPort ++ [32] ++ Lib.itoa n ++ [10]) := by show _ = _; simp [endL, lineP]
            have HIT := Lib.hid (itoaP_any n wr hnb.1 hnb.2 (powTab_below HPW.out HQ.out.below))
            generalize Lib.itoa n = I at *
            obtain ⟨Z1, hZ1⟩ : ∃ z, z = wPort ++ [32] ++ I := ⟨_, rfl⟩
            obtain ⟨Z2, hZ2⟩ : ∃ z, z = Z1 ++ [10] := ⟨_, rfl⟩
            have l1' : Z1.length = 5 + I.length := by rw [hZ1]; simp [wPort]; omega
            have l2' : Z2.length = Z1.length + 1 := by rw [hZ2]; simp
            have hadd1 : ∀ W, (Op.stringOp .add ⟨#[112, 111, 114, 116, 32]⟩ ⟨I.toArray⟩).run Tryz.prog W = .ok (.string ⟨Z1.toArray⟩) W := by rw [hZ1]; exact add_run [112, 111, 114, 116, 32] I (by simp; omega)
            have hadd2 : ∀ W, (Op.stringOp .add ⟨Z1.toArray⟩ ⟨#[10]⟩).run Tryz.prog W = .ok (.string ⟨Z2.toArray⟩) W := by rw [hZ2]; exact add_run Z1 [10] (by simp; omega)
            have hg1 : ¬ ((ByteArray.mk #[112, 111, 114, 116, 32]).size + (ByteArray.mk I.toArray).size > 9223372036854775807) := add_fit [112, 111, 114, 116, 32] I (by simp; omega)
            have hg2 : ¬ ((ByteArray.mk Z1.toArray).size + (ByteArray.mk #[10]).size > 9223372036854775807) := add_fit Z1 [10] (by simp; omega)
            have HZ : Hid (endL (lineP n) = Z2) := by show _ = _; rw [HEQ.out, hZ2, hZ1]
            clear hZ1 hZ2 HEQ
            go_wp2_with fail
            refine HIT.out.mono ?_
            rintro e x5 ⟨rfl, hb5⟩
            have HQ5 := Lib.hid (HQ.out.keep hb5)
            clear hb5 r0 HIT HQ
            go_wp2_with fail
            refine (HQ5.out.write (s := Z2) (by omega)).mono ?_
            rintro e x6 ⟨⟨n6, rfl⟩, hp6, _⟩
            have HP6 : Hid (PB w x6 (w.heap.size + 1) PA (acc0 ++ (ps.take (k + 1)).flatMap (fun n => endL (lineP n)))) := by
              show PB _ _ _ _ _
              rw [HSN.out, HZ.out]; exact hp6
            clear hp6 HQ5
            go_wp2
            go_roundw
            case rel => exact ⟨k + 1, by omega, by go_num, HP6⟩
            case measure => simp [intOf]; omega
          · have hk' : k = ps.length := by omega
            subst hk'
            rw [List.take_length] at HQ
            have hal2 : (acc0 ++ ps.flatMap (fun n => endL (lineP n))).length ≤ 400000 := by
              have h1 := bytes_flat (f := fun n => endL (lineP n)) ps (fun y hy => lineP_len (HPK.out y hy).1 (HPK.out y hy).2)
              rw [List.length_append]; omega
            have hsz : w.heap.size + 1 ≤ wr.heap.size := Nat.le_of_lt HQ.out.size
            generalize acc0 ++ ps.flatMap (fun n => endL (lineP n)) = acc at *
            go_wp2_with fail
            refine (Tryz.Builder_String_any_k (w.heap.size + 1) (w.heap.size + 1) _ _ HQ.out.isb hsz).mono ?_
            rintro e x5 ⟨rfl, _, b5, _⟩
            go_wp2
            go_ret
            rw [HEN.out]
            exact ⟨rfl, HQ.out.below.trans (b5.mono (by omega))⟩
end

section
open Go.RowKit
set_option maxRecDepth 100000 in
set_option maxHeartbeats 16000000 in
theorem policyBack_walk (a0_0 : Option Addr) (len0_0 cap0_0 : Nat) (z0_0 : List Ru) (a0_1 : Option Addr) (len0_1 cap0_1 : Nat) (z0_1 : List Int) (a0_2 : Bool) (w : World) (w0_0 : IsURow w a0_0 len0_0 cap0_0 z0_0) (w0_1 : IsIRow w a0_1 len0_1 cap0_1 z0_1) (hpow : PowTab w) (hbru : BruTab w) (hmax : MaxVar w) :
    Calls Tryz.prog 8 #[.agg #[.slice a0_0 len0_0 cap0_0, .slice a0_1 len0_1 cap0_1, .bool a0_2]] w fun e w' => e = .returned (.bool true) ∧ Below w.heap.size w w' := by
  have hl0 : z0_0.length = len0_0 := w0_0.1
  have hl1 : z0_1.length = len0_1 := w0_1.1
  subst hl0 hl1
  have HT := Lib.hid hbru
  have HX := Lib.hid hmax
  have HY := Lib.hid hpow
  have HRO := Lib.hid w0_0
  have HPO := Lib.hid w0_1
  have HB0 := Lib.hid ((Blks.empty w).new #[.slice a0_0 z0_0.length cap0_0, .slice a0_1 z0_1.length cap0_1, .bool a0_2] 61)
  have HW0 : Hid (Below w.heap.size w (w.alloc (.cells #[.slice a0_0 z0_0.length cap0_0, .slice a0_1 z0_1.length cap0_1, .bool a0_2] 61))) := (Below.refl _ _).alloc (Nat.le_refl _) _
  clear hbru hmax hpow w0_0 w0_1
  go_enter Tryz.func8, Tryz.ntmps8
  go_wp2_with fail
  refine (awake010_any _ (bruTab_below HT.out HW0.out) (maxVar_below HX.out HW0.out)).mono ?_
  rintro e x1 ⟨rfl, hb1⟩
  have HW1 := Lib.hid (below_chain7 HW0.out hb1)
  have HB1 := Lib.hid (HB0.out.keep hb1)
  clear hb1 HB0 HW0
  obtain ⟨l1, p0, p1, p2⟩ := HB1.out.r3 (.head _)
  go_wp2_with fail
  refine (few10_any _ _ _ _ _ _ _ _).mono ?_
  rintro e x2 ⟨rfl, hb2⟩
  have HW2 := Lib.hid (below_chain7 HW1.out hb2)
  have HB2 := Lib.hid (HB1.out.keep hb2)
  clear hb2 HB1 HW1 l1 p0 p1 p2
  cases hf : fewB z0_0 z0_1 with
  | false =>
    go_wp2
    go_ret
    exact ⟨rfl, HW2.out⟩
  | true =>
    obtain ⟨hf1, hf2⟩ : z0_0.length ≤ 60 ∧ z0_1.length ≤ 40 := by unfold fewB at hf; simpa using hf
    clear hf
    obtain ⟨l1, p0, p1, p2⟩ := HB2.out.r3 (.head _)
    have HC := Lib.hid (check10_any a0_0 a0_1 cap0_0 cap0_1 a0_2 z0_0 z0_1 x2 (HRO.out.keep HW2.out) (HPO.out.keep HW2.out))
    by_cases hc : checkZ z0_0 z0_1 = 0
    · obtain ⟨_, _, hr, hp⟩ := check_zero hc
      have hpb := print_back z0_0 z0_1 a0_2 HRO.out.ok hr hp
      have hpl := print_len a0_2 HRO.out.ok HPO.out.ok
      have HPB := Lib.hid hpb
      rw [hc] at HC
      clear hc hr hp hpb
      go_wp2_with fail
      refine HC.out.mono ?_
      rintro e x3 ⟨rfl, hb3⟩
      have HW3 := Lib.hid (below_chain7 HW2.out hb3)
      have HB3 := Lib.hid (HB2.out.keep hb3)
      clear hb3 HB2 HW2 l1 p0 p1 p2 HC
      obtain ⟨l1, p0, p1, p2⟩ := HB3.out.r3 (.head _)
      have HPR := Lib.hid (print10_any a0_0 a0_1 cap0_0 cap0_1 a0_2 z0_0 z0_1 x3 (powTab_below HY.out HW3.out) (bruTab_below HT.out HW3.out) (HRO.out.keep HW3.out) (HPO.out.keep HW3.out) (by omega) (by omega))
      generalize printZ z0_0 z0_1 a0_2 = TX at *
      go_wp2_with fail
      refine HPR.out.mono ?_
      rintro e x4 ⟨rfl, hb4⟩
      have HW4 := Lib.hid (below_chain7 HW3.out hb4)
      have HB4 := Lib.hid (HB3.out.keep hb4)
      have HPA : Hid (Calls Tryz.prog 39 #[.string ⟨TX.toArray⟩] x4 (RetPar x4 (some ⟨z0_0, z0_1, a0_2⟩, 0))) := by
        have := parse10_any ⟨TX.toArray⟩ x4 (by rw [size_mk]; omega) (maxVar_below HX.out HW4.out)
        rw [show parseL .zero 0 (linesB ⟨TX.toArray⟩) = (some ⟨z0_0, z0_1, a0_2⟩, 0) from HPB.out] at this
        exact this
      clear hb4 HB3 HW3 l1 p0 p1 p2 HPR HPB
      go_wp2_with fail
      refine HPA.out.mono ?_
      rintro e x5 ⟨hb5, rv, pv, rfl, ho1, ho2⟩
      obtain ⟨ra, rc, rfl⟩ := ho1.form
      obtain ⟨pa, pc, rfl⟩ := ho2.form
      have HAL : Hid (Below x5.heap.size x5 (x5.alloc (.cells #[.slice ra z0_0.length rc, .slice pa z0_1.length pc, .bool a0_2] 61))) := (Below.refl _ _).alloc (Nat.le_refl _) _
      have HW5 := Lib.hid (below_chain7 (below_chain7 HW4.out hb5) HAL.out)
      have HB5 := Lib.hid ((HB4.out.keep hb5).new #[.slice ra z0_0.length rc, .slice pa z0_1.length pc, .bool a0_2] 61)
      have HR5 := Lib.hid ((ho1.keep HAL.out).urow HRO.out.ok)
      have HP5 := Lib.hid ((ho2.keep HAL.out).irow HPO.out.ok)
      clear hb5 ho1 ho2 HB4 HW4 HPA
      go_wp2
      generalize x5.alloc (.cells #[.slice ra z0_0.length rc, .slice pa z0_1.length pc, .bool a0_2] 61) = y at *
      generalize x5.heap.size = gq at *
      have HQ : Hid (∀ W, Below y.heap.size y W → Calls Tryz.prog 30 #[.agg #[.slice ra z0_0.length rc, .slice pa z0_1.length pc, .bool a0_2]] W fun e w' => ∃ a c, e = .returned (.agg #[.slice a z0_0.length c, .slice pa z0_1.length pc, .bool a0_2]) ∧ RowX 4 Ru.cl w' a z0_0 ∧ Below y.heap.size y w' ∧ Below W.heap.size W w') := fun W hW => (of10_any ra pa rc z0_1.length pc a0_2 z0_0 W (HR5.out.keep hW) (by omega)).mono (fun e w' ⟨rv, he, ho, hb⟩ => by
        obtain ⟨a, c, rfl⟩ := ho.form
        exact ⟨a, c, he, ho.row Ru.cl_len, below_chain7 hW hb, hb⟩)
      have HP : Hid (∀ W, Below y.heap.size y W → Calls Tryz.prog 30 #[.agg #[.slice a0_0 z0_0.length cap0_0, .slice a0_1 z0_1.length cap0_1, .bool a0_2]] W fun e w' => ∃ a c, e = .returned (.agg #[.slice a z0_0.length c, .slice a0_1 z0_1.length cap0_1, .bool a0_2]) ∧ RowX 4 Ru.cl w' a z0_0 ∧ Below y.heap.size y w' ∧ Below W.heap.size W w') := fun W hW => (of10_any a0_0 a0_1 cap0_0 z0_1.length cap0_1 a0_2 z0_0 W (HRO.out.keep (below_chain7 HW5.out hW)) (by omega)).mono (fun e w' ⟨rv, he, ho, hb⟩ => by
        obtain ⟨a, c, rfl⟩ := ho.form
        exact ⟨a, c, he, ho.row Ru.cl_len, below_chain7 hW hb, hb⟩)
      have HS : Hid (∀ a1 c1 a2 c2 W, Below y.heap.size y W → RowX 4 Ru.cl W a1 z0_0 → RowX 4 Ru.cl W a2 z0_0 → Calls Tryz.prog 41 #[.agg #[.slice a1 z0_0.length c1, .slice pa z0_1.length pc, .bool a0_2], .agg #[.slice a2 z0_0.length c2, .slice a0_1 z0_1.length cap0_1, .bool a0_2]] W fun e w' => e = .returned (.bool true) ∧ Below y.heap.size y w') := fun a1 c1 a2 c2 W hW h1 h2 => (same10_any a1 a2 pa a0_1 c1 c2 pc cap0_1 a0_2 z0_0 z0_1 W h1 h2 (HP5.out.keep hW).rx (HPO.out.keep (below_chain7 HW5.out hW)).rx (by omega) (by omega)).mono (fun e w' h => ⟨h.1, below_chain7 hW h.2⟩)
      have HK : Hid (∀ W, Below y.heap.size y W → (W.cell? ⟨w.heap.size, 0, none⟩ = some (.slice a0_0 z0_0.length cap0_0) ∧ W.cell? ⟨w.heap.size, 1, none⟩ = some (.slice a0_1 z0_1.length cap0_1) ∧ W.cell? ⟨w.heap.size, 2, none⟩ = some (.bool a0_2)) ∧ W.cell? ⟨gq, 0, none⟩ = some (.slice ra z0_0.length rc) ∧ W.cell? ⟨gq, 1, none⟩ = some (.slice pa z0_1.length pc) ∧ W.cell? ⟨gq, 2, none⟩ = some (.bool a0_2)) := fun W hW => ⟨((HB5.out.keep hW).r3 (.tail _ (.head _))).2, ((HB5.out.keep hW).r3 (.head _)).2⟩
      go_region_held3 (fun W => (W.cell? ⟨w.heap.size, 0, none⟩ = some (.slice a0_0 z0_0.length cap0_0) ∧ W.cell? ⟨w.heap.size, 1, none⟩ = some (.slice a0_1 z0_1.length cap0_1) ∧ W.cell? ⟨w.heap.size, 2, none⟩ = some (.bool a0_2)) ∧ W.cell? ⟨gq, 0, none⟩ = some (.slice ra z0_0.length rc) ∧ W.cell? ⟨gq, 1, none⟩ = some (.slice pa z0_1.length pc) ∧ W.cell? ⟨gq, 2, none⟩ = some (.bool a0_2)) (first | exact HK.out _ (below_drew1 _) | exact HK.out _ hb6 | exact HK.out _ hb7 | exact HK.out _ hb8) (first
        | (go_simp; go_at_call 30; ((with_reducible refine (HQ.out _ (below_drew1 _)).mono ?_); rintro e x6 ⟨a6, c6, rfl, hr6, hb6, _⟩))
        | (go_simp; go_at_call 30; ((with_reducible refine (HP.out _ hb6).mono ?_); rintro e x7 ⟨a7, c7, rfl, hr7, hb7, hc7⟩))
        | (go_simp; go_at_call 41; ((with_reducible refine (HS.out _ _ _ _ _ hb7 (hr6.keep Ru.cl_len hc7) hr7).mono ?_); rintro e x8 ⟨rfl, hb8⟩)))
      go_wp2
      go_ret
      exact ⟨by first | rfl | exact ret_bool (by simp), below_chain7 HW5.out hb8⟩
    · have hne : (checkZ z0_0 z0_1 != 0) = true := by simp [hc]
      generalize checkZ z0_0 z0_1 = cz at *
      go_wp2_with fail
      refine HC.out.mono ?_
      rintro e x3 ⟨rfl, hb3⟩
      go_wp2
      go_ret
      exact ⟨rfl, below_chain7 HW2.out hb3⟩
end

end Go.Proofs.YtoobiaifogackaaGreatDoor
