/-
  Layer 8: told: a trie tells what its list says.
  Layer 8: a call's own trie and list; what an act leaves of them.
-/
import Derived.Test.YthdcldkcmnpkiaaGreatDoorTrjE
import Derived.Test.YthdcldkcmnpkiaaGreatDoorTrkB
import Derived.Test.YthdcldkcmnpkiaaGreatDoorTriM
import Derived.Test.YthdcldkcmnpkiaaGreatDoorTriU
import Derived.Test.YthdcldkcmnpkiaaGreatDoorTriR
namespace Go.Proofs.YthdcldkcmnpkiaaGreatDoor
open Go.RowKit


theorem HT.list_lt {w : World} : ∀ {T : HT}, T.In w → ∀ x ∈ T.pt.list, x.W < 2 ^ 128
  | .nil, _, x, hx => by cases hx
  | .node b W n v h l r, hi, x, hx => by
    rcases PT.mem_node.1 hx with ⟨_, e⟩ | e | e
    · rw [e]; exact hi.2.1.1
    · exact HT.list_lt hi.2.2.1 x e
    · exact HT.list_lt hi.2.2.2 x e
theorem OwnP.form {w : World} {base : Nat} {v : Value} {l : List En} (h : OwnP w base v l) : ∃ a c, v = .slice a l.length c := by
  rcases h.2 with ⟨e, hn⟩ | ⟨g, cap, cur, e, _⟩
  · exact ⟨_, _, by rw [e, hn]⟩
  · exact ⟨_, _, e⟩
theorem ref_is (a : AZ) (h : a.Ok) : ∃ (s : Bool) (ah al : Nat), refV (refA (some a)) = .agg #[.bool s, .int .u64 (ah : Nat), .int .u64 (al : Nat)] ∧ ah < 18446744073709551616 ∧ al < 18446744073709551616 ∧ wideN ah al = a.wd := by
  obtain ⟨hi, lo, e1, e2, b1, b2, e3⟩ := AZ.ok_hl h
  cases a with
  | four n => exact ⟨false, hi, lo, by rw [← e1, ← e2]; rfl, b1, b2, e3.symm⟩
  | six x y => exact ⟨true, hi, lo, by rw [← e1, ← e2]; rfl, b1, b2, e3.symm⟩

set_option maxRecDepth 100000 in
set_option maxHeartbeats 16000000 in
theorem told_any (g : Nat) (T : HT) (v : Value) (a : AZ) (hi lo : Nat) (k : Int) (w : World) (ht : IsTrie w g T) (hr : RowE w v T.pt.list) (hlen : T.pt.list.length < 100000) (ha : a.Ok) (h1 : hi < 18446744073709551616) (h2 : lo < 18446744073709551616) :
    Calls Tryz.prog 33 #[.pointer (some ⟨g, 0, none⟩), v, a.val, .agg #[.int .u64 (hi : Nat), .int .u64 (lo : Nat), .int .i64 k]] w fun e w' => e = .returned (.bool true) ∧ Below w.heap.size w w' := by
  obtain ⟨s, ah, al, es, bh, bl, ew⟩ := ref_is a ha
  obtain ⟨l, hl⟩ : ∃ l, T.pt.list = l := ⟨_, rfl⟩
  have hW := HT.list_lt ht.lies
  have hso := PT.sorted ht.inv
  obtain ⟨o, hfo⟩ : ∃ o, T.pt.find a.wd none = o := ⟨_, rfl⟩
  obtain ⟨q, hq⟩ : ∃ q, T.pt.get (wideN hi lo) k = q := ⟨_, rfl⟩
  have hfl := PT.find_list ht.inv a.wd
  have hgl := PT.get_list ht.inv (wideN hi lo) k
  rw [hfo, hl] at hfl
  rw [hq, hl] at hgl
  rw [hl] at hr hlen hW hso
  have HALL : Hid (∀ X, Below w.heap.size w X → Calls Tryz.prog 38 #[.pointer (some ⟨g, 0, none⟩)] X fun e w' => ∃ v, e = .returned v ∧ OwnP w' X.heap.size v l ∧ Below X.heap.size X w') := fun X hX => by
    have := all_any g T X (ht.keep hX) (by rw [hl]; omega); rwa [hl] at this
  have HLEN : Hid (∀ X, Below w.heap.size w X → Calls Tryz.prog 35 #[.pointer (some ⟨g, 0, none⟩)] X fun e w' => e = .returned (.int .i64 (l.length : Nat)) ∧ X = w') := fun X hX => by
    have := len_any g T X (ht.keep hX); rwa [hl] at this
  have HGX : Hid (∀ (j : Nat) (x : En), l[j]? = some x → ∀ X, Below w.heap.size w X → Calls Tryz.prog 37 #[.pointer (some ⟨g, 0, none⟩), .agg #[.int .u64 (hiN x.W : Nat), .int .u64 (loN x.W : Nat), .int .i64 (x.n : Nat)]] X fun e w' => e = .returned (.tuple #[.int .i64 x.v, .bool true]) ∧ Below X.heap.size X w') := fun j x hx X hX => by
    have hm := List.mem_of_getElem? hx
    have := get_any g T (hiN x.W) (loN x.W) x.n X (ht.keep hX) (hiN_lt (hW x hm)) (loN_lt x.W)
    rw [wide_split, PT.get_list ht.inv, hl, getL_of hso hm] at this
    exact this
  have HFI : Hid (∀ X, Below w.heap.size w X → Calls Tryz.prog 34 #[.pointer (some ⟨g, 0, none⟩), a.val] X fun e w' => e = .returned (entV o) ∧ Below X.heap.size X w') := fun X hX => by
    have := find_any g T a X (ht.keep hX) ha; rw [hfo] at this; exact this
  have HOF : Hid (∀ X, Calls Tryz.prog 13 #[a.val] X fun e w' => e = .returned (.agg #[.bool s, .int .u64 (ah : Nat), .int .u64 (al : Nat)]) ∧ Below X.heap.size X w') := fun X => by
    have := lawOf_any (some a) X (fun b hb => by cases hb; exact ha); rw [es] at this; exact this
  have HRF : Hid (∀ X, Below w.heap.size w X → Calls Tryz.prog 58 #[v, .agg #[.bool s, .int .u64 (ah : Nat), .int .u64 (al : Nat)]] X fun e w' => e = .returned (entW o) ∧ Below X.heap.size X w') := fun X hX => by
    have := refFind8_any v l s ah al X bh bl hW hlen (hr.keep hX); rwa [ew, ← hfl] at this
  have HGP : Hid (∀ X, Below w.heap.size w X → Calls Tryz.prog 37 #[.pointer (some ⟨g, 0, none⟩), .agg #[.int .u64 (hi : Nat), .int .u64 (lo : Nat), .int .i64 k]] X fun e w' => e = .returned (.tuple #[.int .i64 (q.getD 0), .bool q.isSome]) ∧ Below X.heap.size X w') := fun X hX => by
    have := get_any g T hi lo k X (ht.keep hX) h1 h2; rw [hq] at this; exact this
  have HRG : Hid (∀ X, Below w.heap.size w X → Calls Tryz.prog 59 #[v, .agg #[.int .u64 (hi : Nat), .int .u64 (lo : Nat), .int .i64 k]] X fun e w' => e = .returned (.tuple #[.int .i64 (q.getD 0), .bool q.isSome]) ∧ Below X.heap.size X w') := fun X hX => by
    have := refGet8_any v l hi lo k X h2 (by omega) (hr.keep hX); rw [← hgl] at this; exact this
  have HR := Lib.hid (fun w' (hb : Below w.heap.size w w') => hr.keep hb)
  obtain ⟨ao, c, rfl, hc⟩ := hr
  have HC : Hid (∀ (wr : World), Below w.heap.size w wr → ∀ (j : Nat) (x : En), l[j]? = some x → ∃ ad, ao = some ad ∧ (wr.cell? (Addr.add ad (j * 4)) = some (.int .u64 (hiN x.W : Nat)) ∧ wr.cell? ⟨(Addr.add ad (j * 4)).block, (Addr.add ad (j * 4)).off + 1, none⟩ = some (.int .u64 (loN x.W : Nat)) ∧
    wr.cell? ⟨(Addr.add ad (j * 4)).block, (Addr.add ad (j * 4)).off + 2, none⟩ = some (.int .i64 (x.n : Nat)) ∧ wr.cell? ⟨(Addr.add ad (j * 4)).block, (Addr.add ad (j * 4)).off + 3, none⟩ = some (.int .i64 x.v))) := fun wr hb j x hx => by
    obtain ⟨ao', c', e, hc'⟩ := HR.out wr hb
    simp only [Value.slice.injEq] at e
    obtain ⟨rfl, _, rfl⟩ := e
    exact hc' j x hx
  have hg := neqPr_guard
  have hg2 := eqPr_guard
  have HNE : Hid (∀ x : En, ∀ W : World, (binOp .neq 31 (.agg #[.int .u64 (hiN x.W : Nat), .int .u64 (loN x.W : Nat), .int .i64 (x.n : Nat)]) (.agg #[.int .u64 (hiN x.W : Nat), .int .u64 (loN x.W : Nat), .int .i64 (x.n : Nat)])).run Tryz.prog W = .ok (.bool false) W) := fun x W => by rw [neqPr]; simp
  have HB0 := Lib.hid ((Blks.empty w).new #[.int .u64 (hi : Nat), .int .u64 (lo : Nat), .int .i64 k] 24)
  have hw0 : Below w.heap.size w (w.alloc (.cells #[.int .u64 (hi : Nat), .int .u64 (lo : Nat), .int .i64 k] 24)) := (Below.refl _ _).alloc (Nat.le_refl _) _
  generalize a.val = va at *
  clear hc HR hW hso hfl hgl ht es ew bh bl h1 h2 ha hq hfo hl
  go_enter Tryz.func33, Tryz.ntmps33
  go_wp2_with fail
  refine (HALL.out _ hw0).mono ?_
  rintro e x1 ⟨sv, rfl, ho, hb1⟩
  have HB1 := Lib.hid (HB0.out.keep hb1)
  have hw1 := below_chain7 hw0 hb1
  have HRP0 := Lib.hid (fun w' (hb : Below x1.heap.size x1 w') => ho.row.keep hb)
  obtain ⟨sa, sc, rfl⟩ := ho.form
  have HRP : Hid (∀ (wr : World), Below x1.heap.size x1 wr → ∀ (j : Nat) (x : En), l[j]? = some x → ∃ ad, sa = some ad ∧ (wr.cell? (Addr.add ad (j * 3)) = some (.int .u64 (hiN x.W : Nat)) ∧ wr.cell? ⟨(Addr.add ad (j * 3)).block, (Addr.add ad (j * 3)).off + 1, none⟩ = some (.int .u64 (loN x.W : Nat)) ∧
    wr.cell? ⟨(Addr.add ad (j * 3)).block, (Addr.add ad (j * 3)).off + 2, none⟩ = some (.int .i64 (x.n : Nat)))) := fun wr hb j x hx => by
    obtain ⟨ao', c', e, hc'⟩ := HRP0.out wr hb
    simp only [Value.slice.injEq] at e
    obtain ⟨rfl, _, rfl⟩ := e
    exact hc' j x hx
  clear ho HRP0 hb1 hw0 HB0 HALL
  go_wp2_with fail
  refine (HLEN.out _ hw1).mono ?_
  rintro e x2 ⟨rfl, hx2⟩
  subst hx2
  have HS0 : Hid (Below x1.heap.size x1 x1 ∧ Blks [(w.heap.size, #[.int .u64 (hi : Nat), .int .u64 (lo : Nat), .int .i64 k], 24)] x1) := ⟨Below.refl _ _, HB1.out⟩
  have HW1 := Lib.hid hw1
  clear HLEN HB1 hw1
  go_wp2
  go_loopw [39] (fun i wr => ∃ j : Nat, j ≤ l.length ∧ i = .int .i64 j ∧ Hid (Below x1.heap.size x1 wr ∧ Blks [(w.heap.size, #[.int .u64 (hi : Nat), .int .u64 (lo : Nat), .int .i64 k], 24)] wr)) (fun i _ => l.length - (intOf i).toNat)
  case atStart => exact ⟨0, Nat.zero_le _, rfl, HS0⟩
  case round =>
    clear HS0
    obtain ⟨j, hj, rfl, HS⟩ := hrel
    have hwr := below_chain7 HW1.out HS.out.1
    by_cases hlt : j < l.length
    · have hjl : (j : Int) < l.length := by omega
      obtain ⟨x, hx⟩ : ∃ x, l[j]? = some x := ⟨_, List.getElem?_eq_getElem hlt⟩
      obtain ⟨ad, rfl, c0, c1, c2⟩ := HRP.out wr HS.out.1 j x hx
      have hal : Below wr.heap.size wr (wr.alloc (.cells #[.int .u64 (hiN x.W : Nat), .int .u64 (loN x.W : Nat), .int .i64 (x.n : Nat)] 24)) := (Below.refl _ _).alloc (Nat.le_refl _) _
      have HGXX := Lib.hid (HGX.out j x hx _ (below_chain7 hwr hal))
      have HAL := Lib.hid hal
      have HWR := Lib.hid hwr
      have hne := HNE.out x
      clear hal hwr
      go_wp2_with fail
      refine HGXX.out.mono ?_
      rintro e y1 ⟨rfl, hy1⟩
      have HB2 := Lib.hid ((HS.out.2.new #[.int .u64 (hiN x.W : Nat), .int .u64 (loN x.W : Nat), .int .i64 (x.n : Nat)] 24).keep hy1)
      have HW2 := Lib.hid (below_chain7 HAL.out hy1)
      obtain ⟨l1, q0, q1, q2⟩ := HB2.out.r3 (b := wr.heap.size) (.head _)
      obtain ⟨ad2, rfl, d0, d1, d2, d3⟩ := HC.out y1 (below_chain7 HWR.out HW2.out) j x hx
      have HS2 := Lib.hid (And.intro (below_chain7 HS.out.1 HW2.out) (HB2.out.drop (L' := [(w.heap.size, #[.int .u64 (hi : Nat), .int .u64 (lo : Nat), .int .i64 k], 24)]) (fun e he => List.mem_cons_of_mem _ he)))
      clear hx hy1 HGXX HAL HB2 c0 c1 c2
      go_wp2
      go_quiet (fail)
      go_wp2
      go_roundw
      case rel => exact ⟨j + 1, by omega, by go_num, (by first | exact HS2 | exact ⟨HS2.out.1.drew, HS2.out.2⟩ | exact ⟨HS2.out.1.trans drew_n, HS2.out.2⟩)⟩
      case measure => simp [intOf]; omega
    · have hjl : ¬ (j : Int) < l.length := by omega
      have HW := hwr
      have HB := Lib.hid HS.out.2
      clear HS HRP HGX HNE hlt
      cases o with
      | none =>
        simp only [entV, entW, entC, Option.isSome] at HFI HRF
        have heq := eqPr_same 0 0 0
        go_wp2_with fail
        refine (HFI.out _ HW).mono ?_
        rintro e y1 ⟨rfl, hy1⟩
        have HB2 := Lib.hid ((HB.out.keep hy1).new #[.int .u64 0, .int .u64 0, .int .i64 0] 24)
        have HW2 := Lib.hid ((below_chain7 HW hy1).alloc (below_chain7 HW hy1).size (.cells #[.int .u64 0, .int .u64 0, .int .i64 0] 24))
        clear hy1 HB HW
        go_wp2_with fail
        refine (HOF.out _).mono ?_
        rintro e y2 ⟨rfl, hy2⟩
        have HB3 := Lib.hid (HB2.out.keep hy2)
        have HW3 := Lib.hid (below_chain7 HW2.out hy2)
        clear hy2 HB2 HW2
        go_wp2_with fail
        refine (HRF.out _ HW3.out).mono ?_
        rintro e y3 ⟨rfl, hy3⟩
        have HB4 := Lib.hid ((HB3.out.keep hy3).new #[.int .u64 0, .int .u64 0, .int .i64 0, .int .i64 0] 101)
        have HW4 := Lib.hid ((below_chain7 HW3.out hy3).alloc (below_chain7 HW3.out hy3).size (.cells #[.int .u64 0, .int .u64 0, .int .i64 0, .int .i64 0] 101))
        clear hy3 HB3 HW3
        obtain ⟨l1, p0, p1, p2⟩ := HB4.out.r3 (b := w.heap.size) (by repeat first | exact .head _ | apply List.Mem.tail)
        go_wp2_with fail
        refine (HGP.out _ HW4.out).mono ?_
        rintro e y4 ⟨rfl, hy4⟩
        have HB5 := Lib.hid (HB4.out.keep hy4)
        have HW5 := Lib.hid (below_chain7 HW4.out hy4)
        clear hy4 HB4 HW4 l1 p0 p1 p2
        obtain ⟨l1, p0, p1, p2⟩ := HB5.out.r3 (b := w.heap.size) (by repeat first | exact .head _ | apply List.Mem.tail)
        go_wp2_with fail
        refine (HRG.out _ HW5.out).mono ?_
        rintro e y5 ⟨rfl, hy5⟩
        have HB6 := Lib.hid (HB5.out.keep hy5)
        have HW6 := Lib.hid (below_chain7 HW5.out hy5)
        clear hy5 HB5 HW5 l1 p0 p1 p2
        obtain ⟨l2, q0, q1, q2⟩ := HB6.out.r3 (b := y1.heap.size) (t := 24) (by repeat first | exact .head _ | apply List.Mem.tail)
        obtain ⟨l3, r0, r1, r2, r3⟩ := HB6.out.r4 (b := y3.heap.size) (t := 101) (by repeat first | exact .head _ | apply List.Mem.tail)
        go_wp2
        go_ret
        exact ⟨rfl, HW6.out⟩
      | some y =>
        simp only [entV, entW, entC, Option.isSome] at HFI HRF
        have heq := eqPr_same (hiN y.W) (loN y.W) y.n
        go_wp2_with fail
        refine (HFI.out _ HW).mono ?_
        rintro e y1 ⟨rfl, hy1⟩
        have HB2 := Lib.hid ((HB.out.keep hy1).new #[.int .u64 (hiN y.W : Nat), .int .u64 (loN y.W : Nat), .int .i64 (y.n : Nat)] 24)
        have HW2 := Lib.hid ((below_chain7 HW hy1).alloc (below_chain7 HW hy1).size (.cells #[.int .u64 (hiN y.W : Nat), .int .u64 (loN y.W : Nat), .int .i64 (y.n : Nat)] 24))
        clear hy1 HB HW
        go_wp2_with fail
        refine (HOF.out _).mono ?_
        rintro e y2 ⟨rfl, hy2⟩
        have HB3 := Lib.hid (HB2.out.keep hy2)
        have HW3 := Lib.hid (below_chain7 HW2.out hy2)
        clear hy2 HB2 HW2
        go_wp2_with fail
        refine (HRF.out _ HW3.out).mono ?_
        rintro e y3 ⟨rfl, hy3⟩
        have HB4 := Lib.hid ((HB3.out.keep hy3).new #[.int .u64 (hiN y.W : Nat), .int .u64 (loN y.W : Nat), .int .i64 (y.n : Nat), .int .i64 y.v] 101)
        have HW4 := Lib.hid ((below_chain7 HW3.out hy3).alloc (below_chain7 HW3.out hy3).size (.cells #[.int .u64 (hiN y.W : Nat), .int .u64 (loN y.W : Nat), .int .i64 (y.n : Nat), .int .i64 y.v] 101))
        clear hy3 HB3 HW3
        obtain ⟨l1, p0, p1, p2⟩ := HB4.out.r3 (b := w.heap.size) (by repeat first | exact .head _ | apply List.Mem.tail)
        go_wp2_with fail
        refine (HGP.out _ HW4.out).mono ?_
        rintro e y4 ⟨rfl, hy4⟩
        have HB5 := Lib.hid (HB4.out.keep hy4)
        have HW5 := Lib.hid (below_chain7 HW4.out hy4)
        clear hy4 HB4 HW4 l1 p0 p1 p2
        obtain ⟨l1, p0, p1, p2⟩ := HB5.out.r3 (b := w.heap.size) (by repeat first | exact .head _ | apply List.Mem.tail)
        go_wp2_with fail
        refine (HRG.out _ HW5.out).mono ?_
        rintro e y5 ⟨rfl, hy5⟩
        have HB6 := Lib.hid (HB5.out.keep hy5)
        have HW6 := Lib.hid (below_chain7 HW5.out hy5)
        clear hy5 HB5 HW5 l1 p0 p1 p2
        obtain ⟨l2, q0, q1, q2⟩ := HB6.out.r3 (b := y1.heap.size) (t := 24) (by repeat first | exact .head _ | apply List.Mem.tail)
        obtain ⟨l3, r0, r1, r2, r3⟩ := HB6.out.r4 (b := y3.heap.size) (t := 101) (by repeat first | exact .head _ | apply List.Mem.tail)
        go_wp2
        go_ret
        exact ⟨rfl, HW6.out⟩

/-- a call's own trie, list and blocks, beside all that was there -/
structure SE (w x : World) (g : Nat) (T : HT) (v : Value) (l : List En) (L : List (Nat × Array Value × TypeId)) : Prop where
  st : St w x g T L
  row : OwnE x w.heap.size v l
  apart : ∀ b ∈ g :: T.blocks, v.ownBlock ≠ some b
theorem SE.keep {w x y : World} {g : Nat} {T : HT} {v : Value} {l : List En} {L : List (Nat × Array Value × TypeId)} (h : SE w x g T v l L) (hb : Below x.heap.size x y) : SE w y g T v l L :=
  ⟨h.st.keep hb, h.row.keep hb, h.apart⟩
theorem SE.new {w x : World} {g : Nat} {T : HT} {v : Value} {l : List En} {L : List (Nat × Array Value × TypeId)} (h : SE w x g T v l L) (c : Array Value) (t : TypeId) : SE w (x.alloc (.cells c t)) g T v l ((x.heap.size, c, t) :: L) :=
  ⟨h.st.new c t, h.row.keep ((Below.refl _ _).alloc (Nat.le_refl _) _), h.apart⟩
theorem SE.drop {w x : World} {g : Nat} {T : HT} {v : Value} {l : List En} {L L' : List (Nat × Array Value × TypeId)} (h : SE w x g T v l L) (hs : ∀ e ∈ L', e ∈ L) : SE w x g T v l L' := ⟨h.st.drop hs, h.row, h.apart⟩
theorem SE.moved {w x y : World} {g : Nat} {T T' : HT} {v : Value} {l : List En} {L : List (Nat × Array Value × TypeId)} (h : SE w x g T v l L) (hm : Moved x y g T T') : SE w y g T' v l L :=
  ⟨h.st.moved hm, h.row.only hm.only h.apart, fun b hb e => by
    rcases List.mem_cons.1 hb with q | q
    · exact h.apart g (List.mem_cons_self ..) (q ▸ e)
    · rcases hm.sub b q with r | r
      · exact h.apart b (List.mem_cons_of_mem _ r) e
      · have := (World.ownsRow.lt h.row b e).2; omega⟩
/-- another list in a row of its own -/
theorem SE.turn {w x y : World} {g : Nat} {T : HT} {v v' : Value} {l l' : List En} {L : List (Nat × Array Value × TypeId)} (h : SE w x g T v l L) (hb : Below x.heap.size x y) (hr : OwnE y x.heap.size v' l') : SE w y g T v' l' L :=
  ⟨h.st.keep hb, hr.lower h.st.below.size, fun b hq e => by
    have h1 := (World.ownsRow.lt hr b e).1
    have h2 := h.st.trie.lt b hq
    omega⟩
theorem SE.first {w x y : World} {g : Nat} (hb : Below w.heap.size w x) (hg : w.heap.size ≤ g) (hy : Below x.heap.size x y) (ht : IsTrie y g .nil) : SE w y g .nil (.slice none 0 0) [] [] :=
  ⟨St.first hb hg hy ht, ownE_nil _ _, fun b _ e => by cases e⟩
/-- .. and a second trie, its twin -/
structure S2 (w x : World) (g : Nat) (T : HT) (g' : Nat) (T' : HT) (v : Value) (l : List En) (L : List (Nat × Array Value × TypeId)) : Prop where
  se : SE w x g T v l L
  twin : IsTrie x g' T'
  own : ∀ b ∈ g' :: T'.blocks, w.heap.size ≤ b
  apart : ∀ b ∈ g' :: T'.blocks, b ∉ g :: T.blocks
  row : ∀ b ∈ g' :: T'.blocks, v.ownBlock ≠ some b
  blks : ∀ e ∈ L, e.1 ∉ g' :: T'.blocks
theorem S2.begin {w x y : World} {g g' : Nat} {T T' : HT} {v : Value} {l : List En} {L : List (Nat × Array Value × TypeId)} (h : SE w x g T v l L) (hb : Below x.heap.size x y) (ht : IsTrie y g' T') (hn : ∀ b ∈ g' :: T'.blocks, x.heap.size ≤ b) : S2 w y g T g' T' v l L :=
  ⟨h.keep hb, ht, fun b q => Nat.le_trans h.st.below.size (hn b q), fun b q r => by have := hn b q; have := h.st.trie.lt b r; omega, fun b q e => by have := hn b q; have := (World.ownsRow.lt h.row b e).2; omega,
    fun e he q => by have := hn e.1 q; have := block_lt (h.st.blks e he); omega⟩
theorem S2.moved {w x y : World} {g g' : Nat} {T T' T2 : HT} {v : Value} {l : List En} {L : List (Nat × Array Value × TypeId)} (h : S2 w x g T g' T' v l L) (hm : Moved x y g T T2) : S2 w y g T2 g' T' v l L :=
  ⟨h.se.moved hm, h.twin.keepO hm.only h.apart, h.own, fun b q r => by
    rcases List.mem_cons.1 r with e | e
    · exact h.apart b q (e ▸ List.mem_cons_self ..)
    · rcases hm.sub b e with s | s
      · exact h.apart b q (List.mem_cons_of_mem _ s)
      · have := h.twin.lt b q; omega, h.row, h.blks⟩
theorem S2.keep {w x y : World} {g g' : Nat} {T T' : HT} {v : Value} {l : List En} {L : List (Nat × Array Value × TypeId)} (h : S2 w x g T g' T' v l L) (hb : Below x.heap.size x y) : S2 w y g T g' T' v l L :=
  ⟨h.se.keep hb, h.twin.keep hb, h.own, h.apart, h.row, h.blks⟩
/-- the twin goes on -/
theorem S2.on {w x : World} {g g' : Nat} {T T' : HT} {v : Value} {l : List En} {L : List (Nat × Array Value × TypeId)} (h : S2 w x g T g' T' v l L) : SE w x g' T' v l L :=
  ⟨⟨h.se.st.below, h.twin, h.own, h.se.st.blks, h.blks⟩, h.se.row, h.row⟩
theorem Blks.r5 {L : List (Nat × Array Value × TypeId)} {W : World} (h : Blks L W) {b : Nat} {c0 c1 c2 c3 c4 : Value} {t : TypeId} (hm : (b, #[c0, c1, c2, c3, c4], t) ∈ L) :
    b < W.heap.size ∧ W.cell? ⟨b, 0, none⟩ = some c0 ∧ W.cell? ⟨b, 1, none⟩ = some c1 ∧ W.cell? ⟨b, 2, none⟩ = some c2 ∧ W.cell? ⟨b, 3, none⟩ = some c3 ∧ W.cell? ⟨b, 4, none⟩ = some c4 :=
  ⟨h.lt hm, cell_row (h _ hm) 0, cell_row (h _ hm) 1, cell_row (h _ hm) 2, cell_row (h _ hm) 3, cell_row (h _ hm) 4⟩

theorem drop_full (g : Nat) (T : HT) (hi lo : Nat) (k : Int) (w : World) (ht : IsTrie w g T) (h1 : hi < 18446744073709551616) (h2 : lo < 18446744073709551616) (hlen : T.pt.list.length < 1000000) :
    Calls Tryz.prog 28 #[.pointer (some ⟨g, 0, none⟩), .agg #[.int .u64 (hi : Nat), .int .u64 (lo : Nat), .int .i64 k]] w fun e w' => ∃ T', e = .returned (.bool (getL T.pt.list (wideN hi lo) k).isSome) ∧ Moved w w' g T T' ∧ T'.pt.list = dropL T.pt.list (wideN hi lo) k := by
  rw [← PT.get_list ht.inv]
  cases e : T.pt.get (wideN hi lo) k with
  | none => exact (drop_none g T hi lo k w ht h1 h2 e).mono fun _ w' ⟨h, hb⟩ => ⟨T, h, Moved.refl ht hb, (dropL_none (by rw [← PT.get_list ht.inv, e])).symm⟩
  | some v =>
    obtain ⟨m, rfl, h3, h4⟩ := PT.get_right ht.inv e
    exact (drop_some g T hi lo m v w ht h1 h2 h3 h4 hlen e).mono fun _ w' ⟨T', h, hm, hp⟩ => ⟨T', h, hm, by rw [hp, PT.drop_list ht.inv h3 h4 ((PT.get_mem ht.inv h3 h4 v).1 e)]⟩
theorem put_full (g : Nat) (T : HT) (hi lo : Nat) (k v : Int) (w : World) (ht : IsTrie w g T) (h1 : hi < 18446744073709551616) (h2 : lo < 18446744073709551616) (hlen : T.pt.list.length < 100000) :
    Calls Tryz.prog 31 #[.pointer (some ⟨g, 0, none⟩), .agg #[.int .u64 (hi : Nat), .int .u64 (lo : Nat), .int .i64 k], .int .i64 v] w fun e w' => ∃ T', e = .returned (.bool (pRightB (wideN hi lo) k)) ∧ Moved w w' g T T' ∧ T'.pt.list.length ≤ T.pt.list.length + 1 := by
  cases hR : pRightB (wideN hi lo) k with
  | false => exact (put_wrong g hi lo k v w h1 h2 hR).mono fun _ w' ⟨h, hb⟩ => ⟨T, h, Moved.refl ht hb, Nat.le_succ _⟩
  | true =>
    obtain ⟨m, rfl, h3, h4⟩ := pRightB_ex hR
    exact (put_any g T hi lo m v w ht h1 h2 h3 h4 (by omega)).mono fun _ w' ⟨T', h, hm, hp⟩ => ⟨T', h, hm, by rw [hp]; exact put_len_le ht.inv h3 h4 (wide_lt h1 h2)⟩
end Go.Proofs.YthdcldkcmnpkiaaGreatDoor
