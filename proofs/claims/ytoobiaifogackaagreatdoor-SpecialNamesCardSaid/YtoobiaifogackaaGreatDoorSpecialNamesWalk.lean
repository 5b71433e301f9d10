/-
  The law SpecialNames: its Go text returns true, where the library's tables read as they are laid; nothing that lay in memory before is changed.
-/
import Derived.Test.YtoobiaifogackaaGreatDoorSpcF
import Derived.Test.YtoobiaifogackaaGreatDoorTriR
namespace Go.Proofs.YtoobiaifogackaaGreatDoor
open Go.RowKit


theorem nameV_form (o : Option R9) : ∃ (s : ByteArray) (b : Bool), nameV o = .tuple #[.string s, .bool b] ∧ b = o.isSome := by
  cases o with
  | none => exact ⟨_, _, rfl, rfl⟩
  | some r => exact ⟨_, _, rfl, rfl⟩
theorem lay_found {v : Int} {t : PT} {A : Nat} (ht : t = lay9 v .nil) : ∃ (hi lo k : Nat) (u : Int), entV (t.find A none) = .tuple #[.agg #[.int .u64 (hi : Nat), .int .u64 (lo : Nat), .int .i64 (k : Nat)], .int .i64 u, .bool (name9 fun W n => pHasB W n A).isSome] ∧ hi < 18446744073709551616 ∧ lo < 18446744073709551616 ∧ ((name9 fun W n => pHasB W n A).isSome = true → u = v ∧ pHasB (wideN hi lo) k A = true) := by
  cases hf : t.find A none with
  | none =>
    rw [lay9_none ht hf]
    exact ⟨0, 0, 0, 0, rfl, by decide, by decide, fun h => by cases h⟩
  | some y =>
    obtain ⟨⟨r, hr⟩, h1, h2, h3⟩ := lay9_some ht hf
    rw [hr]
    exact ⟨hiN y.W, loN y.W, y.n, y.v, rfl, hiN_lt h2, loN_lt _, fun _ => ⟨h1, by rw [wide_split]; exact h3⟩⟩

set_option maxRecDepth 100000 in
set_option maxHeartbeats 8000000 in
theorem specialNames_walk (a0 : Bool) (a1 a2 a3 : Int) (w1 : (Lit.int .u64 a1).wf = true) (w2 : (Lit.int .u64 a2).wf = true) (_w3 : (Lit.int .i64 a3).wf = true) (w : World) (hbru : BruTab w) (hmax : MaxVar w) :
    Calls Tryz.prog 3 #[.bool a0, .int .u64 a1, .int .u64 a2, .int .i64 a3] w fun e w' => e = .returned (.bool true) ∧ Below w.heap.size w w' := by
  obtain ⟨hh, rfl, b5⟩ := bounds_u64r w1
  obtain ⟨hl, rfl, b6⟩ := bounds_u64r w2
  have HT := Lib.hid hbru
  have HX := Lib.hid hmax
  have hok : (AZ.make a0 hh hl).Ok := make_ok a0 hh hl (by omega) (by omega) (by omega) (by omega)
  obtain ⟨a, ea⟩ : ∃ a, AZ.make a0 hh hl = a := ⟨_, rfl⟩
  rw [ea] at hok
  obtain ⟨va, hva⟩ : ∃ v, a.val = v := ⟨_, rfl⟩
  have HM : Hid (∀ W, Calls Tryz.prog 12 #[.bool a0, .int .u64 (hh : Nat), .int .u64 (hl : Nat)] W fun e w' => e = .returned va ∧ W = w') := fun W => by
    have := make6_any a0 hh hl W; rwa [ea, hva] at this
  obtain ⟨s, b, hn, hb⟩ := nameV_form (name9 fun W n => pHasB W n a.wd)
  have HN : Hid (∀ W, MaxVar W → Calls Tryz.prog 13 #[va] W fun e w' => e = .returned (.tuple #[.string s, .bool b]) ∧ Below W.heap.size W w') := fun W hW => by
    have := name9_any a W hW hok; rwa [hn, hva] at this
  obtain ⟨sx, ah, al, hr, b1, b2, hwd⟩ := ref_is9 a hok
  have HO : Hid (∀ W, Calls Tryz.prog 15 #[va] W fun e w' => e = .returned (.agg #[.bool sx, .int .u64 (ah : Nat), .int .u64 (al : Nat)]) ∧ Below W.heap.size W w') := fun W => by
    have := lawOf_any (some a) W (fun c hc => by injection hc with hc; exact hc ▸ hok)
    rw [hr] at this; simp only [optV, hva] at this; exact this
  have HR : Hid (∀ W, Calls Tryz.prog 14 #[.agg #[.bool sx, .int .u64 (ah : Nat), .int .u64 (al : Nat)]] W fun e w' => e = .returned (.tuple #[.string s, .bool b]) ∧ Below W.heap.size W w') := fun W => by
    have := refName9_any sx ah al W b1 b2; rwa [hwd, hn] at this
  obtain ⟨hi, lo, k, u, hf, b3, b4, hyes⟩ := lay_found (v := a3) (t := lay9 a3 .nil) (A := a.wd) rfl
  rw [← hb] at hf hyes
  have HF : Hid (∀ g T X, IsTrie X g T → T.pt = lay9 a3 .nil → Calls Tryz.prog 18 #[.pointer (some ⟨g, 0, none⟩), va] X fun e w' => e = .returned (.tuple #[.agg #[.int .u64 (hi : Nat), .int .u64 (lo : Nat), .int .i64 (k : Nat)], .int .i64 u, .bool b]) ∧ Below X.heap.size X w') := fun g T X hX hT => by
    have := find_any g T a X hX hok
    rw [hT, hva] at this
    rw [← hf]; exact this
  have HH : Hid (b = true → ∀ W, Calls Tryz.prog 21 #[.agg #[.int .u64 (hi : Nat), .int .u64 (lo : Nat), .int .i64 (k : Nat)], va] W fun e w' => e = .returned (.bool true) ∧ Below W.heap.size W w') := fun hbt W => by
    have := pHas_any hi lo k a W b3 b4 hok
    rwa [(hyes hbt).2, hva] at this
  have HV : Hid (b = true → u = a3) := fun hbt => (hyes hbt).1
  clear hyes hf hn hb hwd hr b1 b2 b3 b4 hok hva ea b5 b6 hbru hmax
  go_enter Tryz.func3, Tryz.ntmps3
  go_wp2_with fail
  refine (awake09_any _ HT.out HX.out).mono ?_
  rintro e x1 ⟨rfl, hb1⟩
  have HW1 := Lib.hid hb1
  clear hb1
  go_wp2_with fail
  refine (HM.out _).mono ?_
  rintro e x2 ⟨rfl, rfl⟩
  go_wp2_with fail
  refine (HN.out _ (maxVar_below HX.out HW1.out)).mono ?_
  rintro e x3 ⟨rfl, hb3⟩
  have HW3 := Lib.hid (below_chain7 HW1.out hb3)
  clear hb3 HW1
  go_wp2_with fail
  refine (HO.out _).mono ?_
  rintro e x4 ⟨rfl, hb4⟩
  have HW4 := Lib.hid (below_chain7 HW3.out hb4)
  clear hb4 HW3
  go_wp2_with fail
  refine (HR.out _).mono ?_
  rintro e x5 ⟨rfl, hb5⟩
  have HW5 := Lib.hid (below_chain7 HW4.out hb5)
  clear hb5 HW4
  go_wp2_with fail
  refine (new_any _).mono ?_
  rintro e x6 ⟨rfl, hb6, ht6⟩
  have S6 := Lib.hid (St.first HW5.out HW5.out.size hb6 ht6)
  obtain ⟨g, hgg⟩ : ∃ g, g = x5.heap.size := ⟨_, rfl⟩
  rw [← hgg] at S6 ⊢
  clear hgg hb6 ht6 HW5
  go_wp2_with fail
  refine (lay9_any g .nil a3 _ (maxVar_below HX.out S6.out.below) S6.out.trie (by decide)).mono ?_
  rintro e x7 ⟨T, rfl, hm, hT⟩
  have S7 := Lib.hid (S6.out.moved hm)
  have HTT := Lib.hid (show T.pt = lay9 a3 .nil from hT)
  clear hm hT S6
  go_wp2_with fail
  refine (HF.out g T _ S7.out.trie HTT.out).mono ?_
  rintro e x8 ⟨rfl, hb8⟩
  have S8 := Lib.hid ((S7.out.keep hb8).new #[.int .u64 (hi : Nat), .int .u64 (lo : Nat), .int .i64 (k : Nat)] 37)
  obtain ⟨gp, hgp⟩ : ∃ y, y = x8.heap.size := ⟨_, rfl⟩
  rw [← hgp] at S8
  clear hb8 S7
  go_wp2_with fail
  refine (refRows9_any _).mono ?_
  rintro e x9 ⟨bb, rfl, _, _, hb9⟩
  rw [← hgp]
  have S9 := Lib.hid (S8.out.keep hb9)
  clear hb9 S8 hgp
  have HL : Hid (∀ X, IsTrie X g T → Calls Tryz.prog 20 #[.pointer (some ⟨g, 0, none⟩)] X fun e w' => e = .returned (.int .i64 27) ∧ X = w') := fun X hX => by
    have := len_any g T X hX
    rw [HTT.out, lay9_len] at this
    exact this
  go_wp2_with fail
  refine (HL.out _ S9.out.trie).mono ?_
  rintro e x10 ⟨rfl, rfl⟩
  cases b with
  | false =>
    go_wp2
    go_ret
    exact ⟨rfl, S9.out.below⟩
  | true =>
    obtain rfl := HV.out rfl
    obtain ⟨lp, p0, p1, p2⟩ := S9.out.blks.r3 (b := gp) (.head _)
    go_wp2_with fail
    refine (HH.out trivial _).mono ?_
    rintro e x11 ⟨rfl, hb11⟩
    have S11 := Lib.hid (S9.out.keep hb11)
    go_wp2
    go_ret
    exact ⟨rfl, S11.out.below⟩
end Go.Proofs.YtoobiaifogackaaGreatDoor
