/-
  Layer 8: what a call with a trie of its own keeps; nil tries; the chapter's example.
-/
import Derived.Test.YtoobiaifogackaaGreatDoorTriM
namespace Go.Proofs.YtoobiaifogackaaGreatDoor
open Go.RowKit


/-- a call's own trie and blocks, beside all that was there -/
structure St (w x : World) (g : Nat) (T : HT) (L : List (Nat × Array Value × TypeId)) : Prop where
  below : Below w.heap.size w x
  trie : IsTrie x g T
  own : ∀ b ∈ g :: T.blocks, w.heap.size ≤ b
  blks : Blks L x
  apart : ∀ e ∈ L, e.1 ∉ g :: T.blocks
theorem St.keep {w x y : World} {g : Nat} {T : HT} {L : List (Nat × Array Value × TypeId)} (h : St w x g T L) (hb : Below x.heap.size x y) : St w y g T L :=
  ⟨below_chain7 h.below hb, h.trie.keep hb, h.own, h.blks.keep hb, h.apart⟩
theorem St.new {w x : World} {g : Nat} {T : HT} {L : List (Nat × Array Value × TypeId)} (h : St w x g T L) (c : Array Value) (t : TypeId) : St w (x.alloc (.cells c t)) g T ((x.heap.size, c, t) :: L) :=
  have hb : Below x.heap.size x (x.alloc (.cells c t)) := (Below.refl _ _).alloc (Nat.le_refl _) _
  ⟨below_chain7 h.below hb, h.trie.keep hb, h.own, h.blks.new c t, fun e he q => by
    rcases List.mem_cons.1 he with r | r
    · rw [r] at q; exact Nat.lt_irrefl _ (h.trie.lt _ q)
    · exact h.apart e r q⟩
theorem St.moved {w x y : World} {g : Nat} {T T' : HT} {L : List (Nat × Array Value × TypeId)} (h : St w x g T L) (hm : Moved x y g T T') : St w y g T' L :=
  ⟨h.below.trans (hm.only.below h.below.size h.own), hm.trie, fun b hb => by
    rcases List.mem_cons.1 hb with q | q
    · rw [q]; exact h.own g (List.mem_cons_self ..)
    · rcases hm.sub b q with r | r
      · exact h.own b (List.mem_cons_of_mem _ r)
      · exact Nat.le_trans h.below.size r, fun e he => (hm.only.block e.1 (block_lt (h.blks e he)) (h.apart e he)).trans (h.blks e he), fun e he q => by
    rcases List.mem_cons.1 q with r | r
    · exact h.apart e he (List.mem_cons.2 (.inl r))
    · rcases hm.sub _ r with s | s
      · exact h.apart e he (List.mem_cons_of_mem _ s)
      · have := block_lt (h.blks e he); omega⟩
theorem St.first {w x y : World} {g : Nat} (hb : Below w.heap.size w x) (hg : w.heap.size ≤ g) (hy : Below x.heap.size x y) (ht : IsTrie y g .nil) : St w y g .nil [] :=
  ⟨below_chain7 hb hy, ht, (fun b q => by
    rcases List.mem_cons.1 q with r | r
    · rw [r]; exact hg
    · cases r), Blks.empty _, (fun e he => by cases he)⟩
theorem St.drop {w x : World} {g : Nat} {T : HT} {L L' : List (Nat × Array Value × TypeId)} (h : St w x g T L) (hs : ∀ e ∈ L', e ∈ L) : St w x g T L' :=
  ⟨h.below, h.trie, h.own, fun e he => h.blks e (hs e he), fun e he => h.apart e (hs e he)⟩

set_option maxRecDepth 100000 in
set_option maxHeartbeats 1000000 in
theorem find_nilT (a : AZ) (w : World) (ha : a.Ok) : Calls Tryz.prog 18 #[.pointer none, a.val] w (RetF w none) := by
  have HOF : Hid (∀ W, ∃ x y : Int, Calls Tryz.prog 52 #[a.val, .int .i64 128] W fun e w' => e = .returned (.tuple #[.agg #[.int .u64 x, .int .u64 y, .int .i64 128], .bool true]) ∧ Below W.heap.size W w') := fun W =>
    ⟨_, _, pOf_any a 128 W ha (by omega)⟩
  obtain ⟨va, hva⟩ : ∃ v, a.val = v := ⟨_, rfl⟩
  rw [hva] at HOF ⊢
  clear hva ha
  obtain ⟨x, y, hof⟩ := HOF.out (w.alloc (.cells #[.int .u64 0, .int .u64 0, .int .i64 0] 37))
  have HO := Lib.hid hof
  clear HOF hof
  go_enter Tryz.func18, Tryz.ntmps18
  go_wp2_with fail
  refine HO.out.mono ?_
  rintro e x1 ⟨rfl, hb1⟩
  obtain ⟨⟨z0, z1, z2⟩, y0, y1, y2⟩ := keep_res w 37 x1 (hb1.mono (by simp))
  have hz : w.heap.size < x1.heap.size := by have := hb1.size; simp at this; omega
  go_wp2
  refine bodyPost_ret (v := .tuple #[.agg #[.int .u64 0, .int .u64 0, .int .i64 0], .int .i64 0, .bool false]) (by simp [results, Tryz.results18, go_sem, z0, z1, z2, hz]) rfl ⟨rfl, ?_⟩
  exact set3_alloc (alloc_then hb1) (Nat.le_refl _) _ _ _ _
set_option maxRecDepth 100000 in
set_option maxHeartbeats 1000000 in
theorem find_nilA (u : Option Addr) (w : World) : Calls Tryz.prog 18 #[.pointer u, .nilIface] w (RetF w none) := by
  have HO : Hid (∀ W, Calls Tryz.prog 52 #[.nilIface, .int .i64 128] W fun e w' => e = .returned (.tuple #[.agg #[.int .u64 0, .int .u64 0, .int .i64 0], .bool false]) ∧ Below W.heap.size W w') := fun W => pOf_nil 128 W (by omega)
  cases u with
  | none =>
    go_enter Tryz.func18, Tryz.ntmps18
    go_wp2_with fail
    refine (HO.out _).mono ?_
    rintro e x1 ⟨rfl, hb1⟩
    obtain ⟨⟨z0, z1, z2⟩, y0, y1, y2⟩ := keep_res w 37 x1 (hb1.mono (by simp))
    have hz : w.heap.size < x1.heap.size := by have := hb1.size; simp at this; omega
    go_wp2
    refine bodyPost_ret (v := .tuple #[.agg #[.int .u64 0, .int .u64 0, .int .i64 0], .int .i64 0, .bool false]) (by simp [results, Tryz.results18, go_sem, z0, z1, z2, hz]) rfl ⟨rfl, ?_⟩
    exact set3_alloc (alloc_then hb1) (Nat.le_refl _) _ _ _ _
  | some b =>
    go_enter Tryz.func18, Tryz.ntmps18
    go_wp2_with fail
    refine (HO.out _).mono ?_
    rintro e x1 ⟨rfl, hb1⟩
    obtain ⟨⟨z0, z1, z2⟩, y0, y1, y2⟩ := keep_res w 37 x1 (hb1.mono (by simp))
    have hz : w.heap.size < x1.heap.size := by have := hb1.size; simp at this; omega
    go_wp2
    refine bodyPost_ret (v := .tuple #[.agg #[.int .u64 0, .int .u64 0, .int .i64 0], .int .i64 0, .bool false]) (by simp [results, Tryz.results18, go_sem, z0, z1, z2, hz]) rfl ⟨rfl, ?_⟩
    exact set3_alloc (alloc_then hb1) (Nat.le_refl _) _ _ _ _
theorem a8_z : addrZ [48, 46, 48, 46, 48, 46, 48] = some (.four 0) := by
  unfold addrZ
  rw [show strictZ [48, 46, 48, 46, 48, 46, 48] = (0, true) from by decide +kernel]; rfl
theorem a8_a : addrZ [49, 48, 46, 49, 46, 49, 46, 49] = some (.four 167837953) := by
  unfold addrZ
  rw [show strictZ [49, 48, 46, 49, 46, 49, 46, 49] = (167837953, true) from by decide +kernel]; rfl
theorem a8_b : addrZ [49, 49, 46, 49, 46, 49, 46, 49] = some (.four 184615169) := by
  unfold addrZ
  rw [show strictZ [49, 49, 46, 49, 46, 49, 46, 49] = (184615169, true) from by decide +kernel]; rfl
theorem a8_c : addrZ [58, 58, 49] = some (.six 0 1) := by
  unfold addrZ
  rw [show strictZ [58, 58, 49] = (0, false) from by decide +kernel, show sixZ [58, 58, 49] = ((0, 1), true) from by decide +kernel]; rfl
theorem a8_d : addrZ [58, 58] = some (.six 0 0) := by
  unfold addrZ
  rw [show strictZ [58, 58] = (0, false) from by decide +kernel, show sixZ [58, 58] = ((0, 0), true) from by decide +kernel]; rfl
theorem p8_a : parseP [48, 46, 48, 46, 48, 46, 48, 47, 48] = some (281470681743360, 96) := by
  unfold parseP
  rw [show ([48, 46, 48, 46, 48, 46, 48, 47, 48] : List UInt8) = [48, 46, 48, 46, 48, 46, 48] ++ 47 :: [48] from rfl, slc_some [48] (by decide)]
  unfold prefZ
  rw [a8_z]
  simp only []
  rw [show decZ [48] (128 - (AZ.four 0).ahead) = (0, true) from by decide +kernel, show (AZ.four 0).wd = 281470681743360 from by decide +kernel, show (AZ.four 0).ahead + (0, true).1 = 96 from rfl, show pRightB 281470681743360 96 = true from by decide +kernel]
  rfl
theorem p8_b : parseP [58, 58, 47, 48] = some (0, 0) := by
  unfold parseP
  rw [show ([58, 58, 47, 48] : List UInt8) = [58, 58] ++ 47 :: [48] from rfl, slc_some [48] (by decide)]
  unfold prefZ
  rw [a8_d]
  simp only []
  rw [show decZ [48] (128 - (AZ.six 0 0).ahead) = (0, true) from by decide +kernel, show (AZ.six 0 0).wd = 0 from by decide +kernel, show (AZ.six 0 0).ahead + (0, true).1 = 0 from rfl, show pRightB 0 0 = true from by decide +kernel]
  rfl
theorem o8_a : optP (some (281470681743360, 96)) = .agg #[.int .u64 0, .int .u64 281470681743360, .int .i64 96] := rfl
theorem o8_b : optP (some (0, 0)) = .agg #[.int .u64 0, .int .u64 0, .int .i64 0] := rfl
theorem t8_a : ((PT.nil.put 281470681743360 96 1).put 281470849515520 104 2).find (AZ.four 167837953).wd none = some ⟨281470849515520, 104, 2⟩ := by decide +kernel
theorem t8_b : ((PT.nil.put 281470681743360 96 1).put 281470849515520 104 2).find (AZ.four 184615169).wd none = some ⟨281470681743360, 96, 1⟩ := by decide +kernel
theorem t8_c : ((PT.nil.put 281470681743360 96 1).put 281470849515520 104 2).find (AZ.six 0 1).wd none = none := by decide +kernel

set_option maxRecDepth 100000 in
set_option maxHeartbeats 8000000 in
theorem awake08_any (w : World) (hbru : BruTab w) (hmax : MaxVar w) :
    Calls Tryz.prog 82 #[] w fun e w' => e = .returned (.bool true) ∧ Below w.heap.size w w' := by
  have HT := Lib.hid hbru
  have HX := Lib.hid hmax
  clear hbru hmax
  go_enter Tryz.func82, Tryz.ntmps82
  go_wp2_with fail
  refine (new_any _).mono ?_
  rintro e x1 ⟨rfl, hb1, ht1⟩
  have S1 := Lib.hid (St.first (Below.refl w.heap.size w) (Nat.le_refl _) hb1 ht1)
  obtain ⟨g, hgg⟩ : ∃ g, g = w.heap.size := ⟨_, rfl⟩
  rw [← hgg] at S1 ⊢
  clear hgg
  clear hb1 ht1
  go_wp2_with fail
  refine (pParse_any _ _ (by decide) (maxVar_below HX.out S1.out.below)).mono ?_
  rw [show parseP (ByteArray.mk #[48, 46, 48, 46, 48, 46, 48, 47, 48]).data.toList = some (281470681743360, 96) from p8_a]
  rintro e x2 ⟨rfl, hb2⟩
  rw [o8_a]
  simp only [Option.isSome]
  have S2 := Lib.hid ((S1.out.keep hb2).new #[.int .u64 0, .int .u64 281470681743360, .int .i64 96] 37)
  clear S1 hb2
  go_wp2_with fail
  refine (pParse_any _ _ (by decide) (maxVar_below HX.out S2.out.below)).mono ?_
  rw [show parseP (ByteArray.mk #[49, 48, 46, 48, 46, 48, 46, 48, 47, 56]).data.toList = some (281470849515520, 104) from p7_a]
  rintro e x3 ⟨rfl, hb3⟩
  rw [o7_a]
  simp only [Option.isSome]
  obtain ⟨gp, hgp⟩ : ∃ y, y = x2.heap.size := ⟨_, rfl⟩
  rw [← hgp] at S2 ⊢
  have S3 := Lib.hid ((S2.out.keep hb3).new #[.int .u64 0, .int .u64 281470849515520, .int .i64 104] 37)
  clear S2 hb3 hgp
  go_wp2_with fail
  refine (addrParse_any _ _ (by decide) (maxVar_below HX.out S3.out.below)).mono ?_
  rw [show addrZ (ByteArray.mk #[49, 48, 46, 49, 46, 49, 46, 49]).data.toList = some (.four 167837953) from a8_a]
  rintro e x4 ⟨rfl, hb4⟩
  simp only [optV, Option.isSome]
  have S4 := Lib.hid (S3.out.keep hb4)
  clear S3 hb4
  obtain ⟨gq, hgq⟩ : ∃ y, y = x3.heap.size := ⟨_, rfl⟩
  rw [← hgq] at S4 ⊢
  clear hgq
  go_wp2_with fail
  refine (addrParse_any _ _ (by decide) (maxVar_below HX.out S4.out.below)).mono ?_
  rw [show addrZ (ByteArray.mk #[49, 49, 46, 49, 46, 49, 46, 49]).data.toList = some (.four 184615169) from a8_b]
  rintro e x5 ⟨rfl, hb5⟩
  simp only [optV, Option.isSome]
  have S5 := Lib.hid (S4.out.keep hb5)
  clear S4 hb5
  go_wp2_with fail
  refine (addrParse_any _ _ (by decide) (maxVar_below HX.out S5.out.below)).mono ?_
  rw [show addrZ (ByteArray.mk #[58, 58, 49]).data.toList = some (.six 0 1) from a8_c]
  rintro e x6 ⟨rfl, hb6⟩
  simp only [optV, Option.isSome]
  have S6 := Lib.hid (S5.out.keep hb6)
  clear S5 hb6
  obtain ⟨lp, p0, p1, p2⟩ := S6.out.blks.r3 (b := gp) (by repeat first | exact .head _ | apply List.Mem.tail)
  obtain ⟨lq, q0, q1, q2⟩ := S6.out.blks.r3 (b := gq) (by repeat first | exact .head _ | apply List.Mem.tail)
  have HP1 := Lib.hid (put_any g .nil 0 281470681743360 96 1 x6 S6.out.trie (by decide) (by decide) (by decide) (by unfold rt; decide +kernel) (by decide))
  rw [show wideN 0 281470681743360 = 281470681743360 from by decide] at HP1
  go_wp2_with fail
  refine HP1.out.mono ?_
  rintro e x7 ⟨T1, rfl, hm7, hp7⟩
  have S7 := Lib.hid (S6.out.moved hm7)
  have HT1 : Hid (T1.pt = PT.nil.put 281470681743360 96 1) := hp7
  clear S6 hm7 hp7 HP1 lp p0 p1 p2 lq q0 q1 q2
  obtain ⟨lp, p0, p1, p2⟩ := S7.out.blks.r3 (b := gp) (by repeat first | exact .head _ | apply List.Mem.tail)
  obtain ⟨lq, q0, q1, q2⟩ := S7.out.blks.r3 (b := gq) (by repeat first | exact .head _ | apply List.Mem.tail)
  have HP2 := Lib.hid (put_any g T1 0 281470849515520 104 2 x7 S7.out.trie (by decide) (by decide) (by decide) (by unfold rt; decide +kernel) (by rw [HT1.out]; decide +kernel))
  rw [show wideN 0 281470849515520 = 281470849515520 from by decide, HT1.out] at HP2
  go_wp2_with fail
  refine HP2.out.mono ?_
  rintro e x8 ⟨T2, rfl, hm8, hp8⟩
  have S8 := Lib.hid (S7.out.moved hm8)
  have HT2 : Hid (T2.pt = (PT.nil.put 281470681743360 96 1).put 281470849515520 104 2) := hp8
  clear S7 hm8 hp8 HP2 lp p0 p1 p2 lq q0 q1 q2
  have HF9 : Hid (∀ X, IsTrie X g T2 → Calls Tryz.prog 18 #[.pointer (some ⟨g, 0, none⟩), AZ.val (.four 167837953)] X fun e w' => e = .returned (.tuple #[.agg #[.int .u64 0, .int .u64 281470849515520, .int .i64 104], .int .i64 2, .bool true]) ∧ Below X.heap.size X w') := fun X hX => by
    have := find_any g T2 (.four 167837953) X hX ⟨by decide, by decide⟩
    rw [HT2.out, t8_a] at this
    exact this
  go_wp2_with fail
  refine (HF9.out _ S8.out.trie).mono ?_
  rintro e x9 ⟨rfl, hb9⟩
  have S9 := Lib.hid ((S8.out.keep hb9).keep ((Below.refl _ _).alloc (Nat.le_refl _) (.cells #[.int .u64 0, .int .u64 281470849515520, .int .i64 104] 37)))
  clear HF9 hb9 S8
  have HF10 : Hid (∀ X, IsTrie X g T2 → Calls Tryz.prog 18 #[.pointer (some ⟨g, 0, none⟩), AZ.val (.four 184615169)] X fun e w' => e = .returned (.tuple #[.agg #[.int .u64 0, .int .u64 281470681743360, .int .i64 96], .int .i64 1, .bool true]) ∧ Below X.heap.size X w') := fun X hX => by
    have := find_any g T2 (.four 184615169) X hX ⟨by decide, by decide⟩
    rw [HT2.out, t8_b] at this
    exact this
  go_wp2_with fail
  refine (HF10.out _ S9.out.trie).mono ?_
  rintro e x10 ⟨rfl, hb10⟩
  have S10 := Lib.hid ((S9.out.keep hb10).keep ((Below.refl _ _).alloc (Nat.le_refl _) (.cells #[.int .u64 0, .int .u64 281470681743360, .int .i64 96] 37)))
  clear HF10 hb10 S9
  have HF11 : Hid (∀ X, IsTrie X g T2 → Calls Tryz.prog 18 #[.pointer (some ⟨g, 0, none⟩), AZ.val (.six 0 1)] X fun e w' => e = .returned (.tuple #[.agg #[.int .u64 0, .int .u64 0, .int .i64 0], .int .i64 0, .bool false]) ∧ Below X.heap.size X w') := fun X hX => by
    have := find_any g T2 (.six 0 1) X hX ⟨⟨by decide, by decide⟩, by decide, by decide⟩
    rw [HT2.out, t8_c] at this
    exact this
  go_wp2_with fail
  refine (HF11.out _ S10.out.trie).mono ?_
  rintro e x11 ⟨rfl, hb11⟩
  have S11 := Lib.hid ((S10.out.keep hb11).keep ((Below.refl _ _).alloc (Nat.le_refl _) (.cells #[.int .u64 0, .int .u64 0, .int .i64 0] 37)))
  clear HF11 hb11 S10
  go_wp2_with fail
  refine (awake7_any _ (bruTab_below HT.out S11.out.below) (maxVar_below HX.out S11.out.below)).mono ?_
  rintro e x12 ⟨rfl, hb12⟩
  have S12 := Lib.hid (S11.out.keep hb12)
  go_wp2
  go_ret
  exact ⟨rfl, S12.out.below⟩
end Go.Proofs.YtoobiaifogackaaGreatDoor
