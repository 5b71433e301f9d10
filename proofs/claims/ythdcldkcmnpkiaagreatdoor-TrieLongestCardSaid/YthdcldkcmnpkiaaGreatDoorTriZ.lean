/-
  Layer 8: a call's own trie and map.
-/
import Derived.Test.YthdcldkcmnpkiaaGreatDoorTriY
import Derived.Test.YthdcldkcmnpkiaaGreatDoorTriR
namespace Go.Proofs.YthdcldkcmnpkiaaGreatDoor
open Go.RowKit


theorem Only.of_grown {x y : World} {B : Nat} (h : x.grownBy y (some B)) : Only [B] x y :=
  ⟨h.os, h.tape, h.output, h.size, fun k hk hn => h.block k hk (fun e => hn (by rw [Option.some.inj e]; exact List.mem_cons_self ..))⟩
/-- a call's own trie, map and blocks, beside all that was there -/
structure SM (w x : World) (g : Nat) (T : HT) (B n : Nat) (l : List En) (L : List (Nat × Array Value × TypeId)) : Prop where
  st : St w x g T L
  map : MapIs x B n l
  base : w.heap.size ≤ B
  apart : B ∉ g :: T.blocks
  aside : ∀ e ∈ L, e.1 ≠ B
theorem SM.keep {w x y : World} {g : Nat} {T : HT} {B n : Nat} {l : List En} {L : List (Nat × Array Value × TypeId)} (h : SM w x g T B n l L) (hb : Below x.heap.size x y) : SM w y g T B n l L :=
  ⟨h.st.keep hb, h.map.same (hb.block B h.map.lt), h.base, h.apart, h.aside⟩
theorem SM.new {w x : World} {g : Nat} {T : HT} {B n : Nat} {l : List En} {L : List (Nat × Array Value × TypeId)} (h : SM w x g T B n l L) (c : Array Value) (t : TypeId) : SM w (x.alloc (.cells c t)) g T B n l ((x.heap.size, c, t) :: L) :=
  have hb : Below x.heap.size x (x.alloc (.cells c t)) := (Below.refl _ _).alloc (Nat.le_refl _) _
  ⟨h.st.new c t, h.map.same (hb.block B h.map.lt), h.base, h.apart, fun e he q => by
    rcases List.mem_cons.1 he with r | r
    · rw [r] at q; have := h.map.lt; simp only at q; omega
    · exact h.aside e r q⟩
theorem SM.moved {w x y : World} {g : Nat} {T T' : HT} {B n : Nat} {l : List En} {L : List (Nat × Array Value × TypeId)} (h : SM w x g T B n l L) (hm : Moved x y g T T') : SM w y g T' B n l L :=
  ⟨h.st.moved hm, h.map.same (hm.only.block B h.map.lt h.apart), h.base, fun q => by
    rcases List.mem_cons.1 q with r | r
    · exact h.apart (r ▸ List.mem_cons_self ..)
    · rcases hm.sub B r with s | s
      · exact h.apart (List.mem_cons_of_mem _ s)
      · have := h.map.lt; omega, h.aside⟩
theorem SM.drop {w x : World} {g : Nat} {T : HT} {B n : Nat} {l : List En} {L L' : List (Nat × Array Value × TypeId)} (h : SM w x g T B n l L) (hs : ∀ e ∈ L', e ∈ L) : SM w x g T B n l L' :=
  ⟨h.st.drop hs, h.map, h.base, h.apart, fun e he => h.aside e (hs e he)⟩
theorem St.only {w x y : World} {g : Nat} {T : HT} {L : List (Nat × Array Value × TypeId)} {F : List Nat} (h : St w x g T L) (ho : Only F x y) (hw : ∀ b ∈ F, w.heap.size ≤ b) (ht : ∀ b ∈ g :: T.blocks, b ∉ F) (hL : ∀ e ∈ L, e.1 ∉ F) : St w y g T L :=
  ⟨h.below.trans (ho.below h.below.size hw), h.trie.keepO ho ht, h.own, fun e he => (ho.block e.1 (block_lt (h.blks e he)) (hL e he)).trans (h.blks e he), h.apart⟩
/-- a store into the map -/
theorem SM.store {w x y : World} {g : Nat} {T : HT} {B n : Nat} {l : List En} {L : List (Nat × Array Value × TypeId)} {D : DataW Unit} {P k : Nat} {v : Int} (h : SM w x g T B n l L) (hl : MapL D l) (ho : x.ownsMap Tryz.prog 24 (plainElem Tryz.prog 3) B n D) (hs : l.Pairwise En.lt) (hP : P < 2 ^ 128) (hk : k ≤ 128)
    (hn : y.ownsMap Tryz.prog 24 (plainElem Tryz.prog 3) B (n + 1) (D.put (pfKey P k) (.lit (.int .i64 v)))) (hg : x.grownBy y (some B)) : SM w y g T B (n + 1) (putL l P k v) L := by
  have ho1 := Only.of_grown hg
  refine ⟨h.st.only ho1 (fun b q => by rw [List.mem_singleton.1 q]; exact h.base) (fun b q r => h.apart (by rw [← List.mem_singleton.1 r]; exact q)) (fun e he q => h.aside e he (List.mem_singleton.1 q)), ⟨_, hn, mapL_put hl (ho.tidy pfxLaw) hs hP hk⟩, h.base, h.apart, h.aside⟩
theorem SM.first {w x : World} {g : Nat} {L : List (Nat × Array Value × TypeId)} (h : St w x g .nil L) : SM w (x.alloc (.map #[] 0)) g .nil x.heap.size 0 [] L :=
  have hb : Below x.heap.size x (x.alloc (.map #[] 0)) := (Below.refl _ _).alloc (Nat.le_refl _) _
  ⟨h.keep hb, mapIs_made x, h.below.size, fun q => Nat.lt_irrefl _ (h.trie.lt _ q), fun e he q => by have := block_lt (h.blks e he); rw [q] at this; exact Nat.lt_irrefl _ this⟩
end Go.Proofs.YthdcldkcmnpkiaaGreatDoor
