/-
  Layer 9: a trie that goes on, and blocks beside it.
-/
import Derived.Test.YtoobiaifogackaaGreatDoorSpcB
import Derived.Test.YtoobiaifogackaaGreatDoorTriN
namespace Go.Proofs.YtoobiaifogackaaGreatDoor
open Go.RowKit


theorem Moved.keep {w x y : World} {g : Nat} {T T' : HT} (h : Moved w x g T T') (hb : Below x.heap.size x y) : Moved w y g T T' := ⟨h.trie.keep hb, h.only.then_below hb, h.sub⟩
theorem Moved.then {w x y : World} {g : Nat} {T T' T2 : HT} (h : Moved w x g T T') (k : Moved x y g T' T2) : Moved w y g T T2 :=
  ⟨k.trie, h.only.trans k.only (fun b hb => by
    rcases List.mem_cons.1 hb with q | q
    · exact .inl (by rw [q]; exact List.mem_cons_self ..)
    · rcases h.sub b q with r | r
      · exact .inl (List.mem_cons_of_mem _ r)
      · exact .inr r), fun b hb => by
    rcases k.sub b hb with q | q
    · exact h.sub b q
    · exact .inr (Nat.le_trans h.only.size q)⟩
/-- a trie that goes on, and blocks of the call's own beside it -/
structure Mt (w x : World) (g : Nat) (T T' : HT) (L : List (Nat × Array Value × TypeId)) : Prop where
  mv : Moved w x g T T'
  blks : Blks L x
  apart : ∀ e ∈ L, e.1 ∉ g :: T'.blocks
theorem Mt.keep {w x y : World} {g : Nat} {T T' : HT} {L : List (Nat × Array Value × TypeId)} (h : Mt w x g T T' L) (hb : Below x.heap.size x y) : Mt w y g T T' L := ⟨h.mv.keep hb, h.blks.keep hb, h.apart⟩
theorem Mt.moved {w x y : World} {g : Nat} {T T' T2 : HT} {L : List (Nat × Array Value × TypeId)} (h : Mt w x g T T' L) (k : Moved x y g T' T2) : Mt w y g T T2 L :=
  ⟨h.mv.then k, fun e he => (k.only.block e.1 (block_lt (h.blks e he)) (h.apart e he)).trans (h.blks e he), fun e he q => by
    rcases List.mem_cons.1 q with r | r
    · exact h.apart e he (List.mem_cons.2 (.inl r))
    · rcases k.sub _ r with s | s
      · exact h.apart e he (List.mem_cons_of_mem _ s)
      · have := block_lt (h.blks e he); omega⟩
theorem Mt.first {w x : World} {g : Nat} {T : HT} {b : Nat} {c : Array Value} {t : TypeId} (ht : IsTrie w g T) (hb : Below w.heap.size w x) (hl : w.heap.size ≤ b) (h : x.heap[b]? = some (.cells c t)) : Mt w x g T T [(b, c, t)] := by
  refine ⟨Moved.refl ht hb, fun e he => ?_, fun e he q => ?_⟩
  · rcases List.mem_cons.1 he with r | r
    · rw [r]; exact h
    · cases r
  · rcases List.mem_cons.1 he with r | r
    · rw [r] at q
      have := ht.lt _ q
      simp only at this
      omega
    · cases r
end Go.Proofs.YtoobiaifogackaaGreatDoor
