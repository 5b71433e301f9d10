/-
  What the law CacheLast leans on, and its walk (3 of 21).
-/
import Derived.Deep.LoopGhost
import Derived.Test.YtkiehdigpchebaaGreatDoorCacheLastPkB
namespace Go.Proofs.YtkiehdigpchebaaGreatDoor
set_option maxRecDepth 100000
set_option maxHeartbeats 16000000
section
open Go.RowKit
structure Only (F:List Nat) (w w':World):Prop where
 os:w'.os=w.os
 tape:w'.tape=w.tape
 output:w'.output=w.output
 size:w.heap.size≤w'.heap.size
 block: ∀k,k<w.heap.size→k∉F→w'.heap[k]? =w.heap[k]?
theorem Only.of_below {F:List Nat} {w w':World} (h:Below w.heap.size w w'):Only F w w':=⟨h.os,h.tape,h.output,h.size,fun k a _=>h.block k a⟩
theorem Only.trans {F G:List Nat} {a b c:World} (h:Only F a b) (k:Only G b c) (f: ∀x∈G,x∈F∨a.heap.size≤x):Only F a c:=
 ⟨k.os.trans h.os,k.tape.trans h.tape,k.output.trans h.output,Nat.le_trans h.size k.size,fun i hi hF=>
  (k.block i (Nat.lt_of_lt_of_le hi h.size) (fun g=>by rcases f i g with q|q;exact hF q;omega)).trans (h.block i hi hF)⟩
theorem Only.drew {F:List Nat} {a b:World} (h:Only F a b):Only F a b.drew:=⟨h.os,h.tape,h.output,h.size,h.block⟩
theorem zaH {w:World} {b:Nat} {o:Obj} (h:w.heap[b]? =some o):b<w.heap.size:=by
 rcases Nat.lt_or_ge b w.heap.size with g|g
 ·exact g
 ·rw [Array.getElem?_eq_none g] at h;cases h
theorem zaE {w:World} {b:Nat} {c:Array Value} {t:TypeId} (h:w.heap[b]? =some (.cells c t)) (i:Nat):w.cell? ⟨b,i,none⟩=c[i]? :=by
 simp [World.cell?,h]
theorem zaW {w:World} {b:Nat} {c:Array Value} {t:TypeId} (h:w.heap[b]? =some (.cells c t)) (i:Nat):w.frozen? ⟨b,i,none⟩=false:=by
 simp [World.frozen?,h]
theorem zeY {w:World} {b:Nat} {c:Array Value} {t:TypeId} (h:w.heap[b]? =some (.cells c t)) (i:Nat) (v:Value):(w.setCell ⟨b,i,none⟩ v).heap[b]? =some (.cells (c.setIfInBounds i v) t):=by
 simp [World.setCell,Array.getElem?_modify,h]
theorem zaZ {w:World} {b a:Nat} (h:b≠a) (i:Nat) (v:Value):(w.setCell ⟨a,i,none⟩ v).heap[b]? =w.heap[b]? :=Below.heap_setCell _ _ _ _ h
inductive HT where
 |nil
 |node (b:Nat) (W n:Nat) (v:Int) (h:Bool) (l r:HT)
end
end Go.Proofs.YtkiehdigpchebaaGreatDoor
