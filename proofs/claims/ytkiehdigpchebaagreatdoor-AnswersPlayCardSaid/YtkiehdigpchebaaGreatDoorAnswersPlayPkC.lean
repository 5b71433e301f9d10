/-
  What the law AnswersPlay leans on, and its walk (3 of 22).
-/
import Derived.Deep.LoopGhost
import Derived.Test.YtkiehdigpchebaaGreatDoorAnswersPlayPkB
namespace Go.Proofs.YtkiehdigpchebaaGreatDoor
set_option maxRecDepth 100000
set_option maxHeartbeats 16000000
section
open Go.RowKit
structure Only (F:List Nat) (w w':World):Prop where
 os:w'.os=w.os
 tape:w'.tape=w.tape
 output:w'.output=w.output
 size:w.heap.size≤w'.heap.size
 block: ∀k,k<w.heap.size→k∉F→w'.heap[k]? =w.heap[k]?
theorem Only.refl (F:List Nat) (w:World):Only F w w:=⟨rfl,rfl,rfl,Nat.le_refl _,fun _ _ _=>rfl⟩
theorem Only.of_below {F:List Nat} {w w':World} (h:Below w.heap.size w w'):Only F w w':=⟨h.os,h.tape,h.output,h.size,fun k d _=>h.block k d⟩
theorem Only.trans {F G:List Nat} {a b c:World} (h:Only F a b) (k:Only G b c) (d: ∀x∈G,x∈F∨a.heap.size≤x):Only F a c:=
 ⟨k.os.trans h.os,k.tape.trans h.tape,k.output.trans h.output,Nat.le_trans h.size k.size,fun i hi hF=>
  (k.block i (Nat.lt_of_lt_of_le hi h.size) (fun g=>by rcases d i g with q|q;exact hF q;omega)).trans (h.block i hi hF)⟩
theorem Only.then_below {F:List Nat} {a b c:World} (h:Only F a b) (k:Below b.heap.size b c):Only F a c:=h.trans (Only.of_below (F:=[]) k) (fun x d=>by cases d)
theorem Only.mono {F G:List Nat} {a b:World} (h:Only F a b) (f: ∀x∈F,x∈G):Only G a b:=⟨h.os,h.tape,h.output,h.size,fun k o d=>h.block k o (fun q=>d (f k q))⟩
theorem Only.setCell {F:List Nat} {a b:World} (h:Only F a b) {p:Addr} (o:p.block∈F∨a.heap.size≤p.block) (v:Value):Only F a (b.setCell p v):=
 ⟨h.os,h.tape,h.output,by rw [show (b.setCell p v).heap.size=b.heap.size by simp [World.setCell]];exact h.size,fun k f d=>by
  rw [Below.heap_setCell _ _ _ _ (fun e=>by rcases o with q|q;exact d (e▸q);omega)]
  exact h.block k f d⟩
theorem Only.drew {F:List Nat} {a b:World} (h:Only F a b):Only F a b.drew:=⟨h.os,h.tape,h.output,h.size,h.block⟩
theorem Only.below {F:List Nat} {a b:World} {B:Nat} (h:Only F a b) (d:B≤a.heap.size) (hF: ∀x∈F,B≤x):Below B a b:=
 ⟨h.os,h.tape,h.output,h.size,fun k f=>h.block k (by omega) (fun q=>by have:=hF k q;omega)⟩
theorem zaG {w:World} {b:Nat} {o:Obj} (h:w.heap[b]? =some o):b<w.heap.size:=by
 rcases Nat.lt_or_ge b w.heap.size with g|g
 ·exact g
 ·rw [Array.getElem?_eq_none g] at h;cases h
theorem zaA {w:World} {b:Nat} {c:Array Value} {t:TypeId} (h:w.heap[b]? =some (.cells c t)) (i:Nat):w.cell? ⟨b,i,none⟩=c[i]? :=by
 simp [World.cell?,h]
theorem zaY {w:World} {b:Nat} {c:Array Value} {t:TypeId} (h:w.heap[b]? =some (.cells c t)) (i:Nat):w.frozen? ⟨b,i,none⟩=false:=by
 simp [World.frozen?,h]
theorem zbL {w:World} {b:Nat} {c:Array Value} {t:TypeId} (h:w.heap[b]? =some (.cells c t)) (i:Nat) (v:Value):(w.setCell ⟨b,i,none⟩ v).heap[b]? =some (.cells (c.setIfInBounds i v) t):=by
 simp [World.setCell,Array.getElem?_modify,h]
theorem zbB {w:World} {b d:Nat} (h:b≠d) (i:Nat) (v:Value):(w.setCell ⟨d,i,none⟩ v).heap[b]? =w.heap[b]? :=Below.heap_setCell _ _ _ _ h
inductive HT where
 |nil
 |node (b:Nat) (W n:Nat) (v:Int) (h:Bool) (l r:HT)
end
end Go.Proofs.YtkiehdigpchebaaGreatDoor
