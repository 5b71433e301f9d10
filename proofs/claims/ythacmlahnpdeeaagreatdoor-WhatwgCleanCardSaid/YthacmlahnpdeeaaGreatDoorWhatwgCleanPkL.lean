/-
  What the law WhatwgClean leans on, and its walk (12 of 31).
-/
import Derived.Deep.LoopGhost
import Derived.Test.YthacmlahnpdeeaaGreatDoorWhatwgCleanPkK
namespace Go.Proofs.YthacmlahnpdeeaaGreatDoor
set_option maxRecDepth 100000
set_option maxHeartbeats 16000000
section
open Go.RowKit
/-- all but some blocks,and new ones,are as they were -/
structure Only (F:List Nat) (w w':World):Prop where
 os:w'.os=w.os
 tape:w'.tape=w.tape
 output:w'.output=w.output
 size:w.heap.size≤w'.heap.size
 block: ∀k,k<w.heap.size→k∉F→w'.heap[k]? =w.heap[k]?
theorem Only.refl (F:List Nat) (w:World):Only F w w:=⟨rfl,rfl,rfl,Nat.le_refl _,fun _ _ _=>rfl⟩
theorem Only.of_below {F:List Nat} {w w':World} (h:Below w.heap.size w w'):Only F w w':=⟨h.os,h.tape,h.output,h.size,fun k hk _=>h.block k hk⟩
theorem Only.trans {F G:List Nat} {a b c:World} (h:Only F a b) (k:Only G b c) (hG: ∀x∈G,x∈F∨a.heap.size≤x):Only F a c:=
 ⟨k.os.trans h.os,k.tape.trans h.tape,k.output.trans h.output,Nat.le_trans h.size k.size,fun i hi hF=>
  (k.block i (Nat.lt_of_lt_of_le hi h.size) (fun g=>by rcases hG i g with q|q;exact hF q;omega)).trans (h.block i hi hF)⟩
theorem Only.then_below {F:List Nat} {a b c:World} (h:Only F a b) (k:Below b.heap.size b c):Only F a c:=h.trans (Only.of_below (F:=[]) k) (fun x hx=>by cases hx)
theorem Only.mono {F G:List Nat} {a b:World} (h:Only F a b) (hG: ∀x∈F,x∈G):Only G a b:=⟨h.os,h.tape,h.output,h.size,fun k hk hn=>h.block k hk (fun q=>hn (hG k q))⟩
theorem Only.setCell {F:List Nat} {a b:World} (h:Only F a b) {p:Addr} (hp:p.block∈F∨a.heap.size≤p.block) (v:Value):Only F a (b.setCell p v):=
 ⟨h.os,h.tape,h.output,by rw [show (b.setCell p v).heap.size=b.heap.size by simp [World.setCell]];exact h.size,fun k hk hn=>by
  rw [Below.heap_setCell _ _ _ _ (fun e=>by rcases hp with q|q;exact hn (e▸q);omega)]
  exact h.block k hk hn⟩
theorem Only.alloc {F:List Nat} {a b:World} (h:Only F a b) (o:Obj):Only F a (b.alloc o):=h.then_below ((Below.refl _ _).alloc (Nat.le_refl _) o)
theorem Only.drew {F:List Nat} {a b:World} (h:Only F a b):Only F a b.drew:=⟨h.os,h.tape,h.output,h.size,h.block⟩
theorem Only.drewN {F:List Nat} {a b:World} (h:Only F a b) (n:Nat):Only F a (b.drewN n):=⟨h.os,h.tape,h.output,h.size,h.block⟩
/-- below a number that no written block is below -/
theorem Only.below {F:List Nat} {a b:World} {B:Nat} (h:Only F a b) (hB:B≤a.heap.size) (hF: ∀x∈F,B≤x):Below B a b:=
 ⟨h.os,h.tape,h.output,h.size,fun k hk=>h.block k (by omega) (fun q=>by have:=hF k q;omega)⟩
theorem zaC {w:World} {b:Nat} {o:Obj} (h:w.heap[b]? =some o):b<w.heap.size:=by
 rcases Nat.lt_or_ge b w.heap.size with g|g
 ·exact g
 ·rw [Array.getElem?_eq_none g] at h;cases h
theorem zaD {w:World} {b:Nat} {c:Array Value} {t:TypeId} (h:w.heap[b]? =some (.cells c t)) (i:Nat):w.cell? ⟨b,i,none⟩=c[i]? :=by
 simp [World.cell?,h]
theorem zaK {w:World} {b:Nat} {c:Array Value} {t:TypeId} (h:w.heap[b]? =some (.cells c t)) (i:Nat):w.frozen? ⟨b,i,none⟩=false:=by
 simp [World.frozen?,h]
theorem zaP {w:World} {b:Nat} {c:Array Value} {t:TypeId} (h:w.heap[b]? =some (.cells c t)) (i:Nat) (v:Value):(w.setCell ⟨b,i,none⟩ v).heap[b]? =some (.cells (c.setIfInBounds i v) t):=by
 simp [World.setCell,Array.getElem?_modify,h]
theorem zbD {w:World} {b b':Nat} (h:b≠b') (i:Nat) (v:Value):(w.setCell ⟨b',i,none⟩ v).heap[b]? =w.heap[b]? :=Below.heap_setCell _ _ _ _ h
end

section
open Go.RowKit
/-- a tree of nodes:where each lies,and what it holds -/
inductive HT where
 |nil
 |node (b:Nat) (W n:Nat) (v:Int) (h:Bool) (l r:HT)
def HT.ptr:HT→Value
 | .nil=> .pointer none
 | .node b _ _ _ _ _ _=> .pointer (some ⟨b,0,none⟩)
def HT.pt:HT→PT
 | .nil=> .nil
 | .node _ W n v h l r=> .node W n v h l.pt r.pt
def HT.blocks:HT→List Nat
 | .nil=>[]
 | .node b _ _ _ _ l r=>b::(l.blocks++r.blocks)
def zjC (W n:Nat) (v:Int) (h:Bool) (x y:Value):Array Value:=
 #[.int .u64 (hiN W:Nat),.int .u64 (loN W:Nat),.int .i64 (n:Nat),.int .i64 v,.bool h,x,y]
def HT.In (w:World):HT→Prop
 | .nil=>True
 | .node b W n v h l r=>w.heap[b]? =some (.cells (zjC W n v h l.ptr r.ptr) 269)∧(W<2^128∧n≤128∧rt W n)∧l.In w∧r.In w
theorem HT.in_lt {w:World}: ∀{T:HT},T.In w→ ∀b∈T.blocks,b<w.heap.size
 | .nil,_,b,hb=>by cases hb
 | .node _ _ _ _ _ _ _,hi,b,hb=>by
  rcases List.mem_cons.1 hb with g|g
  ·rw [g];exact zaC hi.1
  ·rcases List.mem_append.1 g with g|g
   ·exact HT.in_lt hi.2.2.1 b g
   ·exact HT.in_lt hi.2.2.2 b g
theorem HT.in_same {w w':World}: ∀{T:HT},T.In w→(∀b∈T.blocks,w'.heap[b]? =w.heap[b]?)→T.In w'
 | .nil,_,_=>trivial
 | .node b0 _ _ _ _ _ _,hi,hs=>⟨(hs b0 (List.mem_cons_self ..)).trans hi.1,hi.2.1,
   HT.in_same hi.2.2.1 (fun b hb=>hs b (List.mem_cons_of_mem _ (List.mem_append_left _ hb))),HT.in_same hi.2.2.2 (fun b hb=>hs b (List.mem_cons_of_mem _ (List.mem_append_right _ hb)))⟩
theorem HT.in_only {F:List Nat} {w w':World} {T:HT} (h:T.In w) (ho:Only F w w') (hn: ∀b∈T.blocks,b∉F):T.In w':=
 HT.in_same h (fun b hb=>ho.block b (HT.in_lt h b hb) (hn b hb))
theorem HT.in_below {w w':World} {T:HT} (h:T.In w) (hb:Below w.heap.size w w'):T.In w':=HT.in_same h (fun b hb'=>hb.block b (HT.in_lt h b hb'))
/-- a node's cells -/
theorem zcT {w:World} {b W n:Nat} {v:Int} {h:Bool} {x y:Value} (hr:w.heap[b]? =some (.cells (zjC W n v h x y) 269)):
  (w.cell? ⟨b,0,none⟩=some (.int .u64 (hiN W:Nat))∧w.cell? ⟨b,1,none⟩=some (.int .u64 (loN W:Nat))∧w.cell? ⟨b,2,none⟩=some (.int .i64 (n:Nat)))∧
  w.cell? ⟨b,3,none⟩=some (.int .i64 v)∧w.cell? ⟨b,4,none⟩=some (.bool h)∧w.cell? ⟨b,5,none⟩=some x∧w.cell? ⟨b,6,none⟩=some y:=by
 refine ⟨⟨?_,?_,?_⟩,?_,?_,?_,?_⟩<;>rw [zaD hr]<;>rfl
/-- what a call leaves that writes into the tree T:T' lies there,in T's blocks and new ones,no block twice -/
structure zdT (w w':World) (T T':HT):Prop where
 lies:T'.In w'
 once:T'.blocks.Nodup
 sub: ∀b∈T'.blocks,b∈T.blocks∨w.heap.size≤b
 only:Only T.blocks w w'
theorem zeY {b W n:Nat} {v:Int} {h:Bool} {l r:HT} (hd:(HT.node b W n v h l r).blocks.Nodup):
  b∉l.blocks∧b∉r.blocks∧l.blocks.Nodup∧r.blocks.Nodup∧ ∀x∈l.blocks,x∉r.blocks:=by
 obtain ⟨h1,h2⟩:=List.nodup_cons.1 hd
 obtain ⟨h3,h4,h5⟩:=List.nodup_append.1 h2
 exact ⟨fun g=>h1 (List.mem_append_left _ g),fun g=>h1 (List.mem_append_right _ g),h3,h4,fun x hl hr=>h5 x hl x hr rfl⟩
theorem zmU {b W n:Nat} {v:Int} {h:Bool} {l r:HT} (h1:b∉l.blocks) (h2:b∉r.blocks) (h3:l.blocks.Nodup) (h4:r.blocks.Nodup) (h5: ∀x∈l.blocks,x∉r.blocks):
  (HT.node b W n v h l r).blocks.Nodup:=
 List.nodup_cons.2 ⟨fun g=>by rcases List.mem_append.1 g with q|q;exact h1 q;exact h2 q,List.nodup_append.2 ⟨h3,h4,fun x hl y hr e=>h5 x hl (e▸hr)⟩⟩
/-- the callee has written into the left side;its root is stored -/
theorem z5B {w w1:World} {b W n:Nat} {v:Int} {h:Bool} {l r l':HT} (hin:(HT.node b W n v h l r).In w) (hd:(HT.node b W n v h l r).blocks.Nodup) (hw:zdT w w1 l l'):
  zdT w (w1.setCell ⟨b,5,none⟩ l'.ptr) (.node b W n v h l r) (.node b W n v h l' r)∧w1.heap[b]? =some (.cells (zjC W n v h l.ptr r.ptr) 269):=by
 obtain ⟨d1,d2,d3,d4,d5⟩:=zeY hd
 obtain ⟨i1,i2,i3,i4⟩:=hin
 have hb:=zaC i1
 have hb1:w1.heap[b]? =some (.cells (zjC W n v h l.ptr r.ptr) 269):=(hw.only.block b hb d1).trans i1
 have nb: ∀x∈l'.blocks,x≠b:=fun x hx e=>by
  subst e
  rcases hw.sub _ hx with q|q
  ·exact d1 q
  ·omega
 have nr: ∀x∈l'.blocks,x∉r.blocks:=fun x hx g=>by
  rcases hw.sub _ hx with q|q
  ·exact d5 x q g
  ·have:=HT.in_lt i4 x g;omega
 refine ⟨⟨⟨?_,i2,?_,?_⟩,zmU (fun g=>nb b g rfl) d2 hw.once d4 nr,?_,?_⟩,hb1⟩
 ·rw [zaP hb1];rfl
 ·exact HT.in_same hw.lies (fun x hx=>zbD (nb x hx) _ _)
 ·refine HT.in_same (HT.in_only i4 hw.only (fun x hx g=>d5 x g hx)) (fun x hx=>zbD (fun e:x=b=>d2 (e▸hx)) _ _)
 ·intro x hx
  rcases List.mem_cons.1 hx with g|g
  ·exact .inl (List.mem_cons.2 (.inl g))
  ·rcases List.mem_append.1 g with g|g
   ·exact (hw.sub x g).imp (fun q=>List.mem_cons_of_mem _ (List.mem_append_left _ q)) id
   ·exact .inl (List.mem_cons_of_mem _ (List.mem_append_right _ g))
 ·exact (hw.only.mono (G:=(HT.node b W n v h l r).blocks) (fun x hx=>List.mem_cons_of_mem _ (List.mem_append_left _ hx))).setCell (p:=⟨b,5,none⟩) (.inl (List.mem_cons_self ..)) _
theorem z0N {w w1:World} {b W n:Nat} {v:Int} {h:Bool} {l r r':HT} (hin:(HT.node b W n v h l r).In w) (hd:(HT.node b W n v h l r).blocks.Nodup) (hw:zdT w w1 r r'):
  zdT w (w1.setCell ⟨b,6,none⟩ r'.ptr) (.node b W n v h l r) (.node b W n v h l r')∧w1.heap[b]? =some (.cells (zjC W n v h l.ptr r.ptr) 269):=by
 obtain ⟨d1,d2,d3,d4,d5⟩:=zeY hd
 obtain ⟨i1,i2,i3,i4⟩:=hin
 have hb:=zaC i1
 have hb1:w1.heap[b]? =some (.cells (zjC W n v h l.ptr r.ptr) 269):=(hw.only.block b hb d2).trans i1
 have nb: ∀x∈r'.blocks,x≠b:=fun x hx e=>by
  subst e
  rcases hw.sub _ hx with q|q
  ·exact d2 q
  ·omega
 have nr: ∀x∈l.blocks,x∉r'.blocks:=fun x hx g=>by
  rcases hw.sub _ g with q|q
  ·exact d5 x hx q
  ·have:=HT.in_lt i3 x hx;omega
 refine ⟨⟨⟨?_,i2,?_,?_⟩,zmU d1 (fun g=>nb b g rfl) d3 hw.once nr,?_,?_⟩,hb1⟩
 ·rw [zaP hb1];rfl
 ·refine HT.in_same (HT.in_only i3 hw.only (fun x hx g=>d5 x hx g)) (fun x hx=>zbD (fun e:x=b=>d1 (e▸hx)) _ _)
 ·exact HT.in_same hw.lies (fun x hx=>zbD (nb x hx) _ _)
 ·intro x hx
  rcases List.mem_cons.1 hx with g|g
  ·exact .inl (List.mem_cons.2 (.inl g))
  ·rcases List.mem_append.1 g with g|g
   ·exact .inl (List.mem_cons_of_mem _ (List.mem_append_left _ g))
   ·exact (hw.sub x g).imp (fun q=>List.mem_cons_of_mem _ (List.mem_append_right _ q)) id
 ·exact (hw.only.mono (G:=(HT.node b W n v h l r).blocks) (fun x hx=>List.mem_cons_of_mem _ (List.mem_append_right _ hx))).setCell (p:=⟨b,6,none⟩) (.inl (List.mem_cons_self ..)) _
/-- worlds that make memory alone ahead of the call -/
theorem zdT.before {w w0 w1:World} {T T':HT} (h:zdT w0 w1 T T') (hb:Below w.heap.size w w0) (_hin:T.In w):zdT w w1 T T':=
 ⟨h.lies,h.once,fun b hb'=>(h.sub b hb').imp id (fun q=>Nat.le_trans hb.size q),(Only.of_below hb).trans h.only (fun _ hx=> .inl hx)⟩
theorem zdT.behind {w w1 w2:World} {T T':HT} (h:zdT w w1 T T') (hb:Below w1.heap.size w1 w2):zdT w w2 T T':=
 ⟨HT.in_below h.lies hb,h.once,h.sub,h.only.then_below hb⟩
end

end Go.Proofs.YthacmlahnpdeeaaGreatDoor
