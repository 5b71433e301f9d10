/-
  What the law AgreeNever leans on, and its walk (7 of 42).
-/
import Derived.Deep.LoopGhost
import Derived.Test.YtegmcmgndllmaaaGreatDoorAgreeNeverPkF
namespace Go.Proofs.YtegmcmgndllmaaaGreatDoor
set_option maxRecDepth 100000
set_option maxHeartbeats 16000000
section
open Go.RowKit
structure Only (F:List Nat) (w w':World):Prop where
 os:w'.os=w.os
 tape:w'.tape=w.tape
 output:w'.output=w.output
 size:w.heap.size≤w'.heap.size
 block: ∀k,k<w.heap.size→k∉F→w'.heap[k]? =w.heap[k]?
theorem Only.refl (F:List Nat) (w:World):Only F w w:=⟨rfl,rfl,rfl,Nat.le_refl _,fun _ _ _=>rfl⟩
theorem Only.of_below {F:List Nat} {w w':World} (h:Below w.heap.size w w'):Only F w w':=⟨h.os,h.tape,h.output,h.size,fun k d _=>h.block k d⟩
theorem Only.trans {F G:List Nat} {a b c:World} (h:Only F a b) (k:Only G b c) (d: ∀x∈G,x∈F∨a.heap.size≤x):Only F a c:=
 ⟨k.os.trans h.os,k.tape.trans h.tape,k.output.trans h.output,Nat.le_trans h.size k.size,fun i hi hF=>
  (k.block i (Nat.lt_of_lt_of_le hi h.size) (fun g=>by rcases d i g with q|q;exact hF q;omega)).trans (h.block i hi hF)⟩
theorem Only.then_below {F:List Nat} {a b c:World} (h:Only F a b) (k:Below b.heap.size b c):Only F a c:=h.trans (Only.of_below (F:=[]) k) (fun x d=>by cases d)
theorem Only.mono {F G:List Nat} {a b:World} (h:Only F a b) (i: ∀x∈F,x∈G):Only G a b:=⟨h.os,h.tape,h.output,h.size,fun k d f=>h.block k d (fun q=>f (i k q))⟩
theorem Only.setCell {F:List Nat} {a b:World} (h:Only F a b) {p:Addr} (f:p.block∈F∨a.heap.size≤p.block) (v:Value):Only F a (b.setCell p v):=
 ⟨h.os,h.tape,h.output,by rw [show (b.setCell p v).heap.size=b.heap.size by simp [World.setCell]];exact h.size,fun k i d=>by
  rw [Below.heap_setCell _ _ _ _ (fun e=>by rcases f with q|q;exact d (e▸q);omega)]
  exact h.block k i d⟩
theorem Only.alloc {F:List Nat} {a b:World} (h:Only F a b) (o:Obj):Only F a (b.alloc o):=h.then_below ((Below.refl _ _).alloc (Nat.le_refl _) o)
theorem Only.below {F:List Nat} {a b:World} {B:Nat} (h:Only F a b) (f:B≤a.heap.size) (hF: ∀x∈F,B≤x):Below B a b:=
 ⟨h.os,h.tape,h.output,h.size,fun k d=>h.block k (by omega) (fun q=>by have:=hF k q;omega)⟩
theorem zaD {w:World} {b:Nat} {o:Obj} (h:w.heap[b]? =some o):b<w.heap.size:=by
 rcases Nat.lt_or_ge b w.heap.size with g|g
 ·exact g
 ·rw [Array.getElem?_eq_none g] at h;cases h
theorem zaB {w:World} {b:Nat} {c:Array Value} {t:TypeId} (h:w.heap[b]? =some (.cells c t)) (i:Nat):w.cell? ⟨b,i,none⟩=c[i]? :=by
 simp [World.cell?,h]
theorem zaF {w:World} {b:Nat} {c:Array Value} {t:TypeId} (h:w.heap[b]? =some (.cells c t)) (i:Nat):w.frozen? ⟨b,i,none⟩=false:=by
 simp [World.frozen?,h]
theorem zaK {w:World} {b:Nat} {c:Array Value} {t:TypeId} (h:w.heap[b]? =some (.cells c t)) (i:Nat) (v:Value):(w.setCell ⟨b,i,none⟩ v).heap[b]? =some (.cells (c.setIfInBounds i v) t):=by
 simp [World.setCell,Array.getElem?_modify,h]
theorem zaZ {w:World} {b b':Nat} (h:b≠b') (i:Nat) (v:Value):(w.setCell ⟨b',i,none⟩ v).heap[b]? =w.heap[b]? :=Below.heap_setCell _ _ _ _ h
inductive HT where
 |nil
 |node (b:Nat) (W n:Nat) (v:Int) (h:Bool) (l r:HT)
def HT.ptr:HT→Value
 | .nil=> .pointer none
 | .node b _ _ _ _ _ _=> .pointer (some ⟨b,0,none⟩)
def HT.pt:HT→PT
 | .nil=> .nil
 | .node _ W n v h l r=> .node W n v h l.pt r.pt
def HT.blocks:HT→List Nat
 | .nil=>[]
 | .node b _ _ _ _ l r=>b::(l.blocks++r.blocks)
def zkH (W n:Nat) (v:Int) (h:Bool) (x y:Value):Array Value:=
 #[.int .u64 (hiN W:Nat),.int .u64 (loN W:Nat),.int .i64 (n:Nat),.int .i64 v,.bool h,x,y]
def HT.In (w:World):HT→Prop
 | .nil=>True
 | .node b W n v h l r=>w.heap[b]? =some (.cells (zkH W n v h l.ptr r.ptr) 275)∧(W<2^128∧n≤128∧rt W n)∧l.In w∧r.In w
theorem HT.in_lt {w:World}: ∀{T:HT},T.In w→ ∀b∈T.blocks,b<w.heap.size
 | .nil,_,b,d=>by cases d
 | .node _ _ _ _ _ _ _,hi,b,d=>by
  rcases List.mem_cons.1 d with g|g
  ·rw [g];exact zaD hi.1
  ·rcases List.mem_append.1 g with g|g
   ·exact HT.in_lt hi.2.2.1 b g
   ·exact HT.in_lt hi.2.2.2 b g
theorem HT.in_same {w w':World}: ∀{T:HT},T.In w→(∀b∈T.blocks,w'.heap[b]? =w.heap[b]?)→T.In w'
 | .nil,_,_=>trivial
 | .node i _ _ _ _ _ _,hi,f=>⟨(f i (List.mem_cons_self ..)).trans hi.1,hi.2.1,
   HT.in_same hi.2.2.1 (fun b d=>f b (List.mem_cons_of_mem _ (List.mem_append_left _ d))),HT.in_same hi.2.2.2 (fun b d=>f b (List.mem_cons_of_mem _ (List.mem_append_right _ d)))⟩
theorem HT.in_only {F:List Nat} {w w':World} {T:HT} (h:T.In w) (i:Only F w w') (f: ∀b∈T.blocks,b∉F):T.In w':=
 HT.in_same h (fun b d=>i.block b (HT.in_lt h b d) (f b d))
theorem HT.in_below {w w':World} {T:HT} (h:T.In w) (f:Below w.heap.size w w'):T.In w':=HT.in_same h (fun b d=>f.block b (HT.in_lt h b d))
theorem zfQ {w:World} {b W n:Nat} {v:Int} {h:Bool} {x y:Value} (d:w.heap[b]? =some (.cells (zkH W n v h x y) 275)):
  (w.cell? ⟨b,0,none⟩=some (.int .u64 (hiN W:Nat))∧w.cell? ⟨b,1,none⟩=some (.int .u64 (loN W:Nat))∧w.cell? ⟨b,2,none⟩=some (.int .i64 (n:Nat)))∧
  w.cell? ⟨b,3,none⟩=some (.int .i64 v)∧w.cell? ⟨b,4,none⟩=some (.bool h)∧w.cell? ⟨b,5,none⟩=some x∧w.cell? ⟨b,6,none⟩=some y:=by
 refine ⟨⟨?_,?_,?_⟩,?_,?_,?_,?_⟩<;>rw [zaB d]<;>rfl
structure zfJ (w w':World) (T T':HT):Prop where
 lies:T'.In w'
 once:T'.blocks.Nodup
 sub: ∀b∈T'.blocks,b∈T.blocks∨w.heap.size≤b
 only:Only T.blocks w w'
theorem zhZ {b W n:Nat} {v:Int} {h:Bool} {l r:HT} (o:(HT.node b W n v h l r).blocks.Nodup):
  b∉l.blocks∧b∉r.blocks∧l.blocks.Nodup∧r.blocks.Nodup∧ ∀x∈l.blocks,x∉r.blocks:=by
 obtain ⟨d,m⟩:=List.nodup_cons.1 o
 obtain ⟨A,j,B⟩:=List.nodup_append.1 m
 exact ⟨fun g=>d (List.mem_append_left _ g),fun g=>d (List.mem_append_right _ g),A,j,fun x f i=>B x f x i rfl⟩
theorem zlY {b W n:Nat} {v:Int} {h:Bool} {l r:HT} (i:b∉l.blocks) (d:b∉r.blocks) (A:l.blocks.Nodup) (o:r.blocks.Nodup) (f: ∀x∈l.blocks,x∉r.blocks):
  (HT.node b W n v h l r).blocks.Nodup:=
 List.nodup_cons.2 ⟨fun g=>by rcases List.mem_append.1 g with q|q;exact i q;exact d q,List.nodup_append.2 ⟨A,o,fun x j y m e=>f x j (e▸m)⟩⟩
theorem z1U {w m:World} {b W n:Nat} {v:Int} {h:Bool} {l r i:HT} (o:(HT.node b W n v h l r).In w) (N:(HT.node b W n v h l r).blocks.Nodup) (f:zfJ w m l i):
  zfJ w (m.setCell ⟨b,5,none⟩ i.ptr) (.node b W n v h l r) (.node b W n v h i r)∧m.heap[b]? =some (.cells (zkH W n v h l.ptr r.ptr) 275):=by
 obtain ⟨D,C,Q,I,A⟩:=zhZ N
 obtain ⟨H,J,O,B⟩:=o
 have M:=zaD H
 have j:m.heap[b]? =some (.cells (zkH W n v h l.ptr r.ptr) 275):=(f.only.block b M D).trans H
 have E: ∀x∈i.blocks,x≠b:=fun x d e=>by
  subst e
  rcases f.sub _ d with q|q
  ·exact D q
  ·omega
 have K: ∀x∈i.blocks,x∉r.blocks:=fun x d g=>by
  rcases f.sub _ d with q|q
  ·exact A x q g
  ·have:=HT.in_lt B x g;omega
 refine ⟨⟨⟨?_,J,?_,?_⟩,zlY (fun g=>E b g rfl) C f.once I K,?_,?_⟩,j⟩
 ·rw [zaK j];rfl
 ·exact HT.in_same f.lies (fun x d=>zaZ (E x d) _ _)
 ·refine HT.in_same (HT.in_only B f.only (fun x d g=>A x g d)) (fun x d=>zaZ (fun e:x=b=>C (e▸d)) _ _)
 ·intro x d
  rcases List.mem_cons.1 d with g|g
  ·exact .inl (List.mem_cons.2 (.inl g))
  ·rcases List.mem_append.1 g with g|g
   ·exact (f.sub x g).imp (fun q=>List.mem_cons_of_mem _ (List.mem_append_left _ q)) id
   ·exact .inl (List.mem_cons_of_mem _ (List.mem_append_right _ g))
 ·exact (f.only.mono (G:=(HT.node b W n v h l r).blocks) (fun x d=>List.mem_cons_of_mem _ (List.mem_append_left _ d))).setCell (p:=⟨b,5,none⟩) (.inl (List.mem_cons_self ..)) _
theorem zvX {w m:World} {b W n:Nat} {v:Int} {h:Bool} {l r i:HT} (o:(HT.node b W n v h l r).In w) (M:(HT.node b W n v h l r).blocks.Nodup) (f:zfJ w m r i):
  zfJ w (m.setCell ⟨b,6,none⟩ i.ptr) (.node b W n v h l r) (.node b W n v h l i)∧m.heap[b]? =some (.cells (zkH W n v h l.ptr r.ptr) 275):=by
 obtain ⟨D,B,N,Q,A⟩:=zhZ M
 obtain ⟨H,I,C,O⟩:=o
 have K:=zaD H
 have j:m.heap[b]? =some (.cells (zkH W n v h l.ptr r.ptr) 275):=(f.only.block b K B).trans H
 have E: ∀x∈i.blocks,x≠b:=fun x d e=>by
  subst e
  rcases f.sub _ d with q|q
  ·exact B q
  ·omega
 have J: ∀x∈l.blocks,x∉i.blocks:=fun x d g=>by
  rcases f.sub _ g with q|q
  ·exact A x d q
  ·have:=HT.in_lt C x d;omega
 refine ⟨⟨⟨?_,I,?_,?_⟩,zlY D (fun g=>E b g rfl) N f.once J,?_,?_⟩,j⟩
 ·rw [zaK j];rfl
 ·refine HT.in_same (HT.in_only C f.only (fun x d g=>A x d g)) (fun x d=>zaZ (fun e:x=b=>D (e▸d)) _ _)
 ·exact HT.in_same f.lies (fun x d=>zaZ (E x d) _ _)
 ·intro x d
  rcases List.mem_cons.1 d with g|g
  ·exact .inl (List.mem_cons.2 (.inl g))
  ·rcases List.mem_append.1 g with g|g
   ·exact .inl (List.mem_cons_of_mem _ (List.mem_append_left _ g))
   ·exact (f.sub x g).imp (fun q=>List.mem_cons_of_mem _ (List.mem_append_right _ q)) id
 ·exact (f.only.mono (G:=(HT.node b W n v h l r).blocks) (fun x d=>List.mem_cons_of_mem _ (List.mem_append_right _ d))).setCell (p:=⟨b,6,none⟩) (.inl (List.mem_cons_self ..)) _
theorem zfJ.before {w f i:World} {T T':HT} (h:zfJ f i T T') (j:Below w.heap.size w f) (_hin:T.In w):zfJ w i T T':=
 ⟨h.lies,h.once,fun b d=>(h.sub b d).imp id (fun q=>Nat.le_trans j.size q),(Only.of_below j).trans h.only (fun _ m=> .inl m)⟩
end
end Go.Proofs.YtegmcmgndllmaaaGreatDoor
