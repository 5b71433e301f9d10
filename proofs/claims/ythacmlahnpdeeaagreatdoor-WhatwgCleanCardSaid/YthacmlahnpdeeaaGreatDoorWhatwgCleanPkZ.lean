/-
  What the law WhatwgClean leans on, and its walk (25 of 31).
-/
import Derived.Test.YthacmlahnpdeeaaGreatDoorWhatwgCleanPkU
import Derived.Test.YthacmlahnpdeeaaGreatDoorWhatwgCleanPkW
namespace Go.Proofs.YthacmlahnpdeeaaGreatDoor
set_option maxRecDepth 100000
set_option maxHeartbeats 16000000
section
open Go.RowKit
section
variable {X:Type} {t:TypeId} {s:Nat} {cl:X→List Value}
theorem z0V (h: ∀x,(cl x).length=s): ∀(l:List X) (j:Nat) (x:X),l[j]? =some x→ ∀i,i<s→(l.flatMap cl)[j*s+i]? =(cl x)[i]?
 |[],j,x,hx,i,hi=>by simp at hx
 |y::l,0,x,hx,i,hi=>by
  simp only [List.getElem?_cons_zero,Option.some.injEq] at hx
  subst hx
  rw [List.flatMap_cons,List.getElem?_append_left (by rw [h];omega)]
  simp
 |y::l,j+1,x,hx,i,hi=>by
  have e:(j+1)*s+i=s+(j*s+i):=by rw [Nat.add_mul];omega
  rw [List.flatMap_cons,List.getElem?_append_right (by rw [h,e];omega),h,e,Nat.add_sub_cancel_left]
  exact z0V h l j x (by simpa using hx) i hi
def OwnX (t:TypeId) (s:Nat) (cl:X→List Value) (w:World) (base:Nat) (v:Value) (l:List X):Prop:=w.ownsRow base t s v l.length (l.flatMap cl)
theorem OwnX.same {w w':World} {base:Nat} {v:Value} {l:List X} (h:OwnX t s cl w base v l) (he: ∀b,v.ownBlock=some b→w'.heap[b]? =w.heap[b]?):OwnX t s cl w' base v l:=by
 refine ⟨h.1,?_⟩
 rcases h.2 with q|⟨g,cap,cur,e,hb,hg,r⟩
 ·exact .inl q
 ·exact .inr ⟨g,cap,cur,e,hb,(he g (by rw [e];rfl)).trans hg,r⟩
theorem OwnX.keep {w w':World} {base:Nat} {v:Value} {l:List X} (h:OwnX t s cl w base v l) (hb:Below w.heap.size w w'):OwnX t s cl w' base v l:=
 h.same fun b hb'=>hb.block b (World.ownsRow.lt h b hb').2
theorem OwnX.lower {w:World} {base base':Nat} {v:Value} {l:List X} (h:OwnX t s cl w base v l) (hb:base'≤base):OwnX t s cl w base' v l:=by
 refine ⟨h.1,?_⟩
 rcases h.2 with q|⟨g,cap,cur,e,hg,r⟩
 ·exact .inl q
 ·exact .inr ⟨g,cap,cur,e,Nat.le_trans hb hg,r⟩
theorem OwnX.snoc {w:World} {base:Nat} {v:Value} {l:List X} {x:X} (h:w.ownsRow base t s v (l.length+1) (l.flatMap cl++cl x)):OwnX t s cl w base v (l++[x]):=by
 unfold OwnX
 rw [List.flatMap_append,List.length_append]
 simpa using h
theorem OwnX.nil (w:World) (base:Nat):OwnX t s cl w base (.slice none 0 0) []:=World.ownsRow_nil _ _ _ _
theorem OwnX.form {w:World} {base:Nat} {v:Value} {l:List X} (h:OwnX t s cl w base v l): ∃a c,v= .slice a l.length c:=by
 rcases h.2 with ⟨e,hn⟩|⟨g,cap,cur,e,_⟩
 ·exact ⟨_,_,by rw [e,hn]⟩
 ·exact ⟨_,_,e⟩
/-- the slice holds the list,cell by cell -/
def RowX (s:Nat) (cl:X→List Value) (w:World) (ao:Option Addr) (l:List X):Prop:= ∀(j:Nat) (x:X),l[j]? =some x→ ∃ad,ao=some ad∧ ∀i,i<s→w.cell? (ad.add (j*s+i))=(cl x)[i]?
theorem OwnX.row (hl: ∀x,(cl x).length=s) {w:World} {base:Nat} {ao:Option Addr} {n c:Nat} {l:List X} (h:OwnX t s cl w base (.slice ao n c) l):RowX s cl w ao l:=fun j x hx=>by
 have h0:=h
 rcases h.2 with ⟨e,hn⟩|⟨g,cap,cur,e,_⟩
 ·have:l=[]:=List.eq_nil_of_length_eq_zero hn
  subst this
  simp at hx
 ·simp only [Value.slice.injEq] at e
  obtain ⟨rfl,_,_⟩:=e
  refine ⟨_,rfl,fun i hi=> ?_⟩
  have q:(cl x)[i]? =some ((cl x)[i]'(by rw [hl];exact hi)):=List.getElem?_eq_getElem _
  rw [q]
  exact h0.cells (g:=g) rfl (j*s+i) _ ((z0V hl l j x hx i hi).trans q)
theorem RowX.keep (hl: ∀x,(cl x).length=s) {w w':World} {ao:Option Addr} {l:List X} (h:RowX s cl w ao l) (hb:Below w.heap.size w w'):RowX s cl w' ao l:=fun j x hx=>by
 obtain ⟨ad,ha,hc⟩:=h j x hx
 refine ⟨ad,ha,fun i hi=> ?_⟩
 have q:(cl x)[i]? =some ((cl x)[i]'(by rw [hl];exact hi)):=List.getElem?_eq_getElem _
 have hc':=hc i hi
 rw [q] at hc' ⊢
 exact (hb.cell (World.block_lt_of_cell? w _ hc')).trans hc'
/-- the row's block is another than one of another type -/
theorem OwnX.other {w:World} {base:Nat} {v:Value} {l:List X} (h:OwnX t s cl w base v l) {b:Nat} {c:Array Value} {t':TypeId} (hb:w.heap[b]? =some (.cells c t')) (ht:t'≠t):v.ownBlock≠some b:=fun e=>by
 rcases h.2 with ⟨q,_⟩|⟨g,cap,cur,q,_,hg,_⟩
 ·rw [q] at e;cases e
 ·rw [q] at e
  simp only [Value.ownBlock,Option.some.injEq] at e
  rw [e,hb] at hg
  injection hg with hg
  injection hg with _ hg
  exact ht hg
/-- a list under way,beside blocks that are older than it,or of another type -/
structure LX (t:TypeId) (s:Nat) (cl:X→List Value) (w x:World) (base:Nat) (L:List (Nat×Array Value×TypeId)) (v:Value) (m:List X):Prop where
 below:Below w.heap.size w x
 blks:Blks L x
 lt: ∀e∈L,e.1<base∨e.2.2≠t
 row:OwnX t s cl x base v m
 size:base≤x.heap.size
 old:w.heap.size≤base
theorem LX.keep {w x y:World} {base:Nat} {L:List (Nat×Array Value×TypeId)} {v:Value} {m:List X} (h:LX t s cl w x base L v m) (hb:Below x.heap.size x y):LX t s cl w y base L v m:=
 ⟨zaA h.below hb,h.blks.keep hb,h.lt,h.row.keep hb,Nat.le_trans h.size hb.size,h.old⟩
theorem LX.app {w x y z:World} {base:Nat} {L:List (Nat×Array Value×TypeId)} {v v':Value} {m:List X} {e:X} (h:LX t s cl w x base L v m) (hb:Below x.heap.size x y) (hg:y.grownBy z v.ownBlock) (hr:z.ownsRow base t s v' (m.length+1) (m.flatMap cl++cl e)):LX t s cl w z base L v' (m++[e]):=by
 have h1:=h.keep hb
 have h2:Below base y z:=(Below.refl base y).grown hg h1.size (fun k hk=>(World.ownsRow.lt h1.row k hk).1)
 refine ⟨h1.below.trans (h2.mono h.old),fun e he=> ?_,h.lt,OwnX.snoc hr,Nat.le_trans h1.size h2.size,h.old⟩
 have hb1:=h1.blks e he
 rcases h.lt e he with q|q
 ·exact (h2.block e.1 q).trans hb1
 ·exact (hg.block e.1 (zaC hb1) (fun r=>h1.row.other hb1 q r.symm)).trans hb1
theorem LX.drop {w x:World} {base:Nat} {L L':List (Nat×Array Value×TypeId)} {v:Value} {m:List X} (h:LX t s cl w x base L v m) (hs: ∀e∈L',e∈L):LX t s cl w x base L' v m:=
 ⟨h.below,fun e he=>h.blks e (hs e he),fun e he=>h.lt e (hs e he),h.row,h.size,h.old⟩
theorem LX.first {w x:World} (L:List (Nat×Array Value×TypeId)) (hb:Below w.heap.size w x) (hB:Blks L x):LX t s cl w x x.heap.size L (.slice none 0 0) []:=
 ⟨hb,hB,fun e he=> .inl (zaC (hB e he)),OwnX.nil _ _,Nat.le_refl _,hb.size⟩
/-- a block of another type that is there now -/
theorem LX.more {w x y:World} {base:Nat} {L:List (Nat×Array Value×TypeId)} {v:Value} {m:List X} (h:LX t s cl w x base L v m) (hb:Below x.heap.size x y) {b:Nat} {c:Array Value} {t':TypeId} (hB:y.heap[b]? =some (.cells c t')) (ht:t'≠t):LX t s cl w y base ((b,c,t')::L) v m:=
 have h1:=h.keep hb
 ⟨h1.below,fun e he=>by
  rcases List.mem_cons.1 he with q|q
  ·rw [q];exact hB
  ·exact h1.blks e q,fun e he=>by
  rcases List.mem_cons.1 he with q|q
  ·rw [q];exact .inr ht
  ·exact h.lt e q,h1.row,h1.size,h.old⟩
theorem LX.new {w x:World} {base:Nat} {L:List (Nat×Array Value×TypeId)} {v:Value} {m:List X} (h:LX t s cl w x base L v m) (c:Array Value) {t':TypeId} (ht:t'≠t):LX t s cl w (x.alloc (.cells c t')) base ((x.heap.size,c,t')::L) v m:=
 h.more ((Below.refl _ _).alloc (Nat.le_refl _) _) (Go.Deep.blk_alloc_new _ _) ht
end
end

end Go.Proofs.YthacmlahnpdeeaaGreatDoor
