/-
  What the law WhatwgClean leans on, and its walk (20 of 31).
-/
import Derived.Deep.Slices
import Derived.Laws.AppendOwn
import Derived.OwnWalk
import Derived.Test.YthacmlahnpdeeaaGreatDoorWhatwgCleanPkL
import Derived.Test.YthacmlahnpdeeaaGreatDoorWhatwgCleanPkK
namespace Go.Proofs.YthacmlahnpdeeaaGreatDoor
set_option maxRecDepth 100000
set_option maxHeartbeats 16000000
section
open Go.RowKit
def zrQ (x:En):List Value:=[.int .u64 (hiN x.W:Nat),.int .u64 (loN x.W:Nat),.int .i64 (x.n:Nat)]
def yfP (l:List En):List Value:=l.flatMap zrQ
theorem ztP (f:En→List Value) (s:Nat) (h: ∀x,(f x).length=s): ∀(l:List En) (j:Nat) (x:En),l[j]? =some x→ ∀i,i<s→(l.flatMap f)[j*s+i]? =(f x)[i]?
 |[],j,x,e,i,hi=>by simp at e
 |y::l,0,x,e,i,hi=>by
  simp at e;subst e
  rw [List.flatMap_cons,List.getElem?_append_left (by rw [h];omega)];simp
 |y::l,j+1,x,e,i,hi=>by
  rw [List.flatMap_cons,List.getElem?_append_right (by rw [h,Nat.add_mul];omega),h,show (j+1)*s+i - s=j*s+i from by rw [Nat.add_mul];omega]
  exact ztP f s h l j x (by simpa using e) i hi
theorem zlM (x:En):(zrQ x).length=3:=rfl
def OwnP (w:World) (base:Nat) (v:Value) (l:List En):Prop:=w.ownsRow base 235 3 v l.length (yfP l)
/-- the slice v holds these prefixes -/
def RowP (w:World) (v:Value) (l:List En):Prop:=
 ∃ao c,v= .slice ao l.length c∧ ∀(j:Nat) (x:En),l[j]? =some x→ ∃ad,ao=some ad∧(w.cell? (Addr.add ad (j*3))=some (.int .u64 (hiN x.W:Nat))∧w.cell? ⟨(Addr.add ad (j*3)).block,(Addr.add ad (j*3)).off+1,none⟩=some (.int .u64 (loN x.W:Nat))∧
  w.cell? ⟨(Addr.add ad (j*3)).block,(Addr.add ad (j*3)).off+2,none⟩=some (.int .i64 (x.n:Nat)))
theorem RowP.keep {w w':World} {v:Value} {l:List En} (h:RowP w v l) (hb:Below w.heap.size w w'):RowP w' v l:=by
 obtain ⟨ao,c,rfl,hc⟩:=h
 have kp: ∀(p:Addr) (u:Value),w.cell? p=some u→w'.cell? p=some u:=fun p u hp=>(hb.cell (World.block_lt_of_cell? w p hp)).trans hp
 refine ⟨ao,c,rfl,fun j x hx=> ?_⟩
 obtain ⟨ad,ha,c0,c1,c2⟩:=hc j x hx
 exact ⟨ad,ha,kp _ _ c0,kp _ _ c1,kp _ _ c2⟩
theorem OwnP.row {w:World} {base:Nat} {v:Value} {l:List En} (h:OwnP w base v l):RowP w v l:=by
 have h0:=h
 rcases h.2 with ⟨e,hn⟩|⟨g,cap,cur,e,_⟩
 ·have:l=[]:=List.eq_nil_of_length_eq_zero hn
  subst this
  exact ⟨none,0,e,fun j x hx=>by simp at hx⟩
 ·refine ⟨_,_,e,fun j x hx=>⟨_,rfl,?_,?_,?_⟩⟩
  ·exact h0.cells (g:=g) (by rw [e];rfl) (j*3) _ ((ztP zrQ 3 zlM l j x hx 0 (by omega)).trans rfl)
  ·have:=h0.cells (g:=g) (by rw [e];rfl) (j*3+1) _ ((ztP zrQ 3 zlM l j x hx 1 (by omega)).trans rfl)
   rw [←Go.Deep.add_add] at this;exact this
  ·have:=h0.cells (g:=g) (by rw [e];rfl) (j*3+2) _ ((ztP zrQ 3 zlM l j x hx 2 (by omega)).trans rfl)
   rw [←Go.Deep.add_add] at this;exact this
theorem zwK (w:World) (c:List Value) (t:TypeId): ∀(j:Nat) (u:Value),c[j]? =some u→(w.alloc (.cells c.toArray t)).cell? ((⟨w.heap.size,0,none⟩:Addr).add j)=some u:=by
 intro j u hj
 have e:(⟨w.heap.size,0,none⟩:Addr).add j=⟨w.heap.size,j,none⟩:=by simp [Addr.add];intro h;omega
 rw [e,zaD (heap_alloc_new w _)]
 simpa using hj
theorem zjJ {P:Program} {e:TypeId} {z:Option Value} {s b:Nat} (h:(P.info? e).map (fun i=>(i.zero,i.size,i.bytes))=some (z,s,b)): ∃i,P.info? e=some i∧i.zero=z∧i.size=s∧i.bytes=b:=by
 cases hi:P.info? e with
 |none=>rw [hi] at h;cases h
 |some i=>rw [hi] at h;simp at h;exact ⟨i,rfl,h.1,h.2.1,h.2.2⟩
theorem OwnP.snoc {w:World} {base:Nat} {v:Value} {l:List En} {x:En} (h:w.ownsRow base 235 3 v (l.length+1) (yfP l++zrQ x)):OwnP w base v (l++[x]):=by
 unfold OwnP yfP
 rw [List.flatMap_append,List.length_append]
 simpa [yfP] using h
theorem OwnP.same {w w':World} {base:Nat} {v:Value} {l:List En} (h:OwnP w base v l) (he: ∀b,v.ownBlock=some b→w'.heap[b]? =w.heap[b]?):OwnP w' base v l:=by
 refine ⟨h.1,?_⟩
 rcases h.2 with q|⟨g,cap,cur,e,hb,hg,r⟩
 ·exact .inl q
 ·exact .inr ⟨g,cap,cur,e,hb,(he g (by rw [e];rfl)).trans hg,r⟩
theorem OwnP.keep {w w':World} {base:Nat} {v:Value} {l:List En} (h:OwnP w base v l) (hb:Below w.heap.size w w'):OwnP w' base v l:=
 h.same fun b hb'=>hb.block b (World.ownsRow.lt h b hb').2
end

end Go.Proofs.YthacmlahnpdeeaaGreatDoor
