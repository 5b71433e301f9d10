/-
  What the law WhatwgChains leans on, and its walk (31 of 33).
-/
import Derived.Deep.Slices
import Derived.Deep.Fields
import Derived.ChangeSame
import Derived.Test.YtcagcjdhbijknaaGreatDoorWhatwgChainsPke
namespace Go.Proofs.YtcagcjdhbijknaaGreatDoor
set_option maxRecDepth 100000
set_option maxHeartbeats 16000000
section
open Go.RowKit Go.ChangeShapes Go.WideShapes Go.Deep
theorem z5V {H:Type} {enc:TypeId×Value→H} {W:World} {t e:TypeId} {ao:Option Addr} {len cap:Nat} {d:DataW H} {ps:List MemPlace} {X:Type} (z:X) (cl:X→List Value) (ok:X→Prop) (s:Nat) (hu:Tryz.prog.underlying t=some (.slice e)) (hc:Tryz.prog.cellsOf e=s)
  (h1: ∀(n:Nat) (cs:List Value) (x:DataW H×List MemPlace),cs.length=s→DataW.trod enc Tryz.prog W 0 (fun _=>true) true n e cs=some x→ ∃y,cs=cl y∧ok y)
  (h:DataW.Trod enc Tryz.prog W 0 (fun _=>true) true t (.slice ao len cap) d ps):
  ∃zs:List X,zs.length=len∧(ao=none→cap=0)∧(len=0∨ ∃el sp,d= .slice el sp∧el.length=len)∧ ∀(j:Nat) (x:X),zs[j]? =some x→(∃ad,ao=some ad∧ ∀i,i<s→W.cell? (ad.add (j*s+i))=(cl x)[i]?)∧ok x:=by
 obtain ⟨fuel,hf⟩:=h
 rcases open_slice hu hf with ⟨hcs,_⟩|⟨a,l,c,m,n,D,Pl,hcs,_,hl,_,hm,hd,hi⟩
 ·simp [Value.cells] at hcs
  obtain ⟨rfl,rfl,rfl⟩:=hcs
  exact ⟨[],rfl,fun _=>rfl,.inl rfl,fun j x h=>by simp at h⟩
 ·simp [Value.cells] at hcs
  obtain ⟨rfl,rfl,rfl⟩:=hcs
  have hel: ∀i,i<len→ ∃x:X,(∀k,k<s→W.cell? (a.add (i*s+k))=(cl x)[k]?)∧ok x:=fun i hi2=>by
   have hmi:i<m:=by rw [hm];simp;omega
   obtain ⟨cs',hc',ht⟩:=hi i hmi
   rw [hc] at hc'
   obtain ⟨_,hcl,hat⟩:=World.cells?_some hc'
   obtain ⟨y,rfl,hy⟩:=h1 _ _ _ hcl ht
   refine ⟨y,fun k hk=> ?_,hy⟩
   have:=hat k (by omega)
   rw [Go.Deep.add_add] at this
   rw [this]
  refine ⟨(List.range len).map (fun i=>if q:i<len then Classical.choose (hel i q) else z),by simp,fun h=>(by cases h),.inr ⟨_,_,(Prod.mk.inj hd).1,by simp⟩,fun j x hx=> ?_⟩
  have hj:j<len:=by
   have:=(List.getElem?_eq_some_iff.1 hx).1
   simpa using this
  have hx':x=Classical.choose (hel j hj):=by
   simp [hj] at hx
   exact hx.symm
  have sp:=Classical.choose_spec (hel j hj)
  rw [←hx'] at sp
  exact ⟨⟨a,rfl,sp.1⟩,sp.2⟩
def IsTRow (w:World) (a:Option Addr) (len cap:Nat) (zs:List ByteArray):Prop:=
 zs.length=len∧(a=none→cap=0)∧len≤8796093021952∧ ∀(j:Nat) (x:ByteArray),zs[j]? =some x→(∃ad,a=some ad∧w.cell? (ad.add j)=some (.string x))∧x.size≤maxLen
theorem z0W:Tryz.prog.bytesOf 9=16:=by kernel_rfl
theorem z2B:Tryz.prog.cellsOf 9=1:=by kernel_rfl
theorem open_trow {H:Type} {enc:TypeId×Value→H} {W:World} {ao:Option Addr} {len cap:Nat} {d:DataW H} {ps:List MemPlace}
  (h:DataW.Trod enc Tryz.prog W 0 (fun _=>true) true 22 (.slice ao len cap) d ps) (hz: ∀el sp,d= .slice el sp→(el.length+sp.length)*Tryz.prog.bytesOf 9≤reachBytes): ∃zs,IsTRow W ao len cap zs:=by
 obtain ⟨zs,h1,h0,hq,h2⟩:=z5V (⟨#[]⟩:ByteArray) (fun x=>[Value.string x]) (fun x=>x.size≤maxLen) 1 Tryz.underlying22 z2B (fun n cs x _ hx=>by
  obtain ⟨s,e1,_,e3⟩:=DataW.trod_string Tryz.underlying9 hx
  exact ⟨s,e1,e3⟩) h
 have hlen:len≤8796093021952:=by
  rcases hq with q|⟨el,sp,q,e⟩
  ·omega
  ·have:=hz el sp q
   rw [z0W] at this
   have hr:reachBytes=140737488351232:=rfl
   rw [hr] at this
   omega
 refine ⟨zs,h1,h0,hlen,fun j x hx=> ?_⟩
 obtain ⟨⟨ad,ha,hc⟩,ho⟩:=h2 j x hx
 refine ⟨⟨ad,ha,?_⟩,ho⟩
 have:=hc 0 (by omega)
 simpa using this
theorem IsTRow.rowS {w:World} {a:Option Addr} {len cap:Nat} {zs:List ByteArray} (h:IsTRow w a len cap zs):RowS w a (zs.map (fun z=>z.data.toList)):=yeB fun j x hx=>(h.2.2.2 j x hx).1
end
end Go.Proofs.YtcagcjdhbijknaaGreatDoor
