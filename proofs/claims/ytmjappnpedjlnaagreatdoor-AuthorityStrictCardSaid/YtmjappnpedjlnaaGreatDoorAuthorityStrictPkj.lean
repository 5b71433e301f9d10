/-
  What the law AuthorityStrict leans on, and its walk (35 of 35).
-/
import Derived.ChangeKeysEq
import Derived.OpenShut
import Derived.Test.YtmjappnpedjlnaaGreatDoorAuthorityStrictPkZ
namespace Go.Proofs.YtmjappnpedjlnaaGreatDoor
set_option maxRecDepth 100000
set_option maxHeartbeats 16000000
section
open Go.RowKit Go.ChangeShapes Go.WideShapes Go.ChangeAt Go.Joins Go.Deep
theorem zqC:Tryz.prog.cellsOf 24=13:=by kernel_rfl
theorem zcW:Tryz.prog.cellsOf 9=1:=by kernel_rfl
theorem zcV:Tryz.prog.cellsOf 4=1:=by kernel_rfl
theorem zeN {H:Type} {enc:TypeId×Value→H} {W:World} {n:Nat} {cs:List Value} {c:Value} {y:DataW H×List MemPlace} (h:DataW.trod enc Tryz.prog W 0 (fun _=>true) true n 9 cs=some y) (hc:cs=[c]): ∃l:List UInt8,c= .string ⟨l.toArray⟩∧l.length≤maxLen:=by
 obtain ⟨s,e,_,hs⟩:=DataW.trod_string Tryz.underlying9 h
 rw [hc] at e
 simp only [List.cons.injEq,and_true] at e
 exact ⟨s.data.toList,e,by rw [zaB];exact hs⟩
theorem zeB {H:Type} {enc:TypeId×Value→H} {W:World} {n:Nat} {cs:List Value} {c:Value} {y:DataW H×List MemPlace} (h:DataW.trod enc Tryz.prog W 0 (fun _=>true) true n 4 cs=some y) (hc:cs=[c]): ∃b:Bool,c= .bool b:=by
 obtain ⟨b,e,_⟩:=DataW.trod_bool Tryz.underlying4 h
 rw [hc] at e
 simp only [List.cons.injEq,and_true] at e
 exact ⟨b,e⟩
theorem open_part {H:Type} {enc:TypeId×Value→H} {W:World} {r:Reach} {b0:Nat} {v:Value} {d:DataW H} {ps:List MemPlace} (hv:Value.okWide Tryz.prog W r b0 24 v) (h:DataW.Trod enc Tryz.prog W 0 (fun _=>true) true 24 v d ps):
  ∃p:PZ,v= .agg p.cells∧p.Few maxLen:=by
 obtain ⟨cs,rfl,hsz⟩:=okWide_struct Tryz.underlying24 hv
 obtain ⟨fuel,hf⟩:=h
 obtain ⟨xs,n,_,_,hl,hlen,hfs⟩:=DataW.trod_struct Tryz.underlying24 hf
 rw [zqC] at hsz
 obtain ⟨l,rfl⟩: ∃l:List Value,cs=l.toArray:=⟨cs.toList,by simp⟩
 have hl13:l.length=13:=by simpa using hsz
 match l,hl13,xs,hlen with
 |[c0,c1,c2,c3,c4,c5,c6,c7,c8,c9,c10,c11,c12],_,[y0,y1,y2,y3,y4,y5,y6,y7,y8,y9,y10,y11,y12],_=>
  obtain ⟨l0,rfl,b0⟩:=zeN (c:=c0) (hfs 0 _ rfl) (by simp [Value.cells,zcW])
  obtain ⟨l1,rfl⟩:=zeB (c:=c1) (hfs 1 _ rfl) (by simp [Value.cells,zcV])
  obtain ⟨l2,rfl,b2⟩:=zeN (c:=c2) (hfs 2 _ rfl) (by simp [Value.cells,zcW])
  obtain ⟨l3,rfl⟩:=zeB (c:=c3) (hfs 3 _ rfl) (by simp [Value.cells,zcV])
  obtain ⟨l4,rfl,b4⟩:=zeN (c:=c4) (hfs 4 _ rfl) (by simp [Value.cells,zcW])
  obtain ⟨l5,rfl⟩:=zeB (c:=c5) (hfs 5 _ rfl) (by simp [Value.cells,zcV])
  obtain ⟨l6,rfl,b6⟩:=zeN (c:=c6) (hfs 6 _ rfl) (by simp [Value.cells,zcW])
  obtain ⟨l7,rfl⟩:=zeB (c:=c7) (hfs 7 _ rfl) (by simp [Value.cells,zcV])
  obtain ⟨l8,rfl,b8⟩:=zeN (c:=c8) (hfs 8 _ rfl) (by simp [Value.cells,zcW])
  obtain ⟨l9,rfl,b9⟩:=zeN (c:=c9) (hfs 9 _ rfl) (by simp [Value.cells,zcW])
  obtain ⟨l10,rfl⟩:=zeB (c:=c10) (hfs 10 _ rfl) (by simp [Value.cells,zcV])
  obtain ⟨l11,rfl,b11⟩:=zeN (c:=c11) (hfs 11 _ rfl) (by simp [Value.cells,zcW])
  obtain ⟨l12,rfl⟩:=zeB (c:=c12) (hfs 12 _ rfl) (by simp [Value.cells,zcV])
  exact ⟨⟨l0,l1,l2,l3,l4,l5,l6,l7,l8,l9,l10,l11,l12⟩,rfl,b0,b2,b4,b6,b8,b9,b11⟩
end
end Go.Proofs.YtmjappnpedjlnaaGreatDoor
