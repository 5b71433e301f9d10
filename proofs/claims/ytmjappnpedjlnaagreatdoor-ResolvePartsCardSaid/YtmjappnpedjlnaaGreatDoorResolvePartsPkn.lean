/-
  What the law ResolveParts leans on, and its walk (39 of 42).
-/
import Derived.ChangeKeysEq
import Derived.OpenShut
import Derived.Test.YtmjappnpedjlnaaGreatDoorResolvePartsPkZ
namespace Go.Proofs.YtmjappnpedjlnaaGreatDoor
set_option maxRecDepth 100000
set_option maxHeartbeats 16000000
section
open Go.RowKit
def PZ.lits (p:PZ):List (List Lit):=[[.string p.scheme],[.bool p.hasS],[.string p.user],[.bool p.hasU],[.string p.host],[.bool p.hasA],[.string p.port],[.bool p.hasP],[.string p.path],[.string p.query],[.bool p.hasQ],[.string p.frag],[.bool p.hasF]]
theorem zlC (p q:PZ):p.lits.flatten=q.lits.flatten↔p=q:=by
 constructor
 ·intro h
  unfold PZ.lits at h
  simp only [List.flatten_cons,List.flatten_nil,List.cons_append,List.nil_append,List.cons.injEq,Lit.string.injEq,Lit.bool.injEq,and_true] at h
  obtain ⟨h0,h1,h2,h3,h4,h5,h6,h7,h8,h9,h10,h11,h12⟩:=h
  obtain ⟨p0,p1,p2,p3,p4,p5,p6,p7,p8,p9,p10,p11,p12⟩:=p
  obtain ⟨q0,q1,q2,q3,q4,q5,q6,q7,q8,q9,q10,q11,q12⟩:=q
  simp only at h0 h1 h2 h3 h4 h5 h6 h7 h8 h9 h10 h11 h12
  rw [h0,h1,h2,h3,h4,h5,h6,h7,h8,h9,h10,h11,h12]
 ·rintro rfl;rfl
theorem keyS (l:List UInt8) (h:l.length≤1000000):Tryz.prog.keyLits 10 9 [.string ⟨l.toArray⟩]=some [.string l]:=by
 unfold Program.keyLits
 rw [Tryz.underlying9]
 show (if (ByteArray.mk l.toArray).size≤maxLen then some [Lit.string (ByteArray.mk l.toArray).data.toList] else none)=_
 rw [if_pos (by rw [zaF];unfold maxLen;omega)]
theorem keyB (b:Bool):Tryz.prog.keyLits 10 4 [.bool b]=some [.bool b]:=by kernel_rfl
def zkP:List TypeId:=[9,4,9,4,9,4,9,4,9,9,4,9,4]
theorem zhT (p:PZ) (h:p.Few 1000000):(zkP.zip p.cells.toList).mapM (fun x=>Tryz.prog.keyLits 10 x.1 [x.2])=some p.lits:=by
 obtain ⟨h0,h2,h4,h6,h8,h9,h11⟩:=h
 unfold zkP PZ.cells PZ.lits
 simp [List.zip,keyB,keyS _ h0,keyS _ h2,keyS _ h4,keyS _ h6,keyS _ h8,keyS _ h9,keyS _ h11]
theorem zjQ (u v:Array Value): ∀(p q:Operand) (W:World),(eqGuard .eql 28 p q (.agg u) (.agg v)).run Tryz.prog W= .ok () W:=by
 intro p q W;kernel_rfl
theorem eqR (p q:PZ) (hp:p.Few 1000000) (hq:q.Few 1000000): ∀W:World,(binOp .eql 28 (.agg p.cells) (.agg q.cells)).run Tryz.prog W= .ok (.bool (p==q)) W:=by
 intro W
 obtain ⟨r,hr,hi⟩:=run_eqFields_plain (P:=Tryz.prog) W 9998 p.cells q.cells (D:=10) (D':=10) (Tryz.prog.fieldsOf 28).toList p.lits q.lits (fun f hf=>by have:=List.all_eq_true.1 (show ((Tryz.prog.fieldsOf 28).toList.all fun f=>f.name != "_" &&Tryz.prog.plainKey f.type)=true by kernel_rfl) f hf;simpa using this) (Eq.trans (by kernel_rfl) (zhT p hp)) (Eq.trans (by kernel_rfl) (zhT q hq))
 have hpq:(p==q)=r:=by
  rw [Bool.eq_iff_iff,hi,zlC,beq_iff_eq]
 have e1:(Op.equal 28 (.agg p.cells) (.agg q.cells)).run Tryz.prog W= .ok (p==q) W:=by
  show (Op.equalIn 10000 28 _ _).run Tryz.prog W=_
  rw [run_equalIn_struct W 9999 28 _ _ (by kernel_rfl) (by kernel_rfl),hr,hpq]
 show ((Op.equal _ _ _>>=fun b=>pure (Value.bool b)):Sem Value).run _ _=_
 rw [Sem.run_bind,e1];rfl
theorem ziM (l:List UInt8) (k:Nat) (h:k<l.length):(ByteArray.mk l.toArray)[k]'(by rw [zaF];exact h)=l[k]:=rfl
theorem byteI (c d:UInt8):((c.toNat:Int)==(d.toNat:Int))=(c==d):=by
 rw [Bool.eq_iff_iff,beq_iff_eq,beq_iff_eq]
 constructor
 ·intro h;exact UInt8.toNat_inj.1 (by omega)
 ·intro h;rw [h]
end
section
open Go.RowKit Go.ChangeShapes Go.WideShapes Go.ChangeAt Go.Joins Go.Deep
theorem zgJ:Tryz.prog.cellsOf 24=13:=by kernel_rfl
theorem zaY:Tryz.prog.cellsOf 9=1:=by kernel_rfl
theorem zaW:Tryz.prog.cellsOf 4=1:=by kernel_rfl
theorem zbO {H:Type} {enc:TypeId×Value→H} {W:World} {n:Nat} {cs:List Value} {c:Value} {y:DataW H×List MemPlace} (h:DataW.trod enc Tryz.prog W 0 (fun _=>true) true n 9 cs=some y) (hc:cs=[c]): ∃l:List UInt8,c= .string ⟨l.toArray⟩∧l.length≤maxLen:=by
 obtain ⟨s,e,_,hs⟩:=DataW.trod_string Tryz.underlying9 h
 rw [hc] at e
 simp only [List.cons.injEq,and_true] at e
 exact ⟨s.data.toList,e,by rw [zhI];exact hs⟩
theorem zbJ {H:Type} {enc:TypeId×Value→H} {W:World} {n:Nat} {cs:List Value} {c:Value} {y:DataW H×List MemPlace} (h:DataW.trod enc Tryz.prog W 0 (fun _=>true) true n 4 cs=some y) (hc:cs=[c]): ∃b:Bool,c= .bool b:=by
 obtain ⟨b,e,_⟩:=DataW.trod_bool Tryz.underlying4 h
 rw [hc] at e
 simp only [List.cons.injEq,and_true] at e
 exact ⟨b,e⟩
theorem open_part {H:Type} {enc:TypeId×Value→H} {W:World} {r:Reach} {b0:Nat} {v:Value} {d:DataW H} {ps:List MemPlace} (hv:Value.okWide Tryz.prog W r b0 24 v) (h:DataW.Trod enc Tryz.prog W 0 (fun _=>true) true 24 v d ps):
  ∃p:PZ,v= .agg p.cells∧p.Few maxLen:=by
 obtain ⟨cs,rfl,hsz⟩:=okWide_struct Tryz.underlying24 hv
 obtain ⟨fuel,hf⟩:=h
 obtain ⟨xs,n,_,_,hl,hlen,hfs⟩:=DataW.trod_struct Tryz.underlying24 hf
 rw [zgJ] at hsz
 obtain ⟨l,rfl⟩: ∃l:List Value,cs=l.toArray:=⟨cs.toList,by simp⟩
 have hl13:l.length=13:=by simpa using hsz
 match l,hl13,xs,hlen with
 |[c0,c1,c2,c3,c4,c5,c6,c7,c8,c9,c10,c11,c12],_,[y0,y1,y2,y3,y4,y5,y6,y7,y8,y9,y10,y11,y12],_=>
  obtain ⟨l0,rfl,b0⟩:=zbO (c:=c0) (hfs 0 _ rfl) (by simp [Value.cells,zaY])
  obtain ⟨l1,rfl⟩:=zbJ (c:=c1) (hfs 1 _ rfl) (by simp [Value.cells,zaW])
  obtain ⟨l2,rfl,b2⟩:=zbO (c:=c2) (hfs 2 _ rfl) (by simp [Value.cells,zaY])
  obtain ⟨l3,rfl⟩:=zbJ (c:=c3) (hfs 3 _ rfl) (by simp [Value.cells,zaW])
  obtain ⟨l4,rfl,b4⟩:=zbO (c:=c4) (hfs 4 _ rfl) (by simp [Value.cells,zaY])
  obtain ⟨l5,rfl⟩:=zbJ (c:=c5) (hfs 5 _ rfl) (by simp [Value.cells,zaW])
  obtain ⟨l6,rfl,b6⟩:=zbO (c:=c6) (hfs 6 _ rfl) (by simp [Value.cells,zaY])
  obtain ⟨l7,rfl⟩:=zbJ (c:=c7) (hfs 7 _ rfl) (by simp [Value.cells,zaW])
  obtain ⟨l8,rfl,b8⟩:=zbO (c:=c8) (hfs 8 _ rfl) (by simp [Value.cells,zaY])
  obtain ⟨l9,rfl,b9⟩:=zbO (c:=c9) (hfs 9 _ rfl) (by simp [Value.cells,zaY])
  obtain ⟨l10,rfl⟩:=zbJ (c:=c10) (hfs 10 _ rfl) (by simp [Value.cells,zaW])
  obtain ⟨l11,rfl,b11⟩:=zbO (c:=c11) (hfs 11 _ rfl) (by simp [Value.cells,zaY])
  obtain ⟨l12,rfl⟩:=zbJ (c:=c12) (hfs 12 _ rfl) (by simp [Value.cells,zaW])
  exact ⟨⟨l0,l1,l2,l3,l4,l5,l6,l7,l8,l9,l10,l11,l12⟩,rfl,b0,b2,b4,b6,b8,b9,b11⟩
end
end Go.Proofs.YtmjappnpedjlnaaGreatDoor
