/-
  What the law ResolveMeets leans on, and its walk (42 of 46).
-/
import Derived.ChangeKeysEq
import Derived.Test.YtmjappnpedjlnaaGreatDoorResolveMeetsPkZ
namespace Go.Proofs.YtmjappnpedjlnaaGreatDoor
set_option maxRecDepth 100000
set_option maxHeartbeats 16000000
section
open Go.RowKit
def PZ.lits (p:PZ):List (List Lit):=[[.string p.scheme],[.bool p.hasS],[.string p.user],[.bool p.hasU],[.string p.host],[.bool p.hasA],[.string p.port],[.bool p.hasP],[.string p.path],[.string p.query],[.bool p.hasQ],[.string p.frag],[.bool p.hasF]]
theorem ymD (p q:PZ):p.lits.flatten=q.lits.flatten↔p=q:=by
 constructor
 ·intro h
  unfold PZ.lits at h
  simp only [List.flatten_cons,List.flatten_nil,List.cons_append,List.nil_append,List.cons.injEq,Lit.string.injEq,Lit.bool.injEq,and_true] at h
  obtain ⟨h0,h1,h2,h3,h4,h5,h6,h7,h8,h9,h10,h11,h12⟩:=h
  obtain ⟨p0,p1,p2,p3,p4,p5,p6,p7,p8,p9,p10,p11,p12⟩:=p
  obtain ⟨q0,q1,q2,q3,q4,q5,q6,q7,q8,q9,q10,q11,q12⟩:=q
  simp only at h0 h1 h2 h3 h4 h5 h6 h7 h8 h9 h10 h11 h12
  rw [h0,h1,h2,h3,h4,h5,h6,h7,h8,h9,h10,h11,h12]
 ·rintro rfl;rfl
theorem keyS (l:List UInt8) (h:l.length≤1000000):Tryz.prog.keyLits 10 9 [.string ⟨l.toArray⟩]=some [.string l]:=by
 unfold Program.keyLits
 rw [Tryz.underlying9]
 show (if (ByteArray.mk l.toArray).size≤maxLen then some [Lit.string (ByteArray.mk l.toArray).data.toList] else none)=_
 rw [if_pos (by rw [zaB];unfold maxLen;omega)]
theorem keyB (b:Bool):Tryz.prog.keyLits 10 4 [.bool b]=some [.bool b]:=by kernel_rfl
def ykM:List TypeId:=[9,4,9,4,9,4,9,4,9,9,4,9,4]
theorem yeW (p:PZ) (h:p.Few 1000000):(ykM.zip p.cells.toList).mapM (fun x=>Tryz.prog.keyLits 10 x.1 [x.2])=some p.lits:=by
 obtain ⟨h0,h2,h4,h6,h8,h9,h11⟩:=h
 unfold ykM PZ.cells PZ.lits
 simp [List.zip,keyB,keyS _ h0,keyS _ h2,keyS _ h4,keyS _ h6,keyS _ h8,keyS _ h9,keyS _ h11]
theorem z0G (u v:Array Value): ∀(p q:Operand) (W:World),(eqGuard .eql 24 p q (.agg u) (.agg v)).run Tryz.prog W= .ok () W:=by
 intro p q W;kernel_rfl
theorem eqA (p q:PZ) (hp:p.Few 1000000) (hq:q.Few 1000000): ∀W:World,(binOp .eql 24 (.agg p.cells) (.agg q.cells)).run Tryz.prog W= .ok (.bool (p==q)) W:=by
 intro W
 obtain ⟨r,hr,hi⟩:=run_eqFields_plain (P:=Tryz.prog) W 9998 p.cells q.cells (D:=10) (D':=10) (Tryz.prog.fieldsOf 24).toList p.lits q.lits (fun f hf=>by have:=List.all_eq_true.1 (show ((Tryz.prog.fieldsOf 24).toList.all fun f=>f.name != "_" &&Tryz.prog.plainKey f.type)=true by kernel_rfl) f hf;simpa using this) (Eq.trans (by kernel_rfl) (yeW p hp)) (Eq.trans (by kernel_rfl) (yeW q hq))
 have hpq:(p==q)=r:=by
  rw [Bool.eq_iff_iff,hi,ymD,beq_iff_eq]
 have e1:(Op.equal 24 (.agg p.cells) (.agg q.cells)).run Tryz.prog W= .ok (p==q) W:=by
  show (Op.equalIn 10000 24 _ _).run Tryz.prog W=_
  rw [run_equalIn_struct W 9999 24 _ _ (by kernel_rfl) (by kernel_rfl),hr,hpq]
 show ((Op.equal _ _ _>>=fun b=>pure (Value.bool b)):Sem Value).run _ _=_
 rw [Sem.run_bind,e1];rfl
theorem z5Y (p:PZ) (n:Nat) (h:p.Few n):(zbJ p).length≤7*n+8:=by
 have ha:=zvN p n h
 obtain ⟨f1,f2,f3,f4,f5,f6,f7⟩:=h
 rw [znI]
 split<;>split<;>split<;>split<;>simp<;>omega
theorem zpJ (six:List UInt8→Bool) (l:List UInt8):(zaW six l).1.Few l.length:=by
 have h0: ∀n,zaS.Few n:=fun n=>⟨Nat.zero_le _,Nat.zero_le _,Nat.zero_le _,Nat.zero_le _,Nat.zero_le _,Nat.zero_le _,Nat.zero_le _⟩
 unfold zaW
 split
 ·exact h0 _
 ·split
  ·exact h0 _
  ·split
   ·exact zuD l
   ·exact h0 _
theorem zzH (p:PZ) (w:World) (hf:p.Few 10000) (hmax:MaxVar w) (hutf:Lib.Utf8Tabs 0 1 w):
  Calls Tryz.prog 16 #[.agg p.cells] w (zbN w (zlU sixB p)):=by
 have hb:Below w.heap.size w (w.alloc (.cells p.cells 24)):=(Below.refl _ w).alloc (Nat.le_refl _) _
 have htl:=z5Y p 10000 hf
 have HTX:=Lib.hid (fun W=>zqO p W (hf.mono (by omega)))
 have HPR:=Lib.hid (fun W (hm:MaxVar W) (hu:Lib.Utf8Tabs 0 1 W)=>zfF (zbJ p) W hm hu)
 have hqf:=(zpJ sixB (zbJ p)).mono (m:=1000000) (by omega)
 have HEQ:=fun W=>eqA (zaW sixB (zbJ p)).1 p hqf (hf.mono (by omega)) W
 have hcm:((zaW sixB (zbJ p)).1==p)=(p==(zaW sixB (zbJ p)).1):=by
  rw [Bool.eq_iff_iff,beq_iff_eq,beq_iff_eq];exact eq_comm
 have HF:Hid (zlU sixB p=((zaW sixB (zbJ p)).2==0&&p==(zaW sixB (zbJ p)).1)):=rfl
 rw [hcm] at HEQ
 generalize zlU sixB p=res at*
 generalize zaW sixB (zbJ p)=x at*
 obtain ⟨q,er⟩:=x
 simp only at HEQ HF hqf hcm
 generalize (p==q)=be at*
 generalize zbJ p=tx at*
 have HPB:=Lib.hid (fun y (hy:Below (w.alloc (.cells p.cells 24)).heap.size (w.alloc (.cells p.cells 24)) y)=>(And.intro ((PB.new 24 w p).below hy) (zaF hb hy):PB 24 y w.heap.size p∧Below w.heap.size w y))
 obtain ⟨d0,d1,d2,d3,d4,d5,d6,d7,d8,d9,d10,d11,d12⟩:=(PB.new 24 w p).all
 have HMU:=Lib.hid (fun y (hy:Below w.heap.size w y)=>(And.intro (zaA hmax hy) (zeM hutf hy):MaxVar y∧Lib.Utf8Tabs 0 1 y))
 unfold PZ.cells at d0 d1 d2 d3 d4 d5 d6 d7 d8 d9 d10 d11 d12 HEQ HTX HPB ⊢
 clear hb hmax hutf hcm
 go_enter Tryz.func16,Tryz.ntmps16
 go_wp2_with fail
 refine (HTX.out _).mono ?_
 rintro e y1 ⟨rfl,hy1⟩
 have hw1:=(HPB.out y1 hy1).2
 have HPR1:=Lib.hid (HPR.out y1 (HMU.out y1 hw1).1 (HMU.out y1 hw1).2)
 clear d0 d1 d2 d3 d4 d5 d6 d7 d8 d9 d10 d11 d12 HTX HPR HMU hw1
 go_wp2_with fail
 refine HPR1.out.mono ?_
 rintro e y2 ⟨rfl,hy2⟩
 have hy12:=zaF hy1 hy2
 obtain ⟨hpb2,hw2⟩:=HPB.out y2 hy12
 have hw3:Below w.heap.size w (y2.alloc (.cells q.cells 24)):=hw2.alloc hw2.size _
 have hpb3:=hpb2.below ((Below.refl y2.heap.size y2).alloc (Nat.le_refl _) (.cells q.cells 24))
 obtain ⟨d0,d1,d2,d3,d4,d5,d6,d7,d8,d9,d10,d11,d12⟩:=hpb3.all
 obtain ⟨q0,q1,q2,q3,q4,q5,q6,q7,q8,q9,q10,q11,q12⟩:=(PB.new 24 y2 q).all
 have HW3:=Lib.hid hw3
 have hgd:=fun a b=>z0G p.cells q.cells a b
 have hgd2:=fun a b=>z0G q.cells p.cells a b
 unfold PZ.cells at d0 d1 d2 d3 d4 d5 d6 d7 d8 d9 d10 d11 d12 q0 q1 q2 q3 q4 q5 q6 q7 q8 q9 q10 q11 q12 HW3 hgd hgd2 ⊢
 clear hpb2 hpb3 hw2 hw3 hy1 hy2 hy12 HPR1 HPB
 by_cases he:er=0
 ·subst he
  have HF2:Hid (res=be):=HF.out
  clear HF
  go_wp2
  go_ret
  exact zaE HF2.out HW3.out
 ·have he2:(er==0)=false:=beq_eq_false_iff_ne.2 he
  rw [he2] at HF
  go_wp2
  go_ret
  exact zaE HF.out HW3.out
end
end Go.Proofs.YtmjappnpedjlnaaGreatDoor
