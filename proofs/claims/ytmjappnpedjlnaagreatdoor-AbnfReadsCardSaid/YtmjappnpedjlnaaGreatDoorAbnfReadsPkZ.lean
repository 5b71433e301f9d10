/-
  What the law AbnfReads leans on, and its walk (25 of 27).
-/
import Derived.ChangeKeysEq
import Derived.Deep.DeepCutAuto
import Derived.Test.YtmjappnpedjlnaaGreatDoorAbnfReadsPkY
namespace Go.Proofs.YtmjappnpedjlnaaGreatDoor
set_option maxRecDepth 100000
set_option maxHeartbeats 16000000
abbrev zwW := @Lib.hid
abbrev zwX := @decide_eq_false
abbrev zwY := @decide_eq_true
section
open Go.RowKit
def PZ.lits (p:PZ):List (List Lit):=[[.string p.scheme],[.bool p.hasS],[.string p.user],[.bool p.hasU],[.string p.host],[.bool p.hasA],[.string p.port],[.bool p.hasP],[.string p.path],[.string p.query],[.bool p.hasQ],[.string p.frag],[.bool p.hasF]]
theorem zuY (p q:PZ):p.lits.flatten=q.lits.flatten↔p=q:=by
 constructor
 ·intro h
  unfold PZ.lits at h
  simp only [List.flatten_cons,List.flatten_nil,List.cons_append,List.nil_append,List.cons.injEq,Lit.string.injEq,Lit.bool.injEq,and_true] at h
  obtain ⟨h0,h1,h2,h3,h4,h5,h6,h7,h8,h9,h10,h11,h12⟩:=h
  obtain ⟨p0,p1,p2,p3,p4,p5,p6,p7,p8,p9,p10,p11,p12⟩:=p
  obtain ⟨q0,q1,q2,q3,q4,q5,q6,q7,q8,q9,q10,q11,q12⟩:=q
  simp only at h0 h1 h2 h3 h4 h5 h6 h7 h8 h9 h10 h11 h12
  rw [h0,h1,h2,h3,h4,h5,h6,h7,h8,h9,h10,h11,h12]
 ·rintro rfl;rfl
theorem keyS (l:List UInt8) (h:l.length≤1000000):Tryz.prog.keyLits 10 9 [.string ⟨l.toArray⟩]=some [.string l]:=by
 unfold Program.keyLits
 rw [Tryz.underlying9]
 show (if (ByteArray.mk l.toArray).size≤maxLen then some [Lit.string (ByteArray.mk l.toArray).data.toList] else none)=_
 rw [if_pos (by rw [zaB];unfold maxLen;omega)]
theorem keyB (b:Bool):Tryz.prog.keyLits 10 4 [.bool b]=some [.bool b]:=by kernel_rfl
def zuL:List TypeId:=[9,4,9,4,9,4,9,4,9,9,4,9,4]
theorem zqF (p:PZ) (h:p.Few 1000000):(zuL.zip p.cells.toList).mapM (fun x=>Tryz.prog.keyLits 10 x.1 [x.2])=some p.lits:=by
 obtain ⟨h0,h2,h4,h6,h8,h9,h11⟩:=h
 unfold zuL PZ.cells PZ.lits
 simp [List.zip,keyB,keyS _ h0,keyS _ h2,keyS _ h4,keyS _ h6,keyS _ h8,keyS _ h9,keyS _ h11]
theorem ztC (u v:Array Value): ∀(p q:Operand) (W:World),(eqGuard .eql 28 p q (.agg u) (.agg v)).run Tryz.prog W= .ok () W:=by
 intro p q W;kernel_rfl
theorem eqR (p q:PZ) (hp:p.Few 1000000) (hq:q.Few 1000000): ∀W:World,(binOp .eql 28 (.agg p.cells) (.agg q.cells)).run Tryz.prog W= .ok (.bool (p==q)) W:=by
 intro W
 obtain ⟨r,hr,hi⟩:=run_eqFields_plain (P:=Tryz.prog) W 9998 p.cells q.cells (D:=10) (D':=10) (Tryz.prog.fieldsOf 28).toList p.lits q.lits (fun f hf=>by have:=List.all_eq_true.1 (show ((Tryz.prog.fieldsOf 28).toList.all fun f=>f.name != "_" &&Tryz.prog.plainKey f.type)=true by kernel_rfl) f hf;simpa using this) (Eq.trans (by kernel_rfl) (zqF p hp)) (Eq.trans (by kernel_rfl) (zqF q hq))
 have hpq:(p==q)=r:=by
  rw [Bool.eq_iff_iff,hi,zuY,beq_iff_eq]
 have e1:(Op.equal 28 (.agg p.cells) (.agg q.cells)).run Tryz.prog W= .ok (p==q) W:=by
  show (Op.equalIn 10000 28 _ _).run Tryz.prog W=_
  rw [run_equalIn_struct W 9999 28 _ _ (by kernel_rfl) (by kernel_rfl),hr,hpq]
 show ((Op.equal _ _ _>>=fun b=>pure (Value.bool b)):Sem Value).run _ _=_
 rw [Sem.run_bind,e1];rfl
theorem zoM (six:List UInt8→Bool) (l:List UInt8):(zcA six l).1.Few l.length:=by
 have h0: ∀n,zaI.Few n:=fun n=>⟨Nat.zero_le _,Nat.zero_le _,Nat.zero_le _,Nat.zero_le _,Nat.zero_le _,Nat.zero_le _,Nat.zero_le _⟩
 unfold zcA
 split
 ·exact h0 _
 ·split
  ·exact h0 _
  ·split
   ·exact zjY l
   ·exact h0 _
def L1:List UInt8:=[45,46,95,126]
def L2:List UInt8:=[33,36,38,39,40,41,42,43,44,59,61]
theorem zjF (c:UInt8):zbC (c.toNat:Int)=zcQ c:=by
 have key: ∀d:Fin 256,zbC (d.val:Int)=zcQ (UInt8.ofNat d.val):=by decide+kernel
 have:=key ⟨c.toNat,c.toNat_lt⟩
 simpa using this
theorem zoB (c:UInt8) (of:List UInt8):(zeP c||of.contains c)=(zbC (c.toNat:Int)||(zaQ (c.toNat:Int)||(hasB L1 c||(hasB L2 c||hasB of c)))):=by
 rw [zjF,zfB,←zaY L1,←zaY L2,←zaY of]
 unfold zeP L1 L2
 simp only [Bool.or_assoc]
theorem zcE (l:List UInt8) (k:Nat) (h:k<l.length):(ByteArray.mk l.toArray)[k]'(by rw [zaB];exact h)=l[k]:=rfl
theorem zhG (s:List UInt8) (c:UInt8) (w:World) (hs:s.length≤1000000):Calls Tryz.prog 58 #[.string ⟨s.toArray⟩,.int .u8 (c.toNat:Int)] w fun e w'=>e= .returned (.bool (hasB s c))∧w=w':=by
 have:=zlX ⟨s.toArray⟩ c w (by rw [zaB];omega)
 rw [zaH] at this
 exact this
theorem zcK (l of:List UInt8) (w:World) (hl:l.length≤1000000) (hof:of.length≤1000000):
  Calls Tryz.prog 19 #[.string ⟨l.toArray⟩,.string ⟨of.toArray⟩] w fun e w'=>e= .returned (.bool (isA of l))∧w=w':=by
 have hz:=zaB l
 have HTH:Hid (∀k W,k<l.length→Calls Tryz.prog 55 #[.string ⟨l.toArray⟩,.int .i64 (k:Nat)] W fun e w'=>e= .returned (.bool (pctA (l.drop k)))∧W=w'):=fun k W hk=>by
  have:=zoF ⟨l.toArray⟩ k W (by rw [zaB];omega) (by rw [zaB];exact hk)
  rw [zaH] at this
  rw [zoE]
  exact this
 have HH:=zwW (fun s c W (h:s.length≤1000000)=>zhG s c W h)
 have HPC:Hid (∀k,k<l.length→pctA (l.drop k)=true→k+3≤l.length∧isA of (l.drop k)=isA of (l.drop (k+3))):=fun k hk h=>by
  refine ⟨?_,by rw [zqI h,List.drop_drop]⟩
  have e:(l.drop k).length=l.length - k:=List.length_drop
  match hd:l.drop k,h with
  |_::_::_::r,_=>rw [hd] at e;simp at e;omega
 have HON:Hid (∀k (hk:k<l.length),pctA (l.drop k)=false→isA of (l.drop k)=((zbC (l[k].toNat:Int)||(zaQ (l[k].toNat:Int)||(hasB L1 l[k]||(hasB L2 l[k]||hasB of l[k]))))&&isA of (l.drop (k+1)))):=fun k hk h=>by
  rw [List.drop_eq_getElem_cons hk] at h ⊢
  rw [zlT h,zoB]
 have HE:Hid (isA of []=true):=rfl
 generalize hr:isA of l=res at*
 have HR0:Hid (res=isA of (l.drop 0)):=by show _=_;rw [List.drop_zero,hr]
 clear hr
 go_enter Tryz.func19,Tryz.ntmps19
 go_wp2
 go_loop [5] (fun i=> ∃k:Nat,k≤l.length∧i= .int .i64 k∧Hid (res=isA of (l.drop k))) (fun i=>l.length - (intOf i).toNat)
 case atStart=>exact ⟨0,Nat.zero_le _,rfl,HR0⟩
 case round=>
  obtain ⟨k,hk,rfl,HK⟩:=hrel
  by_cases hkl:k<l.length
  ·have HT:=zwW (fun W=>HTH.out k W hkl)
   have hp:=HPC.out k hkl
   have ho:=HON.out k hkl
   cases hb:pctA (l.drop k) with
   |true=>
    obtain ⟨h3,e3⟩:=hp hb
    have HK2:Hid (res=isA of (l.drop (k+3))):=HK.out.trans e3
    rw [hb] at HT
    clear HTH HPC HON hp ho HK e3 hb HE HR0
    go_wp2_with (go_at_call 55;refine (HT.out _).mono ?_;rintro e w' ⟨rfl,rfl⟩)
    exact ⟨⟨k+3,by omega,by go_num,HK2.out⟩,by simp [intOf];omega⟩
   |false=>
    have e1:=ho hb
    rw [hb] at HT
    obtain ⟨c,hc⟩: ∃c,l[k]=c:=⟨_,rfl⟩
    have hat:=zcE l k hkl
    rw [hc] at e1 hat
    have HK1:=zwW (HK.out.trans e1)
    have H1:=zwW (zgD (c.toNat:Int))
    have H2:=zwW (zeD (c.toNat:Int))
    have H3:=zwW (fun W=>HH.out L1 c W (by decide))
    have H4:=zwW (fun W=>HH.out L2 c W (by decide))
    have H5:=zwW (fun W=>HH.out of c W hof)
    unfold L1 at H3 HK1
    unfold L2 at H4 HK1
    clear HTH HPC HON hp ho HK e1 hb hc HH HE HR0
    have hc8:=c.toNat_lt
    generalize zbC (c.toNat:Int)=b1 at*
    generalize zaQ (c.toNat:Int)=b2 at*
    generalize hasB [45,46,95,126] c=b3 at*
    generalize hasB [33,36,38,39,40,41,42,43,44,59,61] c=b4 at*
    generalize hasB of c=b5 at*
    go_wp2_with (go_at_call 55;refine (HT.out _).mono ?_;rintro e w' ⟨rfl,rfl⟩)
    refine (H1.out _).mono ?_
    rintro e w' ⟨rfl,rfl⟩
    cases b1 with
    |true=>
     have HK2:Hid (res=isA of (l.drop (k+1))):=HK1.out.trans (by rfl)
     clear HK1
     go_wp2
     exact ⟨⟨k+1,by omega,by go_num,HK2.out⟩,by simp [intOf];omega⟩
    |false=>
    go_wp2_with fail
    refine (H2.out _).mono ?_
    rintro e w' ⟨rfl,rfl⟩
    cases b2 with
    |true=>
     have HK2:Hid (res=isA of (l.drop (k+1))):=HK1.out.trans (by rfl)
     clear HK1
     go_wp2
     exact ⟨⟨k+1,by omega,by go_num,HK2.out⟩,by simp [intOf];omega⟩
    |false=>
    go_wp2_with fail
    refine (H3.out _).mono ?_
    rintro e w' ⟨rfl,rfl⟩
    cases b3 with
    |true=>
     have HK2:Hid (res=isA of (l.drop (k+1))):=HK1.out.trans (by rfl)
     clear HK1
     go_wp2
     exact ⟨⟨k+1,by omega,by go_num,HK2.out⟩,by simp [intOf];omega⟩
    |false=>
    go_wp2_with fail
    refine (H4.out _).mono ?_
    rintro e w' ⟨rfl,rfl⟩
    cases b4 with
    |true=>
     have HK2:Hid (res=isA of (l.drop (k+1))):=HK1.out.trans (by rfl)
     clear HK1
     go_wp2
     exact ⟨⟨k+1,by omega,by go_num,HK2.out⟩,by simp [intOf];omega⟩
    |false=>
    go_wp2_with fail
    refine (H5.out _).mono ?_
    rintro e w' ⟨rfl,rfl⟩
    cases b5 with
    |true=>
     have HK2:Hid (res=isA of (l.drop (k+1))):=HK1.out.trans (by rfl)
     clear HK1
     go_wp2
     exact ⟨⟨k+1,by omega,by go_num,HK2.out⟩,by simp [intOf];omega⟩
    |false=>
    have HF:Hid (res=false):=HK1.out.trans (by rfl)
    clear HK1
    go_wp2
    go_ret
    exact ⟨zaA HF.out.symm,rfl⟩
  ·have HF:Hid (res=true):=by show _=_;rw [HK.out,List.drop_eq_nil_of_le (by omega)];rfl
   clear HTH HPC HON HK HH HE HR0
   go_wp2
   go_ret
   exact ⟨zaA HF.out.symm,rfl⟩
theorem zcN (l of:List UInt8) (w:World) (hl:l.length≤1000000) (hof:of.length≤1000000):
  Calls Tryz.prog 43 #[.string ⟨l.toArray⟩,.string ⟨of.toArray⟩] w fun e w'=>e= .returned (.int .i64 (Lib.indexAny l of))∧w=w':=by
 have hz:=zaB l
 have HH:=zwW (fun c W=>zhG of c W hof)
 have HAT:Hid (∀p (h:p<l.length),(∀j (hj:j<l.length),j<p→of.contains l[j]=false)→of.contains l[p]=true→Lib.indexAny l of=(p:Nat)):=fun p h=>zuE h
 have HNO:=zwW (@znA of l)
 generalize Lib.indexAny l of=res at*
 go_enter Tryz.func43,Tryz.ntmps43
 go_wp2
 go_loop [5] (fun i=> ∃k:Nat,k≤l.length∧i= .int .i64 k∧Hid (∀j (h:j<l.length),j<k→of.contains l[j]=false)) (fun i=>l.length - (intOf i).toNat)
 case atStart=>exact ⟨0,Nat.zero_le _,rfl,fun j _ h=>by omega⟩
 case round=>
  obtain ⟨k,hk,rfl,HK⟩:=hrel
  by_cases hkl:k<l.length
  ·obtain ⟨c,hc⟩: ∃c,l[k]=c:=⟨_,rfl⟩
   have hat:=zcE l k hkl
   rw [hc] at hat
   have H1:=zwW (HH.out c)
   rw [←zaY] at H1
   have hc8:=c.toNat_lt
   cases hb:of.contains c with
   |true=>
    have HF:=zwW (HAT.out k hkl (fun j hj h=>HK.out j hj h) (by rw [hc];exact hb))
    rw [hb] at H1
    clear HAT HNO HK HH hb hc
    go_wp2_with fail
    refine (H1.out _).mono ?_
    rintro e w' ⟨rfl,rfl⟩
    go_wp2
    go_ret
    exact ⟨by rw [HF.out];rfl,rfl⟩
   |false=>
    have HK2:Hid (∀j (h:j<l.length),j<k+1→of.contains l[j]=false):=fun j h h1=>by
     by_cases e:j=k
     ·subst e;rw [hc];exact hb
     ·exact HK.out j h (by omega)
    rw [hb] at H1
    clear HAT HNO HK HH hb hc
    go_wp2_with fail
    refine (H1.out _).mono ?_
    rintro e w' ⟨rfl,rfl⟩
    go_wp2
    exact ⟨⟨k+1,by omega,by go_num,HK2.out⟩,by simp [intOf];omega⟩
  ·have HF:=zwW (HNO.out (fun j hj=>HK.out j hj (by omega)))
   clear HAT HNO HK HH
   go_wp2
   go_ret
   exact ⟨by rw [HF.out];rfl,rfl⟩
theorem zhK (l:List UInt8) (w:World) (hl:l.length≤1000000):
  Calls Tryz.prog 47 #[.string ⟨l.toArray⟩] w fun e w'=>e= .returned (.bool (l.all zbA))∧w=w':=by
 have hz:=zaB l
 have HNO:Hid (∀k (h:k<l.length),zbA l[k]=false→l.all zbA=false):=fun k h e=>List.all_eq_false.2 ⟨l[k],List.getElem_mem _,by rw [e];decide⟩
 have HYE:Hid ((∀j (h:j<l.length),zbA l[j]=true)→l.all zbA=true):=fun h=>by
  rw [List.all_eq_true]
  intro x hx
  obtain ⟨j,hj,rfl⟩:=List.getElem_of_mem hx
  exact h j hj
 generalize l.all zbA=res at*
 go_enter Tryz.func47,Tryz.ntmps47
 go_wp2
 go_loop [3] (fun i=> ∃k:Nat,k≤l.length∧i= .int .i64 k∧Hid (∀j (h:j<l.length),j<k→zbA l[j]=true)) (fun i=>l.length - (intOf i).toNat)
 case atStart=>exact ⟨0,Nat.zero_le _,rfl,fun j _ h=>by omega⟩
 case round=>
  obtain ⟨k,hk,rfl,HK⟩:=hrel
  by_cases hkl:k<l.length
  ·obtain ⟨c,hc⟩: ∃c,l[k]=c:=⟨_,rfl⟩
   have hat:=zcE l k hkl
   rw [hc] at hat
   have H1:=zwW (zeD (c.toNat:Int))
   rw [zfB] at H1
   have hc8:=c.toNat_lt
   cases hb:zbA c with
   |false=>
    have HF:=zwW (HNO.out k hkl (by rw [hc];exact hb))
    rw [hb] at H1
    clear HNO HYE HK hb hc
    go_wp2_with fail
    refine (H1.out _).mono ?_
    rintro e w' ⟨rfl,rfl⟩
    go_wp2
    go_ret
    exact ⟨zaA HF.out.symm,rfl⟩
   |true=>
    have HK2:Hid (∀j (h:j<l.length),j<k+1→zbA l[j]=true):=fun j h h1=>by
     by_cases e:j=k
     ·subst e;rw [hc];exact hb
     ·exact HK.out j h (by omega)
    rw [hb] at H1
    clear HNO HYE HK hb hc
    go_wp2_with fail
    refine (H1.out _).mono ?_
    rintro e w' ⟨rfl,rfl⟩
    go_wp2
    exact ⟨⟨k+1,by omega,by go_num,HK2.out⟩,by simp [intOf];omega⟩
  ·have HF:=zwW (HYE.out (fun j hj=>HK.out j hj (by omega)))
   clear HNO HYE HK
   go_wp2
   go_ret
   exact ⟨zaA HF.out.symm,rfl⟩
theorem zfQ (l:List UInt8) (c:UInt8) (w:World) (hl:l.length≤1000000):
  Calls Tryz.prog 45 #[.string ⟨l.toArray⟩,.int .u8 (c.toNat:Int)] w fun e w'=>e= .returned (.int .i64 (Lib.lastIndexByte ⟨l.toArray⟩ (c.toNat:Int)))∧w=w':=by
 have hz:=zaB l
 have HHI:Hid (∀k (h:k<l.length),(l[k].toNat:Int)=(c.toNat:Int)→Lib.lastIdx ⟨l.toArray⟩ (c.toNat:Int) (k+1)=k):=fun k h e=>Lib.lastIdx_hit _ _ _ (by rw [zoQ l k h];exact e)
 have HMI:Hid (∀k (h:k<l.length),(l[k].toNat:Int)≠(c.toNat:Int)→Lib.lastIdx ⟨l.toArray⟩ (c.toNat:Int) (k+1)=Lib.lastIdx ⟨l.toArray⟩ (c.toNat:Int) k):=fun k h e=>Lib.lastIdx_miss _ _ _ (by rw [zoQ l k h];exact e)
 have H0:Hid (Lib.lastIdx ⟨l.toArray⟩ (c.toNat:Int) 0= -1):=rfl
 have HS:Hid (Lib.lastIndexByte ⟨l.toArray⟩ (c.toNat:Int)=Lib.lastIdx ⟨l.toArray⟩ (c.toNat:Int) l.length):=by show _=_;unfold Lib.lastIndexByte;rw [zaB]
 generalize Lib.lastIndexByte ⟨l.toArray⟩ (c.toNat:Int)=res at*
 have hc8:=c.toNat_lt
 generalize hcn:c.toNat=cn at*
 generalize Lib.lastIdx ⟨l.toArray⟩ (cn:Int)=f at*
 clear hcn
 have hw0:IntKind.i64.wrap ((l.length:Int) - 1)=(l.length:Int) - 1:=IntWalk.i64_in _ (by omega)
 go_enter Tryz.func45,Tryz.ntmps45
 go_wp2
 go_loop [5] (fun i=> ∃k:Nat,k≤l.length∧i= .int .i64 ((k:Int) - 1)∧Hid (res=f k)) (fun i=>(intOf i+1).toNat)
 case atStart=>exact ⟨l.length,Nat.le_refl _,rfl,HS.out⟩
 case round=>
  obtain ⟨k,hk,rfl,HK⟩:=hrel
  cases k with
  |zero=>
   have HF:Hid (res= -1):=HK.out.trans H0.out
   clear HHI HMI HK HS H0
   rw [show ((0:Nat):Int) - 1= -1 from rfl]
   go_wp2
   go_ret
   exact ⟨by rw [HF.out];rfl,rfl⟩
  |succ k=>
   have hkl:k<l.length:=by omega
   rw [show (((k+1:Nat):Int) - 1)=(k:Int) by omega]
   obtain ⟨d,hd⟩: ∃d,l[k]=d:=⟨_,rfl⟩
   have hat:=zcE l k hkl
   rw [hd] at hat
   have hh:=HHI.out k hkl
   have hm:=HMI.out k hkl
   rw [hd] at hh hm
   have hd8:=d.toNat_lt
   by_cases e:(d.toNat:Int)=(cn:Int)
   ·have HF:Hid (res=(k:Nat)):=HK.out.trans (hh e)
    obtain rfl:d.toNat=cn:=by omega
    clear HHI HMI HK HS H0 hh hm hd
    go_wp2
    go_ret
    exact ⟨by rw [HF.out];rfl,rfl⟩
   ·have HK2:Hid (res=f k):=HK.out.trans (hm e)
    have he:((d.toNat:Int)==(cn:Int))=false:=beq_eq_false_iff_ne.2 e
    have he2: ¬d.toNat=cn:=by omega
    clear HHI HMI HK HS H0 hh hm hd
    go_wp2
    exact ⟨⟨k,by omega,by go_num,HK2.out⟩,by first|(simp [intOf];done)|(simp [intOf];omega)⟩
def schR (k:Nat) (c:UInt8):Bool:=zbC (c.toNat:Int)||(decide (0<k)&&(zaQ (c.toNat:Int)||hasB [43,45,46] c))
theorem zjQ (k:Nat) (c:UInt8):schR (k+1) c=(zcQ c||zbA c||[43,45,46].contains c):=by
 unfold schR
 rw [zjF,zfB,←zaY,zwY (Nat.succ_pos k),Bool.true_and,Bool.or_assoc]
theorem zkT (c:UInt8):schR 0 c=zcQ c:=by
 unfold schR
 rw [zjF,zwX (by omega),Bool.false_and,Bool.or_false]
theorem sch_no: ∀{l:List UInt8} {k:Nat} (h:k<l.length),schR k l[k]=false→zbD l=false
 |c::t,0,_,e=>by
  have e2:schR 0 c=false:=e
  rw [zkT] at e2
  unfold zbD
  simp only [e2,Bool.false_and]
 |c::t,k+1,h,e=>by
  have e2:schR (k+1) (t[k]'(by simp at h;omega))=false:=e
  rw [zjQ] at e2
  unfold zbD
  have:(t.all fun d=>zcQ d||zbA d||[43,45,46].contains d)=false:=List.all_eq_false.2 ⟨_,List.getElem_mem _,by rw [e2];decide⟩
  simp only [this,Bool.and_false]
theorem zvH: ∀{l:List UInt8},(∀j (h:j<l.length),schR j l[j]=true)→zbD l=decide (0<l.length)
 |[],_=>rfl
 |c::t,h=>by
  have h0:schR 0 c=true:=h 0 (by simp)
  rw [zkT] at h0
  have h1:(t.all fun d=>zcQ d||zbA d||[43,45,46].contains d)=true:=by
   rw [List.all_eq_true]
   intro x hx
   obtain ⟨j,hj,rfl⟩:=List.getElem_of_mem hx
   have:=h (j+1) (by simp;omega)
   rw [zjQ] at this
   exact this
  unfold zbD
  simp only [h0,h1]
  simp
theorem zgM (l:List UInt8) (w:World) (hl:l.length≤1000000):
  Calls Tryz.prog 44 #[.string ⟨l.toArray⟩] w fun e w'=>e= .returned (.bool (zbD l))∧w=w':=by
 have hz:=zaB l
 have HNO:=zwW (fun k h=> @sch_no l k h)
 have HYE:=zwW (@zvH l)
 have HH:=zwW (fun c W=>zhG [43,45,46] c W (by decide))
 generalize zbD l=res at*
 go_enter Tryz.func44,Tryz.ntmps44
 go_wp2
 go_loop [3] (fun i=> ∃k:Nat,k≤l.length∧i= .int .i64 k∧Hid (∀j (h:j<l.length),j<k→schR j l[j]=true)) (fun i=>l.length - (intOf i).toNat)
 case atStart=>exact ⟨0,Nat.zero_le _,rfl,fun j _ h=>by omega⟩
 case round=>
  obtain ⟨k,hk,rfl,HK⟩:=hrel
  by_cases hkl:k<l.length
  ·obtain ⟨c,hc⟩: ∃c,l[k]=c:=⟨_,rfl⟩
   have hat:=zcE l k hkl
   rw [hc] at hat
   have hc8:=c.toNat_lt
   have HN0:Hid (schR k c=false→res=false):=fun e=>HNO.out k hkl (by rw [hc];exact e)
   have HN1:Hid (schR k c=true→ ∀j (h:j<l.length),j<k+1→schR j l[j]=true):=fun e j h h1=>by
    by_cases g:j=k
    ·subst g;rw [hc];exact e
    ·exact HK.out j h (by omega)
   have H1:=zwW (zgD (c.toNat:Int))
   have H2:=zwW (zeD (c.toNat:Int))
   have H3:=zwW (HH.out c)
   unfold schR at HN0 HN1
   clear HNO HYE HK HH hc
   generalize zbC (c.toNat:Int)=b1 at*
   generalize zaQ (c.toNat:Int)=b2 at*
   generalize hasB [43,45,46] c=b3 at*
   go_wp2_with fail
   refine (H1.out _).mono ?_
   rintro e w' ⟨rfl,rfl⟩
   cases b1 with
   |true=>
    have HK2:=zwW (HN1.out rfl)
    clear HN0 HN1 H1 H2 H3
    go_wp2
    exact ⟨⟨k+1,by omega,by go_num,HK2.out⟩,by simp [intOf];omega⟩
   |false=>
    by_cases hk0:k=0
    ·have HF:=zwW (HN0.out (by rw [zwX (by omega)];rfl))
     subst hk0
     clear HN0 HN1 H1 H2 H3
     go_wp2
     go_ret
     exact ⟨zaA HF.out.symm,rfl⟩
    ·rw [zwY (by omega)] at HN0 HN1
     have hk1:((k:Int)==0)=false:=beq_eq_false_iff_ne.2 (by omega)
     go_wp2_with fail
     refine (H2.out _).mono ?_
     rintro e w' ⟨rfl,rfl⟩
     cases b2 with
     |true=>
      have HK2:=zwW (HN1.out rfl)
      clear HN0 HN1 H1 H2 H3
      go_wp2
      exact ⟨⟨k+1,by omega,by go_num,HK2.out⟩,by simp [intOf];omega⟩
     |false=>
      go_wp2_with fail
      refine (H3.out _).mono ?_
      rintro e w' ⟨rfl,rfl⟩
      cases b3 with
      |true=>
       have HK2:=zwW (HN1.out rfl)
       clear HN0 HN1 H1 H2 H3
       go_wp2
       exact ⟨⟨k+1,by omega,by go_num,HK2.out⟩,by simp [intOf];omega⟩
      |false=>
       have HF:=zwW (HN0.out rfl)
       clear HN0 HN1 H1 H2 H3
       go_wp2
       go_ret
       exact ⟨zaA HF.out.symm,rfl⟩
  ·have HF:=zwW (HYE.out (fun j hj=>HK.out j hj (by omega)))
   clear HNO HYE HK HH
   by_cases h0:0<l.length
   ·rw [zwY h0] at HF
    go_wp2
    go_ret
    exact ⟨zaA HF.out.symm,rfl⟩
   ·rw [zwX h0] at HF
    obtain rfl:l=[]:=List.length_eq_zero_iff.1 (by omega)
    go_wp2
    go_ret
    exact ⟨zaA HF.out.symm,rfl⟩
theorem fut_at (c:UInt8) (t:List UInt8) (h46:(c==46)=false):
  (∃i:Nat,1≤i∧i<(c::t).length∧Lib.indexAny (c::t) [46]=i∧futT (zaF (· ==46) t)=(decide (2≤i)&&(decide (i+1<(c::t).length)&&((((c::t).take i).drop 1).all hexA&&(isA [58] ((c::t).drop (i+1))&& !((c::t).drop (i+1)).contains 37)))))∨(Lib.indexAny (c::t) [46]= -1∧futT (zaF (· ==46) t)=false):=by
 have hu:zaF (· ==46) (c::t)=(c::(zaF (· ==46) t).1,(zaF (· ==46) t).2):=by rw [zaF,if_neg (by rw [h46];decide)]
 rcases ziS 46 (c::t) with ⟨i,hi,h1,h2⟩|⟨h1,h2⟩
 ·left
  unfold cutA at h2
  rw [hu] at h2
  generalize zaF (· ==46) t=x at*
  obtain ⟨a,b⟩:=x
  cases b with
  |nil=>simp at h2
  |cons y r=>
   simp only [Prod.mk.injEq,true_and] at h2
   obtain ⟨e1,e2⟩:=h2
   have l1:=congrArg List.length e1
   have l2:=congrArg List.length e2
   simp only [List.length_take,List.length_drop,List.length_cons] at l1 l2 hi
   refine ⟨i,by omega,by simp only [List.length_cons];omega,h1,?_⟩
   rw [←e1,←e2]
   have k1:(!a.isEmpty)=decide (2≤i):=by
    cases a with
    |nil=>simp at l1;rw [zwX (by omega)];rfl
    |cons z q=>simp at l1;rw [zwY (by omega)];rfl
   have k2:(!r.isEmpty)=decide (i+1<(c::t).length):=by
    simp only [List.length_cons]
    cases r with
    |nil=>simp at l2;rw [zwX (by omega)];rfl
    |cons z q=>simp at l2;rw [zwY (by omega)];rfl
   unfold futT
   simp only [k1,k2,List.drop_succ_cons,List.drop_zero,Bool.and_assoc]
 ·right
  refine ⟨h1,?_⟩
  unfold cutA at h2
  rw [hu] at h2
  generalize zaF (· ==46) t=x at*
  obtain ⟨a,b⟩:=x
  cases b with
  |nil=>rfl
  |cons y r=>simp at h2
theorem hex_no {l:List UInt8} {i k:Nat} (hk:k<i) (h1:1≤k) (hi:i≤l.length) (e:hexA (l[k]'(by omega))=false):((l.take i).drop 1).all hexA=false:=by
 refine List.all_eq_false.2 ⟨l[k]'(by omega),?_,by rw [e];decide⟩
 have:((l.take i).drop 1)[k - 1]'(by simp only [List.length_drop,List.length_take];omega)=l[k]'(by omega):=by
  rw [List.getElem_drop,List.getElem_take]
  congr 1;omega
 rw [←this]
 exact List.getElem_mem _
theorem zvR {l:List UInt8} {i:Nat} (hi:i≤l.length) (h: ∀k (hk:k<i),1≤k→hexA (l[k]'(by omega))=true):((l.take i).drop 1).all hexA=true:=by
 rw [List.all_eq_true]
 intro x hx
 obtain ⟨j,hj,rfl⟩:=List.getElem_of_mem hx
 simp only [List.length_drop,List.length_take] at hj
 rw [List.getElem_drop,List.getElem_take]
 exact h (1+j) (by omega) (by omega)
theorem zvC (r:List UInt8) (b:UInt8):(r.contains b=true∧0≤Lib.indexAny r [b])∨(r.contains b=false∧Lib.indexAny r [b]= -1):=by
 rcases zcJ [b] r with ⟨_,h2,h3⟩|⟨i,hi,h1,_,h3⟩
 ·right
  refine ⟨?_,h2⟩
  rw [←Bool.not_eq_true,List.contains_iff_mem]
  intro hm
  have:=h3 b hm
  simp at this
 ·left
  refine ⟨?_,by rw [h1];omega⟩
  rw [List.contains_iff_mem]
  have e:r[i]=b:=by simpa using h3
  rw [←e]
  exact List.getElem_mem _
theorem zgZ (l:List UInt8) (w:World) (hl:l.length≤1000000):
  Calls Tryz.prog 104 #[.string ⟨l.toArray⟩] w fun e w'=>e= .returned (.bool (zcI l))∧w=w':=by
 by_cases hnil:l=[]
 ·subst hnil
  go_enter Tryz.func104,Tryz.ntmps104
  go_wp2
  go_ret
  exact ⟨rfl,rfl⟩
 obtain ⟨c,t,hct⟩:=List.exists_cons_of_ne_nil hnil
 have hz:=zaB l
 have hlt:0<l.length:=by rw [hct];simp
 have hl0:((l.length:Int)==0)=false:=beq_eq_false_iff_ne.2 (by omega)
 have hat0:=zcE l 0 hlt
 rw [show l[0]=c from by simp only [hct,List.getElem_cons_zero]] at hat0
 have HFA:Hid (zcI l=((c==118||c==86)&&futT (zaF (· ==46) t))):=by show _=_;rw [hct];exact zfZ c t
 have HAT:=zwW (fut_at c t)
 rw [←hct] at HAT
 have HI:=zwW (fun W=>zcN l [46] W hl (by decide))
 have HVI:=zwW (fun (l:List UInt8) of W (h:l.length≤1000000) (h2:of.length≤1000000)=>zcK l of W h h2)
 have HFI:=zwW (fun (l:List UInt8) of W (h:l.length≤1000000) (h2:of.length≤1000000)=>zcN l of W h h2)
 have hc8:=c.toNat_lt
 generalize zcI l=res at*
 generalize futT (zaF (· ==46) t)=ft at*
 clear hct hnil
 by_cases hv:c=118∨c=86
 ·have e1:(c==118||c==86)=true:=by rcases hv with rfl|rfl<;>rfl
  rw [e1,Bool.true_and] at HFA
  have HA2:=zwW (HAT.out (by rcases hv with rfl|rfl<;>rfl))
  have hv2:((c.toNat:Int) !=118)=false∨(((c.toNat:Int) !=118)=true∧((c.toNat:Int) !=86)=false):=by
   rcases hv with rfl|rfl
   ·exact .inl (by decide)
   ·exact .inr (by decide)
  clear HAT hv e1
  rcases HA2.out with ⟨i,h1,h2,h3,h4⟩|⟨h3,h4⟩
  ·rw [h3] at HI
   have hs1:=zbX l i h2
   have HQ:=zwW (zvC (l.drop (i+1)) 37)
   have hdl:(l.drop (i+1)).length≤1000000:=by rw [List.length_drop];omega
   have HIS:=zwW (fun W=>HVI.out (l.drop (i+1)) [58] W hdl (by decide))
   have HFR:=zwW (fun W=>HFI.out (l.drop (i+1)) [37] W hdl (by decide))
   have HR:=zwW (HFA.out.trans h4)
   have HNO:Hid (∀k (hl:k<l.length),k<i→1≤k→hexA l[k]=false→((l.take i).drop 1).all hexA=false):=fun k _ hk g e=>hex_no hk g (by omega) e
   have HYE:Hid ((∀k (hl:k<l.length),k<i→1≤k→hexA l[k]=true)→((l.take i).drop 1).all hexA=true):=fun h=>zvR (by omega) (fun k hk g=>h k (by omega) hk g)
   clear HA2 HFA h3 h4 HVI HFI hdl
   generalize l.drop (i+1)=r at*
   generalize ((l.take i).drop 1).all hexA=ha at*
   generalize isA [58] r=bi at*
   rcases hv2 with m1|⟨m1,m2⟩
   all_goals
    by_cases h2i:2≤i
    case neg=>
     have HF:Hid (res=false):=by show _=_;rw [HR.out,zwX h2i,Bool.false_and]
     go_enter Tryz.func104,Tryz.ntmps104
     go_wp2_with fail
     refine (HI.out _).mono ?_
     rintro e w' ⟨rfl,rfl⟩
     clear HR HNO HYE HQ HIS HFR hs1 HI
     go_wp2
     go_ret
     exact ⟨zaA HF.out.symm,rfl⟩
    case pos=>
    rw [zwY h2i,Bool.true_and] at HR
    by_cases h3i:i+1<l.length
    case neg=>
     have HF:Hid (res=false):=by show _=_;rw [HR.out,zwX h3i,Bool.false_and]
     go_enter Tryz.func104,Tryz.ntmps104
     go_wp2_with fail
     refine (HI.out _).mono ?_
     rintro e w' ⟨rfl,rfl⟩
     clear HR HNO HYE HQ HIS HFR hs1 HI
     go_wp2
     go_ret
     exact ⟨zaA HF.out.symm,rfl⟩
    case pos=>
    rw [zwY h3i,Bool.true_and] at HR
    go_enter Tryz.func104,Tryz.ntmps104
    go_wp2_with fail
    refine (HI.out _).mono ?_
    rintro e w' ⟨rfl,rfl⟩
    go_wp2
    go_loop [4] (fun v=> ∃k:Nat,1≤k∧k≤i∧v= .int .i64 k∧Hid (∀j (hj:j<l.length),1≤j→j<k→hexA l[j]=true)) (fun v=>i - (intOf v).toNat)
    case atStart=>exact ⟨1,Nat.le_refl _,by omega,rfl,fun j _ _ h=>by omega⟩
    case round=>
     obtain ⟨k,hk1,hki,rfl,HK⟩:=hrel
     by_cases hkl:k<i
     ·have hkl2:k<l.length:=by omega
      obtain ⟨d,hd⟩: ∃d,l[k]=d:=⟨_,rfl⟩
      have hat:=zcE l k hkl2
      rw [hd] at hat
      have hd8:=d.toNat_lt
      have HV:=zwW (zbK (d.toNat:Int))
      cases hb:hexA d with
      |true=>
       have HK2:Hid (∀j (hj:j<l.length),1≤j→j<k+1→hexA l[j]=true):=fun j hj g1 g2=>by
        by_cases g:j=k
        ·subst g;rw [hd];exact hb
        ·exact HK.out j hj g1 (by omega)
       have hv0:0≤valZ (d.toNat:Int):=by
        rw [←zdS] at hb
        exact of_decide_eq_true hb
       clear HK HR HNO HYE HQ HIS HFR hs1 HI hb hd
       go_wp2_with fail
       refine (HV.out _).mono ?_
       rintro e w' ⟨rfl,rfl⟩
       go_wp2
       exact ⟨⟨k+1,by omega,by omega,by go_num,HK2.out⟩,by simp [intOf];omega⟩
      |false=>
       have HF:Hid (res=false):=by show _=_;rw [HR.out,HNO.out k hkl2 hkl hk1 (by rw [hd];exact hb),Bool.false_and]
       have hv0:valZ (d.toNat:Int)<0:=by
        rw [←zdS] at hb
        exact Int.not_le.1 (of_decide_eq_false hb)
       clear HK HR HNO HYE HQ HIS HFR hs1 HI hb hd
       go_wp2_with fail
       refine (HV.out _).mono ?_
       rintro e w' ⟨rfl,rfl⟩
       go_wp2
       go_ret
       exact ⟨zaA HF.out.symm,rfl⟩
     ·have HA:=zwW (HYE.out (fun j hj g g2=>HK.out j hj g2 (by omega)))
      rw [HA.out,Bool.true_and] at HR
      obtain rfl:k=i:=by omega
      clear HK HNO HYE HA
      cases bi with
      |false=>
       have HF:=zwW (HR.out.trans (by rfl))
       clear HR HQ HFR
       go_wp2_with fail
       refine (HIS.out _).mono ?_
       rintro e w' ⟨rfl,rfl⟩
       go_wp2
       go_ret
       exact ⟨zaA HF.out.symm,rfl⟩
      |true=>
       rcases HQ.out with ⟨q1,q2⟩|⟨q1,q2⟩
       ·rw [q1] at HR
        have HF:Hid (res=false):=HR.out
        clear HR HQ q1
        generalize Lib.indexAny r [37]=ix at*
        go_wp2_with fail
        refine (HIS.out _).mono ?_
        rintro e w' ⟨rfl,rfl⟩
        go_wp2_with fail
        refine (HFR.out _).mono ?_
        rintro e w' ⟨rfl,rfl⟩
        go_wp2
        go_ret
        exact ⟨zaA (by rw [HF.out];exact zwX (by omega)),rfl⟩
       ·rw [q1] at HR
        rw [q2] at HFR
        have HF:=zwW (HR.out.trans (by rfl))
        clear HR HQ q1
        go_wp2_with fail
        refine (HIS.out _).mono ?_
        rintro e w' ⟨rfl,rfl⟩
        go_wp2_with fail
        refine (HFR.out _).mono ?_
        rintro e w' ⟨rfl,rfl⟩
        go_wp2
        go_ret
        exact ⟨zaA HF.out.symm,rfl⟩
  ·have HF:=zwW (HFA.out.trans h4)
   rw [h3] at HI
   clear HA2 HFA h3 h4 HVI HFI
   rcases hv2 with m1|⟨m1,m2⟩
   all_goals
    go_enter Tryz.func104,Tryz.ntmps104
    go_wp2_with fail
    refine (HI.out _).mono ?_
    rintro e w' ⟨rfl,rfl⟩
    go_wp2
    go_ret
    exact ⟨zaA HF.out.symm,rfl⟩
 ·have e1:(c==118||c==86)=false:=by
   rw [Bool.or_eq_false_iff,beq_eq_false_iff_ne,beq_eq_false_iff_ne]
   exact ⟨fun e=>hv (.inl e),fun e=>hv (.inr e)⟩
  rw [e1,Bool.false_and] at HFA
  have n1:c.toNat≠118:=fun e=>hv (.inl (UInt8.toNat_inj.1 e))
  have n2:c.toNat≠86:=fun e=>hv (.inr (UInt8.toNat_inj.1 e))
  have m1:((c.toNat:Int) !=118)=true:=bne_iff_ne.2 (by omega)
  have m2:((c.toNat:Int) !=86)=true:=bne_iff_ne.2 (by omega)
  clear n1 n2 HAT HI HVI HFI hv e1
  go_enter Tryz.func104,Tryz.ntmps104
  go_wp2
  go_ret
  exact ⟨zaA HFA.out.symm,rfl⟩
theorem znW (l:List UInt8):(Lib.indexAny l [58,47]= -1∧((zaF (fun c=>c==58||c==47) l).2.head? !=some 58)=true)∨(∃(i:Nat) (h:i<l.length),Lib.indexAny l [58,47]=i∧((zaF (fun c=>c==58||c==47) l).2.head? !=some 58)=(l[i]==47)):=by
 have e:(fun c:UInt8=>c==58||c==47)=[58,47].contains:=by
  funext c
  rw [zaY]
  show _=((58==c)||((47==c)||false))
  rw [show (58==c)=(c==58) from BEq.comm,show (47==c)=(c==47) from BEq.comm,Bool.or_false]
 rw [e]
 rcases zcJ [58,47] l with ⟨h1,h2,_⟩|⟨i,h,h1,h2,h3⟩
 ·left
  refine ⟨h2,?_⟩
  rw [h1];rfl
 ·right
  refine ⟨i,h,h1,?_⟩
  rw [h2]
  have h4:l[i]=58∨l[i]=47:=by simpa using h3
  simp only [List.head?_cons]
  rcases h4 with h4|h4<;>rw [h4]<;>rfl
theorem zmW: ∀l:List UInt8,(∃c d,2≤l.length∧((l.take 2 !=[47,47])= !(c==47&&d==47))∧(∀h,(ByteArray.mk l.toArray)[0]'h=c)∧(∀h,(ByteArray.mk l.toArray)[1]'h=d))∨(l.length<2∧(l.take 2 !=[47,47])=true)
 |[]=> .inr ⟨by simp,rfl⟩
 |[c]=> .inr ⟨by simp,by rw [show List.take 2 [c]=[c] from rfl,bne_iff_ne];intro h;cases h⟩
 |c::d::t=> .inl ⟨c,d,by simp,by rw [show List.take 2 (c::d::t)=[c,d] from rfl];simp only [bne,List.cons_beq_cons,BEq.rfl,Bool.and_true],fun h=>rfl,fun h=>rfl⟩
theorem ziZ (c d:UInt8):((c.toNat:Int)==(d.toNat:Int))=(c==d):=by
 rw [Bool.eq_iff_iff,beq_iff_eq,beq_iff_eq]
 constructor
 ·intro h;exact UInt8.toNat_inj.1 (by omega)
 ·intro h;rw [h]
theorem ziP (l:List UInt8) (hs ha:Bool) (w:World) (hl:l.length≤1000000):
  Calls Tryz.prog 48 #[.string ⟨l.toArray⟩,.bool hs,.bool ha] w fun e w'=>e= .returned (.bool (zfY l hs ha))∧w=w':=by
 have hz:=zaB l
 have HIS:=zwW (fun W=>zcK l [58,64,47] W hl (by decide))
 have HFI:=zwW (fun W=>zcN l [58,47] W hl (by decide))
 have HR:Hid (zfY l hs ha=(isA [58,64,47] l&&(if ha then l.isEmpty||l.head? ==some 47 else (l.take 2 !=[47,47])&&(hs||(zaF (fun c=>c==58||c==47) l).2.head? !=some 58)))):=rfl
 have HPF:=zwW (znW l)
 generalize zfY l hs ha=res at*
 generalize ((zaF (fun c=>c==58||c==47) l).2.head? !=some 58)=bu at*
 generalize isA [58,64,47] l=bi at*
 cases bi with
 |false=>
  have HF:Hid (res=false):=HR.out
  clear HR HFI HPF
  go_enter Tryz.func48,Tryz.ntmps48
  go_wp2_with fail
  refine (HIS.out _).mono ?_
  rintro e w' ⟨rfl,rfl⟩
  go_wp2
  go_ret
  exact ⟨zaA HF.out.symm,rfl⟩
 |true=>
 rw [Bool.true_and] at HR
 cases ha with
 |true=>
  clear HFI HPF
  rw [if_pos rfl] at HR
  cases l with
  |nil=>
   have HF:Hid (res=true):=HR.out
   clear HR
   go_enter Tryz.func48,Tryz.ntmps48
   go_wp2_with fail
   refine (HIS.out _).mono ?_
   rintro e w' ⟨rfl,rfl⟩
   go_wp2
   go_ret
   exact ⟨zaA HF.out.symm,rfl⟩
  |cons c t=>
   have HF:Hid (res=(c==47)):=by show _=_;rw [HR.out];simp
   have hat:=zcE (c::t) 0 (by simp)
   rw [show (c::t)[0]=c from rfl] at hat
   have hne:((c::t)==[])=false:=rfl
   have hc:=ziZ c 47
   have hc8:=c.toNat_lt
   clear HR
   go_enter Tryz.func48,Tryz.ntmps48
   go_wp2_with fail
   refine (HIS.out _).mono ?_
   rintro e w' ⟨rfl,rfl⟩
   go_wp2
   go_ret
   exact ⟨zaA (by rw [HF.out];exact hc),rfl⟩
 |false=>
  rw [if_neg (by decide)] at HR
  have hsh:=zmW l
  rcases hsh with ⟨c,d,h2,ht,g0,g1⟩|⟨h2,ht⟩
  ·have hat0:=g0 (by rw [hz];omega)
   have hat1:=g1 (by rw [hz];omega)
   have q0:((c.toNat:Int)==47)=(c==47):=ziZ c 47
   have q1:((d.toNat:Int)==47)=(d==47):=ziZ d 47
   have hc8:=c.toNat_lt
   have hd8:=d.toNat_lt
   rw [ht] at HR
   clear g0 g1 ht
   generalize (c==47)=b0 at*
   generalize (d==47)=b1 at*
   rcases (show (b0=true∧b1=true)∨b0=false∨(b0=true∧b1=false) from by cases b0<;>cases b1<;>simp) with ⟨rfl,rfl⟩|rfl|⟨rfl,rfl⟩
   case inl=>
    have HF:Hid (res=false):=HR.out
    clear HR HFI HPF
    go_enter Tryz.func48,Tryz.ntmps48
    go_wp2_with fail
    refine (HIS.out _).mono ?_
    rintro e w' ⟨rfl,rfl⟩
    go_wp2
    go_ret
    exact ⟨zaA HF.out.symm,rfl⟩
   all_goals
    have HF:Hid (res=(hs||bu)):=HR.out
    clear HR
    rcases HPF.out with ⟨p1,p2⟩|⟨i,hi,p1,p2⟩
    ·rw [p1] at HFI
     have HG:Hid (res=true):=by show _=_;rw [HF.out,p2,Bool.or_true]
     clear HPF HF p1 p2
     cases hs
     all_goals
      go_enter Tryz.func48,Tryz.ntmps48
      go_wp2_with fail
      refine (HIS.out _).mono ?_
      rintro e w' ⟨rfl,rfl⟩
      go_wp2_with fail
      refine (HFI.out _).mono ?_
      rintro e w' ⟨rfl,rfl⟩
      go_wp2
      go_ret
      exact ⟨zaA HG.out.symm,rfl⟩
    ·rw [p1] at HFI
     have hati:=zcE l i hi
     have q2:(((l[i]).toNat:Int)==47)=(l[i]==47):=ziZ l[i] 47
     rw [p2] at HF
     generalize l[i]=x at*
     have hx8:=x.toNat_lt
     clear HPF p1 p2
     cases hs
     all_goals
      go_enter Tryz.func48,Tryz.ntmps48
      go_wp2_with fail
      refine (HIS.out _).mono ?_
      rintro e w' ⟨rfl,rfl⟩
      go_wp2_with fail
      refine (HFI.out _).mono ?_
      rintro e w' ⟨rfl,rfl⟩
      go_wp2
      go_ret
      exact ⟨zaA (by rw [HF.out];first|rfl|(rw [Bool.false_or];exact q2)),rfl⟩
  ·rw [ht,Bool.true_and] at HR
   have HF:Hid (res=(hs||bu)):=HR.out
   clear HR ht
   rcases HPF.out with ⟨p1,p2⟩|⟨i,hi,p1,p2⟩
   ·rw [p1] at HFI
    have HG:Hid (res=true):=by show _=_;rw [HF.out,p2,Bool.or_true]
    clear HPF HF p1 p2
    cases hs
    all_goals
     go_enter Tryz.func48,Tryz.ntmps48
     go_wp2_with fail
     refine (HIS.out _).mono ?_
     rintro e w' ⟨rfl,rfl⟩
     go_wp2_with fail
     refine (HFI.out _).mono ?_
     rintro e w' ⟨rfl,rfl⟩
     go_wp2
     go_ret
     exact ⟨zaA HG.out.symm,rfl⟩
   ·rw [p1] at HFI
    have hati:=zcE l i hi
    have q2:(((l[i]).toNat:Int)==47)=(l[i]==47):=ziZ l[i] 47
    rw [p2] at HF
    generalize l[i]=x at*
    have hx8:=x.toNat_lt
    clear HPF p1 p2
    cases hs
    all_goals
     go_enter Tryz.func48,Tryz.ntmps48
     go_wp2_with fail
     refine (HIS.out _).mono ?_
     rintro e w' ⟨rfl,rfl⟩
     go_wp2_with fail
     refine (HFI.out _).mono ?_
     rintro e w' ⟨rfl,rfl⟩
     go_wp2
     go_ret
     exact ⟨zaA (by rw [HF.out];first|rfl|(rw [Bool.false_or];exact q2)),rfl⟩
theorem zpK (t:List UInt8) (n:Nat) (x:UInt8) (hn:t.length=n+1) (hx: ∀h:n<t.length,t[n]=x):(t.getLast? ==some 93)=(x==93)∧t.dropLast=t.take n:=by
 rcases List.eq_nil_or_concat t with rfl|⟨q,y,rfl⟩
 ·simp at hn
 ·rw [List.concat_eq_append] at*
  simp only [List.length_append,List.length_cons,List.length_nil] at hn
  obtain rfl:q.length=n:=by omega
  have:=hx (by simp)
  rw [List.getElem_append_right (by omega)] at this
  simp only [Nat.sub_self,List.getElem_cons_zero] at this
  rw [this,List.getLast?_concat,List.dropLast_concat,List.take_left']
  ·exact ⟨by simp,rfl⟩
  ·rfl
theorem zqM (l:List UInt8) (n:Nat) (hb:n+1≤l.length): ∀W,(Instr.slice 9 (.string ⟨l.toArray⟩) (some (.int .i64 1)) (some (.int .i64 ((n:Int)+2 - 1))) none).run Tryz.prog W= .ok (.string ⟨((l.take (n+1)).drop 1).toArray⟩) W:=fun W=>by
 rw [zkH W 9 _ (1:Int) ((n:Int)+2 - 1) 1 (n+1) rfl (by omega) (by omega) (by rw [zaB];exact hb) Tryz.underlying9]
 have:(ByteArray.mk l.toArray).extract 1 (n+1)=⟨((l.take (n+1)).drop 1).toArray⟩:=by
  apply ByteArray.ext;simp [List.drop_take]
 rw [this]
theorem ziX (l:List UInt8) (w:World) (hl:l.length≤1000000):
  Calls Tryz.prog 46 #[.string ⟨l.toArray⟩] w (zbO w (zbP sixB l)):=by
 have HIS:=zwW (fun W=>zcK l [] W hl (by decide))
 by_cases hnil:l=[]
 ·subst hnil
  have HF:Hid (zbP sixB []=isA [] []):=rfl
  rw [←HF.out] at HIS
  generalize zbP sixB []=res at*
  go_enter Tryz.func46,Tryz.ntmps46
  go_wp2_with fail
  refine (HIS.out _).mono ?_
  rintro e w' ⟨rfl,rfl⟩
  go_wp2
  go_ret
  exact ⟨rfl,Below.refl _ _⟩
 obtain ⟨c,t,hct⟩:=List.exists_cons_of_ne_nil hnil
 have hz:=zaB l
 have hlt:0<l.length:=by rw [hct];simp
 have hl0:((l.length:Int)==0)=false:=beq_eq_false_iff_ne.2 (by omega)
 have hat0:=zcE l 0 hlt
 rw [show l[0]=c from by simp only [hct,List.getElem_cons_zero]] at hat0
 have hc8:=c.toNat_lt
 by_cases h91:c=91
 ·subst h91
  clear HIS
  by_cases ht:t=[]
  ·subst ht
   subst hct
   have HF:Hid (zbP sixB [91]=false):=by show _=_;unfold zbP;simp
   generalize zbP sixB [91]=res at*
   go_enter Tryz.func46,Tryz.ntmps46
   go_wp2
   go_ret
   exact ⟨by rw [HF.out];rfl,Below.refl _ _⟩
  ·obtain ⟨n,hn⟩: ∃n,t.length=n+1:=⟨t.length - 1,by have:=List.length_pos_iff.2 ht;omega⟩
   have hll:l.length=n+2:=by rw [hct,List.length_cons,hn]
   obtain ⟨x,hx⟩: ∃x,t[n]'(by omega)=x:=⟨_,rfl⟩
   obtain ⟨e1,e2⟩:=zpK t n x hn (fun _=>hx)
   have hatn:=zcE l (n+1) (by omega)
   rw [show l[n+1]'(by omega)=x from by simp only [hct,List.getElem_cons_succ];exact hx] at hatn
   have hs1:=zqM l n (by omega)
   have hin:(l.take (n+1)).drop 1=t.take n:=by rw [hct];simp
   rw [hin] at hs1
   have hq:((x.toNat:Int) !=93)= !(x==93):=congrArg not (ziZ x 93)
   have hx8:=x.toNat_lt
   have HR:Hid (zbP sixB l=((x==93)&&(sixB (t.take n)||zcI (t.take n)))):=by show _=_;rw [hct,←e1,←e2];rfl
   have htl:(t.take n).length≤1000000:=by rw [List.length_take];omega
   have H6:=zwW (fun W=>ziQ ⟨(t.take n).toArray⟩ W (by rw [zaB];omega))
   rw [zaH] at H6
   have HFU:=zwW (fun W=>zgZ (t.take n) W htl)
   unfold sixB at HR ⊢
   clear e1 e2 hx hin htl hnil hct hn ht
   generalize t.take n=r at*
   generalize zcI r=bf at*
   generalize zbP (fun l=>(sixZ l).2) l=res at*
   generalize sixZ r=z at*
   obtain ⟨⟨hi,lo⟩,bk⟩:=z
   simp only at HR
   rw [hll] at hz hl0
   cases hb:(x==93) with
   |false=>
    rw [hb,Bool.not_false] at hq
    rw [hb] at HR
    have HF:Hid (res=false):=HR.out
    clear HR H6 HFU hs1 hb
    go_enter Tryz.func46,Tryz.ntmps46
    go_wp2
    go_ret
    exact ⟨zaA HF.out.symm,Below.refl _ _⟩
   |true=>
    rw [hb,Bool.true_and] at HR
    rw [hb,Bool.not_true] at hq
    have hlt2:decide ((n:Int)+2<2)=false:=zwX (by omega)
    clear hb
    go_enter Tryz.func46,Tryz.ntmps46
    go_wp2_with fail
    refine (H6.out _).mono ?_
    rintro e x1 ⟨rfl,hx1⟩
    cases bk with
    |true=>
     have HF:Hid (res=true):=HR.out
     clear HR H6 HFU hs1
     go_wp2
     go_ret
     exact ⟨zaA HF.out.symm,hx1⟩
    |false=>
     have HF:Hid (res=bf):=HR.out
     clear HR H6 hs1
     go_wp2_with fail
     refine (HFU.out _).mono ?_
     rintro e x2 ⟨rfl,rfl⟩
     go_wp2
     go_ret
     exact ⟨zaA HF.out.symm,hx1⟩
 ·have HF:Hid (zbP sixB l=isA [] l):=zgW sixB (by rw [hct];simpa using h91)
  rw [←HF.out] at HIS
  have hb:((c.toNat:Int) !=91)=true:=bne_iff_ne.2 (fun e=>h91 (UInt8.toNat_inj.1 (show c.toNat=91 by omega)))
  clear HF hct hnil h91
  generalize zbP sixB l=res at*
  go_enter Tryz.func46,Tryz.ntmps46
  go_wp2_with fail
  refine (HIS.out _).mono ?_
  rintro e w' ⟨rfl,rfl⟩
  go_wp2
  go_ret
  exact ⟨rfl,Below.refl _ _⟩
theorem ztB (s:List UInt8):(2≤s.length∧(zcU s).2.1=true∧(∀h,(ByteArray.mk s.toArray)[0]'h=47)∧(∀h,(ByteArray.mk s.toArray)[1]'h=47)∧zcU s=((zaF (· ==47) (s.drop 2)).2,true,zeA (zaF (· ==47) (s.drop 2)).1))∨((s.length<2∨ ∃c d,2≤s.length∧(c==47&&d==47)=false∧(∀h,(ByteArray.mk s.toArray)[0]'h=c)∧(∀h,(ByteArray.mk s.toArray)[1]'h=d))∧zcU s=(s,false,(false,[],[],false,[]))):=by
 rcases zmW s with ⟨c,d,h2,ht,g0,g1⟩|⟨h2,_⟩
 ·match s,h2,g0,g1 with
  |a::b::t,_,g0,g1=>
   obtain rfl:a=c:=g0 (by simp [ByteArray.size])
   obtain rfl:b=d:=g1 (by simp [ByteArray.size])
   by_cases h:(a==47&&b==47)=true
   ·left
    rw [Bool.and_eq_true,beq_iff_eq,beq_iff_eq] at h
    obtain ⟨rfl,rfl⟩:=h
    exact ⟨by simp,rfl,fun _=>rfl,fun _=>rfl,rfl⟩
   ·right
    have h:=Bool.not_eq_true _▸h
    refine ⟨.inr ⟨a,b,by simp,h,g0,g1⟩,?_⟩
    unfold zcU
    split
    ·rename_i e
     injection e with e1 e2
     injection e2 with e2 e3
     subst e1 e2
     cases h
    ·rfl
 ·right
  refine ⟨.inl h2,?_⟩
  match s,h2 with
  |[],_=>rfl
  |[a],_=>
   unfold zcU
   split
   ·rename_i e
    injection e with e1 e2
    cases e2
   ·rfl
theorem ztL (a:List UInt8):(∃i:Nat,i<a.length∧Lib.indexAny a [47]=i∧zaF (· ==47) a=(a.take i,a.drop i))∨(Lib.indexAny a [47]= -1∧zaF (· ==47) a=(a,[])):=by
 have e:(fun c:UInt8=>c==47)=[47].contains:=by
  funext c
  rw [zaY]
  show _=((47==c)||false)
  rw [show (47==c)=(c==47) from BEq.comm,Bool.or_false]
 rw [show zaF (· ==47) a=zaF [47].contains a from by rw [←e]]
 have hs:=zcS [47].contains a
 rcases zcJ [47] a with ⟨h1,h2,_⟩|⟨i,h,h1,h2,h3⟩
 ·right
  refine ⟨h2,?_⟩
  rw [h1,List.append_nil] at hs
  exact Prod.ext hs.symm h1
 ·left
  refine ⟨i,h,h1,?_⟩
  rw [h2,List.drop_eq_getElem_cons h]
theorem zhA (l:List UInt8) (w:World) (hbig:4096<l.length):
  Calls Tryz.prog 12 #[.string ⟨l.toArray⟩] w (zbT w (zcA sixB l)):=by
 have hz:=zaB l
 have hR0:=PB.new 28 w zaI
 have hb0:Below w.heap.size w (w.alloc (.cells zaI.cells 28)):=(Below.refl _ w).alloc (Nat.le_refl _) _
 have HF:Hid (zcA sixB l=(zaI,3)):=by show _=_;unfold zcA;rw [if_pos hbig]
 obtain ⟨x0,hx0⟩: ∃y,y=w.alloc (.cells zaI.cells 28):=⟨_,rfl⟩
 rw [←hx0] at hR0 hb0
 dsimp only [zaI,PZ.cells] at hx0
 have HR0:=zwW hR0
 have HB0:=zwW hb0
 generalize hW:w.heap.size=R at*
 clear hR0 hb0
 go_enter Tryz.func12,Tryz.ntmps12
 go_upto_region 2 with fail
 rw [←hx0]
 clear hx0
 obtain ⟨r0,r1,r2,r3,r4,r5,r6,r7,r8,r9,r10,r11,r12⟩:=HR0.out.all
 have rf:=HR0.out.frozen
 have hEB:=zaW HB0.out (Nat.le_refl _) zaI
 have hEC:=zaV HR0.out zaI _ rfl
 unfold zbU at hEB hEC
 have HEB:=zwW hEB
 have HEC:=zwW hEC
 dsimp only [zaI,PZ.cells] at r0 r1 r2 r3 r4 r5 r6 r7 r8 r9 r10 r11 r12 HEB HEC
 clear hEB hEC
 go_wp2
 obtain ⟨e0,e1,e2,e3,e4,e5,e6,e7,e8,e9,e10,e11,e12⟩:=HEC.out
 refine bodyPost_ret (v:= .tuple #[.agg zaI.cells,.int .i64 3]) (by simp [results,Tryz.results12,go_sem,e0,e1,e2,e3,e4,e5,e6,e7,e8,e9,e10,e11,e12,zaI,PZ.cells]) rfl ?_
 unfold zbT
 rw [HF.out,hW]
 exact ⟨rfl,HEB.out⟩
theorem zhV (l:List UInt8) (w:World):
  Calls Tryz.prog 12 #[.string ⟨l.toArray⟩] w (zbT w (zcA sixB l)):=by
 by_cases hbig:4096<l.length
 ·exact zhA l w hbig
 have hz:=zaB l
 have hl:l.length≤4096:=by omega
 have HS0:Hid (ST 28 w ((w.alloc (.cells zaI.cells 28)).alloc (.cells zaI.cells 28)) w.heap.size (w.heap.size+1) zaI):=ST.first _ w
 have hs13:(w.alloc (.cells zaI.cells 28)).heap.size=w.heap.size+1:=by simp
 have HFI:=zwW (fun (l of:List UInt8) W (h:l.length≤1000000) (h2:of.length≤1000000)=>zcN l of W h h2)
 have HSC:=zwW (fun (l:List UInt8) W (h:l.length≤1000000)=>zgM l W h)
 have hAT:=zhX l
 obtain ⟨sb,sn,s1,hsa⟩: ∃b n s,zaJ l=(b,n,s):=⟨_,_,_,rfl⟩
 rw [hsa] at hAT
 obtain ⟨x0,hx0⟩: ∃y,y=(w.alloc (.cells zaI.cells 28)).alloc (.cells zaI.cells 28):=⟨_,rfl⟩
 rw [←hx0] at HS0
 dsimp only [zaI,PZ.cells] at hx0 hs13
 have HI:=zwW (HFI.out l [58,47,63,35] x0 (by omega) (by decide))
 generalize Lib.indexAny l [58,47,63,35]=ix at*
 go_enter Tryz.func12,Tryz.ntmps12
 go_upto_region 4 with fail
 rw [←hx0]
 clear hx0 hs13
 go_wp2_with fail
 refine HI.out.mono ?_
 rintro e w' ⟨rfl,rfl⟩
 go_upto_region 5 with fail
 go_cut [21] (fun v wc=>v= .bool sb∧wc=x0)
 case first=>
  as_aux_lemma=>
   rcases hAT with ⟨i,hi,a1,a2,a3⟩|⟨a3,a1|⟨i,hi,a1,a2⟩⟩
   ·obtain ⟨rfl,-,-⟩:sb=true∧sn=l.take i∧s1=l.drop (i+1):=by simpa using a3
    have hat:=zcE l i hi
    rw [a2] at hat
    subst a1
    go_wp2
    go_meet
    exact ⟨rfl,rfl⟩
   ·obtain ⟨rfl,-,-⟩:sb=false∧sn=[]∧s1=l:=by simpa using a3
    subst a1
    go_wp2
    go_meet
    exact ⟨rfl,rfl⟩
   ·obtain ⟨rfl,-,-⟩:sb=false∧sn=[]∧s1=l:=by simpa using a3
    have hat:=zcE l i hi
    have hq:(((l[i]).toNat:Int)==58)=(l[i]==58):=ziZ l[i] 58
    rw [beq_eq_false_iff_ne.2 a2] at hq
    subst a1
    generalize l[i]=c at*
    have hc8:=c.toNat_lt
    go_wp2
    go_meet
    exact ⟨rfl,rfl⟩
 case rest=>
  obtain ⟨rfl,rfl⟩:=hcut
  go_upto_if 21 with fail
  by_cases herr:sb=true∧zbD sn=false
  ·obtain ⟨rfl,hok⟩:=herr
   rcases hAT with ⟨i,hi,a1,a2,a3⟩|⟨a3,a1⟩
   ·obtain ⟨e1,e2⟩:sn=l.take i∧s1=l.drop (i+1):=by simpa using a3
    subst a1
    have t1:=zeT l i (by omega)
    have t2:=zbX l i hi
    rw [←e1] at t1
    rw [←e2] at t2
    obtain ⟨v1,v2,c0,f0,c1,f1⟩:=HS0.out.st 0 1 (.string ⟨sn.toArray⟩) (by decide) (by decide)
    have HS1:Hid (ST 28 w ((wc.setCell ⟨w.heap.size+1,0,none⟩ (.string ⟨sn.toArray⟩)).setCell ⟨w.heap.size+1,1,none⟩ (.bool true)) w.heap.size (w.heap.size+1) {zaI with scheme:=sn,hasS:=true}):=(HS0.out.set 0 (.string ⟨sn.toArray⟩) (q:={zaI with scheme:=sn}) rfl).set 1 (.bool true) rfl
    have d0:=HS1.out.row.all.1
    have hsn:sn.length≤1000000:=by rw [e1,List.length_take];omega
    have HSX:=zwW (fun W=>HSC.out sn W hsn)
    rw [hok] at HSX
    have HF:Hid (zcA sixB l=(zaI,5)):=by
     show _=_
     unfold zcA
     have h1:(zbE l).hasS=true:=by unfold zbE;rw [hsa]
     have h2:(zbE l).scheme=sn:=by unfold zbE;rw [hsa]
     rw [if_neg hbig,h1,h2,hok]
     rfl
    generalize zcA sixB l=res at*
    simp only at d0
    clear e1 e2 hok a2 a3 hsn HSC HFI HI HS0 hsa
    go_wp2_with fail
    refine (HSX.out _).mono ?_
    rintro e w' ⟨rfl,rfl⟩
    clear t1 t2 c0 f0 c1 f1 d0
    obtain ⟨x1,hx1⟩: ∃y,y=(wc.setCell ⟨w.heap.size+1,0,none⟩ (.string ⟨sn.toArray⟩)).setCell ⟨w.heap.size+1,1,none⟩ (.bool true):=⟨_,rfl⟩
    rw [←hx1] at HS1 ⊢
    clear hx1
    obtain ⟨r0,r1,r2,r3,r4,r5,r6,r7,r8,r9,r10,r11,r12⟩:=HS1.out.res.all
    have rf:=HS1.out.res.frozen
    have hEB:=zaW HS1.out.below HS1.out.hR zaI
    have hEC:=zaV HS1.out.res zaI _ rfl
    unfold zbU at hEB hEC
    have HEB:=zwW hEB
    have HEC:=zwW hEC
    clear hEB hEC HS1
    dsimp only [zaI] at HEB HEC
    go_wp2
    obtain ⟨e0,e1,e2,e3,e4,e5,e6,e7,e8,e9,e10,e11,e12⟩:=HEC.out
    refine bodyPost_ret (v:= .tuple #[.agg (PZ.cells zaI),.int .i64 5]) (by simp [results,Tryz.results12,go_sem,e0,e1,e2,e3,e4,e5,e6,e7,e8,e9,e10,e11,e12,zaI,PZ.cells]) rfl ?_
    unfold zbT
    rw [HF.out]
    exact ⟨rfl,HEB.out⟩
   ·simp at a3
  go_cut [0] (fun sv wc=>sv= .string ⟨s1.toArray⟩∧Hid (ST 28 w wc w.heap.size (w.heap.size+1) {zaI with scheme:=sn,hasS:=sb}))
  case first=>
   as_aux_lemma=>
    rcases hAT with ⟨i,hi,a1,a2,a3⟩|⟨a3,a1⟩
    ·obtain ⟨rfl,e1,e2⟩:sb=true∧sn=l.take i∧s1=l.drop (i+1):=by simpa using a3
     subst a1
     have t1:=zeT l i (by omega)
     have t2:=zbX l i hi
     rw [←e1] at t1
     rw [←e2] at t2
     obtain ⟨v1,v2,c0,f0,c1,f1⟩:=HS0.out.st 0 1 (.string ⟨sn.toArray⟩) (by decide) (by decide)
     have HS1:Hid (ST 28 w ((wc.setCell ⟨w.heap.size+1,0,none⟩ (.string ⟨sn.toArray⟩)).setCell ⟨w.heap.size+1,1,none⟩ (.bool true)) w.heap.size (w.heap.size+1) {zaI with scheme:=sn,hasS:=true}):=(HS0.out.set 0 (.string ⟨sn.toArray⟩) (q:={zaI with scheme:=sn}) rfl).set 1 (.bool true) rfl
     have d0:=HS1.out.row.all.1
     have hsn:sn.length≤1000000:=by rw [e1,List.length_take];omega
     have HSX:=zwW (fun W=>HSC.out sn W hsn)
     have hok:zbD sn=true:=by
      cases h:zbD sn with
      |true=>rfl
      |false=>exact absurd ⟨rfl,h⟩ herr
     rw [hok] at HSX
     simp only at d0
     clear e1 e2 hok herr a2 a3 hsn HSC HFI HI HS0
     go_wp2_with fail
     refine (HSX.out _).mono ?_
     rintro e w' ⟨rfl,rfl⟩
     go_wp2
     go_meet
     exact ⟨rfl,HS1⟩
    ·obtain ⟨rfl,rfl,rfl⟩:sb=false∧sn=[]∧s1=l:=by simpa using a3
     go_wp2
     go_meet
     exact ⟨rfl,HS0⟩
  case rest=>
   obtain ⟨rfl,HS1⟩:=hcut
   have hLS:=zeU l
   rw [hsa] at hLS
   simp only at hLS
   clear hAT HI HSC HS0
   have HSC:=trivial
   obtain ⟨s2,fb,fr,hc1⟩: ∃a b c,cutA 35 s1=(a,b,c):=⟨_,_,_,rfl⟩
   have hAF:=ziS 35 s1
   have hLF:=zcD 35 s1
   rw [hc1] at hAF hLF
   simp only at hLF
   have HI:=zwW (fun W=>HFI.out s1 [35] W (by omega) (by decide))
   generalize Lib.indexAny s1 [35]=ix1 at*
   go_wp2_with fail
   refine (HI.out _).mono ?_
   rintro e w' ⟨rfl,rfl⟩
   go_upto_if 39 with fail
   go_cut [0] (fun sv wc=>sv= .string ⟨s2.toArray⟩∧Hid (ST 28 w wc w.heap.size (w.heap.size+1) {zaI with scheme:=sn,hasS:=sb,frag:=fr,hasF:=fb}))
   case first=>
    as_aux_lemma=>
     rcases hAF with ⟨i,hi,a1,a2⟩|⟨a1,a2⟩
     ·obtain ⟨e1,rfl,e2⟩:s2=s1.take i∧fb=true∧fr=s1.drop (i+1):=by simpa using a2
      subst a1
      have t1:=zeT s1 i (by omega)
      have t2:=zbX s1 i hi
      rw [←e1] at t1
      rw [←e2] at t2
      obtain ⟨v1,v2,c0,f0,c1,f1⟩:=HS1.out.st 11 12 (.string ⟨fr.toArray⟩) (by decide) (by decide)
      have HN:Hid (ST 28 w ((wc.setCell ⟨w.heap.size+1,11,none⟩ (.string ⟨fr.toArray⟩)).setCell ⟨w.heap.size+1,12,none⟩ (.bool true)) w.heap.size (w.heap.size+1) {zaI with scheme:=sn,hasS:=sb,frag:=fr,hasF:=true}):=(HS1.out.set 11 (.string ⟨fr.toArray⟩) (q:={zaI with scheme:=sn,hasS:=sb,frag:=fr}) rfl).set 12 (.bool true) rfl
      clear e1 e2 a2 HI HFI HSC HS1 hLF
      go_wp2
      go_meet
      exact ⟨rfl,HN⟩
     ·obtain ⟨rfl,rfl,rfl⟩:s2=s1∧fb=false∧fr=[]:=by simpa using a2
      subst a1
      go_wp2
      go_meet
      exact ⟨rfl,HS1⟩
   case rest=>
    obtain ⟨rfl,HS2⟩:=hcut
    clear HS1 hAF
    obtain ⟨s3,qb,qr,hc2⟩: ∃a b c,cutA 63 s2=(a,b,c):=⟨_,_,_,rfl⟩
    have hAF:=ziS 63 s2
    have hLF:=zcD 63 s2
    rw [hc2] at hAF hLF
    simp only at hLF
    have HI:=zwW (fun W=>HFI.out s2 [63] W (by omega) (by decide))
    generalize Lib.indexAny s2 [63]=ix2 at*
    go_wp2_with fail
    refine (HI.out _).mono ?_
    rintro e w' ⟨rfl,rfl⟩
    go_upto_if 52 with fail
    go_cut [0] (fun sv wc=>sv= .string ⟨s3.toArray⟩∧Hid (ST 28 w wc w.heap.size (w.heap.size+1) {zaI with scheme:=sn,hasS:=sb,frag:=fr,hasF:=fb,query:=qr,hasQ:=qb}))
    case first=>
     as_aux_lemma=>
      rcases hAF with ⟨i,hi,a1,a2⟩|⟨a1,a2⟩
      ·obtain ⟨e1,rfl,e2⟩:s3=s2.take i∧qb=true∧qr=s2.drop (i+1):=by simpa using a2
       subst a1
       have t1:=zeT s2 i (by omega)
       have t2:=zbX s2 i hi
       rw [←e1] at t1
       rw [←e2] at t2
       obtain ⟨v1,v2,c0,f0,c1,f1⟩:=HS2.out.st 9 10 (.string ⟨qr.toArray⟩) (by decide) (by decide)
       have HN:Hid (ST 28 w ((wc.setCell ⟨w.heap.size+1,9,none⟩ (.string ⟨qr.toArray⟩)).setCell ⟨w.heap.size+1,10,none⟩ (.bool true)) w.heap.size (w.heap.size+1) {zaI with scheme:=sn,hasS:=sb,frag:=fr,hasF:=fb,query:=qr,hasQ:=true}):=(HS2.out.set 9 (.string ⟨qr.toArray⟩) (q:={zaI with scheme:=sn,hasS:=sb,frag:=fr,hasF:=fb,query:=qr}) rfl).set 10 (.bool true) rfl
       clear e1 e2 a2 HI HFI HSC HS2 hLF
       go_wp2
       go_meet
       exact ⟨rfl,HN⟩
      ·obtain ⟨rfl,rfl,rfl⟩:s3=s2∧qb=false∧qr=[]:=by simpa using a2
       subst a1
       go_wp2
       go_meet
       exact ⟨rfl,HS2⟩
    case rest=>
     obtain ⟨rfl,HS3⟩:=hcut
     clear HS2 hAF
     obtain ⟨s4,ha,hu,us,ho,hp,po,hh⟩: ∃a b c d e f g,zcU s3=(a,b,(c,d,e,f,g)):=⟨_,_,_,_,_,_,_,rfl⟩
     have hHP:=ztB s3
     rw [hh] at hHP
     go_upto_region 22 with fail
     go_cut [74] (fun v wc2=>v= .bool ha∧wc2=wc)
     case first=>
      as_aux_lemma=>
       rcases hHP with ⟨h2,rfl,a0,a1,-⟩|⟨a0,a1⟩
       ·go_wp2
        go_meet
        exact ⟨rfl,rfl⟩
       ·obtain rfl:ha=false:=congrArg (fun x=>x.2.1) a1
        rcases a0 with a0|⟨c,d,h2,hcd,g0,g1⟩
        ·go_wp2
         go_meet
         exact ⟨rfl,rfl⟩
        ·have hz3:=zaB s3
         have hat0:=g0 (by rw [hz3];omega)
         have hat1:=g1 (by rw [hz3];omega)
         have q0:((c.toNat:Int)==47)=(c==47):=ziZ c 47
         have q1:((d.toNat:Int)==47)=(d==47):=ziZ d 47
         have hc8:=c.toNat_lt
         have hd8:=d.toNat_lt
         clear g0 g1 a1
         generalize (c==47)=b0 at*
         generalize (d==47)=b1 at*
         rcases (show b0=false∨(b0=true∧b1=false) from by revert hcd;cases b0<;>cases b1<;>simp) with rfl|⟨rfl,rfl⟩
         all_goals
          go_wp2
          go_meet
          exact ⟨rfl,rfl⟩
     case rest=>
      obtain ⟨rfl,rfl⟩:=hcut
      go_upto_if 74 with fail
      go_cut [0,6] (fun sv bv wc=>sv= .string ⟨s4.toArray⟩∧bv= .bool (isA [58] us&&(zbP sixB ho&&po.all zbA))∧Hid (ST 28 w wc w.heap.size (w.heap.size+1) {zaI with scheme:=sn,hasS:=sb,frag:=fr,hasF:=fb,query:=qr,hasQ:=qb,hasA:=ha,user:=us,hasU:=hu,host:=ho,port:=po,hasP:=hp}))
      case first=>
       as_aux_lemma=>
        rcases hHP with ⟨h2,e0,-,-,a2⟩|⟨-,a1⟩
        ·obtain rfl:ha=true:=e0
         have hL3:=hLF
         have hdl:(s3.drop 2).length≤s3.length:=by rw [List.length_drop];omega
         have t0: ∀W,(Instr.slice 9 (.string ⟨s3.toArray⟩) (some (.int .i64 2)) none none).run Tryz.prog W= .ok (.string ⟨(s3.drop 2).toArray⟩) W:=zfG s3 2 h2
         obtain ⟨v1,-,c0,f0,-⟩:=HS3.out.st 5 6 (.bool true) (by decide) (by decide)
         have HSa:Hid (ST 28 w (wc.setCell ⟨w.heap.size+1,5,none⟩ (.bool true)) w.heap.size (w.heap.size+1) {zaI with scheme:=sn,hasS:=sb,frag:=fr,hasF:=fb,query:=qr,hasQ:=qb,hasA:=true}):=HS3.out.set 5 (.bool true) rfl
         have hUN:=ztL (s3.drop 2)
         have HI3:=zwW (fun W=>HFI.out (s3.drop 2) [47] W (by omega) (by decide))
         generalize s3.drop 2=a at*
         generalize Lib.indexAny a [47]=ix3 at*
         go_wp2_with fail
         refine (HI3.out _).mono ?_
         rintro e w' ⟨rfl,rfl⟩
         go_upto_if 81 with fail
         go_cut [0,7] (fun sv av wc=>sv= .string ⟨(zaF (· ==47) a).2.toArray⟩∧av= .string ⟨(zaF (· ==47) a).1.toArray⟩∧Hid (ST 28 w wc w.heap.size (w.heap.size+1) {zaI with scheme:=sn,hasS:=sb,frag:=fr,hasF:=fb,query:=qr,hasQ:=qb,hasA:=true}))
         case first=>
          as_aux_lemma=>
           clear HI3 HFI HS3 c0 f0 hL3 t0
           rcases hUN with ⟨i,hi,b1,b2⟩|⟨b1,b2⟩
           ·subst b1
            have t1:=zeT a i (by omega)
            have t2:=zfG a i (by omega)
            go_wp2
            go_meet
            exact ⟨by rw [b2],by rw [b2],HSa⟩
           ·subst b1
            go_wp2
            go_meet
            exact ⟨by rw [b2],by rw [b2],HSa⟩
         case rest=>
          obtain ⟨rfl,rfl,HSb⟩:=hcut
          have hal:(zaF (· ==47) a).1.length≤1000000:=by
           have:=congrArg List.length (zcS (· ==47) a)
           rw [List.length_append] at this
           omega
          obtain ⟨e4,-,e5⟩:s4=(zaF (· ==47) a).2∧True∧(hu,us,ho,hp,po)=zeA (zaF (· ==47) a).1:=by
           simp only [Prod.mk.injEq] at a2 ⊢
           exact ⟨a2.1,trivial,a2.2.2⟩
          subst e4
          clear hUN HI3 a2 hL3 hdl t0 c0 f0 HSa HS3
          generalize (zaF (· ==47) a).2=s4 at*
          generalize (zaF (· ==47) a).1=b at*
          obtain ⟨c1,cb,c2,hcc⟩: ∃x y z,cutA 64 b=(x,y,z):=⟨_,_,_,rfl⟩
          have hAF:=ziS 64 b
          have hLA:=zcD 64 b
          rw [hcc] at hAF hLA
          simp only at hLA
          obtain ⟨d,hd⟩: ∃d,d=(if cb then c2 else b):=⟨_,rfl⟩
          have hau:(hu,us,ho,hp,po)=(cb,(if cb then c1 else []),(zcR d).1,(zcR d).2.1,(zcR d).2.2):=by
           rw [e5,hd]
           cases cb
           ·exact zjD hcc
           ·exact zgQ hcc
          simp only [Prod.mk.injEq] at hau
          obtain ⟨rfl,hus,hho,hhp,hpo⟩:=hau
          have hdl:d.length≤1000000:=by rw [hd];split<;>omega
          have hul:us.length≤1000000:=by rw [hus];split<;>first|omega|simp
          have hpo2:=zgR d
          have hol:ho.length≤1000000:=by rw [hho];omega
          have hpl:po.length≤1000000:=by rw [hpo];omega
          have HI4:=zwW (fun W=>HFI.out b [64] W (by omega) (by decide))
          generalize Lib.indexAny b [64]=ix4 at*
          go_wp2_with fail
          refine (HI4.out _).mono ?_
          rintro e w' ⟨rfl,rfl⟩
          go_upto_if 91 with fail
          go_cut [7] (fun av wc=>av= .string ⟨d.toArray⟩∧Hid (ST 28 w wc w.heap.size (w.heap.size+1) {zaI with scheme:=sn,hasS:=sb,frag:=fr,hasF:=fb,query:=qr,hasQ:=qb,hasA:=true,user:=us,hasU:=hu}))
          case first=>
           as_aux_lemma=>
            clear HI4 HFI
            rcases hAF with ⟨i,hi,b1,b2⟩|⟨b1,b2⟩
            ·obtain ⟨e1,rfl,e2⟩:c1=b.take i∧hu=true∧c2=b.drop (i+1):=by simpa using b2
             rw [if_pos rfl] at hus hd
             subst b1 hus hd
             have t1:=zeT b i (by omega)
             have t2:=zbX b i hi
             rw [←e1] at t1
             rw [←e2] at t2
             obtain ⟨v1,v2,c0,f0,c1',f1⟩:=HSb.out.st 2 3 (.string ⟨us.toArray⟩) (by decide) (by decide)
             have HN:Hid (ST 28 w ((wc.setCell ⟨w.heap.size+1,2,none⟩ (.string ⟨us.toArray⟩)).setCell ⟨w.heap.size+1,3,none⟩ (.bool true)) w.heap.size (w.heap.size+1) {zaI with scheme:=sn,hasS:=sb,frag:=fr,hasF:=fb,query:=qr,hasQ:=qb,hasA:=true,user:=us,hasU:=true}):=(HSb.out.set 2 (.string ⟨us.toArray⟩) (q:={zaI with scheme:=sn,hasS:=sb,frag:=fr,hasF:=fb,query:=qr,hasQ:=qb,hasA:=true,user:=us}) rfl).set 3 (.bool true) rfl
             clear e1 e2 b2 HSb
             go_wp2
             go_meet
             exact ⟨rfl,HN⟩
            ·obtain ⟨rfl,rfl,rfl⟩:c1=b∧hu=false∧c2=[]:=by simpa using b2
             rw [if_neg (by decide)] at hus hd
             subst b1 hus hd
             go_wp2
             go_meet
             exact ⟨rfl,HSb⟩
          case rest=>
           obtain ⟨rfl,HSc⟩:=hcut
           clear HI4 HSb hAF hLA hus hd
           have HL1:Hid (∀W,Calls Tryz.prog 45 #[.string ⟨d.toArray⟩,.int .u8 58] W fun e w'=>e= .returned (.int .i64 (Lib.lastIndexByte ⟨d.toArray⟩ 58))∧W=w'):=fun W=>zfQ d 58 W hdl
           have HL2:Hid (∀W,Calls Tryz.prog 45 #[.string ⟨d.toArray⟩,.int .u8 93] W fun e w'=>e= .returned (.int .i64 (Lib.lastIndexByte ⟨d.toArray⟩ 93))∧W=w'):=fun W=>zfQ d 93 W hdl
           have hPL:=zfU d
           generalize Lib.lastIndexByte ⟨d.toArray⟩ 58=l58 at*
           generalize Lib.lastIndexByte ⟨d.toArray⟩ 93=l93 at*
           go_wp2_with fail
           refine (HL1.out _).mono ?_
           rintro e w' ⟨rfl,rfl⟩
           go_wp2_with fail
           refine (HL2.out _).mono ?_
           rintro e w' ⟨rfl,rfl⟩
           go_upto_if 106 with fail
           go_cut [7] (fun av wc=>av= .string ⟨ho.toArray⟩∧Hid (ST 28 w wc w.heap.size (w.heap.size+1) {zaI with scheme:=sn,hasS:=sb,frag:=fr,hasF:=fb,query:=qr,hasQ:=qb,hasA:=true,user:=us,hasU:=hu,port:=po,hasP:=hp}))
           case first=>
            as_aux_lemma=>
             rcases hPL with ⟨i,hi,b1,b2,b3⟩|⟨b1,b2⟩
             ·rw [b3] at hho hhp hpo
              simp only at hho hhp hpo
              subst b1 hhp
              have t1:=zeT d i (by omega)
              have t2:=zbX d i hi
              rw [←hho] at t1
              rw [←hpo] at t2
              obtain ⟨v1,v2,c0,f0,c1',f1⟩:=HSc.out.st 6 7 (.string ⟨po.toArray⟩) (by decide) (by decide)
              have HN:Hid (ST 28 w ((wc.setCell ⟨w.heap.size+1,6,none⟩ (.string ⟨po.toArray⟩)).setCell ⟨w.heap.size+1,7,none⟩ (.bool true)) w.heap.size (w.heap.size+1) {zaI with scheme:=sn,hasS:=sb,frag:=fr,hasF:=fb,query:=qr,hasQ:=qb,hasA:=true,user:=us,hasU:=hu,port:=po,hasP:=true}):=(HSc.out.set 6 (.string ⟨po.toArray⟩) (q:={zaI with scheme:=sn,hasS:=sb,frag:=fr,hasF:=fb,query:=qr,hasQ:=qb,hasA:=true,user:=us,hasU:=hu,port:=po}) rfl).set 7 (.bool true) rfl
              clear HSc HL1 HL2 hho hpo b3 HFI
              go_wp2
              go_meet
              exact ⟨rfl,HN⟩
             ·rw [b2] at hho hhp hpo
              simp only at hho hhp hpo
              subst hho hhp hpo
              clear HL1 HL2 b2 HFI
              go_wp2
              go_meet
              exact ⟨rfl,HSc⟩
           case rest=>
            obtain ⟨rfl,HSd⟩:=hcut
            obtain ⟨v1,-,c0,f0,-⟩:=HSd.out.st 4 5 (.string ⟨ho.toArray⟩) (by decide) (by decide)
            have HSe:Hid (ST 28 w (wc.setCell ⟨w.heap.size+1,4,none⟩ (.string ⟨ho.toArray⟩)) w.heap.size (w.heap.size+1) {zaI with scheme:=sn,hasS:=sb,frag:=fr,hasF:=fb,query:=qr,hasQ:=qb,hasA:=true,user:=us,hasU:=hu,host:=ho,port:=po,hasP:=hp}):=HSd.out.set 4 (.string ⟨ho.toArray⟩) rfl
            clear hho hhp hpo
            go_upto_region 41 with fail
            obtain ⟨x5,hx5⟩: ∃z,z=wc.setCell ⟨w.heap.size+1,4,none⟩ (.string ⟨ho.toArray⟩):=⟨_,rfl⟩
            rw [←hx5] at HSe ⊢
            clear hx5 c0 f0 v1 HSd
            have HIU:=zwW (fun W=>zcK us [58] W hul (by decide))
            have HHO:=zwW (fun W=>ziX ho W hol)
            have HDI:=zwW (fun W=>zhK po W hpl)
            obtain ⟨-,-,u2,-,-,-,-,-,-,-,-,-,-⟩:=HSe.out.row.all
            generalize isA [58] us=k1 at*
            generalize zbP sixB ho=k2 at*
            generalize po.all zbA=k3 at*
            go_wp2_with fail
            refine (HIU.out _).mono ?_
            rintro e w' ⟨rfl,rfl⟩
            clear u2 HIU
            cases k1 with
            |false=>
             clear HHO HDI
             go_wp2
             go_meet
             exact ⟨rfl,rfl,HSe⟩
            |true=>
             obtain ⟨-,-,-,-,u4,-,-,-,-,-,-,-,-⟩:=HSe.out.row.all
             go_wp2_with fail
             refine (HHO.out _).mono ?_
             rintro e y ⟨rfl,hy⟩
             have HSf:=zwW (HSe.out.keep hy)
             clear u4 HHO HSe hy
             cases k2 with
             |false=>
              clear HDI
              go_wp2
              go_meet
              exact ⟨rfl,rfl,HSf⟩
             |true=>
              obtain ⟨-,-,-,-,-,-,u6,-,-,-,-,-,-⟩:=HSf.out.row.all
              go_wp2_with fail
              refine (HDI.out _).mono ?_
              rintro e w' ⟨rfl,rfl⟩
              clear u6 HDI
              go_wp2
              go_meet
              exact ⟨rfl,rfl,HSf⟩
        ·simp only [Prod.mk.injEq] at a1
         obtain ⟨rfl,rfl,rfl,rfl,rfl,rfl,rfl⟩:=a1
         go_wp2
         go_meet
         exact ⟨rfl,rfl,HS3⟩
      case rest=>
       obtain ⟨rfl,rfl,HS4⟩:=hcut
       have hPL:zbE l={zaI with scheme:=sn,hasS:=sb,frag:=fr,hasF:=fb,query:=qr,hasQ:=qb,hasA:=ha,user:=us,hasU:=hu,host:=ho,port:=po,hasP:=hp,path:=s4}:=by
        unfold zbE
        rw [hsa]
        simp only [hc1,hc2,hh]
       have hOK:(!ha||(isA [58] us&&zbP sixB ho&&po.all zbA))=(isA [58] us&&(zbP sixB ho&&po.all zbA)):=by
        cases ha with
        |true=>simp [Bool.and_assoc]
        |false=>
         have:=(zqG s3 (by rw [hh])).2.2
         rw [hh] at this
         simp only [Prod.mk.injEq] at this
         obtain ⟨-,rfl,rfl,-,rfl⟩:=this
         rfl
       have hHL:=zjI s3
       rw [hh] at hHL
       simp only at hHL
       have hVA:zkY sixB (zbE l)=(isA [58] us&&(zbP sixB ho&&po.all zbA)&&zfY s4 sb ha&&isA [58,64,47,63] qr&&isA [58,64,47,63] fr):=by
        rw [hPL]
        unfold zkY
        simp only
        rw [hOK]
       have HPA:Hid (zcA sixB l=if (isA [58] us&&(zbP sixB ho&&po.all zbA)&&zfY s4 sb ha&&isA [58,64,47,63] qr&&isA [58,64,47,63] fr)=true then (zbE l,0) else (zaI,11)):=by
        show _=_
        unfold zcA
        have h1:((zbE l).hasS&& !zbD (zbE l).scheme)=false:=by
         rw [hPL]
         simp only
         cases sb with
         |false=>rfl
         |true=>
          cases hk:zbD sn with
          |true=>rfl
          |false=>exact absurd ⟨rfl,hk⟩ herr
        rw [if_neg hbig,h1,if_neg (by decide),hVA]
       clear hOK hVA herr hHP
       have HPP:=zwW (fun W=>ziP s4 sb ha W (by omega))
       have HIQ:=zwW (fun W=>zcK qr [58,64,47,63] W (by omega) (by decide))
       have HIF:=zwW (fun W=>zcK fr [58,64,47,63] W (by omega) (by decide))
       generalize (isA [58] us&&(zbP sixB ho&&po.all zbA))=k1 at*
       generalize zfY s4 sb ha=k2 at*
       generalize isA [58,64,47,63] qr=k3 at*
       generalize isA [58,64,47,63] fr=k4 at*
       obtain ⟨v1,-,c0,f0,-⟩:=HS4.out.st 8 8 (.string ⟨s4.toArray⟩) (by decide) (by decide)
       have HS5:Hid (ST 28 w (wc.setCell ⟨w.heap.size+1,8,none⟩ (.string ⟨s4.toArray⟩)) w.heap.size (w.heap.size+1) (zbE l)):=by
        rw [hPL]
        exact HS4.out.set 8 _ rfl
       go_upto_region 43 with fail
       obtain ⟨x6,hx6⟩: ∃z,z=wc.setCell ⟨w.heap.size+1,8,none⟩ (.string ⟨s4.toArray⟩):=⟨_,rfl⟩
       rw [←hx6] at HS5 ⊢
       clear hx6 c0 f0 v1 HS4 hHL HFI hLS hLF hsa hc1 hc2 hh HS3
       obtain ⟨-,u1,-,-,-,u5,-,-,-,u9,-,u11,-⟩:=HS5.out.row.all
       rw [show (zbE l).hasS=sb by rw [hPL]] at u1
       rw [show (zbE l).hasA=ha by rw [hPL]] at u5
       rw [show (zbE l).query=qr by rw [hPL]] at u9
       rw [show (zbE l).frag=fr by rw [hPL]] at u11
       clear hPL
       generalize zcA sixB l=res at*
       generalize zbE l=pp at*
       go_cut [155] (fun v wd=>v= .bool (!(k1&&k2&&k3&&k4))∧wd=x6)
       case first=>
        as_aux_lemma=>
         cases k1 with
         |false=>
          clear HPP HIQ HIF HPA
          go_wp2
          go_meet
          exact ⟨rfl,rfl⟩
         |true=>
         go_wp2_with fail
         refine (HPP.out _).mono ?_
         rintro e w' ⟨rfl,rfl⟩
         cases k2 with
         |false=>
          clear HPP HIQ HIF HPA
          go_wp2
          go_meet
          exact ⟨rfl,rfl⟩
         |true=>
         go_wp2_with fail
         refine (HIQ.out _).mono ?_
         rintro e w' ⟨rfl,rfl⟩
         cases k3 with
         |false=>
          clear HPP HIQ HIF HPA
          go_wp2
          go_meet
          exact ⟨rfl,rfl⟩
         |true=>
         go_wp2_with fail
         refine (HIF.out _).mono ?_
         rintro e w' ⟨rfl,rfl⟩
         clear HPP HIQ HIF HPA
         go_wp2
         go_meet
         exact ⟨rfl,rfl⟩
       case rest=>
        obtain ⟨rfl,rfl⟩:=hcut
        clear HPP HIQ HIF u1 u5 u9 u11
        obtain ⟨r0,r1,r2,r3,r4,r5,r6,r7,r8,r9,r10,r11,r12⟩:=HS5.out.res.all
        have rf:=HS5.out.res.frozen
        generalize (k1&&k2&&k3&&k4)=kk at*
        cases kk with
        |false=>
         have HF:Hid (res=(zaI,11)):=by show _=_;rw [HPA.out,if_neg (by decide)]
         have hEB:=zaW HS5.out.below HS5.out.hR zaI
         have hEC:=zaV HS5.out.res zaI _ rfl
         unfold zbU at hEB hEC
         have HEB:=zwW hEB
         have HEC:=zwW hEC
         clear hEB hEC HS5 HPA
         dsimp only [zaI] at HEB HEC
         go_wp2
         obtain ⟨e0,e1,e2,e3,e4,e5,e6,e7,e8,e9,e10,e11,e12⟩:=HEC.out
         refine bodyPost_ret (v:= .tuple #[.agg (PZ.cells zaI),.int .i64 11]) (by simp [results,Tryz.results12,go_sem,e0,e1,e2,e3,e4,e5,e6,e7,e8,e9,e10,e11,e12,zaI,PZ.cells]) rfl ?_
         unfold zbT
         rw [HF.out]
         exact ⟨rfl,HEB.out⟩
        |true=>
         have HF:Hid (res=(pp,0)):=by show _=_;rw [HPA.out,if_pos rfl]
         obtain ⟨d0,d1,d2,d3,d4,d5,d6,d7,d8,d9,d10,d11,d12⟩:=HS5.out.row.all
         have hEB:=zaW HS5.out.below HS5.out.hR pp
         have hEC:=zaV HS5.out.res pp _ rfl
         unfold zbU at hEB hEC
         have HEB:=zwW hEB
         have HEC:=zwW hEC
         clear hEB hEC HS5 HPA
         go_wp2
         obtain ⟨e0,e1,e2,e3,e4,e5,e6,e7,e8,e9,e10,e11,e12⟩:=HEC.out
         refine bodyPost_ret (v:= .tuple #[.agg pp.cells,.int .i64 0]) (by simp [results,Tryz.results12,go_sem,e0,e1,e2,e3,e4,e5,e6,e7,e8,e9,e10,e11,e12,PZ.cells]) rfl ?_
         unfold zbT
         rw [HF.out]
         exact ⟨rfl,HEB.out⟩
end
end Go.Proofs.YtmjappnpedjlnaaGreatDoor
