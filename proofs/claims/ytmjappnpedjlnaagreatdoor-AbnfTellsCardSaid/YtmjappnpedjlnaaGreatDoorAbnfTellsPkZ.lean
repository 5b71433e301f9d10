/-
  What the law AbnfTells leans on, and its walk (25 of 27).
-/
import Derived.ChangeKeysEq
import Derived.Deep.DeepCutAuto
import Derived.OpenShut
import Derived.Test.YtmjappnpedjlnaaGreatDoorAbnfTellsPkY
namespace Go.Proofs.YtmjappnpedjlnaaGreatDoor
set_option maxRecDepth 100000
set_option maxHeartbeats 16000000
abbrev zxR := @Lib.hid
abbrev zxS := @Nat.le_refl
abbrev zxT := @decide_eq_false
abbrev zxU := @decide_eq_true
abbrev zxV := @Go.RowKit.Below.refl
section
open Go.RowKit
def PZ.lits (p:PZ):List (List Lit):=[[.string p.scheme],[.bool p.hasS],[.string p.user],[.bool p.hasU],[.string p.host],[.bool p.hasA],[.string p.port],[.bool p.hasP],[.string p.path],[.string p.query],[.bool p.hasQ],[.string p.frag],[.bool p.hasF]]
theorem zsS (p q:PZ):p.lits.flatten=q.lits.flatten↔p=q:=by
 constructor
 ·intro h
  unfold PZ.lits at h
  simp only [List.flatten_cons,List.flatten_nil,List.cons_append,List.nil_append,List.cons.injEq,Lit.string.injEq,Lit.bool.injEq,and_true] at h
  obtain ⟨h0,h1,h2,h3,h4,h5,h6,h7,h8,h9,h10,h11,h12⟩:=h
  obtain ⟨p0,p1,p2,p3,p4,p5,p6,p7,p8,p9,p10,p11,p12⟩:=p
  obtain ⟨q0,q1,q2,q3,q4,q5,q6,q7,q8,q9,q10,q11,q12⟩:=q
  simp only at h0 h1 h2 h3 h4 h5 h6 h7 h8 h9 h10 h11 h12
  rw [h0,h1,h2,h3,h4,h5,h6,h7,h8,h9,h10,h11,h12]
 ·rintro rfl;rfl
theorem keyS (l:List UInt8) (h:l.length≤1000000):Tryz.prog.keyLits 10 9 [.string ⟨l.toArray⟩]=some [.string l]:=by
 unfold Program.keyLits
 rw [Tryz.underlying9]
 show (if (ByteArray.mk l.toArray).size≤maxLen then some [Lit.string (ByteArray.mk l.toArray).data.toList] else none)=_
 rw [if_pos (by rw [zaA];unfold maxLen;omega)]
theorem keyB (b:Bool):Tryz.prog.keyLits 10 4 [.bool b]=some [.bool b]:=by kernel_rfl
def zvG:List TypeId:=[9,4,9,4,9,4,9,4,9,9,4,9,4]
theorem zjB (p:PZ) (h:p.Few 1000000):(zvG.zip p.cells.toList).mapM (fun x=>Tryz.prog.keyLits 10 x.1 [x.2])=some p.lits:=by
 obtain ⟨h0,h2,h4,h6,h8,h9,h11⟩:=h
 unfold zvG PZ.cells PZ.lits
 simp [List.zip,keyB,keyS _ h0,keyS _ h2,keyS _ h4,keyS _ h6,keyS _ h8,keyS _ h9,keyS _ h11]
theorem znP (u v:Array Value): ∀(p q:Operand) (W:World),(eqGuard .eql 24 p q (.agg u) (.agg v)).run Tryz.prog W= .ok () W:=by
 intro p q W;kernel_rfl
theorem zuH (u v:Array Value): ∀(p q:Operand) (W:World),(eqGuard .eql 28 p q (.agg u) (.agg v)).run Tryz.prog W= .ok () W:=by
 intro p q W;kernel_rfl
theorem eqA (p q:PZ) (hp:p.Few 1000000) (hq:q.Few 1000000): ∀W:World,(binOp .eql 24 (.agg p.cells) (.agg q.cells)).run Tryz.prog W= .ok (.bool (p==q)) W:=by
 intro W
 obtain ⟨r,hr,hi⟩:=run_eqFields_plain (P:=Tryz.prog) W 9998 p.cells q.cells (D:=10) (D':=10) (Tryz.prog.fieldsOf 24).toList p.lits q.lits (fun f hf=>by have:=List.all_eq_true.1 (show ((Tryz.prog.fieldsOf 24).toList.all fun f=>f.name != "_" &&Tryz.prog.plainKey f.type)=true by kernel_rfl) f hf;simpa using this) (Eq.trans (by kernel_rfl) (zjB p hp)) (Eq.trans (by kernel_rfl) (zjB q hq))
 have hpq:(p==q)=r:=by
  rw [Bool.eq_iff_iff,hi,zsS,beq_iff_eq]
 have e1:(Op.equal 24 (.agg p.cells) (.agg q.cells)).run Tryz.prog W= .ok (p==q) W:=by
  show (Op.equalIn 10000 24 _ _).run Tryz.prog W=_
  rw [run_equalIn_struct W 9999 24 _ _ (by kernel_rfl) (by kernel_rfl),hr,hpq]
 show ((Op.equal _ _ _>>=fun b=>pure (Value.bool b)):Sem Value).run _ _=_
 rw [Sem.run_bind,e1];rfl
theorem eqR (p q:PZ) (hp:p.Few 1000000) (hq:q.Few 1000000): ∀W:World,(binOp .eql 28 (.agg p.cells) (.agg q.cells)).run Tryz.prog W= .ok (.bool (p==q)) W:=by
 intro W
 obtain ⟨r,hr,hi⟩:=run_eqFields_plain (P:=Tryz.prog) W 9998 p.cells q.cells (D:=10) (D':=10) (Tryz.prog.fieldsOf 28).toList p.lits q.lits (fun f hf=>by have:=List.all_eq_true.1 (show ((Tryz.prog.fieldsOf 28).toList.all fun f=>f.name != "_" &&Tryz.prog.plainKey f.type)=true by kernel_rfl) f hf;simpa using this) (Eq.trans (by kernel_rfl) (zjB p hp)) (Eq.trans (by kernel_rfl) (zjB q hq))
 have hpq:(p==q)=r:=by
  rw [Bool.eq_iff_iff,hi,zsS,beq_iff_eq]
 have e1:(Op.equal 28 (.agg p.cells) (.agg q.cells)).run Tryz.prog W= .ok (p==q) W:=by
  show (Op.equalIn 10000 28 _ _).run Tryz.prog W=_
  rw [run_equalIn_struct W 9999 28 _ _ (by kernel_rfl) (by kernel_rfl),hr,hpq]
 show ((Op.equal _ _ _>>=fun b=>pure (Value.bool b)):Sem Value).run _ _=_
 rw [Sem.run_bind,e1];rfl
theorem ziO (p:PZ) (n:Nat) (h:p.Few n):(zbL p).length≤7*n+8:=by
 have ha:=zlC p n h
 obtain ⟨f1,f2,f3,f4,f5,f6,f7⟩:=h
 rw [zhV]
 split<;>split<;>split<;>split<;>simp<;>omega
theorem ziM (six:List UInt8→Bool) (l:List UInt8):(zbK six l).1.Few l.length:=by
 have h0: ∀n,zaI.Few n:=fun n=>⟨Nat.zero_le _,Nat.zero_le _,Nat.zero_le _,Nat.zero_le _,Nat.zero_le _,Nat.zero_le _,Nat.zero_le _⟩
 unfold zbK
 split
 ·exact h0 _
 ·split
  ·exact h0 _
  ·split
   ·exact zjW l
   ·exact h0 _
theorem zmI (p:PZ) (w:World) (hf:p.Few 10000) (hmax:MaxVar w) (hutf:Lib.Utf8Tabs 0 1 w):
  Calls Tryz.prog 16 #[.agg p.cells] w (zbH w (zeK sixB p)):=by
 have hb:Below w.heap.size w (w.alloc (.cells p.cells 24)):=(zxV _ w).alloc (zxS _) _
 have htl:=ziO p 10000 hf
 have HTX:=zxR (fun W=>ziY p W (hf.mono (by omega)))
 have HPR:=zxR (fun W (hm:MaxVar W) (hu:Lib.Utf8Tabs 0 1 W)=>zmB (zbL p) W hm hu)
 have hqf:=(ziM sixB (zbL p)).mono (m:=1000000) (by omega)
 have HEQ:=fun W=>eqA (zbK sixB (zbL p)).1 p hqf (hf.mono (by omega)) W
 have hcm:((zbK sixB (zbL p)).1==p)=(p==(zbK sixB (zbL p)).1):=by
  rw [Bool.eq_iff_iff,beq_iff_eq,beq_iff_eq];exact eq_comm
 have HF:Hid (zeK sixB p=((zbK sixB (zbL p)).2==0&&p==(zbK sixB (zbL p)).1)):=rfl
 rw [hcm] at HEQ
 generalize zeK sixB p=res at*
 generalize zbK sixB (zbL p)=x at*
 obtain ⟨q,er⟩:=x
 simp only at HEQ HF hqf hcm
 generalize (p==q)=be at*
 generalize zbL p=tx at*
 have HPB:=zxR (fun y (hy:Below (w.alloc (.cells p.cells 24)).heap.size (w.alloc (.cells p.cells 24)) y)=>(And.intro ((PB.new 24 w p).below hy) (zaV hb hy):PB 24 y w.heap.size p∧Below w.heap.size w y))
 obtain ⟨d0,d1,d2,d3,d4,d5,d6,d7,d8,d9,d10,d11,d12⟩:=(PB.new 24 w p).all
 have HMU:=zxR (fun y (hy:Below w.heap.size w y)=>(And.intro (zaC hmax hy) (zdI hutf hy):MaxVar y∧Lib.Utf8Tabs 0 1 y))
 unfold PZ.cells at d0 d1 d2 d3 d4 d5 d6 d7 d8 d9 d10 d11 d12 HEQ HTX HPB ⊢
 clear hb hmax hutf hcm
 go_enter Tryz.func16,Tryz.ntmps16
 go_wp2_with fail
 refine (HTX.out _).mono ?_
 rintro e y1 ⟨rfl,hy1⟩
 have hw1:=(HPB.out y1 hy1).2
 have HPR1:=zxR (HPR.out y1 (HMU.out y1 hw1).1 (HMU.out y1 hw1).2)
 clear d0 d1 d2 d3 d4 d5 d6 d7 d8 d9 d10 d11 d12 HTX HPR HMU hw1
 go_wp2_with fail
 refine HPR1.out.mono ?_
 rintro e y2 ⟨rfl,hy2⟩
 have hy12:=zaV hy1 hy2
 obtain ⟨hpb2,hw2⟩:=HPB.out y2 hy12
 have hw3:Below w.heap.size w (y2.alloc (.cells q.cells 24)):=hw2.alloc hw2.size _
 have hpb3:=hpb2.below ((zxV y2.heap.size y2).alloc (zxS _) (.cells q.cells 24))
 obtain ⟨d0,d1,d2,d3,d4,d5,d6,d7,d8,d9,d10,d11,d12⟩:=hpb3.all
 obtain ⟨q0,q1,q2,q3,q4,q5,q6,q7,q8,q9,q10,q11,q12⟩:=(PB.new 24 y2 q).all
 have HW3:=zxR hw3
 have hgd:=fun a b=>znP p.cells q.cells a b
 have hgd2:=fun a b=>znP q.cells p.cells a b
 unfold PZ.cells at d0 d1 d2 d3 d4 d5 d6 d7 d8 d9 d10 d11 d12 q0 q1 q2 q3 q4 q5 q6 q7 q8 q9 q10 q11 q12 HW3 hgd hgd2 ⊢
 clear hpb2 hpb3 hw2 hw3 hy1 hy2 hy12 HPR1 HPB
 by_cases he:er=0
 ·subst he
  have HF2:Hid (res=be):=HF.out
  clear HF
  go_wp2
  go_ret
  exact zaF HF2.out HW3.out
 ·have he2:(er==0)=false:=beq_eq_false_iff_ne.2 he
  rw [he2] at HF
  go_wp2
  go_ret
  exact zaF HF.out HW3.out
def L1:List UInt8:=[45,46,95,126]
def L2:List UInt8:=[33,36,38,39,40,41,42,43,44,59,61]
theorem zjL (c:UInt8):zbE (c.toNat:Int)=zcW c:=by
 have key: ∀d:Fin 256,zbE (d.val:Int)=zcW (UInt8.ofNat d.val):=by decide+kernel
 have:=key ⟨c.toNat,c.toNat_lt⟩
 simpa using this
theorem zpC (c:UInt8) (of:List UInt8):(zeX c||of.contains c)=(zbE (c.toNat:Int)||(zaP (c.toNat:Int)||(hasB L1 c||(hasB L2 c||hasB of c)))):=by
 rw [zjL,zfS,←zbA L1,←zbA L2,←zbA of]
 unfold zeX L1 L2
 simp only [Bool.or_assoc]
theorem zcG (l:List UInt8) (k:Nat) (h:k<l.length):(ByteArray.mk l.toArray)[k]'(by rw [zaA];exact h)=l[k]:=rfl
theorem zhI (s:List UInt8) (c:UInt8) (w:World) (hs:s.length≤1000000):Calls Tryz.prog 58 #[.string ⟨s.toArray⟩,.int .u8 (c.toNat:Int)] w fun e w'=>e= .returned (.bool (hasB s c))∧w=w':=by
 have:=zmC ⟨s.toArray⟩ c w (by rw [zaA];omega)
 rw [zaH] at this
 exact this
theorem zcA (l of:List UInt8) (w:World) (hl:l.length≤1000000) (hof:of.length≤1000000):
  Calls Tryz.prog 19 #[.string ⟨l.toArray⟩,.string ⟨of.toArray⟩] w fun e w'=>e= .returned (.bool (isA of l))∧w=w':=by
 have hz:=zaA l
 have HTH:Hid (∀k W,k<l.length→Calls Tryz.prog 55 #[.string ⟨l.toArray⟩,.int .i64 (k:Nat)] W fun e w'=>e= .returned (.bool (pctA (l.drop k)))∧W=w'):=fun k W hk=>by
  have:=zoS ⟨l.toArray⟩ k W (by rw [zaA];omega) (by rw [zaA];exact hk)
  rw [zaH] at this
  rw [zpK]
  exact this
 have HH:=zxR (fun s c W (h:s.length≤1000000)=>zhI s c W h)
 have HPC:Hid (∀k,k<l.length→pctA (l.drop k)=true→k+3≤l.length∧isA of (l.drop k)=isA of (l.drop (k+3))):=fun k hk h=>by
  refine ⟨?_,by rw [zpS h,List.drop_drop]⟩
  have e:(l.drop k).length=l.length - k:=List.length_drop
  match hd:l.drop k,h with
  |_::_::_::r,_=>rw [hd] at e;simp at e;omega
 have HON:Hid (∀k (hk:k<l.length),pctA (l.drop k)=false→isA of (l.drop k)=((zbE (l[k].toNat:Int)||(zaP (l[k].toNat:Int)||(hasB L1 l[k]||(hasB L2 l[k]||hasB of l[k]))))&&isA of (l.drop (k+1)))):=fun k hk h=>by
  rw [List.drop_eq_getElem_cons hk] at h ⊢
  rw [zlY h,zpC]
 have HE:Hid (isA of []=true):=rfl
 generalize hr:isA of l=res at*
 have HR0:Hid (res=isA of (l.drop 0)):=by show _=_;rw [List.drop_zero,hr]
 clear hr
 go_enter Tryz.func19,Tryz.ntmps19
 go_wp2
 go_loop [5] (fun i=> ∃k:Nat,k≤l.length∧i= .int .i64 k∧Hid (res=isA of (l.drop k))) (fun i=>l.length - (intOf i).toNat)
 case atStart=>exact ⟨0,Nat.zero_le _,rfl,HR0⟩
 case round=>
  obtain ⟨k,hk,rfl,HK⟩:=hrel
  by_cases hkl:k<l.length
  ·have HT:=zxR (fun W=>HTH.out k W hkl)
   have hp:=HPC.out k hkl
   have ho:=HON.out k hkl
   cases hb:pctA (l.drop k) with
   |true=>
    obtain ⟨h3,e3⟩:=hp hb
    have HK2:Hid (res=isA of (l.drop (k+3))):=HK.out.trans e3
    rw [hb] at HT
    clear HTH HPC HON hp ho HK e3 hb HE HR0
    go_wp2_with (go_at_call 55;refine (HT.out _).mono ?_;rintro e w' ⟨rfl,rfl⟩)
    exact ⟨⟨k+3,by omega,by go_num,HK2.out⟩,by simp [intOf];omega⟩
   |false=>
    have e1:=ho hb
    rw [hb] at HT
    obtain ⟨c,hc⟩: ∃c,l[k]=c:=⟨_,rfl⟩
    have hat:=zcG l k hkl
    rw [hc] at e1 hat
    have HK1:=zxR (HK.out.trans e1)
    have H1:=zxR (zgF (c.toNat:Int))
    have H2:=zxR (zeM (c.toNat:Int))
    have H3:=zxR (fun W=>HH.out L1 c W (by decide))
    have H4:=zxR (fun W=>HH.out L2 c W (by decide))
    have H5:=zxR (fun W=>HH.out of c W hof)
    unfold L1 at H3 HK1
    unfold L2 at H4 HK1
    clear HTH HPC HON hp ho HK e1 hb hc HH HE HR0
    have hc8:=c.toNat_lt
    generalize zbE (c.toNat:Int)=b1 at*
    generalize zaP (c.toNat:Int)=b2 at*
    generalize hasB [45,46,95,126] c=b3 at*
    generalize hasB [33,36,38,39,40,41,42,43,44,59,61] c=b4 at*
    generalize hasB of c=b5 at*
    go_wp2_with (go_at_call 55;refine (HT.out _).mono ?_;rintro e w' ⟨rfl,rfl⟩)
    refine (H1.out _).mono ?_
    rintro e w' ⟨rfl,rfl⟩
    cases b1 with
    |true=>
     have HK2:Hid (res=isA of (l.drop (k+1))):=HK1.out.trans (by rfl)
     clear HK1
     go_wp2
     exact ⟨⟨k+1,by omega,by go_num,HK2.out⟩,by simp [intOf];omega⟩
    |false=>
    go_wp2_with fail
    refine (H2.out _).mono ?_
    rintro e w' ⟨rfl,rfl⟩
    cases b2 with
    |true=>
     have HK2:Hid (res=isA of (l.drop (k+1))):=HK1.out.trans (by rfl)
     clear HK1
     go_wp2
     exact ⟨⟨k+1,by omega,by go_num,HK2.out⟩,by simp [intOf];omega⟩
    |false=>
    go_wp2_with fail
    refine (H3.out _).mono ?_
    rintro e w' ⟨rfl,rfl⟩
    cases b3 with
    |true=>
     have HK2:Hid (res=isA of (l.drop (k+1))):=HK1.out.trans (by rfl)
     clear HK1
     go_wp2
     exact ⟨⟨k+1,by omega,by go_num,HK2.out⟩,by simp [intOf];omega⟩
    |false=>
    go_wp2_with fail
    refine (H4.out _).mono ?_
    rintro e w' ⟨rfl,rfl⟩
    cases b4 with
    |true=>
     have HK2:Hid (res=isA of (l.drop (k+1))):=HK1.out.trans (by rfl)
     clear HK1
     go_wp2
     exact ⟨⟨k+1,by omega,by go_num,HK2.out⟩,by simp [intOf];omega⟩
    |false=>
    go_wp2_with fail
    refine (H5.out _).mono ?_
    rintro e w' ⟨rfl,rfl⟩
    cases b5 with
    |true=>
     have HK2:Hid (res=isA of (l.drop (k+1))):=HK1.out.trans (by rfl)
     clear HK1
     go_wp2
     exact ⟨⟨k+1,by omega,by go_num,HK2.out⟩,by simp [intOf];omega⟩
    |false=>
    have HF:Hid (res=false):=HK1.out.trans (by rfl)
    clear HK1
    go_wp2
    go_ret
    exact ⟨zaB HF.out.symm,rfl⟩
  ·have HF:Hid (res=true):=by show _=_;rw [HK.out,List.drop_eq_nil_of_le (by omega)];rfl
   clear HTH HPC HON HK HH HE HR0
   go_wp2
   go_ret
   exact ⟨zaB HF.out.symm,rfl⟩
theorem zcO (l of:List UInt8) (w:World) (hl:l.length≤1000000) (hof:of.length≤1000000):
  Calls Tryz.prog 43 #[.string ⟨l.toArray⟩,.string ⟨of.toArray⟩] w fun e w'=>e= .returned (.int .i64 (Lib.indexAny l of))∧w=w':=by
 have hz:=zaA l
 have HH:=zxR (fun c W=>zhI of c W hof)
 have HAT:Hid (∀p (h:p<l.length),(∀j (hj:j<l.length),j<p→of.contains l[j]=false)→of.contains l[p]=true→Lib.indexAny l of=(p:Nat)):=fun p h=>zvF h
 have HNO:=zxR (@znT of l)
 generalize Lib.indexAny l of=res at*
 go_enter Tryz.func43,Tryz.ntmps43
 go_wp2
 go_loop [5] (fun i=> ∃k:Nat,k≤l.length∧i= .int .i64 k∧Hid (∀j (h:j<l.length),j<k→of.contains l[j]=false)) (fun i=>l.length - (intOf i).toNat)
 case atStart=>exact ⟨0,Nat.zero_le _,rfl,fun j _ h=>by omega⟩
 case round=>
  obtain ⟨k,hk,rfl,HK⟩:=hrel
  by_cases hkl:k<l.length
  ·obtain ⟨c,hc⟩: ∃c,l[k]=c:=⟨_,rfl⟩
   have hat:=zcG l k hkl
   rw [hc] at hat
   have H1:=zxR (HH.out c)
   rw [←zbA] at H1
   have hc8:=c.toNat_lt
   cases hb:of.contains c with
   |true=>
    have HF:=zxR (HAT.out k hkl (fun j hj h=>HK.out j hj h) (by rw [hc];exact hb))
    rw [hb] at H1
    clear HAT HNO HK HH hb hc
    go_wp2_with fail
    refine (H1.out _).mono ?_
    rintro e w' ⟨rfl,rfl⟩
    go_wp2
    go_ret
    exact ⟨by rw [HF.out];rfl,rfl⟩
   |false=>
    have HK2:Hid (∀j (h:j<l.length),j<k+1→of.contains l[j]=false):=fun j h h1=>by
     by_cases e:j=k
     ·subst e;rw [hc];exact hb
     ·exact HK.out j h (by omega)
    rw [hb] at H1
    clear HAT HNO HK HH hb hc
    go_wp2_with fail
    refine (H1.out _).mono ?_
    rintro e w' ⟨rfl,rfl⟩
    go_wp2
    exact ⟨⟨k+1,by omega,by go_num,HK2.out⟩,by simp [intOf];omega⟩
  ·have HF:=zxR (HNO.out (fun j hj=>HK.out j hj (by omega)))
   clear HAT HNO HK HH
   go_wp2
   go_ret
   exact ⟨by rw [HF.out];rfl,rfl⟩
theorem zhC (l:List UInt8) (w:World) (hl:l.length≤1000000):
  Calls Tryz.prog 47 #[.string ⟨l.toArray⟩] w fun e w'=>e= .returned (.bool (l.all zbC))∧w=w':=by
 have hz:=zaA l
 have HNO:Hid (∀k (h:k<l.length),zbC l[k]=false→l.all zbC=false):=fun k h e=>List.all_eq_false.2 ⟨l[k],List.getElem_mem _,by rw [e];decide⟩
 have HYE:Hid ((∀j (h:j<l.length),zbC l[j]=true)→l.all zbC=true):=fun h=>by
  rw [List.all_eq_true]
  intro x hx
  obtain ⟨j,hj,rfl⟩:=List.getElem_of_mem hx
  exact h j hj
 generalize l.all zbC=res at*
 go_enter Tryz.func47,Tryz.ntmps47
 go_wp2
 go_loop [3] (fun i=> ∃k:Nat,k≤l.length∧i= .int .i64 k∧Hid (∀j (h:j<l.length),j<k→zbC l[j]=true)) (fun i=>l.length - (intOf i).toNat)
 case atStart=>exact ⟨0,Nat.zero_le _,rfl,fun j _ h=>by omega⟩
 case round=>
  obtain ⟨k,hk,rfl,HK⟩:=hrel
  by_cases hkl:k<l.length
  ·obtain ⟨c,hc⟩: ∃c,l[k]=c:=⟨_,rfl⟩
   have hat:=zcG l k hkl
   rw [hc] at hat
   have H1:=zxR (zeM (c.toNat:Int))
   rw [zfS] at H1
   have hc8:=c.toNat_lt
   cases hb:zbC c with
   |false=>
    have HF:=zxR (HNO.out k hkl (by rw [hc];exact hb))
    rw [hb] at H1
    clear HNO HYE HK hb hc
    go_wp2_with fail
    refine (H1.out _).mono ?_
    rintro e w' ⟨rfl,rfl⟩
    go_wp2
    go_ret
    exact ⟨zaB HF.out.symm,rfl⟩
   |true=>
    have HK2:Hid (∀j (h:j<l.length),j<k+1→zbC l[j]=true):=fun j h h1=>by
     by_cases e:j=k
     ·subst e;rw [hc];exact hb
     ·exact HK.out j h (by omega)
    rw [hb] at H1
    clear HNO HYE HK hb hc
    go_wp2_with fail
    refine (H1.out _).mono ?_
    rintro e w' ⟨rfl,rfl⟩
    go_wp2
    exact ⟨⟨k+1,by omega,by go_num,HK2.out⟩,by simp [intOf];omega⟩
  ·have HF:=zxR (HYE.out (fun j hj=>HK.out j hj (by omega)))
   clear HNO HYE HK
   go_wp2
   go_ret
   exact ⟨zaB HF.out.symm,rfl⟩
theorem zfO (l:List UInt8) (c:UInt8) (w:World) (hl:l.length≤1000000):
  Calls Tryz.prog 45 #[.string ⟨l.toArray⟩,.int .u8 (c.toNat:Int)] w fun e w'=>e= .returned (.int .i64 (Lib.lastIndexByte ⟨l.toArray⟩ (c.toNat:Int)))∧w=w':=by
 have hz:=zaA l
 have HHI:Hid (∀k (h:k<l.length),(l[k].toNat:Int)=(c.toNat:Int)→Lib.lastIdx ⟨l.toArray⟩ (c.toNat:Int) (k+1)=k):=fun k h e=>Lib.lastIdx_hit _ _ _ (by rw [zoQ l k h];exact e)
 have HMI:Hid (∀k (h:k<l.length),(l[k].toNat:Int)≠(c.toNat:Int)→Lib.lastIdx ⟨l.toArray⟩ (c.toNat:Int) (k+1)=Lib.lastIdx ⟨l.toArray⟩ (c.toNat:Int) k):=fun k h e=>Lib.lastIdx_miss _ _ _ (by rw [zoQ l k h];exact e)
 have H0:Hid (Lib.lastIdx ⟨l.toArray⟩ (c.toNat:Int) 0= -1):=rfl
 have HS:Hid (Lib.lastIndexByte ⟨l.toArray⟩ (c.toNat:Int)=Lib.lastIdx ⟨l.toArray⟩ (c.toNat:Int) l.length):=by show _=_;unfold Lib.lastIndexByte;rw [zaA]
 generalize Lib.lastIndexByte ⟨l.toArray⟩ (c.toNat:Int)=res at*
 have hc8:=c.toNat_lt
 generalize hcn:c.toNat=cn at*
 generalize Lib.lastIdx ⟨l.toArray⟩ (cn:Int)=f at*
 clear hcn
 have hw0:IntKind.i64.wrap ((l.length:Int) - 1)=(l.length:Int) - 1:=IntWalk.i64_in _ (by omega)
 go_enter Tryz.func45,Tryz.ntmps45
 go_wp2
 go_loop [5] (fun i=> ∃k:Nat,k≤l.length∧i= .int .i64 ((k:Int) - 1)∧Hid (res=f k)) (fun i=>(intOf i+1).toNat)
 case atStart=>exact ⟨l.length,zxS _,rfl,HS.out⟩
 case round=>
  obtain ⟨k,hk,rfl,HK⟩:=hrel
  cases k with
  |zero=>
   have HF:Hid (res= -1):=HK.out.trans H0.out
   clear HHI HMI HK HS H0
   rw [show ((0:Nat):Int) - 1= -1 from rfl]
   go_wp2
   go_ret
   exact ⟨by rw [HF.out];rfl,rfl⟩
  |succ k=>
   have hkl:k<l.length:=by omega
   rw [show (((k+1:Nat):Int) - 1)=(k:Int) by omega]
   obtain ⟨d,hd⟩: ∃d,l[k]=d:=⟨_,rfl⟩
   have hat:=zcG l k hkl
   rw [hd] at hat
   have hh:=HHI.out k hkl
   have hm:=HMI.out k hkl
   rw [hd] at hh hm
   have hd8:=d.toNat_lt
   by_cases e:(d.toNat:Int)=(cn:Int)
   ·have HF:Hid (res=(k:Nat)):=HK.out.trans (hh e)
    obtain rfl:d.toNat=cn:=by omega
    clear HHI HMI HK HS H0 hh hm hd
    go_wp2
    go_ret
    exact ⟨by rw [HF.out];rfl,rfl⟩
   ·have HK2:Hid (res=f k):=HK.out.trans (hm e)
    have he:((d.toNat:Int)==(cn:Int))=false:=beq_eq_false_iff_ne.2 e
    have he2: ¬d.toNat=cn:=by omega
    clear HHI HMI HK HS H0 hh hm hd
    go_wp2
    exact ⟨⟨k,by omega,by go_num,HK2.out⟩,by first|(simp [intOf];done)|(simp [intOf];omega)⟩
def schR (k:Nat) (c:UInt8):Bool:=zbE (c.toNat:Int)||(decide (0<k)&&(zaP (c.toNat:Int)||hasB [43,45,46] c))
theorem zkF (k:Nat) (c:UInt8):schR (k+1) c=(zcW c||zbC c||[43,45,46].contains c):=by
 unfold schR
 rw [zjL,zfS,←zbA,zxU (Nat.succ_pos k),Bool.true_and,Bool.or_assoc]
theorem zjV (c:UInt8):schR 0 c=zcW c:=by
 unfold schR
 rw [zjL,zxT (by omega),Bool.false_and,Bool.or_false]
theorem sch_no: ∀{l:List UInt8} {k:Nat} (h:k<l.length),schR k l[k]=false→zbF l=false
 |c::t,0,_,e=>by
  have e2:schR 0 c=false:=e
  rw [zjV] at e2
  unfold zbF
  simp only [e2,Bool.false_and]
 |c::t,k+1,h,e=>by
  have e2:schR (k+1) (t[k]'(by simp at h;omega))=false:=e
  rw [zkF] at e2
  unfold zbF
  have:(t.all fun d=>zcW d||zbC d||[43,45,46].contains d)=false:=List.all_eq_false.2 ⟨_,List.getElem_mem _,by rw [e2];decide⟩
  simp only [this,Bool.and_false]
theorem zvT: ∀{l:List UInt8},(∀j (h:j<l.length),schR j l[j]=true)→zbF l=decide (0<l.length)
 |[],_=>rfl
 |c::t,h=>by
  have h0:schR 0 c=true:=h 0 (by simp)
  rw [zjV] at h0
  have h1:(t.all fun d=>zcW d||zbC d||[43,45,46].contains d)=true:=by
   rw [List.all_eq_true]
   intro x hx
   obtain ⟨j,hj,rfl⟩:=List.getElem_of_mem hx
   have:=h (j+1) (by simp;omega)
   rw [zkF] at this
   exact this
  unfold zbF
  simp only [h0,h1]
  simp
theorem zgV (l:List UInt8) (w:World) (hl:l.length≤1000000):
  Calls Tryz.prog 44 #[.string ⟨l.toArray⟩] w fun e w'=>e= .returned (.bool (zbF l))∧w=w':=by
 have hz:=zaA l
 have HNO:=zxR (fun k h=> @sch_no l k h)
 have HYE:=zxR (@zvT l)
 have HH:=zxR (fun c W=>zhI [43,45,46] c W (by decide))
 generalize zbF l=res at*
 go_enter Tryz.func44,Tryz.ntmps44
 go_wp2
 go_loop [3] (fun i=> ∃k:Nat,k≤l.length∧i= .int .i64 k∧Hid (∀j (h:j<l.length),j<k→schR j l[j]=true)) (fun i=>l.length - (intOf i).toNat)
 case atStart=>exact ⟨0,Nat.zero_le _,rfl,fun j _ h=>by omega⟩
 case round=>
  obtain ⟨k,hk,rfl,HK⟩:=hrel
  by_cases hkl:k<l.length
  ·obtain ⟨c,hc⟩: ∃c,l[k]=c:=⟨_,rfl⟩
   have hat:=zcG l k hkl
   rw [hc] at hat
   have hc8:=c.toNat_lt
   have HN0:Hid (schR k c=false→res=false):=fun e=>HNO.out k hkl (by rw [hc];exact e)
   have HN1:Hid (schR k c=true→ ∀j (h:j<l.length),j<k+1→schR j l[j]=true):=fun e j h h1=>by
    by_cases g:j=k
    ·subst g;rw [hc];exact e
    ·exact HK.out j h (by omega)
   have H1:=zxR (zgF (c.toNat:Int))
   have H2:=zxR (zeM (c.toNat:Int))
   have H3:=zxR (HH.out c)
   unfold schR at HN0 HN1
   clear HNO HYE HK HH hc
   generalize zbE (c.toNat:Int)=b1 at*
   generalize zaP (c.toNat:Int)=b2 at*
   generalize hasB [43,45,46] c=b3 at*
   go_wp2_with fail
   refine (H1.out _).mono ?_
   rintro e w' ⟨rfl,rfl⟩
   cases b1 with
   |true=>
    have HK2:=zxR (HN1.out rfl)
    clear HN0 HN1 H1 H2 H3
    go_wp2
    exact ⟨⟨k+1,by omega,by go_num,HK2.out⟩,by simp [intOf];omega⟩
   |false=>
    by_cases hk0:k=0
    ·have HF:=zxR (HN0.out (by rw [zxT (by omega)];rfl))
     subst hk0
     clear HN0 HN1 H1 H2 H3
     go_wp2
     go_ret
     exact ⟨zaB HF.out.symm,rfl⟩
    ·rw [zxU (by omega)] at HN0 HN1
     have hk1:((k:Int)==0)=false:=beq_eq_false_iff_ne.2 (by omega)
     go_wp2_with fail
     refine (H2.out _).mono ?_
     rintro e w' ⟨rfl,rfl⟩
     cases b2 with
     |true=>
      have HK2:=zxR (HN1.out rfl)
      clear HN0 HN1 H1 H2 H3
      go_wp2
      exact ⟨⟨k+1,by omega,by go_num,HK2.out⟩,by simp [intOf];omega⟩
     |false=>
      go_wp2_with fail
      refine (H3.out _).mono ?_
      rintro e w' ⟨rfl,rfl⟩
      cases b3 with
      |true=>
       have HK2:=zxR (HN1.out rfl)
       clear HN0 HN1 H1 H2 H3
       go_wp2
       exact ⟨⟨k+1,by omega,by go_num,HK2.out⟩,by simp [intOf];omega⟩
      |false=>
       have HF:=zxR (HN0.out rfl)
       clear HN0 HN1 H1 H2 H3
       go_wp2
       go_ret
       exact ⟨zaB HF.out.symm,rfl⟩
  ·have HF:=zxR (HYE.out (fun j hj=>HK.out j hj (by omega)))
   clear HNO HYE HK HH
   by_cases h0:0<l.length
   ·rw [zxU h0] at HF
    go_wp2
    go_ret
    exact ⟨zaB HF.out.symm,rfl⟩
   ·rw [zxT h0] at HF
    obtain rfl:l=[]:=List.length_eq_zero_iff.1 (by omega)
    go_wp2
    go_ret
    exact ⟨zaB HF.out.symm,rfl⟩
theorem fut_at (c:UInt8) (t:List UInt8) (h46:(c==46)=false):
  (∃i:Nat,1≤i∧i<(c::t).length∧Lib.indexAny (c::t) [46]=i∧futT (zaG (· ==46) t)=(decide (2≤i)&&(decide (i+1<(c::t).length)&&((((c::t).take i).drop 1).all hexA&&(isA [58] ((c::t).drop (i+1))&& !((c::t).drop (i+1)).contains 37)))))∨(Lib.indexAny (c::t) [46]= -1∧futT (zaG (· ==46) t)=false):=by
 have hu:zaG (· ==46) (c::t)=(c::(zaG (· ==46) t).1,(zaG (· ==46) t).2):=by rw [zaG,if_neg (by rw [h46];decide)]
 rcases zjQ 46 (c::t) with ⟨i,hi,h1,h2⟩|⟨h1,h2⟩
 ·left
  unfold cutA at h2
  rw [hu] at h2
  generalize zaG (· ==46) t=x at*
  obtain ⟨a,b⟩:=x
  cases b with
  |nil=>simp at h2
  |cons y r=>
   simp only [Prod.mk.injEq,true_and] at h2
   obtain ⟨e1,e2⟩:=h2
   have l1:=congrArg List.length e1
   have l2:=congrArg List.length e2
   simp only [List.length_take,List.length_drop,List.length_cons] at l1 l2 hi
   refine ⟨i,by omega,by simp only [List.length_cons];omega,h1,?_⟩
   rw [←e1,←e2]
   have k1:(!a.isEmpty)=decide (2≤i):=by
    cases a with
    |nil=>simp at l1;rw [zxT (by omega)];rfl
    |cons z q=>simp at l1;rw [zxU (by omega)];rfl
   have k2:(!r.isEmpty)=decide (i+1<(c::t).length):=by
    simp only [List.length_cons]
    cases r with
    |nil=>simp at l2;rw [zxT (by omega)];rfl
    |cons z q=>simp at l2;rw [zxU (by omega)];rfl
   unfold futT
   simp only [k1,k2,List.drop_succ_cons,List.drop_zero,Bool.and_assoc]
 ·right
  refine ⟨h1,?_⟩
  unfold cutA at h2
  rw [hu] at h2
  generalize zaG (· ==46) t=x at*
  obtain ⟨a,b⟩:=x
  cases b with
  |nil=>rfl
  |cons y r=>simp at h2
theorem hex_no {l:List UInt8} {i k:Nat} (hk:k<i) (h1:1≤k) (hi:i≤l.length) (e:hexA (l[k]'(by omega))=false):((l.take i).drop 1).all hexA=false:=by
 refine List.all_eq_false.2 ⟨l[k]'(by omega),?_,by rw [e];decide⟩
 have:((l.take i).drop 1)[k - 1]'(by simp only [List.length_drop,List.length_take];omega)=l[k]'(by omega):=by
  rw [List.getElem_drop,List.getElem_take]
  congr 1;omega
 rw [←this]
 exact List.getElem_mem _
theorem zwM {l:List UInt8} {i:Nat} (hi:i≤l.length) (h: ∀k (hk:k<i),1≤k→hexA (l[k]'(by omega))=true):((l.take i).drop 1).all hexA=true:=by
 rw [List.all_eq_true]
 intro x hx
 obtain ⟨j,hj,rfl⟩:=List.getElem_of_mem hx
 simp only [List.length_drop,List.length_take] at hj
 rw [List.getElem_drop,List.getElem_take]
 exact h (1+j) (by omega) (by omega)
theorem zwG (r:List UInt8) (b:UInt8):(r.contains b=true∧0≤Lib.indexAny r [b])∨(r.contains b=false∧Lib.indexAny r [b]= -1):=by
 rcases zcN [b] r with ⟨_,h2,h3⟩|⟨i,hi,h1,_,h3⟩
 ·right
  refine ⟨?_,h2⟩
  rw [←Bool.not_eq_true,List.contains_iff_mem]
  intro hm
  have:=h3 b hm
  simp at this
 ·left
  refine ⟨?_,by rw [h1];omega⟩
  rw [List.contains_iff_mem]
  have e:r[i]=b:=by simpa using h3
  rw [←e]
  exact List.getElem_mem _
theorem zgX (l:List UInt8) (w:World) (hl:l.length≤1000000):
  Calls Tryz.prog 104 #[.string ⟨l.toArray⟩] w fun e w'=>e= .returned (.bool (zcM l))∧w=w':=by
 by_cases hnil:l=[]
 ·subst hnil
  go_enter Tryz.func104,Tryz.ntmps104
  go_wp2
  go_ret
  exact ⟨rfl,rfl⟩
 obtain ⟨c,t,hct⟩:=List.exists_cons_of_ne_nil hnil
 have hz:=zaA l
 have hlt:0<l.length:=by rw [hct];simp
 have hl0:((l.length:Int)==0)=false:=beq_eq_false_iff_ne.2 (by omega)
 have hat0:=zcG l 0 hlt
 rw [show l[0]=c from by simp only [hct,List.getElem_cons_zero]] at hat0
 have HFA:Hid (zcM l=((c==118||c==86)&&futT (zaG (· ==46) t))):=by show _=_;rw [hct];exact zgJ c t
 have HAT:=zxR (fut_at c t)
 rw [←hct] at HAT
 have HI:=zxR (fun W=>zcO l [46] W hl (by decide))
 have HVI:=zxR (fun (l:List UInt8) of W (h:l.length≤1000000) (h2:of.length≤1000000)=>zcA l of W h h2)
 have HFI:=zxR (fun (l:List UInt8) of W (h:l.length≤1000000) (h2:of.length≤1000000)=>zcO l of W h h2)
 have hc8:=c.toNat_lt
 generalize zcM l=res at*
 generalize futT (zaG (· ==46) t)=ft at*
 clear hct hnil
 by_cases hv:c=118∨c=86
 ·have e1:(c==118||c==86)=true:=by rcases hv with rfl|rfl<;>rfl
  rw [e1,Bool.true_and] at HFA
  have HA2:=zxR (HAT.out (by rcases hv with rfl|rfl<;>rfl))
  have hv2:((c.toNat:Int) !=118)=false∨(((c.toNat:Int) !=118)=true∧((c.toNat:Int) !=86)=false):=by
   rcases hv with rfl|rfl
   ·exact .inl (by decide)
   ·exact .inr (by decide)
  clear HAT hv e1
  rcases HA2.out with ⟨i,h1,h2,h3,h4⟩|⟨h3,h4⟩
  ·rw [h3] at HI
   have hs1:=zbZ l i h2
   have HQ:=zxR (zwG (l.drop (i+1)) 37)
   have hdl:(l.drop (i+1)).length≤1000000:=by rw [List.length_drop];omega
   have HIS:=zxR (fun W=>HVI.out (l.drop (i+1)) [58] W hdl (by decide))
   have HFR:=zxR (fun W=>HFI.out (l.drop (i+1)) [37] W hdl (by decide))
   have HR:=zxR (HFA.out.trans h4)
   have HNO:Hid (∀k (hl:k<l.length),k<i→1≤k→hexA l[k]=false→((l.take i).drop 1).all hexA=false):=fun k _ hk g e=>hex_no hk g (by omega) e
   have HYE:Hid ((∀k (hl:k<l.length),k<i→1≤k→hexA l[k]=true)→((l.take i).drop 1).all hexA=true):=fun h=>zwM (by omega) (fun k hk g=>h k (by omega) hk g)
   clear HA2 HFA h3 h4 HVI HFI hdl
   generalize l.drop (i+1)=r at*
   generalize ((l.take i).drop 1).all hexA=ha at*
   generalize isA [58] r=bi at*
   rcases hv2 with m1|⟨m1,m2⟩
   all_goals
    by_cases h2i:2≤i
    case neg=>
     have HF:Hid (res=false):=by show _=_;rw [HR.out,zxT h2i,Bool.false_and]
     go_enter Tryz.func104,Tryz.ntmps104
     go_wp2_with fail
     refine (HI.out _).mono ?_
     rintro e w' ⟨rfl,rfl⟩
     clear HR HNO HYE HQ HIS HFR hs1 HI
     go_wp2
     go_ret
     exact ⟨zaB HF.out.symm,rfl⟩
    case pos=>
    rw [zxU h2i,Bool.true_and] at HR
    by_cases h3i:i+1<l.length
    case neg=>
     have HF:Hid (res=false):=by show _=_;rw [HR.out,zxT h3i,Bool.false_and]
     go_enter Tryz.func104,Tryz.ntmps104
     go_wp2_with fail
     refine (HI.out _).mono ?_
     rintro e w' ⟨rfl,rfl⟩
     clear HR HNO HYE HQ HIS HFR hs1 HI
     go_wp2
     go_ret
     exact ⟨zaB HF.out.symm,rfl⟩
    case pos=>
    rw [zxU h3i,Bool.true_and] at HR
    go_enter Tryz.func104,Tryz.ntmps104
    go_wp2_with fail
    refine (HI.out _).mono ?_
    rintro e w' ⟨rfl,rfl⟩
    go_wp2
    go_loop [4] (fun v=> ∃k:Nat,1≤k∧k≤i∧v= .int .i64 k∧Hid (∀j (hj:j<l.length),1≤j→j<k→hexA l[j]=true)) (fun v=>i - (intOf v).toNat)
    case atStart=>exact ⟨1,zxS _,by omega,rfl,fun j _ _ h=>by omega⟩
    case round=>
     obtain ⟨k,hk1,hki,rfl,HK⟩:=hrel
     by_cases hkl:k<i
     ·have hkl2:k<l.length:=by omega
      obtain ⟨d,hd⟩: ∃d,l[k]=d:=⟨_,rfl⟩
      have hat:=zcG l k hkl2
      rw [hd] at hat
      have hd8:=d.toNat_lt
      have HV:=zxR (zbQ (d.toNat:Int))
      cases hb:hexA d with
      |true=>
       have HK2:Hid (∀j (hj:j<l.length),1≤j→j<k+1→hexA l[j]=true):=fun j hj g1 g2=>by
        by_cases g:j=k
        ·subst g;rw [hd];exact hb
        ·exact HK.out j hj g1 (by omega)
       have hv0:0≤valZ (d.toNat:Int):=by
        rw [←zdP] at hb
        exact of_decide_eq_true hb
       clear HK HR HNO HYE HQ HIS HFR hs1 HI hb hd
       go_wp2_with fail
       refine (HV.out _).mono ?_
       rintro e w' ⟨rfl,rfl⟩
       go_wp2
       exact ⟨⟨k+1,by omega,by omega,by go_num,HK2.out⟩,by simp [intOf];omega⟩
      |false=>
       have HF:Hid (res=false):=by show _=_;rw [HR.out,HNO.out k hkl2 hkl hk1 (by rw [hd];exact hb),Bool.false_and]
       have hv0:valZ (d.toNat:Int)<0:=by
        rw [←zdP] at hb
        exact Int.not_le.1 (of_decide_eq_false hb)
       clear HK HR HNO HYE HQ HIS HFR hs1 HI hb hd
       go_wp2_with fail
       refine (HV.out _).mono ?_
       rintro e w' ⟨rfl,rfl⟩
       go_wp2
       go_ret
       exact ⟨zaB HF.out.symm,rfl⟩
     ·have HA:=zxR (HYE.out (fun j hj g g2=>HK.out j hj g2 (by omega)))
      rw [HA.out,Bool.true_and] at HR
      obtain rfl:k=i:=by omega
      clear HK HNO HYE HA
      cases bi with
      |false=>
       have HF:=zxR (HR.out.trans (by rfl))
       clear HR HQ HFR
       go_wp2_with fail
       refine (HIS.out _).mono ?_
       rintro e w' ⟨rfl,rfl⟩
       go_wp2
       go_ret
       exact ⟨zaB HF.out.symm,rfl⟩
      |true=>
       rcases HQ.out with ⟨q1,q2⟩|⟨q1,q2⟩
       ·rw [q1] at HR
        have HF:Hid (res=false):=HR.out
        clear HR HQ q1
        generalize Lib.indexAny r [37]=ix at*
        go_wp2_with fail
        refine (HIS.out _).mono ?_
        rintro e w' ⟨rfl,rfl⟩
        go_wp2_with fail
        refine (HFR.out _).mono ?_
        rintro e w' ⟨rfl,rfl⟩
        go_wp2
        go_ret
        exact ⟨zaB (by rw [HF.out];exact zxT (by omega)),rfl⟩
       ·rw [q1] at HR
        rw [q2] at HFR
        have HF:=zxR (HR.out.trans (by rfl))
        clear HR HQ q1
        go_wp2_with fail
        refine (HIS.out _).mono ?_
        rintro e w' ⟨rfl,rfl⟩
        go_wp2_with fail
        refine (HFR.out _).mono ?_
        rintro e w' ⟨rfl,rfl⟩
        go_wp2
        go_ret
        exact ⟨zaB HF.out.symm,rfl⟩
  ·have HF:=zxR (HFA.out.trans h4)
   rw [h3] at HI
   clear HA2 HFA h3 h4 HVI HFI
   rcases hv2 with m1|⟨m1,m2⟩
   all_goals
    go_enter Tryz.func104,Tryz.ntmps104
    go_wp2_with fail
    refine (HI.out _).mono ?_
    rintro e w' ⟨rfl,rfl⟩
    go_wp2
    go_ret
    exact ⟨zaB HF.out.symm,rfl⟩
 ·have e1:(c==118||c==86)=false:=by
   rw [Bool.or_eq_false_iff,beq_eq_false_iff_ne,beq_eq_false_iff_ne]
   exact ⟨fun e=>hv (.inl e),fun e=>hv (.inr e)⟩
  rw [e1,Bool.false_and] at HFA
  have n1:c.toNat≠118:=fun e=>hv (.inl (UInt8.toNat_inj.1 e))
  have n2:c.toNat≠86:=fun e=>hv (.inr (UInt8.toNat_inj.1 e))
  have m1:((c.toNat:Int) !=118)=true:=bne_iff_ne.2 (by omega)
  have m2:((c.toNat:Int) !=86)=true:=bne_iff_ne.2 (by omega)
  clear n1 n2 HAT HI HVI HFI hv e1
  go_enter Tryz.func104,Tryz.ntmps104
  go_wp2
  go_ret
  exact ⟨zaB HFA.out.symm,rfl⟩
theorem zpF (l:List UInt8):(Lib.indexAny l [58,47]= -1∧((zaG (fun c=>c==58||c==47) l).2.head? !=some 58)=true)∨(∃(i:Nat) (h:i<l.length),Lib.indexAny l [58,47]=i∧((zaG (fun c=>c==58||c==47) l).2.head? !=some 58)=(l[i]==47)):=by
 have e:(fun c:UInt8=>c==58||c==47)=[58,47].contains:=by
  funext c
  rw [zbA]
  show _=((58==c)||((47==c)||false))
  rw [show (58==c)=(c==58) from BEq.comm,show (47==c)=(c==47) from BEq.comm,Bool.or_false]
 rw [e]
 rcases zcN [58,47] l with ⟨h1,h2,_⟩|⟨i,h,h1,h2,h3⟩
 ·left
  refine ⟨h2,?_⟩
  rw [h1];rfl
 ·right
  refine ⟨i,h,h1,?_⟩
  rw [h2]
  have h4:l[i]=58∨l[i]=47:=by simpa using h3
  simp only [List.head?_cons]
  rcases h4 with h4|h4<;>rw [h4]<;>rfl
theorem znM: ∀l:List UInt8,(∃c d,2≤l.length∧((l.take 2 !=[47,47])= !(c==47&&d==47))∧(∀h,(ByteArray.mk l.toArray)[0]'h=c)∧(∀h,(ByteArray.mk l.toArray)[1]'h=d))∨(l.length<2∧(l.take 2 !=[47,47])=true)
 |[]=> .inr ⟨by simp,rfl⟩
 |[c]=> .inr ⟨by simp,by rw [show List.take 2 [c]=[c] from rfl,bne_iff_ne];intro h;cases h⟩
 |c::d::t=> .inl ⟨c,d,by simp,by rw [show List.take 2 (c::d::t)=[c,d] from rfl];simp only [bne,List.cons_beq_cons,BEq.rfl,Bool.and_true],fun h=>rfl,fun h=>rfl⟩
theorem zjN (c d:UInt8):((c.toNat:Int)==(d.toNat:Int))=(c==d):=by
 rw [Bool.eq_iff_iff,beq_iff_eq,beq_iff_eq]
 constructor
 ·intro h;exact UInt8.toNat_inj.1 (by omega)
 ·intro h;rw [h]
theorem zjD (l:List UInt8) (hs ha:Bool) (w:World) (hl:l.length≤1000000):
  Calls Tryz.prog 48 #[.string ⟨l.toArray⟩,.bool hs,.bool ha] w fun e w'=>e= .returned (.bool (zgI l hs ha))∧w=w':=by
 have hz:=zaA l
 have HIS:=zxR (fun W=>zcA l [58,64,47] W hl (by decide))
 have HFI:=zxR (fun W=>zcO l [58,47] W hl (by decide))
 have HR:Hid (zgI l hs ha=(isA [58,64,47] l&&(if ha then l.isEmpty||l.head? ==some 47 else (l.take 2 !=[47,47])&&(hs||(zaG (fun c=>c==58||c==47) l).2.head? !=some 58)))):=rfl
 have HPF:=zxR (zpF l)
 generalize zgI l hs ha=res at*
 generalize ((zaG (fun c=>c==58||c==47) l).2.head? !=some 58)=bu at*
 generalize isA [58,64,47] l=bi at*
 cases bi with
 |false=>
  have HF:Hid (res=false):=HR.out
  clear HR HFI HPF
  go_enter Tryz.func48,Tryz.ntmps48
  go_wp2_with fail
  refine (HIS.out _).mono ?_
  rintro e w' ⟨rfl,rfl⟩
  go_wp2
  go_ret
  exact ⟨zaB HF.out.symm,rfl⟩
 |true=>
 rw [Bool.true_and] at HR
 cases ha with
 |true=>
  clear HFI HPF
  rw [if_pos rfl] at HR
  cases l with
  |nil=>
   have HF:Hid (res=true):=HR.out
   clear HR
   go_enter Tryz.func48,Tryz.ntmps48
   go_wp2_with fail
   refine (HIS.out _).mono ?_
   rintro e w' ⟨rfl,rfl⟩
   go_wp2
   go_ret
   exact ⟨zaB HF.out.symm,rfl⟩
  |cons c t=>
   have HF:Hid (res=(c==47)):=by show _=_;rw [HR.out];simp
   have hat:=zcG (c::t) 0 (by simp)
   rw [show (c::t)[0]=c from rfl] at hat
   have hne:((c::t)==[])=false:=rfl
   have hc:=zjN c 47
   have hc8:=c.toNat_lt
   clear HR
   go_enter Tryz.func48,Tryz.ntmps48
   go_wp2_with fail
   refine (HIS.out _).mono ?_
   rintro e w' ⟨rfl,rfl⟩
   go_wp2
   go_ret
   exact ⟨zaB (by rw [HF.out];exact hc),rfl⟩
 |false=>
  rw [if_neg (by decide)] at HR
  have hsh:=znM l
  rcases hsh with ⟨c,d,h2,ht,g0,g1⟩|⟨h2,ht⟩
  ·have hat0:=g0 (by rw [hz];omega)
   have hat1:=g1 (by rw [hz];omega)
   have q0:((c.toNat:Int)==47)=(c==47):=zjN c 47
   have q1:((d.toNat:Int)==47)=(d==47):=zjN d 47
   have hc8:=c.toNat_lt
   have hd8:=d.toNat_lt
   rw [ht] at HR
   clear g0 g1 ht
   generalize (c==47)=b0 at*
   generalize (d==47)=b1 at*
   rcases (show (b0=true∧b1=true)∨b0=false∨(b0=true∧b1=false) from by cases b0<;>cases b1<;>simp) with ⟨rfl,rfl⟩|rfl|⟨rfl,rfl⟩
   case inl=>
    have HF:Hid (res=false):=HR.out
    clear HR HFI HPF
    go_enter Tryz.func48,Tryz.ntmps48
    go_wp2_with fail
    refine (HIS.out _).mono ?_
    rintro e w' ⟨rfl,rfl⟩
    go_wp2
    go_ret
    exact ⟨zaB HF.out.symm,rfl⟩
   all_goals
    have HF:Hid (res=(hs||bu)):=HR.out
    clear HR
    rcases HPF.out with ⟨p1,p2⟩|⟨i,hi,p1,p2⟩
    ·rw [p1] at HFI
     have HG:Hid (res=true):=by show _=_;rw [HF.out,p2,Bool.or_true]
     clear HPF HF p1 p2
     cases hs
     all_goals
      go_enter Tryz.func48,Tryz.ntmps48
      go_wp2_with fail
      refine (HIS.out _).mono ?_
      rintro e w' ⟨rfl,rfl⟩
      go_wp2_with fail
      refine (HFI.out _).mono ?_
      rintro e w' ⟨rfl,rfl⟩
      go_wp2
      go_ret
      exact ⟨zaB HG.out.symm,rfl⟩
    ·rw [p1] at HFI
     have hati:=zcG l i hi
     have q2:(((l[i]).toNat:Int)==47)=(l[i]==47):=zjN l[i] 47
     rw [p2] at HF
     generalize l[i]=x at*
     have hx8:=x.toNat_lt
     clear HPF p1 p2
     cases hs
     all_goals
      go_enter Tryz.func48,Tryz.ntmps48
      go_wp2_with fail
      refine (HIS.out _).mono ?_
      rintro e w' ⟨rfl,rfl⟩
      go_wp2_with fail
      refine (HFI.out _).mono ?_
      rintro e w' ⟨rfl,rfl⟩
      go_wp2
      go_ret
      exact ⟨zaB (by rw [HF.out];first|rfl|(rw [Bool.false_or];exact q2)),rfl⟩
  ·rw [ht,Bool.true_and] at HR
   have HF:Hid (res=(hs||bu)):=HR.out
   clear HR ht
   rcases HPF.out with ⟨p1,p2⟩|⟨i,hi,p1,p2⟩
   ·rw [p1] at HFI
    have HG:Hid (res=true):=by show _=_;rw [HF.out,p2,Bool.or_true]
    clear HPF HF p1 p2
    cases hs
    all_goals
     go_enter Tryz.func48,Tryz.ntmps48
     go_wp2_with fail
     refine (HIS.out _).mono ?_
     rintro e w' ⟨rfl,rfl⟩
     go_wp2_with fail
     refine (HFI.out _).mono ?_
     rintro e w' ⟨rfl,rfl⟩
     go_wp2
     go_ret
     exact ⟨zaB HG.out.symm,rfl⟩
   ·rw [p1] at HFI
    have hati:=zcG l i hi
    have q2:(((l[i]).toNat:Int)==47)=(l[i]==47):=zjN l[i] 47
    rw [p2] at HF
    generalize l[i]=x at*
    have hx8:=x.toNat_lt
    clear HPF p1 p2
    cases hs
    all_goals
     go_enter Tryz.func48,Tryz.ntmps48
     go_wp2_with fail
     refine (HIS.out _).mono ?_
     rintro e w' ⟨rfl,rfl⟩
     go_wp2_with fail
     refine (HFI.out _).mono ?_
     rintro e w' ⟨rfl,rfl⟩
     go_wp2
     go_ret
     exact ⟨zaB (by rw [HF.out];first|rfl|(rw [Bool.false_or];exact q2)),rfl⟩
theorem zsA (t:List UInt8) (n:Nat) (x:UInt8) (hn:t.length=n+1) (hx: ∀h:n<t.length,t[n]=x):(t.getLast? ==some 93)=(x==93)∧t.dropLast=t.take n:=by
 rcases List.eq_nil_or_concat t with rfl|⟨q,y,rfl⟩
 ·simp at hn
 ·rw [List.concat_eq_append] at*
  simp only [List.length_append,List.length_cons,List.length_nil] at hn
  obtain rfl:q.length=n:=by omega
  have:=hx (by simp)
  rw [List.getElem_append_right (by omega)] at this
  simp only [Nat.sub_self,List.getElem_cons_zero] at this
  rw [this,List.getLast?_concat,List.dropLast_concat,List.take_left']
  ·exact ⟨by simp,rfl⟩
  ·rfl
theorem zqF (l:List UInt8) (n:Nat) (hb:n+1≤l.length): ∀W,(Instr.slice 9 (.string ⟨l.toArray⟩) (some (.int .i64 1)) (some (.int .i64 ((n:Int)+2 - 1))) none).run Tryz.prog W= .ok (.string ⟨((l.take (n+1)).drop 1).toArray⟩) W:=fun W=>by
 rw [zkJ W 9 _ (1:Int) ((n:Int)+2 - 1) 1 (n+1) rfl (by omega) (by omega) (by rw [zaA];exact hb) Tryz.underlying9]
 have:(ByteArray.mk l.toArray).extract 1 (n+1)=⟨((l.take (n+1)).drop 1).toArray⟩:=by
  apply ByteArray.ext;simp [List.drop_take]
 rw [this]
theorem zjR (l:List UInt8) (w:World) (hl:l.length≤1000000):
  Calls Tryz.prog 46 #[.string ⟨l.toArray⟩] w (zbH w (zbR sixB l)):=by
 have HIS:=zxR (fun W=>zcA l [] W hl (by decide))
 by_cases hnil:l=[]
 ·subst hnil
  have HF:Hid (zbR sixB []=isA [] []):=rfl
  rw [←HF.out] at HIS
  generalize zbR sixB []=res at*
  go_enter Tryz.func46,Tryz.ntmps46
  go_wp2_with fail
  refine (HIS.out _).mono ?_
  rintro e w' ⟨rfl,rfl⟩
  go_wp2
  go_ret
  exact ⟨rfl,zxV _ _⟩
 obtain ⟨c,t,hct⟩:=List.exists_cons_of_ne_nil hnil
 have hz:=zaA l
 have hlt:0<l.length:=by rw [hct];simp
 have hl0:((l.length:Int)==0)=false:=beq_eq_false_iff_ne.2 (by omega)
 have hat0:=zcG l 0 hlt
 rw [show l[0]=c from by simp only [hct,List.getElem_cons_zero]] at hat0
 have hc8:=c.toNat_lt
 by_cases h91:c=91
 ·subst h91
  clear HIS
  by_cases ht:t=[]
  ·subst ht
   subst hct
   have HF:Hid (zbR sixB [91]=false):=by show _=_;unfold zbR;simp
   generalize zbR sixB [91]=res at*
   go_enter Tryz.func46,Tryz.ntmps46
   go_wp2
   go_ret
   exact ⟨by rw [HF.out];rfl,zxV _ _⟩
  ·obtain ⟨n,hn⟩: ∃n,t.length=n+1:=⟨t.length - 1,by have:=List.length_pos_iff.2 ht;omega⟩
   have hll:l.length=n+2:=by rw [hct,List.length_cons,hn]
   obtain ⟨x,hx⟩: ∃x,t[n]'(by omega)=x:=⟨_,rfl⟩
   obtain ⟨e1,e2⟩:=zsA t n x hn (fun _=>hx)
   have hatn:=zcG l (n+1) (by omega)
   rw [show l[n+1]'(by omega)=x from by simp only [hct,List.getElem_cons_succ];exact hx] at hatn
   have hs1:=zqF l n (by omega)
   have hin:(l.take (n+1)).drop 1=t.take n:=by rw [hct];simp
   rw [hin] at hs1
   have hq:((x.toNat:Int) !=93)= !(x==93):=congrArg not (zjN x 93)
   have hx8:=x.toNat_lt
   have HR:Hid (zbR sixB l=((x==93)&&(sixB (t.take n)||zcM (t.take n)))):=by show _=_;rw [hct,←e1,←e2];rfl
   have htl:(t.take n).length≤1000000:=by rw [List.length_take];omega
   have H6:=zxR (fun W=>zjC ⟨(t.take n).toArray⟩ W (by rw [zaA];omega))
   rw [zaH] at H6
   have HFU:=zxR (fun W=>zgX (t.take n) W htl)
   unfold sixB at HR ⊢
   clear e1 e2 hx hin htl hnil hct hn ht
   generalize t.take n=r at*
   generalize zcM r=bf at*
   generalize zbR (fun l=>(sixZ l).2) l=res at*
   generalize sixZ r=z at*
   obtain ⟨⟨hi,lo⟩,bk⟩:=z
   simp only at HR
   rw [hll] at hz hl0
   cases hb:(x==93) with
   |false=>
    rw [hb,Bool.not_false] at hq
    rw [hb] at HR
    have HF:Hid (res=false):=HR.out
    clear HR H6 HFU hs1 hb
    go_enter Tryz.func46,Tryz.ntmps46
    go_wp2
    go_ret
    exact ⟨zaB HF.out.symm,zxV _ _⟩
   |true=>
    rw [hb,Bool.true_and] at HR
    rw [hb,Bool.not_true] at hq
    have hlt2:decide ((n:Int)+2<2)=false:=zxT (by omega)
    clear hb
    go_enter Tryz.func46,Tryz.ntmps46
    go_wp2_with fail
    refine (H6.out _).mono ?_
    rintro e x1 ⟨rfl,hx1⟩
    cases bk with
    |true=>
     have HF:Hid (res=true):=HR.out
     clear HR H6 HFU hs1
     go_wp2
     go_ret
     exact ⟨zaB HF.out.symm,hx1⟩
    |false=>
     have HF:Hid (res=bf):=HR.out
     clear HR H6 hs1
     go_wp2_with fail
     refine (HFU.out _).mono ?_
     rintro e x2 ⟨rfl,rfl⟩
     go_wp2
     go_ret
     exact ⟨zaB HF.out.symm,hx1⟩
 ·have HF:Hid (zbR sixB l=isA [] l):=zhG sixB (by rw [hct];simpa using h91)
  rw [←HF.out] at HIS
  have hb:((c.toNat:Int) !=91)=true:=bne_iff_ne.2 (fun e=>h91 (UInt8.toNat_inj.1 (show c.toNat=91 by omega)))
  clear HF hct hnil h91
  generalize zbR sixB l=res at*
  go_enter Tryz.func46,Tryz.ntmps46
  go_wp2_with fail
  refine (HIS.out _).mono ?_
  rintro e w' ⟨rfl,rfl⟩
  go_wp2
  go_ret
  exact ⟨rfl,zxV _ _⟩
theorem ztJ (s:List UInt8):(2≤s.length∧(zcY s).2.1=true∧(∀h,(ByteArray.mk s.toArray)[0]'h=47)∧(∀h,(ByteArray.mk s.toArray)[1]'h=47)∧zcY s=((zaG (· ==47) (s.drop 2)).2,true,zeA (zaG (· ==47) (s.drop 2)).1))∨((s.length<2∨ ∃c d,2≤s.length∧(c==47&&d==47)=false∧(∀h,(ByteArray.mk s.toArray)[0]'h=c)∧(∀h,(ByteArray.mk s.toArray)[1]'h=d))∧zcY s=(s,false,(false,[],[],false,[]))):=by
 rcases znM s with ⟨c,d,h2,ht,g0,g1⟩|⟨h2,_⟩
 ·match s,h2,g0,g1 with
  |a::b::t,_,g0,g1=>
   obtain rfl:a=c:=g0 (by simp [ByteArray.size])
   obtain rfl:b=d:=g1 (by simp [ByteArray.size])
   by_cases h:(a==47&&b==47)=true
   ·left
    rw [Bool.and_eq_true,beq_iff_eq,beq_iff_eq] at h
    obtain ⟨rfl,rfl⟩:=h
    exact ⟨by simp,rfl,fun _=>rfl,fun _=>rfl,rfl⟩
   ·right
    have h:=Bool.not_eq_true _▸h
    refine ⟨.inr ⟨a,b,by simp,h,g0,g1⟩,?_⟩
    unfold zcY
    split
    ·rename_i e
     injection e with e1 e2
     injection e2 with e2 e3
     subst e1 e2
     cases h
    ·rfl
 ·right
  refine ⟨.inl h2,?_⟩
  match s,h2 with
  |[],_=>rfl
  |[a],_=>
   unfold zcY
   split
   ·rename_i e
    injection e with e1 e2
    cases e2
   ·rfl
theorem zuO (a:List UInt8):(∃i:Nat,i<a.length∧Lib.indexAny a [47]=i∧zaG (· ==47) a=(a.take i,a.drop i))∨(Lib.indexAny a [47]= -1∧zaG (· ==47) a=(a,[])):=by
 have e:(fun c:UInt8=>c==47)=[47].contains:=by
  funext c
  rw [zbA]
  show _=((47==c)||false)
  rw [show (47==c)=(c==47) from BEq.comm,Bool.or_false]
 rw [show zaG (· ==47) a=zaG [47].contains a from by rw [←e]]
 have hs:=zcT [47].contains a
 rcases zcN [47] a with ⟨h1,h2,_⟩|⟨i,h,h1,h2,h3⟩
 ·right
  refine ⟨h2,?_⟩
  rw [h1,List.append_nil] at hs
  exact Prod.ext hs.symm h1
 ·left
  refine ⟨i,h,h1,?_⟩
  rw [h2,List.drop_eq_getElem_cons h]
theorem zhF (l:List UInt8) (w:World) (hbig:4096<l.length):
  Calls Tryz.prog 12 #[.string ⟨l.toArray⟩] w (zbV w (zbK sixB l)):=by
 have hz:=zaA l
 have hR0:=PB.new 28 w zaI
 have hb0:Below w.heap.size w (w.alloc (.cells zaI.cells 28)):=(zxV _ w).alloc (zxS _) _
 have HF:Hid (zbK sixB l=(zaI,3)):=by show _=_;unfold zbK;rw [if_pos hbig]
 obtain ⟨x0,hx0⟩: ∃y,y=w.alloc (.cells zaI.cells 28):=⟨_,rfl⟩
 rw [←hx0] at hR0 hb0
 dsimp only [zaI,PZ.cells] at hx0
 have HR0:=zxR hR0
 have HB0:=zxR hb0
 generalize hW:w.heap.size=R at*
 clear hR0 hb0
 go_enter Tryz.func12,Tryz.ntmps12
 go_upto_region 2 with fail
 rw [←hx0]
 clear hx0
 obtain ⟨r0,r1,r2,r3,r4,r5,r6,r7,r8,r9,r10,r11,r12⟩:=HR0.out.all
 have rf:=HR0.out.frozen
 have hEB:=zaX HB0.out (zxS _) zaI
 have hEC:=zaZ HR0.out zaI _ rfl
 unfold zbW at hEB hEC
 have HEB:=zxR hEB
 have HEC:=zxR hEC
 dsimp only [zaI,PZ.cells] at r0 r1 r2 r3 r4 r5 r6 r7 r8 r9 r10 r11 r12 HEB HEC
 clear hEB hEC
 go_wp2
 obtain ⟨e0,e1,e2,e3,e4,e5,e6,e7,e8,e9,e10,e11,e12⟩:=HEC.out
 refine bodyPost_ret (v:= .tuple #[.agg zaI.cells,.int .i64 3]) (by simp [results,Tryz.results12,go_sem,e0,e1,e2,e3,e4,e5,e6,e7,e8,e9,e10,e11,e12,zaI,PZ.cells]) rfl ?_
 unfold zbV
 rw [HF.out,hW]
 exact ⟨rfl,HEB.out⟩
theorem ziA (l:List UInt8) (w:World):
  Calls Tryz.prog 12 #[.string ⟨l.toArray⟩] w (zbV w (zbK sixB l)):=by
 by_cases hbig:4096<l.length
 ·exact zhF l w hbig
 have hz:=zaA l
 have hl:l.length≤4096:=by omega
 have HS0:Hid (ST 28 w ((w.alloc (.cells zaI.cells 28)).alloc (.cells zaI.cells 28)) w.heap.size (w.heap.size+1) zaI):=ST.first _ w
 have hs13:(w.alloc (.cells zaI.cells 28)).heap.size=w.heap.size+1:=by simp
 have HFI:=zxR (fun (l of:List UInt8) W (h:l.length≤1000000) (h2:of.length≤1000000)=>zcO l of W h h2)
 have HSC:=zxR (fun (l:List UInt8) W (h:l.length≤1000000)=>zgV l W h)
 have hAT:=ziP l
 obtain ⟨sb,sn,s1,hsa⟩: ∃b n s,zaJ l=(b,n,s):=⟨_,_,_,rfl⟩
 rw [hsa] at hAT
 obtain ⟨x0,hx0⟩: ∃y,y=(w.alloc (.cells zaI.cells 28)).alloc (.cells zaI.cells 28):=⟨_,rfl⟩
 rw [←hx0] at HS0
 dsimp only [zaI,PZ.cells] at hx0 hs13
 have HI:=zxR (HFI.out l [58,47,63,35] x0 (by omega) (by decide))
 generalize Lib.indexAny l [58,47,63,35]=ix at*
 go_enter Tryz.func12,Tryz.ntmps12
 go_upto_region 4 with fail
 rw [←hx0]
 clear hx0 hs13
 go_wp2_with fail
 refine HI.out.mono ?_
 rintro e w' ⟨rfl,rfl⟩
 go_upto_region 5 with fail
 go_cut [21] (fun v wc=>v= .bool sb∧wc=x0)
 case first=>
  as_aux_lemma=>
   rcases hAT with ⟨i,hi,a1,a2,a3⟩|⟨a3,a1|⟨i,hi,a1,a2⟩⟩
   ·obtain ⟨rfl,-,-⟩:sb=true∧sn=l.take i∧s1=l.drop (i+1):=by simpa using a3
    have hat:=zcG l i hi
    rw [a2] at hat
    subst a1
    go_wp2
    go_meet
    exact ⟨rfl,rfl⟩
   ·obtain ⟨rfl,-,-⟩:sb=false∧sn=[]∧s1=l:=by simpa using a3
    subst a1
    go_wp2
    go_meet
    exact ⟨rfl,rfl⟩
   ·obtain ⟨rfl,-,-⟩:sb=false∧sn=[]∧s1=l:=by simpa using a3
    have hat:=zcG l i hi
    have hq:(((l[i]).toNat:Int)==58)=(l[i]==58):=zjN l[i] 58
    rw [beq_eq_false_iff_ne.2 a2] at hq
    subst a1
    generalize l[i]=c at*
    have hc8:=c.toNat_lt
    go_wp2
    go_meet
    exact ⟨rfl,rfl⟩
 case rest=>
  obtain ⟨rfl,rfl⟩:=hcut
  go_upto_if 21 with fail
  by_cases herr:sb=true∧zbF sn=false
  ·obtain ⟨rfl,hok⟩:=herr
   rcases hAT with ⟨i,hi,a1,a2,a3⟩|⟨a3,a1⟩
   ·obtain ⟨e1,e2⟩:sn=l.take i∧s1=l.drop (i+1):=by simpa using a3
    subst a1
    have t1:=zfA l i (by omega)
    have t2:=zbZ l i hi
    rw [←e1] at t1
    rw [←e2] at t2
    obtain ⟨v1,v2,c0,f0,c1,f1⟩:=HS0.out.st 0 1 (.string ⟨sn.toArray⟩) (by decide) (by decide)
    have HS1:Hid (ST 28 w ((wc.setCell ⟨w.heap.size+1,0,none⟩ (.string ⟨sn.toArray⟩)).setCell ⟨w.heap.size+1,1,none⟩ (.bool true)) w.heap.size (w.heap.size+1) {zaI with scheme:=sn,hasS:=true}):=(HS0.out.set 0 (.string ⟨sn.toArray⟩) (q:={zaI with scheme:=sn}) rfl).set 1 (.bool true) rfl
    have d0:=HS1.out.row.all.1
    have hsn:sn.length≤1000000:=by rw [e1,List.length_take];omega
    have HSX:=zxR (fun W=>HSC.out sn W hsn)
    rw [hok] at HSX
    have HF:Hid (zbK sixB l=(zaI,5)):=by
     show _=_
     unfold zbK
     have h1:(zbG l).hasS=true:=by unfold zbG;rw [hsa]
     have h2:(zbG l).scheme=sn:=by unfold zbG;rw [hsa]
     rw [if_neg hbig,h1,h2,hok]
     rfl
    generalize zbK sixB l=res at*
    simp only at d0
    clear e1 e2 hok a2 a3 hsn HSC HFI HI HS0 hsa
    go_wp2_with fail
    refine (HSX.out _).mono ?_
    rintro e w' ⟨rfl,rfl⟩
    clear t1 t2 c0 f0 c1 f1 d0
    obtain ⟨x1,hx1⟩: ∃y,y=(wc.setCell ⟨w.heap.size+1,0,none⟩ (.string ⟨sn.toArray⟩)).setCell ⟨w.heap.size+1,1,none⟩ (.bool true):=⟨_,rfl⟩
    rw [←hx1] at HS1 ⊢
    clear hx1
    obtain ⟨r0,r1,r2,r3,r4,r5,r6,r7,r8,r9,r10,r11,r12⟩:=HS1.out.res.all
    have rf:=HS1.out.res.frozen
    have hEB:=zaX HS1.out.below HS1.out.hR zaI
    have hEC:=zaZ HS1.out.res zaI _ rfl
    unfold zbW at hEB hEC
    have HEB:=zxR hEB
    have HEC:=zxR hEC
    clear hEB hEC HS1
    dsimp only [zaI] at HEB HEC
    go_wp2
    obtain ⟨e0,e1,e2,e3,e4,e5,e6,e7,e8,e9,e10,e11,e12⟩:=HEC.out
    refine bodyPost_ret (v:= .tuple #[.agg (PZ.cells zaI),.int .i64 5]) (by simp [results,Tryz.results12,go_sem,e0,e1,e2,e3,e4,e5,e6,e7,e8,e9,e10,e11,e12,zaI,PZ.cells]) rfl ?_
    unfold zbV
    rw [HF.out]
    exact ⟨rfl,HEB.out⟩
   ·simp at a3
  go_cut [0] (fun sv wc=>sv= .string ⟨s1.toArray⟩∧Hid (ST 28 w wc w.heap.size (w.heap.size+1) {zaI with scheme:=sn,hasS:=sb}))
  case first=>
   as_aux_lemma=>
    rcases hAT with ⟨i,hi,a1,a2,a3⟩|⟨a3,a1⟩
    ·obtain ⟨rfl,e1,e2⟩:sb=true∧sn=l.take i∧s1=l.drop (i+1):=by simpa using a3
     subst a1
     have t1:=zfA l i (by omega)
     have t2:=zbZ l i hi
     rw [←e1] at t1
     rw [←e2] at t2
     obtain ⟨v1,v2,c0,f0,c1,f1⟩:=HS0.out.st 0 1 (.string ⟨sn.toArray⟩) (by decide) (by decide)
     have HS1:Hid (ST 28 w ((wc.setCell ⟨w.heap.size+1,0,none⟩ (.string ⟨sn.toArray⟩)).setCell ⟨w.heap.size+1,1,none⟩ (.bool true)) w.heap.size (w.heap.size+1) {zaI with scheme:=sn,hasS:=true}):=(HS0.out.set 0 (.string ⟨sn.toArray⟩) (q:={zaI with scheme:=sn}) rfl).set 1 (.bool true) rfl
     have d0:=HS1.out.row.all.1
     have hsn:sn.length≤1000000:=by rw [e1,List.length_take];omega
     have HSX:=zxR (fun W=>HSC.out sn W hsn)
     have hok:zbF sn=true:=by
      cases h:zbF sn with
      |true=>rfl
      |false=>exact absurd ⟨rfl,h⟩ herr
     rw [hok] at HSX
     simp only at d0
     clear e1 e2 hok herr a2 a3 hsn HSC HFI HI HS0
     go_wp2_with fail
     refine (HSX.out _).mono ?_
     rintro e w' ⟨rfl,rfl⟩
     go_wp2
     go_meet
     exact ⟨rfl,HS1⟩
    ·obtain ⟨rfl,rfl,rfl⟩:sb=false∧sn=[]∧s1=l:=by simpa using a3
     go_wp2
     go_meet
     exact ⟨rfl,HS0⟩
  case rest=>
   obtain ⟨rfl,HS1⟩:=hcut
   have hLS:=zfE l
   rw [hsa] at hLS
   simp only at hLS
   clear hAT HI HSC HS0
   have HSC:=trivial
   obtain ⟨s2,fb,fr,hc1⟩: ∃a b c,cutA 35 s1=(a,b,c):=⟨_,_,_,rfl⟩
   have hAF:=zjQ 35 s1
   have hLF:=zcF 35 s1
   rw [hc1] at hAF hLF
   simp only at hLF
   have HI:=zxR (fun W=>HFI.out s1 [35] W (by omega) (by decide))
   generalize Lib.indexAny s1 [35]=ix1 at*
   go_wp2_with fail
   refine (HI.out _).mono ?_
   rintro e w' ⟨rfl,rfl⟩
   go_upto_if 39 with fail
   go_cut [0] (fun sv wc=>sv= .string ⟨s2.toArray⟩∧Hid (ST 28 w wc w.heap.size (w.heap.size+1) {zaI with scheme:=sn,hasS:=sb,frag:=fr,hasF:=fb}))
   case first=>
    as_aux_lemma=>
     rcases hAF with ⟨i,hi,a1,a2⟩|⟨a1,a2⟩
     ·obtain ⟨e1,rfl,e2⟩:s2=s1.take i∧fb=true∧fr=s1.drop (i+1):=by simpa using a2
      subst a1
      have t1:=zfA s1 i (by omega)
      have t2:=zbZ s1 i hi
      rw [←e1] at t1
      rw [←e2] at t2
      obtain ⟨v1,v2,c0,f0,c1,f1⟩:=HS1.out.st 11 12 (.string ⟨fr.toArray⟩) (by decide) (by decide)
      have HN:Hid (ST 28 w ((wc.setCell ⟨w.heap.size+1,11,none⟩ (.string ⟨fr.toArray⟩)).setCell ⟨w.heap.size+1,12,none⟩ (.bool true)) w.heap.size (w.heap.size+1) {zaI with scheme:=sn,hasS:=sb,frag:=fr,hasF:=true}):=(HS1.out.set 11 (.string ⟨fr.toArray⟩) (q:={zaI with scheme:=sn,hasS:=sb,frag:=fr}) rfl).set 12 (.bool true) rfl
      clear e1 e2 a2 HI HFI HSC HS1 hLF
      go_wp2
      go_meet
      exact ⟨rfl,HN⟩
     ·obtain ⟨rfl,rfl,rfl⟩:s2=s1∧fb=false∧fr=[]:=by simpa using a2
      subst a1
      go_wp2
      go_meet
      exact ⟨rfl,HS1⟩
   case rest=>
    obtain ⟨rfl,HS2⟩:=hcut
    clear HS1 hAF
    obtain ⟨s3,qb,qr,hc2⟩: ∃a b c,cutA 63 s2=(a,b,c):=⟨_,_,_,rfl⟩
    have hAF:=zjQ 63 s2
    have hLF:=zcF 63 s2
    rw [hc2] at hAF hLF
    simp only at hLF
    have HI:=zxR (fun W=>HFI.out s2 [63] W (by omega) (by decide))
    generalize Lib.indexAny s2 [63]=ix2 at*
    go_wp2_with fail
    refine (HI.out _).mono ?_
    rintro e w' ⟨rfl,rfl⟩
    go_upto_if 52 with fail
    go_cut [0] (fun sv wc=>sv= .string ⟨s3.toArray⟩∧Hid (ST 28 w wc w.heap.size (w.heap.size+1) {zaI with scheme:=sn,hasS:=sb,frag:=fr,hasF:=fb,query:=qr,hasQ:=qb}))
    case first=>
     as_aux_lemma=>
      rcases hAF with ⟨i,hi,a1,a2⟩|⟨a1,a2⟩
      ·obtain ⟨e1,rfl,e2⟩:s3=s2.take i∧qb=true∧qr=s2.drop (i+1):=by simpa using a2
       subst a1
       have t1:=zfA s2 i (by omega)
       have t2:=zbZ s2 i hi
       rw [←e1] at t1
       rw [←e2] at t2
       obtain ⟨v1,v2,c0,f0,c1,f1⟩:=HS2.out.st 9 10 (.string ⟨qr.toArray⟩) (by decide) (by decide)
       have HN:Hid (ST 28 w ((wc.setCell ⟨w.heap.size+1,9,none⟩ (.string ⟨qr.toArray⟩)).setCell ⟨w.heap.size+1,10,none⟩ (.bool true)) w.heap.size (w.heap.size+1) {zaI with scheme:=sn,hasS:=sb,frag:=fr,hasF:=fb,query:=qr,hasQ:=true}):=(HS2.out.set 9 (.string ⟨qr.toArray⟩) (q:={zaI with scheme:=sn,hasS:=sb,frag:=fr,hasF:=fb,query:=qr}) rfl).set 10 (.bool true) rfl
       clear e1 e2 a2 HI HFI HSC HS2 hLF
       go_wp2
       go_meet
       exact ⟨rfl,HN⟩
      ·obtain ⟨rfl,rfl,rfl⟩:s3=s2∧qb=false∧qr=[]:=by simpa using a2
       subst a1
       go_wp2
       go_meet
       exact ⟨rfl,HS2⟩
    case rest=>
     obtain ⟨rfl,HS3⟩:=hcut
     clear HS2 hAF
     obtain ⟨s4,ha,hu,us,ho,hp,po,hh⟩: ∃a b c d e f g,zcY s3=(a,b,(c,d,e,f,g)):=⟨_,_,_,_,_,_,_,rfl⟩
     have hHP:=ztJ s3
     rw [hh] at hHP
     go_upto_region 22 with fail
     go_cut [74] (fun v wc2=>v= .bool ha∧wc2=wc)
     case first=>
      as_aux_lemma=>
       rcases hHP with ⟨h2,rfl,a0,a1,-⟩|⟨a0,a1⟩
       ·go_wp2
        go_meet
        exact ⟨rfl,rfl⟩
       ·obtain rfl:ha=false:=congrArg (fun x=>x.2.1) a1
        rcases a0 with a0|⟨c,d,h2,hcd,g0,g1⟩
        ·go_wp2
         go_meet
         exact ⟨rfl,rfl⟩
        ·have hz3:=zaA s3
         have hat0:=g0 (by rw [hz3];omega)
         have hat1:=g1 (by rw [hz3];omega)
         have q0:((c.toNat:Int)==47)=(c==47):=zjN c 47
         have q1:((d.toNat:Int)==47)=(d==47):=zjN d 47
         have hc8:=c.toNat_lt
         have hd8:=d.toNat_lt
         clear g0 g1 a1
         generalize (c==47)=b0 at*
         generalize (d==47)=b1 at*
         rcases (show b0=false∨(b0=true∧b1=false) from by revert hcd;cases b0<;>cases b1<;>simp) with rfl|⟨rfl,rfl⟩
         all_goals
          go_wp2
          go_meet
          exact ⟨rfl,rfl⟩
     case rest=>
      obtain ⟨rfl,rfl⟩:=hcut
      go_upto_if 74 with fail
      go_cut [0,6] (fun sv bv wc=>sv= .string ⟨s4.toArray⟩∧bv= .bool (isA [58] us&&(zbR sixB ho&&po.all zbC))∧Hid (ST 28 w wc w.heap.size (w.heap.size+1) {zaI with scheme:=sn,hasS:=sb,frag:=fr,hasF:=fb,query:=qr,hasQ:=qb,hasA:=ha,user:=us,hasU:=hu,host:=ho,port:=po,hasP:=hp}))
      case first=>
       as_aux_lemma=>
        rcases hHP with ⟨h2,e0,-,-,a2⟩|⟨-,a1⟩
        ·obtain rfl:ha=true:=e0
         have hL3:=hLF
         have hdl:(s3.drop 2).length≤s3.length:=by rw [List.length_drop];omega
         have t0: ∀W,(Instr.slice 9 (.string ⟨s3.toArray⟩) (some (.int .i64 2)) none none).run Tryz.prog W= .ok (.string ⟨(s3.drop 2).toArray⟩) W:=zfW s3 2 h2
         obtain ⟨v1,-,c0,f0,-⟩:=HS3.out.st 5 6 (.bool true) (by decide) (by decide)
         have HSa:Hid (ST 28 w (wc.setCell ⟨w.heap.size+1,5,none⟩ (.bool true)) w.heap.size (w.heap.size+1) {zaI with scheme:=sn,hasS:=sb,frag:=fr,hasF:=fb,query:=qr,hasQ:=qb,hasA:=true}):=HS3.out.set 5 (.bool true) rfl
         have hUN:=zuO (s3.drop 2)
         have HI3:=zxR (fun W=>HFI.out (s3.drop 2) [47] W (by omega) (by decide))
         generalize s3.drop 2=a at*
         generalize Lib.indexAny a [47]=ix3 at*
         go_wp2_with fail
         refine (HI3.out _).mono ?_
         rintro e w' ⟨rfl,rfl⟩
         go_upto_if 81 with fail
         go_cut [0,7] (fun sv av wc=>sv= .string ⟨(zaG (· ==47) a).2.toArray⟩∧av= .string ⟨(zaG (· ==47) a).1.toArray⟩∧Hid (ST 28 w wc w.heap.size (w.heap.size+1) {zaI with scheme:=sn,hasS:=sb,frag:=fr,hasF:=fb,query:=qr,hasQ:=qb,hasA:=true}))
         case first=>
          as_aux_lemma=>
           clear HI3 HFI HS3 c0 f0 hL3 t0
           rcases hUN with ⟨i,hi,b1,b2⟩|⟨b1,b2⟩
           ·subst b1
            have t1:=zfA a i (by omega)
            have t2:=zfW a i (by omega)
            go_wp2
            go_meet
            exact ⟨by rw [b2],by rw [b2],HSa⟩
           ·subst b1
            go_wp2
            go_meet
            exact ⟨by rw [b2],by rw [b2],HSa⟩
         case rest=>
          obtain ⟨rfl,rfl,HSb⟩:=hcut
          have hal:(zaG (· ==47) a).1.length≤1000000:=by
           have:=congrArg List.length (zcT (· ==47) a)
           rw [List.length_append] at this
           omega
          obtain ⟨e4,-,e5⟩:s4=(zaG (· ==47) a).2∧True∧(hu,us,ho,hp,po)=zeA (zaG (· ==47) a).1:=by
           simp only [Prod.mk.injEq] at a2 ⊢
           exact ⟨a2.1,trivial,a2.2.2⟩
          subst e4
          clear hUN HI3 a2 hL3 hdl t0 c0 f0 HSa HS3
          generalize (zaG (· ==47) a).2=s4 at*
          generalize (zaG (· ==47) a).1=b at*
          obtain ⟨c1,cb,c2,hcc⟩: ∃x y z,cutA 64 b=(x,y,z):=⟨_,_,_,rfl⟩
          have hAF:=zjQ 64 b
          have hLA:=zcF 64 b
          rw [hcc] at hAF hLA
          simp only at hLA
          obtain ⟨d,hd⟩: ∃d,d=(if cb then c2 else b):=⟨_,rfl⟩
          have hau:(hu,us,ho,hp,po)=(cb,(if cb then c1 else []),(zcS d).1,(zcS d).2.1,(zcS d).2.2):=by
           rw [e5,hd]
           cases cb
           ·exact zjJ hcc
           ·exact zhL hcc
          simp only [Prod.mk.injEq] at hau
          obtain ⟨rfl,hus,hho,hhp,hpo⟩:=hau
          have hdl:d.length≤1000000:=by rw [hd];split<;>omega
          have hul:us.length≤1000000:=by rw [hus];split<;>first|omega|simp
          have hpo2:=zhS d
          have hol:ho.length≤1000000:=by rw [hho];omega
          have hpl:po.length≤1000000:=by rw [hpo];omega
          have HI4:=zxR (fun W=>HFI.out b [64] W (by omega) (by decide))
          generalize Lib.indexAny b [64]=ix4 at*
          go_wp2_with fail
          refine (HI4.out _).mono ?_
          rintro e w' ⟨rfl,rfl⟩
          go_upto_if 91 with fail
          go_cut [7] (fun av wc=>av= .string ⟨d.toArray⟩∧Hid (ST 28 w wc w.heap.size (w.heap.size+1) {zaI with scheme:=sn,hasS:=sb,frag:=fr,hasF:=fb,query:=qr,hasQ:=qb,hasA:=true,user:=us,hasU:=hu}))
          case first=>
           as_aux_lemma=>
            clear HI4 HFI
            rcases hAF with ⟨i,hi,b1,b2⟩|⟨b1,b2⟩
            ·obtain ⟨e1,rfl,e2⟩:c1=b.take i∧hu=true∧c2=b.drop (i+1):=by simpa using b2
             rw [if_pos rfl] at hus hd
             subst b1 hus hd
             have t1:=zfA b i (by omega)
             have t2:=zbZ b i hi
             rw [←e1] at t1
             rw [←e2] at t2
             obtain ⟨v1,v2,c0,f0,c1',f1⟩:=HSb.out.st 2 3 (.string ⟨us.toArray⟩) (by decide) (by decide)
             have HN:Hid (ST 28 w ((wc.setCell ⟨w.heap.size+1,2,none⟩ (.string ⟨us.toArray⟩)).setCell ⟨w.heap.size+1,3,none⟩ (.bool true)) w.heap.size (w.heap.size+1) {zaI with scheme:=sn,hasS:=sb,frag:=fr,hasF:=fb,query:=qr,hasQ:=qb,hasA:=true,user:=us,hasU:=true}):=(HSb.out.set 2 (.string ⟨us.toArray⟩) (q:={zaI with scheme:=sn,hasS:=sb,frag:=fr,hasF:=fb,query:=qr,hasQ:=qb,hasA:=true,user:=us}) rfl).set 3 (.bool true) rfl
             clear e1 e2 b2 HSb
             go_wp2
             go_meet
             exact ⟨rfl,HN⟩
            ·obtain ⟨rfl,rfl,rfl⟩:c1=b∧hu=false∧c2=[]:=by simpa using b2
             rw [if_neg (by decide)] at hus hd
             subst b1 hus hd
             go_wp2
             go_meet
             exact ⟨rfl,HSb⟩
          case rest=>
           obtain ⟨rfl,HSc⟩:=hcut
           clear HI4 HSb hAF hLA hus hd
           have HL1:Hid (∀W,Calls Tryz.prog 45 #[.string ⟨d.toArray⟩,.int .u8 58] W fun e w'=>e= .returned (.int .i64 (Lib.lastIndexByte ⟨d.toArray⟩ 58))∧W=w'):=fun W=>zfO d 58 W hdl
           have HL2:Hid (∀W,Calls Tryz.prog 45 #[.string ⟨d.toArray⟩,.int .u8 93] W fun e w'=>e= .returned (.int .i64 (Lib.lastIndexByte ⟨d.toArray⟩ 93))∧W=w'):=fun W=>zfO d 93 W hdl
           have hPL:=zgE d
           generalize Lib.lastIndexByte ⟨d.toArray⟩ 58=l58 at*
           generalize Lib.lastIndexByte ⟨d.toArray⟩ 93=l93 at*
           go_wp2_with fail
           refine (HL1.out _).mono ?_
           rintro e w' ⟨rfl,rfl⟩
           go_wp2_with fail
           refine (HL2.out _).mono ?_
           rintro e w' ⟨rfl,rfl⟩
           go_upto_if 106 with fail
           go_cut [7] (fun av wc=>av= .string ⟨ho.toArray⟩∧Hid (ST 28 w wc w.heap.size (w.heap.size+1) {zaI with scheme:=sn,hasS:=sb,frag:=fr,hasF:=fb,query:=qr,hasQ:=qb,hasA:=true,user:=us,hasU:=hu,port:=po,hasP:=hp}))
           case first=>
            as_aux_lemma=>
             rcases hPL with ⟨i,hi,b1,b2,b3⟩|⟨b1,b2⟩
             ·rw [b3] at hho hhp hpo
              simp only at hho hhp hpo
              subst b1 hhp
              have t1:=zfA d i (by omega)
              have t2:=zbZ d i hi
              rw [←hho] at t1
              rw [←hpo] at t2
              obtain ⟨v1,v2,c0,f0,c1',f1⟩:=HSc.out.st 6 7 (.string ⟨po.toArray⟩) (by decide) (by decide)
              have HN:Hid (ST 28 w ((wc.setCell ⟨w.heap.size+1,6,none⟩ (.string ⟨po.toArray⟩)).setCell ⟨w.heap.size+1,7,none⟩ (.bool true)) w.heap.size (w.heap.size+1) {zaI with scheme:=sn,hasS:=sb,frag:=fr,hasF:=fb,query:=qr,hasQ:=qb,hasA:=true,user:=us,hasU:=hu,port:=po,hasP:=true}):=(HSc.out.set 6 (.string ⟨po.toArray⟩) (q:={zaI with scheme:=sn,hasS:=sb,frag:=fr,hasF:=fb,query:=qr,hasQ:=qb,hasA:=true,user:=us,hasU:=hu,port:=po}) rfl).set 7 (.bool true) rfl
              clear HSc HL1 HL2 hho hpo b3 HFI
              go_wp2
              go_meet
              exact ⟨rfl,HN⟩
             ·rw [b2] at hho hhp hpo
              simp only at hho hhp hpo
              subst hho hhp hpo
              clear HL1 HL2 b2 HFI
              go_wp2
              go_meet
              exact ⟨rfl,HSc⟩
           case rest=>
            obtain ⟨rfl,HSd⟩:=hcut
            obtain ⟨v1,-,c0,f0,-⟩:=HSd.out.st 4 5 (.string ⟨ho.toArray⟩) (by decide) (by decide)
            have HSe:Hid (ST 28 w (wc.setCell ⟨w.heap.size+1,4,none⟩ (.string ⟨ho.toArray⟩)) w.heap.size (w.heap.size+1) {zaI with scheme:=sn,hasS:=sb,frag:=fr,hasF:=fb,query:=qr,hasQ:=qb,hasA:=true,user:=us,hasU:=hu,host:=ho,port:=po,hasP:=hp}):=HSd.out.set 4 (.string ⟨ho.toArray⟩) rfl
            clear hho hhp hpo
            go_upto_region 41 with fail
            obtain ⟨x5,hx5⟩: ∃z,z=wc.setCell ⟨w.heap.size+1,4,none⟩ (.string ⟨ho.toArray⟩):=⟨_,rfl⟩
            rw [←hx5] at HSe ⊢
            clear hx5 c0 f0 v1 HSd
            have HIU:=zxR (fun W=>zcA us [58] W hul (by decide))
            have HHO:=zxR (fun W=>zjR ho W hol)
            have HDI:=zxR (fun W=>zhC po W hpl)
            obtain ⟨-,-,u2,-,-,-,-,-,-,-,-,-,-⟩:=HSe.out.row.all
            generalize isA [58] us=k1 at*
            generalize zbR sixB ho=k2 at*
            generalize po.all zbC=k3 at*
            go_wp2_with fail
            refine (HIU.out _).mono ?_
            rintro e w' ⟨rfl,rfl⟩
            clear u2 HIU
            cases k1 with
            |false=>
             clear HHO HDI
             go_wp2
             go_meet
             exact ⟨rfl,rfl,HSe⟩
            |true=>
             obtain ⟨-,-,-,-,u4,-,-,-,-,-,-,-,-⟩:=HSe.out.row.all
             go_wp2_with fail
             refine (HHO.out _).mono ?_
             rintro e y ⟨rfl,hy⟩
             have HSf:=zxR (HSe.out.keep hy)
             clear u4 HHO HSe hy
             cases k2 with
             |false=>
              clear HDI
              go_wp2
              go_meet
              exact ⟨rfl,rfl,HSf⟩
             |true=>
              obtain ⟨-,-,-,-,-,-,u6,-,-,-,-,-,-⟩:=HSf.out.row.all
              go_wp2_with fail
              refine (HDI.out _).mono ?_
              rintro e w' ⟨rfl,rfl⟩
              clear u6 HDI
              go_wp2
              go_meet
              exact ⟨rfl,rfl,HSf⟩
        ·simp only [Prod.mk.injEq] at a1
         obtain ⟨rfl,rfl,rfl,rfl,rfl,rfl,rfl⟩:=a1
         go_wp2
         go_meet
         exact ⟨rfl,rfl,HS3⟩
      case rest=>
       obtain ⟨rfl,rfl,HS4⟩:=hcut
       have hPL:zbG l={zaI with scheme:=sn,hasS:=sb,frag:=fr,hasF:=fb,query:=qr,hasQ:=qb,hasA:=ha,user:=us,hasU:=hu,host:=ho,port:=po,hasP:=hp,path:=s4}:=by
        unfold zbG
        rw [hsa]
        simp only [hc1,hc2,hh]
       have hOK:(!ha||(isA [58] us&&zbR sixB ho&&po.all zbC))=(isA [58] us&&(zbR sixB ho&&po.all zbC)):=by
        cases ha with
        |true=>simp [Bool.and_assoc]
        |false=>
         have:=(zrE s3 (by rw [hh])).2.2
         rw [hh] at this
         simp only [Prod.mk.injEq] at this
         obtain ⟨-,rfl,rfl,-,rfl⟩:=this
         rfl
       have hHL:=zjU s3
       rw [hh] at hHL
       simp only at hHL
       have hVA:zlL sixB (zbG l)=(isA [58] us&&(zbR sixB ho&&po.all zbC)&&zgI s4 sb ha&&isA [58,64,47,63] qr&&isA [58,64,47,63] fr):=by
        rw [hPL]
        unfold zlL
        simp only
        rw [hOK]
       have HPA:Hid (zbK sixB l=if (isA [58] us&&(zbR sixB ho&&po.all zbC)&&zgI s4 sb ha&&isA [58,64,47,63] qr&&isA [58,64,47,63] fr)=true then (zbG l,0) else (zaI,11)):=by
        show _=_
        unfold zbK
        have h1:((zbG l).hasS&& !zbF (zbG l).scheme)=false:=by
         rw [hPL]
         simp only
         cases sb with
         |false=>rfl
         |true=>
          cases hk:zbF sn with
          |true=>rfl
          |false=>exact absurd ⟨rfl,hk⟩ herr
        rw [if_neg hbig,h1,if_neg (by decide),hVA]
       clear hOK hVA herr hHP
       have HPP:=zxR (fun W=>zjD s4 sb ha W (by omega))
       have HIQ:=zxR (fun W=>zcA qr [58,64,47,63] W (by omega) (by decide))
       have HIF:=zxR (fun W=>zcA fr [58,64,47,63] W (by omega) (by decide))
       generalize (isA [58] us&&(zbR sixB ho&&po.all zbC))=k1 at*
       generalize zgI s4 sb ha=k2 at*
       generalize isA [58,64,47,63] qr=k3 at*
       generalize isA [58,64,47,63] fr=k4 at*
       obtain ⟨v1,-,c0,f0,-⟩:=HS4.out.st 8 8 (.string ⟨s4.toArray⟩) (by decide) (by decide)
       have HS5:Hid (ST 28 w (wc.setCell ⟨w.heap.size+1,8,none⟩ (.string ⟨s4.toArray⟩)) w.heap.size (w.heap.size+1) (zbG l)):=by
        rw [hPL]
        exact HS4.out.set 8 _ rfl
       go_upto_region 43 with fail
       obtain ⟨x6,hx6⟩: ∃z,z=wc.setCell ⟨w.heap.size+1,8,none⟩ (.string ⟨s4.toArray⟩):=⟨_,rfl⟩
       rw [←hx6] at HS5 ⊢
       clear hx6 c0 f0 v1 HS4 hHL HFI hLS hLF hsa hc1 hc2 hh HS3
       obtain ⟨-,u1,-,-,-,u5,-,-,-,u9,-,u11,-⟩:=HS5.out.row.all
       rw [show (zbG l).hasS=sb by rw [hPL]] at u1
       rw [show (zbG l).hasA=ha by rw [hPL]] at u5
       rw [show (zbG l).query=qr by rw [hPL]] at u9
       rw [show (zbG l).frag=fr by rw [hPL]] at u11
       clear hPL
       generalize zbK sixB l=res at*
       generalize zbG l=pp at*
       go_cut [155] (fun v wd=>v= .bool (!(k1&&k2&&k3&&k4))∧wd=x6)
       case first=>
        as_aux_lemma=>
         cases k1 with
         |false=>
          clear HPP HIQ HIF HPA
          go_wp2
          go_meet
          exact ⟨rfl,rfl⟩
         |true=>
         go_wp2_with fail
         refine (HPP.out _).mono ?_
         rintro e w' ⟨rfl,rfl⟩
         cases k2 with
         |false=>
          clear HPP HIQ HIF HPA
          go_wp2
          go_meet
          exact ⟨rfl,rfl⟩
         |true=>
         go_wp2_with fail
         refine (HIQ.out _).mono ?_
         rintro e w' ⟨rfl,rfl⟩
         cases k3 with
         |false=>
          clear HPP HIQ HIF HPA
          go_wp2
          go_meet
          exact ⟨rfl,rfl⟩
         |true=>
         go_wp2_with fail
         refine (HIF.out _).mono ?_
         rintro e w' ⟨rfl,rfl⟩
         clear HPP HIQ HIF HPA
         go_wp2
         go_meet
         exact ⟨rfl,rfl⟩
       case rest=>
        obtain ⟨rfl,rfl⟩:=hcut
        clear HPP HIQ HIF u1 u5 u9 u11
        obtain ⟨r0,r1,r2,r3,r4,r5,r6,r7,r8,r9,r10,r11,r12⟩:=HS5.out.res.all
        have rf:=HS5.out.res.frozen
        generalize (k1&&k2&&k3&&k4)=kk at*
        cases kk with
        |false=>
         have HF:Hid (res=(zaI,11)):=by show _=_;rw [HPA.out,if_neg (by decide)]
         have hEB:=zaX HS5.out.below HS5.out.hR zaI
         have hEC:=zaZ HS5.out.res zaI _ rfl
         unfold zbW at hEB hEC
         have HEB:=zxR hEB
         have HEC:=zxR hEC
         clear hEB hEC HS5 HPA
         dsimp only [zaI] at HEB HEC
         go_wp2
         obtain ⟨e0,e1,e2,e3,e4,e5,e6,e7,e8,e9,e10,e11,e12⟩:=HEC.out
         refine bodyPost_ret (v:= .tuple #[.agg (PZ.cells zaI),.int .i64 11]) (by simp [results,Tryz.results12,go_sem,e0,e1,e2,e3,e4,e5,e6,e7,e8,e9,e10,e11,e12,zaI,PZ.cells]) rfl ?_
         unfold zbV
         rw [HF.out]
         exact ⟨rfl,HEB.out⟩
        |true=>
         have HF:Hid (res=(pp,0)):=by show _=_;rw [HPA.out,if_pos rfl]
         obtain ⟨d0,d1,d2,d3,d4,d5,d6,d7,d8,d9,d10,d11,d12⟩:=HS5.out.row.all
         have hEB:=zaX HS5.out.below HS5.out.hR pp
         have hEC:=zaZ HS5.out.res pp _ rfl
         unfold zbW at hEB hEC
         have HEB:=zxR hEB
         have HEC:=zxR hEC
         clear hEB hEC HS5 HPA
         go_wp2
         obtain ⟨e0,e1,e2,e3,e4,e5,e6,e7,e8,e9,e10,e11,e12⟩:=HEC.out
         refine bodyPost_ret (v:= .tuple #[.agg pp.cells,.int .i64 0]) (by simp [results,Tryz.results12,go_sem,e0,e1,e2,e3,e4,e5,e6,e7,e8,e9,e10,e11,e12,PZ.cells]) rfl ?_
         unfold zbV
         rw [HF.out]
         exact ⟨rfl,HEB.out⟩
theorem zfL (p:PZ) (w:World) (hf:p.Few 100000):
  Calls Tryz.prog 15 #[.agg p.cells] w (zqS w (zbL p)):=by
 obtain ⟨f1,f2,f3,f4,f5,f6,f7⟩:=hf
 have hb:Below w.heap.size w (w.alloc (.cells p.cells 28)):=(zxV _ w).alloc (zxS _) _
 obtain ⟨d0,d1,d2,d3,d4,d5,d6,d7,d8,d9,d10,d11,d12⟩:=(PB.new 28 w p).all
 have HB:=zxR hb
 have hz0:=zaA p.scheme
 have hz2:=zaA p.user
 have hz4:=zaA p.host
 have hz6:=zaA p.port
 have hz8:=zaA p.path
 have hz9:=zaA p.query
 have hz11:=zaA p.frag
 have HF:Hid (zbL p=(if p.hasS then p.scheme++[58] else [])++(((if p.hasA then 47::47::((if p.hasU then p.user++[64] else [])++(p.host++(if p.hasP then 58::p.port else []))) else [])++p.path)++((if p.hasQ then 63::p.query else [])++(if p.hasF then 35::p.frag else [])))):=rfl
 generalize zbL p=res at*
 unfold PZ.cells at*
 clear hb
 generalize p.scheme=ps at*
 generalize p.user=pu at*
 generalize p.host=ph at*
 generalize p.port=pp at*
 generalize p.path=pt at*
 generalize p.query=pq at*
 generalize p.frag=pf at*
 generalize p.hasS=bs at*
 generalize p.hasU=bu at*
 generalize p.hasA=ba at*
 generalize p.hasP=bp at*
 generalize p.hasQ=bq at*
 generalize p.hasF=bf at*
 cases ba with
 |false=>
  cases bs<;>cases bq<;>cases bf
  all_goals
   go_enter Tryz.func15,Tryz.ntmps15
   go_wp2
   go_ret
   refine ⟨?_,HB.out⟩
   rw [HF.out]
   refine congrArg (fun s=>Ending.returned (.string s)) ?_
   apply ByteArray.ext
   simp
 |true=>
  cases bs<;>cases bu<;>cases bp<;>cases bq<;>cases bf
  all_goals
   go_enter Tryz.func15,Tryz.ntmps15
   go_wp2
   go_ret
   refine ⟨?_,HB.out⟩
   rw [HF.out]
   refine congrArg (fun s=>Ending.returned (.string s)) ?_
   apply ByteArray.ext
   simp
theorem zhY (p:PZ) (w:World) (hf:p.Few 10000):
  Calls Tryz.prog 17 #[.agg p.cells] w (zbH w (zeK sixB p)):=by
 have hb:Below w.heap.size w (w.alloc (.cells p.cells 28)):=(zxV _ w).alloc (zxS _) _
 have htl:=ziO p 10000 hf
 have HTX:=zxR (fun W=>zfL p W (hf.mono (by omega)))
 have HPR:=zxR (fun W=>ziA (zbL p) W)
 have hqf:=(ziM sixB (zbL p)).mono (m:=1000000) (by omega)
 have HEQ:=fun W=>eqR p (zbK sixB (zbL p)).1 (hf.mono (by omega)) hqf W
 have HF:Hid (zeK sixB p=((zbK sixB (zbL p)).2==0&&p==(zbK sixB (zbL p)).1)):=rfl
 generalize zeK sixB p=res at*
 generalize zbK sixB (zbL p)=x at*
 obtain ⟨q,er⟩:=x
 simp only at HEQ HF hqf
 generalize (p==q)=be at*
 generalize zbL p=tx at*
 have HPB:=zxR (fun y (hy:Below (w.alloc (.cells p.cells 28)).heap.size (w.alloc (.cells p.cells 28)) y)=>(And.intro ((PB.new 28 w p).below hy) (zaV hb hy):PB 28 y w.heap.size p∧Below w.heap.size w y))
 obtain ⟨d0,d1,d2,d3,d4,d5,d6,d7,d8,d9,d10,d11,d12⟩:=(PB.new 28 w p).all
 unfold PZ.cells at d0 d1 d2 d3 d4 d5 d6 d7 d8 d9 d10 d11 d12 HEQ HTX HPB ⊢
 clear hb
 go_enter Tryz.func17,Tryz.ntmps17
 go_wp2_with fail
 refine (HTX.out _).mono ?_
 rintro e y1 ⟨rfl,hy1⟩
 clear d0 d1 d2 d3 d4 d5 d6 d7 d8 d9 d10 d11 d12 HTX
 go_wp2_with fail
 refine (HPR.out _).mono ?_
 rintro e y2 ⟨rfl,hy2⟩
 have hy12:=zaV hy1 hy2
 obtain ⟨hpb2,hw2⟩:=HPB.out y2 hy12
 have hw3:Below w.heap.size w (y2.alloc (.cells q.cells 28)):=hw2.alloc hw2.size _
 have hpb3:=hpb2.below ((zxV y2.heap.size y2).alloc (zxS _) (.cells q.cells 28))
 obtain ⟨d0,d1,d2,d3,d4,d5,d6,d7,d8,d9,d10,d11,d12⟩:=hpb3.all
 obtain ⟨q0,q1,q2,q3,q4,q5,q6,q7,q8,q9,q10,q11,q12⟩:=(PB.new 28 y2 q).all
 have HW3:=zxR hw3
 have hgd:=fun a b=>zuH p.cells q.cells a b
 unfold PZ.cells at d0 d1 d2 d3 d4 d5 d6 d7 d8 d9 d10 d11 d12 q0 q1 q2 q3 q4 q5 q6 q7 q8 q9 q10 q11 q12 HW3 hgd ⊢
 clear hpb2 hpb3 hw2 hw3 hy1 hy2 hy12 HPR HPB
 by_cases he:er=0
 ·subst he
  have HF2:Hid (res=be):=HF.out
  clear HF
  go_wp2
  go_ret
  exact zaF HF2.out HW3.out
 ·have he2:(er==0)=false:=beq_eq_false_iff_ne.2 he
  rw [he2] at HF
  go_wp2
  go_ret
  exact zaF HF.out HW3.out
end
section
open Go.RowKit Go.ChangeShapes Go.WideShapes Go.ChangeAt Go.Joins Go.Deep
theorem zoV:Tryz.prog.cellsOf 24=13:=by kernel_rfl
theorem zcL:Tryz.prog.cellsOf 9=1:=by kernel_rfl
theorem zcK:Tryz.prog.cellsOf 4=1:=by kernel_rfl
theorem zeB {H:Type} {enc:TypeId×Value→H} {W:World} {n:Nat} {cs:List Value} {c:Value} {y:DataW H×List MemPlace} (h:DataW.trod enc Tryz.prog W 0 (fun _=>true) true n 9 cs=some y) (hc:cs=[c]): ∃l:List UInt8,c= .string ⟨l.toArray⟩∧l.length≤maxLen:=by
 obtain ⟨s,e,_,hs⟩:=DataW.trod_string Tryz.underlying9 h
 rw [hc] at e
 simp only [List.cons.injEq,and_true] at e
 exact ⟨s.data.toList,e,by rw [zaM];exact hs⟩
theorem zdW {H:Type} {enc:TypeId×Value→H} {W:World} {n:Nat} {cs:List Value} {c:Value} {y:DataW H×List MemPlace} (h:DataW.trod enc Tryz.prog W 0 (fun _=>true) true n 4 cs=some y) (hc:cs=[c]): ∃b:Bool,c= .bool b:=by
 obtain ⟨b,e,_⟩:=DataW.trod_bool Tryz.underlying4 h
 rw [hc] at e
 simp only [List.cons.injEq,and_true] at e
 exact ⟨b,e⟩
theorem open_part {H:Type} {enc:TypeId×Value→H} {W:World} {r:Reach} {b0:Nat} {v:Value} {d:DataW H} {ps:List MemPlace} (hv:Value.okWide Tryz.prog W r b0 24 v) (h:DataW.Trod enc Tryz.prog W 0 (fun _=>true) true 24 v d ps):
  ∃p:PZ,v= .agg p.cells∧p.Few maxLen:=by
 obtain ⟨cs,rfl,hsz⟩:=okWide_struct Tryz.underlying24 hv
 obtain ⟨fuel,hf⟩:=h
 obtain ⟨xs,n,_,_,hl,hlen,hfs⟩:=DataW.trod_struct Tryz.underlying24 hf
 rw [zoV] at hsz
 obtain ⟨l,rfl⟩: ∃l:List Value,cs=l.toArray:=⟨cs.toList,by simp⟩
 have hl13:l.length=13:=by simpa using hsz
 match l,hl13,xs,hlen with
 |[c0,c1,c2,c3,c4,c5,c6,c7,c8,c9,c10,c11,c12],_,[y0,y1,y2,y3,y4,y5,y6,y7,y8,y9,y10,y11,y12],_=>
  obtain ⟨l0,rfl,b0⟩:=zeB (c:=c0) (hfs 0 _ rfl) (by simp [Value.cells,zcL])
  obtain ⟨l1,rfl⟩:=zdW (c:=c1) (hfs 1 _ rfl) (by simp [Value.cells,zcK])
  obtain ⟨l2,rfl,b2⟩:=zeB (c:=c2) (hfs 2 _ rfl) (by simp [Value.cells,zcL])
  obtain ⟨l3,rfl⟩:=zdW (c:=c3) (hfs 3 _ rfl) (by simp [Value.cells,zcK])
  obtain ⟨l4,rfl,b4⟩:=zeB (c:=c4) (hfs 4 _ rfl) (by simp [Value.cells,zcL])
  obtain ⟨l5,rfl⟩:=zdW (c:=c5) (hfs 5 _ rfl) (by simp [Value.cells,zcK])
  obtain ⟨l6,rfl,b6⟩:=zeB (c:=c6) (hfs 6 _ rfl) (by simp [Value.cells,zcL])
  obtain ⟨l7,rfl⟩:=zdW (c:=c7) (hfs 7 _ rfl) (by simp [Value.cells,zcK])
  obtain ⟨l8,rfl,b8⟩:=zeB (c:=c8) (hfs 8 _ rfl) (by simp [Value.cells,zcL])
  obtain ⟨l9,rfl,b9⟩:=zeB (c:=c9) (hfs 9 _ rfl) (by simp [Value.cells,zcL])
  obtain ⟨l10,rfl⟩:=zdW (c:=c10) (hfs 10 _ rfl) (by simp [Value.cells,zcK])
  obtain ⟨l11,rfl,b11⟩:=zeB (c:=c11) (hfs 11 _ rfl) (by simp [Value.cells,zcL])
  obtain ⟨l12,rfl⟩:=zdW (c:=c12) (hfs 12 _ rfl) (by simp [Value.cells,zcK])
  exact ⟨⟨l0,l1,l2,l3,l4,l5,l6,l7,l8,l9,l10,l11,l12⟩,rfl,b0,b2,b4,b6,b8,b9,b11⟩
end
end Go.Proofs.YtmjappnpedjlnaaGreatDoor
