/-
  What the law AnswersPlay leans on, and its walk (21 of 22).
-/
import Derived.Test.YtkiehdigpchebaaGreatDoorAnswersPlayPkR
import Derived.Test.YtkiehdigpchebaaGreatDoorAnswersPlayPkU
namespace Go.Proofs.YtkiehdigpchebaaGreatDoor
set_option maxRecDepth 100000
set_option maxHeartbeats 16000000
abbrev zqS := @Lib.hid
section
open Go.RowKit Go.Maps Go.Sort Go.Shelf Go.Lib
theorem ziP (s:ByteArray):(⟨s.data.toList.toArray⟩:ByteArray)=s:=by cases s;simp
theorem answersPlay_walk (a0:Option Addr) (qG qq:Nat) (z0:List (AnG On)) (a1:Option Addr) (qC Qe:Nat) (z1:List Ak) (a2:Int) (w2:(Lit.int .u8 a2).wf=true) (w:World) (w0:IsSRw w a0 qG qq z0) (w1:IsKRow w a1 qC Qe z1) (Qj:PowTab w) (Qi:BruTab w) (Qm:MaxVar w):
  Calls Tryz.prog 4 #[.slice a0 qG qq,.slice a1 qC Qe,.int .u8 a2] w fun e w'=>e= .returned (.bool true)∧Below w.heap.size w w':=by
 have Ji:z0.length=qG:=w0.1
 have Jv:z1.length=qC:=w1.1
 subst Ji Jv
 have hcut:0≤a2∧a2<256:=zjI w2
 have JE:IntKind.i64.wrap a2=a2:=IntWalk.i64_in _ (by omega)
 have Qw:=zqS w0
 have ja:=zqS w1
 have Qa:=zqS (aw21 w Qj Qi Qm)
 have qZ:=zqS (fun W (hW:Below w.heap.size w W)=>zoT a0 qq z0 W ((w0.keep hW).2.2.1) w0.2.1)
 clear w0 w1 w2 Qj Qi Qm
 cases J:zfV z0 with
 |false=>
  have qg:=zqS J
  clear J
  go_enter Tryz.func4,Tryz.ntmps4
  go_wp2_with fail
  refine Qa.out.mono ?_
  rintro e x0 ⟨rfl,qc⟩
  have H:=zqS qc
  clear qc
  go_wp2_with fail
  refine (qZ.out x0 H.out).mono ?_
  rintro e x1 ⟨rfl,qf⟩
  have Y:=zqS (H.out.trans (qf.mono H.out.size))
  have J:=qg.out
  clear qf qg
  go_wp2
  go_ret
  exact ⟨rfl,Y.out⟩
 |true=>
  have qg:=zqS J
  clear J
  by_cases g0:60<z1.length
  ·have Jh:(60:Int)<z1.length:=by omega
   go_enter Tryz.func4,Tryz.ntmps4
   go_wp2_with fail
   refine Qa.out.mono ?_
   rintro e x0 ⟨rfl,qc⟩
   have H:=zqS qc
   clear qc
   go_wp2_with fail
   refine (qZ.out x0 H.out).mono ?_
   rintro e x1 ⟨rfl,qf⟩
   have Y:=zqS (H.out.trans (qf.mono H.out.size))
   have J:=qg.out
   clear qf qg
   go_wp2
   go_ret
   exact ⟨rfl,Y.out⟩
  have Jh: ¬(60:Int)<z1.length:=by omega
  have JA:(z1.length:Int)≤60:=by omega
  have qT:Hid (z0.length≤40∧ ∀x∈z0,x.l.length≤30):=by
   have h:=qg.out
   unfold zfV at h
   rw [Bool.and_eq_true,List.all_eq_true] at h
   exact ⟨of_decide_eq_true h.2,fun x hx=>of_decide_eq_true (h.1 x hx)⟩
  go_enter Tryz.func4,Tryz.ntmps4
  go_wp2_with fail
  refine Qa.out.mono ?_
  rintro e x0 ⟨rfl,qc⟩
  have H:=zqS qc
  clear qc
  go_wp2_with fail
  refine (qZ.out x0 H.out).mono ?_
  rintro e x1 ⟨rfl,qf⟩
  have Y:=zqS (H.out.trans (qf.mono H.out.size))
  have J:=qg.out
  have jR:=zqS (zjF a0 qq z0 x1 ((Qw.out.keep Y.out).2.2.1) qT.out.1 qT.out.2 (fun x hx=>(Qw.out.2.2.2 x hx).2))
  clear qf qg qZ Qa g0 H
  go_wp2_with fail
  clear J
  refine jR.out.mono ?_
  rintro e x2 ⟨v1,v2,P0,D0,rfl,qV,qL,jn⟩
  obtain ⟨p1,k1,rfl⟩:=qV.own1.form
  obtain ⟨p2,k2,rfl⟩:=qV.own2.form
  have ql:=zqS qV
  have QV:=zqS qL
  have qH:=zqS jn
  have Jg:Hid (P0.length=z0.length):=by show _=_;simpa using congrArg List.length qL
  have qr:Hid (∀(U:List (AnG AZ)),U.map AnG.key=z0.map inZ→U.length≤40∧ ∀b∈U,b.l.length≤30∧ ∀z∈b.l,z.Ok):=fun U hU=>by
   have JC:U.length=z0.length:=by simpa using congrArg List.length hU
   refine ⟨by have:=qT.out.1;omega,fun b G=> ?_⟩
   have h1:b.key∈z0.map inZ:=hU▸List.mem_map_of_mem G
   obtain ⟨x,hx,Jd⟩:=List.mem_map.1 h1
   have h2:x.l.map On.az=b.l:=congrArg (fun q:Bool×Int×List AZ=>q.2.2) Jd
   rw [←h2]
   refine ⟨by rw [List.length_map];exact qT.out.2 x hx,fun z hz=> ?_⟩
   obtain ⟨u,hu,rfl⟩:=List.mem_map.1 hz
   exact On.ok ((Qw.out.2.2.2 x hx).2 u hu)
  have QX:=zqS (zlK p1 k1 P0 (fun _=>[]) x2 ⟨ql.out.own1.row AnG.len,fun a ha=>(ql.out.sub1 a ha).1⟩ (by have:=(qr.out P0 qL).1;omega) (fun a ha=>by have:=((qr.out P0 qL).2 a ha).1;omega))
  clear qV qL jn jR
  go_wp2_with fail
  refine QX.out.mono ?_
  rintro e x3 ⟨r,c,M,ao,cp,A,rfl,jN,jS,jK,QW,qQ⟩
  obtain ⟨x4,qR⟩: ∃x,x=x3.alloc (.cells #[.slice none 0 0,.slice p2 D0.length k2] 55):=⟨_,rfl⟩
  have Qb:Below x3.heap.size x3 x4:=by rw [qR];exact (Below.refl _ _).alloc (Nat.le_refl _) _
  have QK:Hid (GZ w x4 x3.heap.size r c M [] (fun _=>[]) ao cp A none 0 [] p2 k2 D0):=by
   have Jo:AnsX 3 clR x2 p2 D0:=⟨ql.out.own2.row AnG.len,fun a ha=>(ql.out.sub2 a ha).1⟩
   have Qo:w.heap.size≤x2.heap.size:=Nat.le_trans Y.out.size ql.out.below.size
   refine ⟨jN.keep Qb,⟨⟨RowX.empty,(fun _ h=>nomatch h),(fun _ h=>nomatch h)⟩,Jo.keep zaJ (zaE qQ Qb),fun b G=>((qr.out D0 qH.out).2 b G).2⟩,⟨by rw [qR];exact heap_alloc_new x3 _⟩,rfl,(jS.trans QV.out).trans qH.out.symm,ql.out.own2.room,⟨(qr.out D0 qH.out).1,fun b G=>((qr.out D0 qH.out).2 b G).1⟩,(fun _ h=>nomatch h),⟨Nat.le_trans Qo jK,Nat.le_trans Qo QW,Nat.le_trans Qo qQ.size⟩,?_⟩
   have jO:=Y.out.trans (ql.out.below.mono Y.out.size)
   exact jO.trans ((zaE qQ Qb).mono jO.size)
  clear jN jS jK QW qQ Qb QX ql QV qH Jg qr Y
  go_upto_region 7 with fail
  rw [←qR]
  clear qR
  generalize x3.heap.size=D at*
  have Jj:Hid (Below w.heap.size w x4):=QK.out.below
  go_wp2
  go_loopw [9,44] (fun rv i wr=> ∃(k r c M:Nat) (L:List CE) (zf:List UInt8→List AZ) (ao:Option Addr) (cp:Nat) (A:List (AnG AZ)) (aq:Option Addr) (cq:Nat) (Q:List CE) (ad:Option Addr) (cb:Nat) (B:List (AnG AZ)),k≤z1.length∧i= .int .i64 k∧rv= .pointer (some ⟨r,0,none⟩)∧Hid (GZ w wr D r c M L zf ao cp A aq cq Q ad cb B)) (fun _ i _=>z1.length - (intOf i).toNat)
  case atStart=>exact ⟨0,r,c,M,[],_,ao,cp,A,none,0,[],p2,k2,D0,Nat.zero_le _,rfl,rfl,QK⟩
  case round=>
   clear QK Jj
   obtain ⟨k,r,c,M,L,zf,ao,cp,A,aq,cq,Q,ad,cb,B,hk,rfl,rfl,HG⟩:=hrel
   by_cases jp:k<z1.length
   ·have JB:(k:Int)<z1.length:=by omega
    obtain ⟨JG,rfl,x,hx,jE,r0,r1,r2⟩:=(ja.out.keep HG.out.below).2.1.at3K jp
    have jd:=zqS (ja.out.2.2 x jE)
    clear hx jE
    obtain ⟨ask,QU,now⟩:=x
    dsimp only at r0 r1 r2
    obtain ⟨nm,rfl⟩: ∃nm:List UInt8,QU=⟨nm.toArray⟩:=⟨QU.data.toList,(ziP QU).symm⟩
    have jF:Hid (nm.length≤maxLen):=by have:=jd.out.1;rwa [zkZ] at this
    clear jd
    obtain ⟨y,hy⟩: ∃y,y=wr.alloc (.cells #[.bool ask,.string ⟨nm.toArray⟩,.int .i64 now] 57):=⟨_,rfl⟩
    have G:Below wr.heap.size wr y:=by rw [hy];exact (Below.refl _ _).alloc (Nat.le_refl _) _
    have qK:y.heap[wr.heap.size]? =some (.cells #[.bool ask,.string ⟨nm.toArray⟩,.int .i64 now] 57):=by rw [hy];exact heap_alloc_new wr _
    have f:=zqS (HG.out.keep G)
    have QP:Hid (w.heap.size≤D):=HG.out.new.2.2
    have o:=zqS qK
    obtain ⟨e0,e1,e2⟩:=zaP qK
    clear qK G HG
    go_upto_region 10 with fail
    rw [←hy]
    clear hy r0 r1 r2
    by_cases q1:now<0
    ·have qa:Hid (Below w.heap.size w y):=f.out.below
     go_wp2
     go_ret
     exact ⟨rfl,qa.out⟩
    by_cases q2:576460752303423488<now
    ·have qa:Hid (Below w.heap.size w y):=f.out.below
     go_wp2
     go_ret
     exact ⟨rfl,qa.out⟩
    have qj:Hid (0≤now∧now≤576460752303423488):=⟨by omega,by omega⟩
    go_upto_region 12 with fail
    clear q1 q2 e2
    obtain ⟨fb,J⟩: ∃b,((k:Int)==a2)=b:=⟨_,rfl⟩
    go_cut [60] (fun v wc=>v= .bool fb∧y=wc)
    case first=>
     as_aux_lemma=>
      go_wp2
      go_meet
      exact ⟨rfl,rfl⟩
    case rest=>
    obtain ⟨rfl,rfl⟩:=hcut
    clear J e0 e1
    generalize wr.heap.size=bx at*
    go_upto_if 60 with fail
    go_cut [9] (fun rv wc=> ∃(r c M:Nat) (L:List CE) (zf:List UInt8→List AZ) (ao:Option Addr) (cp:Nat) (A:List (AnG AZ)) (aq:Option Addr) (cq:Nat) (Q:List CE) (ad:Option Addr) (cb:Nat) (B:List (AnG AZ)),rv= .pointer (some ⟨r,0,none⟩)∧Hid (GZ w wc D r c M L zf ao cp A aq cq Q ad cb B)∧Hid (wc.heap[bx]? =some (.cells #[.bool ask,.string ⟨nm.toArray⟩,.int .i64 now] 57)))
    case first=>
     as_aux_lemma=>
      cases fb with
      |true=>
       have jc:=zqS (zgK y f.out.res (by have:=f.out.fewA.1;omega) (fun a ha=>by have:=f.out.fewA.2 a ha;omega))
       go_wp2_with fail
       refine jc.out.mono ?_
       rintro e x5 ⟨r2,c2,M2,L2,b2,qn,A2,rfl,QR,jT,jJ,Qk,Qg,qb⟩
       have QS:=zqS QR
       have jG:Hid (∀z,Only [r,M] x5 z→GZ w z D r2 c2 M2 L2 zf b2 qn A2 aq cq Q ad cb B):=fun z hz=>f.out.clone qb QR jT jJ Qk Qg hz
       have Ql:Hid (∀z,Only [r,M] x5 z→z.heap[bx]? =some (.cells #[.bool ask,.string ⟨nm.toArray⟩,.int .i64 now] 57)):=fun z hz=>by
        have h5:=(qb.block bx (zaG o.out)).trans o.out
        refine (hz.block bx (zaG h5) (fun q=> ?_)).trans h5
        rcases List.mem_cons.1 q with e|e
        ·have:=(f.out.keep qb).res.box
         rw [←e,h5] at this
         simp at this
        ·have e:=List.mem_singleton.1 e
         obtain ⟨⟨es,kk,h3,_⟩,_⟩:=(f.out.keep qb).res.cac.cac.map
         rw [←e,h5] at h3
         cases h3
       have qF:=zqS (zdH [122,122] 0 x5 (f.out.keep qb).res (by have:=f.out.fewA.1;omega) (fun a ha=>by have:=f.out.fewA.2 a ha;omega) (by decide) (by decide) (by decide))
       clear QR jT jJ Qk Qg qb jc
       go_wp2_with fail
       refine qF.out.mono ?_
       rintro e x6 ⟨_,_,rfl,_,_,QF⟩
       have jV:=zqS (jG.out x6 QF)
       have jt:=zqS (Ql.out x6 QF)
       clear QF qF jG Ql QS
       go_wp2
       go_meet
       exact ⟨r2,c2,M2,L2,zf,b2,qn,A2,aq,cq,Q,ad,cb,B,rfl,jV,jt⟩
      |false=>
       go_wp2
       go_meet
       exact ⟨r,c,M,L,zf,ao,cp,A,aq,cq,Q,ad,cb,B,rfl,f,o⟩
    case rest=>
    clear f o
    obtain ⟨r,c,M,L,zf,ao,cp,A,aq,cq,Q,ad,cb,B,rfl,f,o⟩:=hcut
    obtain ⟨e0,e1,e2⟩:=zaP o.out
    have d0:=f.out.box.c0
    have d1:=f.out.box.c1
    obtain ⟨g,hg⟩: ∃g,gotG L nm now=g:=⟨_,rfl⟩
    have qO:=zqS hg
    have jf:Hid (gotG Q nm now=g):=(zgY f.out.sim nm now).trans hg
    obtain ⟨Bg,QD⟩: ∃l,l=if g=true then B else B.tail:=⟨_,rfl⟩
    obtain ⟨Wg,QI⟩: ∃l,l=if g=true then zf nm else ansA B:=⟨_,rfl⟩
    obtain ⟨Cg,Qx⟩: ∃l,l=if g=true then 0 else zdO B:=⟨_,rfl⟩
    obtain ⟨Pg,Qy⟩: ∃l,l=if g=true then none else putA now B:=⟨_,rfl⟩
    have QG:=zcV (cq:=cq) nm now wc f.out.doc f.out.sortQ (by have:=f.out.lenL.2;omega) f.out.room (by have:=f.out.few.1;omega) (fun b G=>by have:=f.out.few.2 b G;omega) qj.out.1 qj.out.2 g jf.out
    rw [←QD,←QI,←Qx,←Qy] at QG
    have jB:=zqS QG
    have qY:=zqS QD
    have QA:=zqS QI
    have jC:=zqS Qx
    have QQ:=zqS Qy
    clear QG QD QI Qx Qy
    clear hg
    go_wp2_with fail
    refine jB.out.mono ?_
    rintro e x7 ⟨a3,k3,Q3,JD,a4,k4,wa,wk,rfl,jl,jx,jr,jv,qw⟩
    obtain ⟨x8,qX⟩: ∃x,x=x7.alloc (.cells #[.slice a3 Q3.length k3,.slice a4 Bg.length k4] 55):=⟨_,rfl⟩
    have qA:Below x7.heap.size x7 x8:=by rw [qX];exact (Below.refl _ _).alloc (Nat.le_refl _) _
    have qE:Hid (Two x8 x7.heap.size (.slice a3 Q3.length k3) (.slice a4 Bg.length k4) 55):=⟨by rw [qX];exact heap_alloc_new x7 _⟩
    have d:=zqS (f.out.keep (zaE qw qA))
    have S:Hid (x8.heap[bx]? =some (.cells #[.bool ask,.string ⟨nm.toArray⟩,.int .i64 now] 57)):=((zaE qw qA).block bx (zaG o.out)).trans o.out
    have jq:=zqS (RowX.keep zaJ jl qA)
    have jh:=zqS jx
    have jA:=zqS (jr.keep qA)
    have jy:=zqS jv
    have Qc:Hid (w.heap.size≤x7.heap.size):=Nat.le_trans f.out.below.size qw.size
    have Jx:Hid (D≠x7.heap.size):=fun e=>by have:=(f.out.box.keep qw).lt;omega
    have Jb:Hid (r<x7.heap.size):=(f.out.res.keep qw).box|>zaG
    obtain ⟨e0,e1,e2⟩:=zaP S.out
    clear jl jx jr jv qw qA jB d0 d1 f o jf
    go_upto_region 18 with fail
    rw [←qX]
    clear qX
    generalize x7.heap.size=P at*
    go_upto_if 78 with fail
    go_cut [14,15,16,18,19,20] (fun gv iv ev wv sv fv wd=> ∃(L2:List CE) (qk:List UInt8→List AZ) (qM:Option Addr) (qn:Nat) (A2:List (AnG AZ)) (N:Option Addr) (R:Nat) (Q2:List CE) (Z:Option Addr) (qm:Nat) (B2:List (AnG AZ)) (ra:Option Addr) (rk:Nat) (wa:Option Addr) (wk:Nat) (zs:List AZ) (gb:Bool) (qh:Int),gv= .slice ra zs.length rk∧iv= .bool gb∧ev= .int .i64 qh∧wv= .slice wa zs.length wk∧sv= .bool gb∧fv= .int .i64 qh∧Hid (GZ w wd P r c M L2 qk qM qn A2 N R Q2 Z qm B2)∧Hid (RowX 1 clZ wd ra zs)∧Hid (RowX 3 clR wd wa zs)∧Hid (zs.length≤1000∧ ∀z∈zs,z.Ok)∧Hid (Two wd D (.slice aq Q.length cq) (.slice ad B.length cb) 55))
    case first=>
     as_aux_lemma=>
      obtain ⟨qx,Qd,Qf,qy,_⟩:=znT d.out.simA
      have ji:=zqS qx
      have qN:=zqS Qd
      have jk:=zqS (Qf now)
      have jQ:=zqS qy
      clear qx Qd Qf qy
      cases ask with
      |true=>
       have qF:=zqS (zdH nm now x8 d.out.res (by have:=d.out.fewA.1;omega) (fun a ha=>by have:=d.out.fewA.2 a ha;omega) jF.out qj.out.1 qj.out.2)
       go_wp2_with fail
       refine qF.out.mono ?_
       rintro e x9 ⟨ra,rk,rfl,qB,⟨L2,qk,b2,j2,qD,qJ⟩,E⟩
       have jU:=zqS (d.out.doc.both d.out.res E)
       have qz:=zqS (d.out.box.only E (d.out.res.two_ne d.out.box))
       have jP:=zqS (qE.out.only E (d.out.res.two_ne qE.out))
       have QZ:Hid (Below w.heap.size w x9):=d.out.below.trans (zbO E d.out.below.size d.out.newF)
       have jH:=zqS qB
       have Jt:=zqS qD
       have Jq:=zqS qJ
       have jj:x9.heap[bx]? =some (.cells #[.bool true,.string ⟨nm.toArray⟩,.int .i64 now] 57):=by
        refine (E.block bx (zaG S.out) (fun q=> ?_)).trans S.out
        rcases List.mem_cons.1 q with e|e
        ·have:=d.out.res.box
         rw [←e,S.out] at this
         simp at this
        ·have e:=List.mem_singleton.1 e
         obtain ⟨⟨es,kk,h3,_⟩,_⟩:=d.out.res.cac.cac.map
         rw [←e,S.out] at h3
         cases h3
       obtain ⟨f0,f1,f2⟩:=zaP jj
       have d0:=qz.out.c0
       have d1:=qz.out.c1
       have Jp:=zqS (zcU (cq:=cq) nm now x9 jU.out d.out.sortQ (by have:=d.out.lenL.2;omega) d.out.room (by have:=d.out.few.1;omega) (fun b G=>by have:=d.out.few.2 b G;omega) qj.out.1 qj.out.2)
       clear qB qD qJ E qF e0 e1 e2 jj
       go_wp2_with fail
       refine Jp.out.mono ?_
       rintro e xa ⟨a5,k5,Q5,Ja,a6,k6,wb,wj,rfl,Qn,QY,jm,jL,I⟩
       have K:=jP.out.keep I
       have s0:=K.fz 0
       have s1:=(K.set0 (.slice a5 Q5.length k5)).fz 1
       have p0:=K.c0
       have p1:=(K.set0 (.slice a5 Q5.length k5)).c1
       have O:=zcJ (x:=xa) P (.slice a5 Q5.length k5) (.slice a6 B.tail.length k6)
       have QB:=zqS (K.set (.slice a5 Q5.length k5) (.slice a6 B.tail.length k6))
       have Jn:r≠P:=by have:=Jb.out;omega
       have Jl:=zqS ((Jq.out.keep I).off Jn (zbN _ _ _ _ _ _) K.blk O)
       have QO:=zqS (jm.off (zbN _ _ _ _ _ _) K.blk O)
       have QM:Hid (RowX 1 clZ _ ra (ansA A)):=RowX.only zaI (RowX.keep zaI jH.out I) (RowX.off_box (by decide) zcD (zbN _ _ _ _ _ _) K.blk (RowX.keep zaI jH.out I)) O
       have qP:Hid (RowX 3 clR _ wb (ansA B)):=RowX.only zaJ Qn (RowX.off_box (by decide) zbR (zbN _ _ _ _ _ _) K.blk Qn) O
       have Jw:D≠P:=Jx.out
       have qs:=zqS ((qz.out.keep I).only O (fun q=>Jw (List.mem_singleton.1 q)))
       have qa:Hid (Below w.heap.size w ((xa.setCell ⟨P,0,none⟩ (.slice a5 Q5.length k5)).setCell ⟨P,1,none⟩ (.slice a6 B.tail.length k6))):=((QZ.out.trans (I.mono QZ.out.size)).setCell (p:=⟨P,0,none⟩) Qc.out _).setCell (p:=⟨P,1,none⟩) Qc.out _
       have jY:Hid (StpZ nm (putA now A) Q zf Q5 Ja):=by show StpZ _ _ _ _ _ _;rw [jk.out];exact QY
       have Je:=zqS jL
       rw [←qN.out] at qP
       have QT:Hid (∀b∈B.tail,b∈B):=fun b G=>List.mem_of_mem_tail G
       have QJ:Hid (B.tail.length≤B.length):=by show _≤_;simp
       have Qq:=zqS (d.out.step Jl.out QO.out QB.out Jt.out jY.out jQ.out Je.out QT.out QJ.out (zhK d.out.fewA.2) Qc.out qa.out)
       have QH:Hid ((ansA A).length≤1000∧ ∀z∈ansA A,z.Ok):=⟨ziO d.out.fewA.2,fun z hz=>by
        rw [qN.out] at hz
        obtain ⟨b,G,Qr⟩:=ziG hz
        exact d.out.doc.ok b G z Qr⟩
       rw [←ji.out,←qN.out]
       generalize B.tail=Bt at*
       clear Qn QY jm jL I K O
       go_wp2
       go_meet
       exact ⟨L2,qk,b2,j2,A.tail,a5,k5,Q5,a6,k6,Bt,ra,rk,wb,wj,ansA A,false,zdO A,rfl,rfl,rfl,rfl,rfl,rfl,Qq,QM,qP,QH,qs⟩
      |false=>
       obtain ⟨Ag,Qz⟩: ∃l,l=if g=true then A else A.tail:=⟨_,rfl⟩
       have QN:=zeM nm now x8 d.out.res (by have:=d.out.fewA.1;omega) (fun a ha=>by have:=d.out.fewA.2 a ha;omega) jF.out qj.out.1 qj.out.2 g qO.out
       rw [qN.out,ji.out,jk.out,←QA.out,←jC.out,←QQ.out,←Qz] at QN
       have jI:=zqS QN
       have jX:Hid (Ag.map AnG.key=Bg.map AnG.key):=by
        show _=_
        rw [Qz,qY.out]
        cases g with
        |true=>exact d.out.simA
        |false=>exact jQ.out
       have QT:Hid (∀b∈Bg,b∈B):=fun b G=>by
        rw [qY.out] at G
        cases g with
        |true=>exact G
        |false=>exact List.mem_of_mem_tail G
       have QJ:Hid (Bg.length≤B.length):=by
        show _≤_
        rw [qY.out]
        cases g with
        |true=>exact Nat.le_refl _
        |false=>simp
       have Jc:Hid (∀u zs,Pg=some (u,zs)→zs.length≤1000):=fun u zs hp=>by
        rw [QQ.out] at hp
        cases g with
        |true=>cases hp
        |false=>exact zhK d.out.few.2 u zs hp
       have QH:Hid (Wg.length≤1000∧ ∀z∈Wg,z.Ok):=by
        show _∧_
        rw [QA.out]
        cases g with
        |true=>
         rw [if_pos rfl]
         obtain ⟨e,he,jW⟩:=zhV qO.out
         refine ⟨by have:=d.out.short e he;rwa [jW] at this,fun z hz=> ?_⟩
         have hq:gotG Q nm now=true:=(zgY d.out.sim nm now).trans qO.out
         obtain ⟨qe,Jm,qS⟩:=zhV hq
         exact d.out.doc.lst.ok qe Jm z (by rw [qS];exact hz)
        |false=>
         rw [if_neg (by decide)]
         refine ⟨ziO d.out.few.2,fun z hz=> ?_⟩
         obtain ⟨b,G,Qr⟩:=ziG hz
         exact d.out.doc.ok b G z Qr
       clear QN Qz
       go_wp2_with fail
       refine jI.out.mono ?_
       rintro e x9 ⟨ra,rk,rfl,qB,⟨L2,qk,b2,j2,qD,qJ⟩,E⟩
       have QO:=zqS (jA.out.both d.out.res E)
       have qs:=zqS (d.out.box.only E (d.out.res.two_ne d.out.box))
       have QB:=zqS (qE.out.only E (d.out.res.two_ne qE.out))
       have qa:Hid (Below w.heap.size w x9):=d.out.below.trans (zbO E d.out.below.size d.out.newF)
       have qP:=zqS (RowX.both zaJ (by decide) zbR d.out.res E jq.out)
       have QM:=zqS qB
       have Qq:=zqS (d.out.step qJ QO.out QB.out qD jh.out jX.out jy.out QT.out QJ.out Jc.out Qc.out qa.out)
       clear qB qD qJ E jI e0 e1 e2
       go_wp2
       go_meet
       exact ⟨L2,qk,b2,j2,Ag,a3,k3,Q3,a4,k4,Bg,ra,rk,wa,wk,Wg,g,Cg,rfl,rfl,rfl,rfl,rfl,rfl,Qq,QM,qP,QH,qs⟩
    case rest=>
    clear d S jq jh jA jy qE qY QA jC QQ qO e0 e1 e2
    obtain ⟨L2,qk,qM,qn,A2,N,R,Q2,Z,qm,B2,ra,rk,wa,wk,zs,gb,qh,rfl,rfl,rfl,rfl,rfl,rfl,V,jb,jo,qU,qs⟩:=hcut
    have QC:=V.out.box.c0
    have Qs:=V.out.box.c1
    have qo:=zaA V.out.res.box 0
    simp at qo
    have qv:Hid (∀W,Below wc.heap.size wc W→W.cell? ⟨P,0,none⟩=some (.slice N Q2.length R)∧W.cell? ⟨P,1,none⟩=some (.slice Z B2.length qm)∧W.cell? ⟨r,0,none⟩=some (.pointer (some ⟨c,0,none⟩))):=fun W hW=>⟨(hW.cell (World.block_lt_of_cell? wc _ QC)).trans QC,(hW.cell (World.block_lt_of_cell? wc _ Qs)).trans Qs,(hW.cell (World.block_lt_of_cell? wc _ qo)).trans qo⟩
    have jD:Hid (∀W,Below wc.heap.size wc W→Calls Tryz.prog 23 #[.slice ra zs.length rk] W fun e w'=> ∃av ak,e= .returned (.slice av zs.length ak)∧RowX 3 clR w' av zs∧Below wc.heap.size wc w'):=fun W hW=>(zhL ra rk zs W (RowX.keep zaI jb.out hW) qU.out.1 qU.out.2).mono (by
     rintro e w' ⟨v,rfl,ho,G⟩
     obtain ⟨av,ak,rfl⟩:=ho.form
     exact ⟨av,ak,rfl,ho.row zaJ,zaE hW G⟩)
    have jM:Hid (∀W,Below wc.heap.size wc W→ ∀av ak,RowX 3 clR W av zs→Calls Tryz.prog 22 #[.slice av zs.length ak,.slice wa zs.length wk] W fun e w'=>e= .returned (.bool true)∧Below wc.heap.size wc w'):=fun W hW av ak qp=>(zgU av wa ak wk zs W qp (RowX.keep zaJ jo.out hW) (by have:=qU.out.1;omega)).mono (by
     rintro e w' ⟨rfl,G⟩
     exact ⟨rfl,zaE hW G⟩)
    have jz:Hid (∀W,Below wc.heap.size wc W→Calls Tryz.prog 24 #[.pointer (some ⟨r,0,none⟩)] W fun e w'=>e= .returned (.int .i64 B2.length)∧Below wc.heap.size wc w'):=fun W hW=>(ziX W (V.out.res.keep hW)).mono (by
     rintro e w' ⟨rfl,rfl⟩
     exact ⟨by rw [(zkT V.out.simA).1],hW⟩)
    have jw:Hid (∀W,Below wc.heap.size wc W→Calls Tryz.prog 10 #[.pointer (some ⟨c,0,none⟩)] W fun e w'=>e= .returned (.int .i64 Q2.length)∧Below wc.heap.size wc w'):=fun W hW=>(zkB c M L2 W (V.out.res.cac.keep hW).cac).mono (by
     rintro e w' ⟨rfl,rfl⟩
     exact ⟨by rw [zeJ V.out.sim],hW⟩)
    have t1:(gb !=gb)=false:=by simp
    have t2:(qh !=qh)=false:=by simp
    have t3:((B2.length:Int) !=(B2.length:Int))=false:=by simp
    have t4:((Q2.length:Int) !=(Q2.length:Int))=false:=by simp
    go_wp2_with fail
    go_region_held3 (fun W=>W.cell? ⟨P,0,none⟩=some (.slice N Q2.length R)∧W.cell? ⟨P,1,none⟩=some (.slice Z B2.length qm)∧W.cell? ⟨r,0,none⟩=some (.pointer (some ⟨c,0,none⟩))) (first|exact qv.out _ (zaF _)|exact qv.out _ I|exact qv.out _ Qt|exact qv.out _ Qp|exact qv.out _ qW) (first
     |(go_simp;go_at_call 23;((with_reducible refine (jD.out _ (zaF _)).mono ?_);rintro e xa ⟨av,ak,rfl,qp,I⟩;have Qh:=zqS (jM.out xa I av ak qp)))
     |(go_simp;go_at_call 22;((with_reducible refine Qh.out.mono ?_);rintro e xb ⟨rfl,Qt⟩))
     |(go_simp;go_at_call 24;((with_reducible refine (jz.out _ Qt).mono ?_);rintro e xc ⟨rfl,Qp⟩))
     |(go_simp;go_at_call 10;((with_reducible refine (jw.out _ Qp).mono ?_);rintro e xd ⟨rfl,qW⟩)))
    have C:=zqS (V.out.keep qW)
    have qi:=zqS (qs.out.keep qW)
    clear I Qt Qp qW qp Qh jD jM jz jw qv QC Qs qo t1 t2 t3 t4 V jb jo qU qs
    have c0:=C.out.box.c0
    have c1:=C.out.box.c1
    have s0:=qi.out.fz 0
    have s1:=(qi.out.set0 (.slice N Q2.length R)).fz 1
    have q0:=qi.out.c0
    have q1:=(qi.out.set0 (.slice N Q2.length R)).c1
    have O:=zcJ (x:=xd) D (.slice N Q2.length R) (.slice Z B2.length qm)
    have je:r≠D:=fun e=>C.out.res.two_ne qi.out (by rw [e];exact .head _)
    have Js:Hid (GZ w ((xd.setCell ⟨D,0,none⟩ (.slice N Q2.length R)).setCell ⟨D,1,none⟩ (.slice Z B2.length qm)) D r c M L2 qk qM qn A2 N R Q2 Z qm B2):=
     ⟨C.out.res.off je (zbN _ _ _ _ _ _) qi.out.blk O,C.out.doc.off (zbN _ _ _ _ _ _) qi.out.blk O,qi.out.set _ _,C.out.sim,C.out.simA,C.out.room,C.out.few,C.out.short,⟨C.out.new.1,C.out.new.2.1,QP.out⟩,(C.out.below.setCell (p:=⟨D,0,none⟩) QP.out _).setCell (p:=⟨D,1,none⟩) QP.out _⟩
    clear O je
    go_wp2
    go_roundw
    case rel=>exact ⟨k+1,r,c,M,L2,qk,qM,qn,A2,N,R,Q2,Z,qm,B2,by omega,by go_num,rfl,Js⟩
    case measure=>simp [intOf];omega
   ·have Jr:k=z1.length:=by omega
    subst Jr
    clear jp
    have qo:=zaA HG.out.res.box 0
    simp at qo
    have JF:(L.length:Int)≤64:=by have:=HG.out.lenL.1;omega
    have js:=zqS (zdN c M L wr HG.out.res.cac.cac (by have:=HG.out.lenL.1;omega))
    go_wp2_with fail
    refine js.out.mono ?_
    rintro e x5 ⟨v5,rfl,QL,qb⟩
    obtain ⟨a5,k5,rfl⟩:=QL.form
    have QS:=zqS (QL.row zpT)
    have qI:=zqS (HG.out.keep qb)
    have jg:(L.map CE.nm).length=L.length:=List.length_map _
    rw [jg]
    clear QL qb js qo HG jg
    go_wp2
    go_loopw [150] (fun i wx=> ∃m:Nat,m≤L.length∧i= .int .i64 m∧x5=wx) (fun i _=>L.length - (intOf i).toNat)
    case atStart=>exact ⟨0,Nat.zero_le _,rfl,rfl⟩
    case round=>
     obtain ⟨m,hm,rfl,rfl⟩:=hrel
     by_cases QE:m<L.length
     ·have Jy:(m:Int)<L.length:=by omega
      obtain ⟨e,he⟩: ∃e,L[m]? =some e:=⟨_,List.getElem?_eq_getElem QE⟩
      obtain ⟨q,hq,qS,_⟩:=sim_at qI.out.sim he
      have Jf:m<Q.length:=by rw [zeJ qI.out.sim];exact QE
      have Jz:(m:Int)<Q.length:=by omega
      obtain ⟨Z,rfl,r0⟩:=QS.out.r1N (k:=m) (x:=e.nm) (by rw [List.getElem?_map,he];rfl)
      obtain ⟨qd,Jk,q2,Qv,_,s0,_,_⟩:=qI.out.doc.lst.row.at3E Jf
      obtain rfl:q2=q:=by rw [hq] at Qv;exact (Option.some.inj Qv).symm
      rw [qS] at s0
      subst Jk
      have d0:=qI.out.box.c0
      have tn:(e.nm !=e.nm)=false:=by simp
      clear hq Qv he qS
      go_wp2
      go_roundw
      case rel=>exact ⟨m+1,by omega,by go_num,by first|rfl|trivial⟩
      case measure=>simp [intOf];omega
     ·have jZ:m=L.length:=by omega
      subst jZ
      clear QE
      have qa:Hid (Below w.heap.size w x5):=qI.out.below
      go_wp2
      go_ret
      exact ⟨rfl,qa.out⟩
end
end Go.Proofs.YtkiehdigpchebaaGreatDoor
