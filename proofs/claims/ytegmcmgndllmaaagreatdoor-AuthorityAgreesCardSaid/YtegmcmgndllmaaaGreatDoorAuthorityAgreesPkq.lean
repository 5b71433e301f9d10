/-
  What the law AuthorityAgrees leans on, and its walk (42 of 43).
-/
import Derived.Deep.RegionHeld3
import Derived.Test.YtegmcmgndllmaaaGreatDoorAuthorityAgreesPkK
import Derived.Test.YtegmcmgndllmaaaGreatDoorAuthorityAgreesPki
import Derived.Test.YtegmcmgndllmaaaGreatDoorAuthorityAgreesPkj
import Derived.Test.YtegmcmgndllmaaaGreatDoorAuthorityAgreesPkl
import Derived.Test.YtegmcmgndllmaaaGreatDoorAuthorityAgreesPkf
import Derived.Test.YtegmcmgndllmaaaGreatDoorAuthorityAgreesPkh
import Derived.Test.YtegmcmgndllmaaaGreatDoorAuthorityAgreesPkk
import Derived.Test.YtegmcmgndllmaaaGreatDoorAuthorityAgreesPkp
namespace Go.Proofs.YtegmcmgndllmaaaGreatDoor
set_option maxRecDepth 100000
set_option maxHeartbeats 16000000
theorem tkq {P : Program} {g : Region.Mode} {e : Array Oper} {Q : Exit → Act → World → Prop} {S : World → Prop} (i : Nat) (s : Option Nat) {o : Op} {q : TypeId} {f : String} {m : _} {j : _} {v : Value} {fuel : Nat} {d : Array Bool} {a : Act} {w : World} (hi : e[i]? = some ⟨s, o, q, f, m, j⟩)
 (A : YieldsIf P e S ⟨s, o, q, f, m, j⟩ v a) (D : S w)
 (h : wpAnyH P g e Q S fuel (d.setIfInBounds i true) (a.put s v) w)
 (B : Region.noSelect e = true := by kernel_rfl) (C : Region.free g e d i = true := by kernel_rfl) (G : (Region.ready g e d).contains i = true := by kernel_rfl)
 (E : ∀ c a w, Q (.panic c) (a.put s v) w → Q (.panic c) a w := by exact fun _ _ _ h => h) : wpAnyH P g e Q S (fuel + 1) d a w :=
 wpAnyH_take hi B C G E A D h
theorem tkqa {d : Type _} (l : List d) (i : Nat) (a : d) : l.toArray.setIfInBounds i a = (l.set i a).toArray := List.setIfInBounds_toArray ..
theorem tkqb {d : Type _} (x y : d) (l : List d) : (x :: l).set 0 y = y :: l := rfl
theorem tkqc {d : Type _} (x y : d) (l : List d) (n : Nat) : (x :: l).set (n + 1) y = x :: l.set n y := rfl
abbrev ypG := @Lib.hid
section
open Go.RowKit
theorem z3H {l:List UInt8} {u:UZ} {er:Int} (B:zbL l none=(u,er)) (H:er=0) {p:PZ} (C:zfA sixB (zfI u)=(p,0)):
  zlC p=(zfN u,0)∧zgU (zfN u)=zaX u∧zbL (u.scheme++[58,47,47]++zaX u++[47]) none=(zoR u,0)∧zcI u∧(0≤effZ u∧effZ u≤65535)∧(zaX u).length≤1040:=by
 have D:(zbL l none).1=u:=by rw [B]
 have G:(zbL l none).2=0:=by rw [B];exact H
 have d:=zmX l none (fun _ e=>by cases e) G
 have f:=z4J l none (fun _ e=>by cases e)
 rw [D] at d f
 obtain ⟨_,_,_,q⟩:=ybN (six:=sixB) (s:=zfI u) (by rw [C])
 rw [C] at q
 have i:zcI {u with frag:=[],hasF:=false}:=⟨d.sch,d.host,d.port,d.some,d.segs,d.qry,d.noQ,fun _=>rfl⟩
 have o:zdR {u with frag:=[],hasF:=false}:=⟨f.user,f.pass,f.path,f.qry,Out.nil 1⟩
 have j:p=zcQ {u with frag:=[],hasF:=false}:=by
  have:=congrArg Prod.fst q
  simp only at this
  rw [this,←z6W u]
  exact z6F i o
 have m:(zaX u).length≤1040:=by
  have:=zhJ d.host
  unfold zaX
  split
  ·omega
  ·have:=zrQ (n:=u.port) (by have:=d.port.1;omega) d.port.2.1
   simp only [List.length_append,List.length_cons,List.length_nil]
   omega
 obtain ⟨E,I⟩:=z9S d
 have A:=z3G u
 have J:u.scheme.length≤5:=by rcases d.sch with e|e<;>rw [e]<;>decide
 have g:=z6L E I (by rw [A];simp only [List.length_append,List.length_cons,List.length_nil];omega) none
 rw [A] at g
 refine ⟨by rw [j];exact z3B i,z2C d,g,d,?_,m⟩
 unfold effZ
 split
 ·rcases zvS d.sch with e|e<;>rw [e]<;>decide
 ·have:=d.port;omega
theorem zrF {w:World} {R:Nat} (h:RB w R): ∃e f A j m q B g d o,w.cell? ⟨R,0,none⟩=some e∧w.cell? ⟨R,1,none⟩=some f∧w.cell? ⟨R,2,none⟩=some A∧w.cell? ⟨R,3,none⟩=some j∧w.cell? ⟨R,4,none⟩=some m∧w.cell? ⟨R,5,none⟩=some q∧w.cell? ⟨R,6,none⟩=some B∧w.cell? ⟨R,7,none⟩=some g∧w.cell? ⟨R,8,none⟩=some d∧w.cell? ⟨R,9,none⟩=some o∧ ∀i,w.frozen? ⟨R,i,none⟩=false:=by
 obtain ⟨e,f,A,j,m,q,B,g,d,o,h⟩:=h
 exact ⟨e,f,A,j,m,q,B,g,d,o,zaA h 0,zaA h 1,zaA h 2,zaA h 3,zaA h 4,zaA h 5,zaA h 6,zaA h 7,zaA h 8,zaA h 9,zaJ h⟩
theorem z6E {w:World} {R:Nat} (h:RB w R) (e d m j A i g f q o:Value):((((((((((w.setCell ⟨R,0,none⟩ e).setCell ⟨R,1,none⟩ d).setCell ⟨R,2,none⟩ m).setCell ⟨R,3,none⟩ j).setCell ⟨R,4,none⟩ A).setCell ⟨R,5,none⟩ i).setCell ⟨R,6,none⟩ g).setCell ⟨R,7,none⟩ f).setCell ⟨R,8,none⟩ q).setCell ⟨R,9,none⟩ o).heap[R]? =some (.cells #[e,d,m,j,A,i,g,f,q,o] 27):=by
 obtain ⟨C,D,K,G,H,J,L,E,B,I,h⟩:=h
 exact zlN h e d m j A i g f q o
theorem yfB {h:HZ} (d:h.Ok):h.small:=by
 match h,d with
 | .name l,d=>
  have:=zlW l
  have:=d.1.size
  show l.length≤_
  omega
 | .addr a,_=>exact trivial
theorem authorityAgrees_walk (a0:ByteArray) (_w0:a0.size≤maxLen) (w:World) (qD:PowTab w) (qP:BruTab w) (qJ:MaxVar w) (Qd:Lib.Utf8Tabs 1 2 w):
  Calls Tryz.prog 3 #[.string a0] w fun e w'=>e= .returned (.bool true)∧Below w.heap.size w w':=by
 obtain ⟨l,rfl⟩: ∃l:List UInt8,a0=⟨l.toArray⟩:=⟨a0.data.toList,by simp⟩
 have hz:=zaF l
 have HA:=ypG (aw18 w qD qP qJ)
 have i:=ypG (fun y (hy:Below w.heap.size w y)=>(⟨zaD qJ hy,zfS Qd hy,zaC qD hy,zaB qP hy⟩:MaxVar y∧Lib.Utf8Tabs 1 2 y∧PowTab y∧BruTab y))
 have qi:=ypG (fun W (J:MaxVar W)=>ztM l W J)
 have Qa:=z7J l
 obtain ⟨Qw,Qz,Qx,T⟩:=ygR l
 have U:=ypG (fun v er h1 h2 p h3=>z3H (l:=l) (u:=v) (er:=er) h1 h2 (p:=p) h3)
 clear qD qP qJ Qd
 generalize zbL l none=rr at*
 obtain ⟨v,er⟩:=rr
 simp only at Qa Qw Qz Qx T
 have U:=ypG (fun h2 p h3=>U.out v er rfl h2 p h3)
 have Qp:(zfI v).length≤1000000:=by
  have:zhG v=zfI v++(if v.hasF=true then 35::v.frag else []):=rfl
  rw [this,List.length_append] at Qw
  omega
 have qG:=ypG (fun W pv (hp:PV W pv v.path) (h1:PowTab W) (h2:BruTab W)=>z1S v pv W hp Qa (by omega) Qp (by omega) h1 h2)
 have Z:=ypG (fun W (hm:MaxVar W) (hu:Lib.Utf8Tabs 1 2 W)=>zwB (zfI v) W hm hu)
 have Qe:=ypG Qp
 have Ql:=ypG Qa
 clear Qa Qw Qz Qx T Qp
 have QJ: ∃hv,v.host.val=hv∧(hv= .nilIface∨ ∃q A,hv= .iface q A):=by
  rcases v.host.shape with h|⟨q,A,h⟩
  ·exact ⟨_,h,.inl rfl⟩
  ·exact ⟨_,h,.inr ⟨q,A,rfl⟩⟩
 obtain ⟨hv,qC,Qy⟩:=QJ
 by_cases hl:1000<l.length
 ·clear U qG Z i qi Qy qC Qe Ql
  go_enter Tryz.func3,Tryz.ntmps3
  go_wp2_with fail
  refine HA.out.mono ?_
  rintro e x1 ⟨rfl,Q⟩
  have HX:=ypG Q
  clear Q HA
  go_wp2
  go_ret
  exact ⟨rfl,HX.out⟩
 have hl:l.length≤1000:=Nat.not_lt.1 hl
 rcases Qy with rfl|⟨q,A,rfl⟩
 ·have m:=ypG qC
  clear qC
  go_enter Tryz.func3,Tryz.ntmps3
  go_wp2_with fail
  refine HA.out.mono ?_
  rintro e x1 ⟨rfl,Q⟩
  go_wp2_with fail
  refine (qi.out _ (i.out x1 Q).1).mono ?_
  rintro e x2 ⟨pa,rfl,ql,qB⟩
  obtain ⟨aa,an,ac,rfl⟩:=ql.pv.shape
  obtain ⟨y2,G⟩: ∃y,y=x2.alloc (.cells (v.cells (.slice aa an ac)) 27):=⟨_,rfl⟩
  have qq:Below x2.heap.size x2 y2:=by rw [G];exact zbA x2 _
  have qm:UB y2 x2.heap.size v (.slice aa an ac):=by rw [G];exact UB.new x2 v _
  have I:=ql.pv.keep qq
  have qb:=zaG (zaG Q qB) qq
  obtain ⟨O,qs⟩: ∃g,g=x2.heap.size:=⟨_,rfl⟩
  rw [←qs] at qm
  have qn:=ypG qm
  have qO:=ypG I
  have qF:=ypG qb
  have X:=ypG (qG.out y2 _ I (i.out y2 qb).2.2.1 (i.out y2 qb).2.2.2)
  simp only [UZ.cells] at G X ⊢
  rw [m.out] at G X ⊢
  clear Q qB qq ql qm I qb HA qi qG
  go_upto_region 6 with fail
  rw [←G,←qs]
  clear G qs
  obtain ⟨u0,u1,u2,u3,u4,u5,u6,u7,u8,u9,-⟩:=qn.out.all
  rw [m.out] at u3
  go_wp2_with fail
  refine X.out.mono ?_
  rintro e x3 ⟨rfl,Y⟩
  have V:=ypG (zaG qF.out Y)
  have qI:=ypG (qn.out.below Y)
  have qH:=ypG (qO.out.keep Y)
  have Z:=ypG (Z.out x3 (i.out x3 V.out).1 (i.out x3 V.out).2.1)
  clear u0 u1 u2 u3 u4 u5 u6 u7 u8 u9 X qn qO qF Y
  have qr:=zoV sixB (zfI v)
  generalize zfA sixB (zfI v)=px at*
  obtain ⟨p,f⟩:=px
  go_wp2_with fail
  refine Z.out.mono ?_
  rintro e x4 ⟨rfl,qe⟩
  obtain ⟨y4,H⟩: ∃y,y=x4.alloc (.cells p.cells 32):=⟨_,rfl⟩
  have j:Below x4.heap.size x4 y4:=by rw [H];exact (Below.refl _ _).alloc (Nat.le_refl _) _
  have T:PB 32 y4 x4.heap.size p:=by rw [H];exact PB.new _ x4 p
  have qk:=ypG (zaG (zaG V.out qe) j)
  have qx:=ypG ((qI.out.below qe).below j)
  have qo:=ypG ((qH.out.keep qe).keep j)
  obtain ⟨gp,qy⟩: ∃g,g=x4.heap.size:=⟨_,rfl⟩
  rw [←qy] at T
  have qw:=ypG T
  clear Z V qI qH qe j T
  dsimp only [PZ.cells] at H ⊢
  go_upto_region 7 with fail
  rw [←H,←qy]
  clear H qy
  by_cases c1:er=0
  rotate_left
  ·have qf:(er !=0)=true:=bne_iff_ne.2 c1
   clear c1 U i qx qo qw qr
   go_wp2
   go_ret
   exact ⟨rfl,qk.out⟩
  subst c1
  by_cases c2:f=0
  rotate_left
  ·have qf:(f !=0)=true:=bne_iff_ne.2 c2
   clear c2 U i qx qo qw qr
   go_wp2
   go_ret
   exact ⟨rfl,qk.out⟩
  subst c2
  go_upto_region 9 with fail
  obtain ⟨g1,g2,g3,g4,g5,g6⟩:=U.out (by first|rfl|trivial) p rfl
  obtain ⟨q1,q2,q3⟩:=HZ.iface g4.host.ne
  rw [m.out] at q3
  cases q3
 ·have m:=ypG qC
  clear qC
  go_enter Tryz.func3,Tryz.ntmps3
  go_wp2_with fail
  refine HA.out.mono ?_
  rintro e x1 ⟨rfl,Q⟩
  go_wp2_with fail
  refine (qi.out _ (i.out x1 Q).1).mono ?_
  rintro e x2 ⟨pa,rfl,ql,qB⟩
  obtain ⟨aa,an,ac,rfl⟩:=ql.pv.shape
  obtain ⟨y2,G⟩: ∃y,y=x2.alloc (.cells (v.cells (.slice aa an ac)) 27):=⟨_,rfl⟩
  have qq:Below x2.heap.size x2 y2:=by rw [G];exact zbA x2 _
  have qm:UB y2 x2.heap.size v (.slice aa an ac):=by rw [G];exact UB.new x2 v _
  have I:=ql.pv.keep qq
  have qb:=zaG (zaG Q qB) qq
  obtain ⟨O,qs⟩: ∃g,g=x2.heap.size:=⟨_,rfl⟩
  rw [←qs] at qm
  have qn:=ypG qm
  have qO:=ypG I
  have qF:=ypG qb
  have X:=ypG (qG.out y2 _ I (i.out y2 qb).2.2.1 (i.out y2 qb).2.2.2)
  simp only [UZ.cells] at G X ⊢
  rw [m.out] at G X ⊢
  clear Q qB qq ql qm I qb HA qi qG
  go_upto_region 6 with fail
  rw [←G,←qs]
  clear G qs
  obtain ⟨u0,u1,u2,u3,u4,u5,u6,u7,u8,u9,-⟩:=qn.out.all
  rw [m.out] at u3
  go_wp2_with fail
  refine X.out.mono ?_
  rintro e x3 ⟨rfl,Y⟩
  have V:=ypG (zaG qF.out Y)
  have qI:=ypG (qn.out.below Y)
  have qH:=ypG (qO.out.keep Y)
  have Z:=ypG (Z.out x3 (i.out x3 V.out).1 (i.out x3 V.out).2.1)
  clear u0 u1 u2 u3 u4 u5 u6 u7 u8 u9 X qn qO qF Y
  have qr:=zoV sixB (zfI v)
  generalize zfA sixB (zfI v)=px at*
  obtain ⟨p,f⟩:=px
  go_wp2_with fail
  refine Z.out.mono ?_
  rintro e x4 ⟨rfl,qe⟩
  obtain ⟨y4,H⟩: ∃y,y=x4.alloc (.cells p.cells 32):=⟨_,rfl⟩
  have j:Below x4.heap.size x4 y4:=by rw [H];exact (Below.refl _ _).alloc (Nat.le_refl _) _
  have T:PB 32 y4 x4.heap.size p:=by rw [H];exact PB.new _ x4 p
  have qk:=ypG (zaG (zaG V.out qe) j)
  have qx:=ypG ((qI.out.below qe).below j)
  have qo:=ypG ((qH.out.keep qe).keep j)
  obtain ⟨gp,qy⟩: ∃g,g=x4.heap.size:=⟨_,rfl⟩
  rw [←qy] at T
  have qw:=ypG T
  clear Z V qI qH qe j T
  dsimp only [PZ.cells] at H ⊢
  go_upto_region 7 with fail
  rw [←H,←qy]
  clear H qy
  by_cases c1:er=0
  rotate_left
  ·have qf:(er !=0)=true:=bne_iff_ne.2 c1
   clear c1 U i qx qo qw qr
   go_wp2
   go_ret
   exact ⟨rfl,qk.out⟩
  subst c1
  by_cases c2:f=0
  rotate_left
  ·have qf:(f !=0)=true:=bne_iff_ne.2 c2
   clear c2 U i qx qo qw qr
   go_wp2
   go_ret
   exact ⟨rfl,qk.out⟩
  subst c2
  go_upto_region 9 with fail
  obtain ⟨g1,g2,g3,g4,g5,g6⟩:=U.out (by first|rfl|trivial) p rfl
  have qW:p.Few 1000000:=qr.mono Qe.out
  have qY:(zfN v).cells= #[.string ⟨v.scheme.toArray⟩,.iface q A,.int .i64 (effZ v),.bool (!(v.user++v.pass).isEmpty)]:=by
   unfold SZ.cells zfN
   simp only
   rw [m.out]
  have qp:=ypG (fun W (hm:MaxVar W)=>zsE p W qW.1 qW.2.2.1 qW.2.2.2.1 hm)
  rw [g1] at qp
  have qU:=fun W hm=>qp.out W hm
  unfold yaM at qU
  simp only [qY] at qU
  have qp:=ypG qU
  have Qb:=fun W=>zwC v aa an ac W ⟨q,A,m.out⟩
  simp only [qY,UZ.cells] at Qb
  rw [m.out] at Qb
  have QB:=ypG Qb
  have qZ:=fun W (h1:PowTab W) (h2:BruTab W)=>zuA (zfN v) W ⟨q,A,m.out⟩ g4.host.inn (zhJ g4.host) g5.1 g5.2 h1 h2
  rw [g2] at qZ
  simp only [qY] at qZ
  have Qj:=fun W (h1:PowTab W) (h2:BruTab W)=>zsT (zfN v) W ⟨q,A,m.out⟩ g4.host.inn h1 h2
  simp only [qY] at Qj
  have Qo:=fun W (hm:MaxVar W)=>ztM (v.scheme++[58,47,47]++zaX v++[47]) W hm
  rw [g3] at Qo
  have qf:=g4.host.ne
  have QQ:v.scheme.length≤5:=by rcases g4.sch with e|e<;>rw [e]<;>decide
  have a1: ∀W,(Op.stringOp .add ⟨v.scheme.toArray⟩ ⟨#[58,47,47]⟩).run Tryz.prog W= .ok (.string ⟨(v.scheme++[58,47,47]).toArray⟩) W:=zgE _ [58,47,47] (by simp;omega)
  have a2: ∀W,(Op.stringOp .add ⟨(v.scheme++[58,47,47]).toArray⟩ ⟨(zaX v).toArray⟩).run Tryz.prog W= .ok (.string ⟨(v.scheme++[58,47,47]++zaX v).toArray⟩) W:=zgE _ _ (by simp;omega)
  have a3: ∀W,(Op.stringOp .add ⟨(v.scheme++[58,47,47]++zaX v).toArray⟩ ⟨#[47]⟩).run Tryz.prog W= .ok (.string ⟨(v.scheme++[58,47,47]++zaX v++[47]).toArray⟩) W:=zgE _ [47] (by simp;omega)
  have QF:=ypG a1
  have QD:=ypG a2
  have QI:=ypG a3
  have qV:=ypG qZ
  have Qi:=ypG Qj
  have qi:=ypG Qo
  have qz:=ypG g4
  have Qq:=ypG g6
  clear U qr qW qU Qb qZ Qj Qo a1 a2 a3 g1 g2 g3 g4 g5 g6 QQ Qe
  obtain ⟨d0,d1,d2,d3,d4,d5,d6,d7,d8,d9,QN,QR,QK⟩:=qw.out.all
  have qp:=ypG (qp.out y4 (i.out y4 qk.out).1)
  go_wp2_with fail
  refine qp.out.mono ?_
  rintro e x5 ⟨rfl,qS⟩
  clear d0 d1 d2 d3 d4 d5 d6 d7 d8 d9 QN QR QK qp qw
  obtain ⟨y5,qT⟩: ∃y,y=x5.alloc (.cells #[.string ⟨v.scheme.toArray⟩,.iface q A,.int .i64 (effZ v),.bool (!(v.user++v.pass).isEmpty)] 37):=⟨_,rfl⟩
  have j:Below x5.heap.size x5 y5:=by rw [qT];exact (Below.refl _ _).alloc (Nat.le_refl _) _
  have Qv:y5.heap[x5.heap.size]? =some (.cells #[.string ⟨v.scheme.toArray⟩,.iface q A,.int .i64 (effZ v),.bool (!(v.user++v.pass).isEmpty)] 37):=by rw [qT];exact heap_alloc_new x5 _
  have QA:=ypG (zaG (zaG qk.out qS) j)
  have Qs:=ypG ((qx.out.below qS).below j)
  have QE:=ypG ((qo.out.keep qS).keep j)
  obtain ⟨P1,Qr⟩: ∃g,g=x5.heap.size:=⟨_,rfl⟩
  rw [←Qr] at Qv
  have qa:=ypG Qv
  clear qk qx qo qS j Qv
  go_upto_region 10 with fail
  rw [←qT,←Qr]
  clear qT Qr
  obtain ⟨u0,u1,u2,u3,u4,u5,u6,u7,u8,u9,-⟩:=Qs.out.all
  rw [m.out] at u3
  go_wp2_with fail
  refine (QB.out _).mono ?_
  rintro e x6 ⟨rfl,qA⟩
  clear u0 u1 u2 u3 u4 u5 u6 u7 u8 u9 QB
  obtain ⟨y6,qR⟩: ∃y,y=x6.alloc (.cells #[.string ⟨v.scheme.toArray⟩,.iface q A,.int .i64 (effZ v),.bool (!(v.user++v.pass).isEmpty)] 37):=⟨_,rfl⟩
  have j:Below x6.heap.size x6 y6:=by rw [qR];exact (Below.refl _ _).alloc (Nat.le_refl _) _
  have Qn:y6.heap[x6.heap.size]? =some (.cells #[.string ⟨v.scheme.toArray⟩,.iface q A,.int .i64 (effZ v),.bool (!(v.user++v.pass).isEmpty)] 37):=by rw [qR];exact heap_alloc_new x6 _
  have qL:=ypG (zaG (zaG QA.out qA) j)
  have Qh:=ypG ((Qs.out.below qA).below j)
  have QH:=ypG ((QE.out.keep qA).keep j)
  have qa:=ypG ((j.block _ (zaK ((qA.block _ (zaK qa.out)).trans qa.out))).trans ((qA.block _ (zaK qa.out)).trans qa.out))
  obtain ⟨P2,Qk⟩: ∃g,g=x6.heap.size:=⟨_,rfl⟩
  rw [←Qk] at Qn
  have qQ:=ypG Qn
  clear QA Qs QE qA j Qn
  go_upto_region 11 with fail
  rw [←qR,←Qk]
  clear qR Qk
  have Qm:Hid (∀W,Below y6.heap.size y6 W→Calls Tryz.prog 14 #[.agg #[.string ⟨v.scheme.toArray⟩,.iface q A,.int .i64 (effZ v),.bool (!(v.user++v.pass).isEmpty)]] W fun e w'=>e= .returned (.string ⟨(zaX v).toArray⟩)∧Below W.heap.size W w'):=fun W J=>qV.out W (i.out W (zaG qL.out J)).2.2.1 (i.out W (zaG qL.out J)).2.2.2
  have qX:Hid (∀W,Below y6.heap.size y6 W→Calls Tryz.prog 9 #[.string ⟨(v.scheme++[58,47,47]++zaX v++[47]).toArray⟩] W fun e w'=> ∃M L N,e= .returned (.tuple #[.agg #[.string ⟨v.scheme.toArray⟩,.string ⟨#[]⟩,.string ⟨#[]⟩,.iface q A,.int .i64 v.port,.slice M L N,.string ⟨#[]⟩,.bool false,.string ⟨#[]⟩,.bool false],.int .i64 0])∧Below W.heap.size W w'):=fun W J=>(qi.out W (i.out W (zaG qL.out J)).1).mono (fun e w' h=>by
   obtain ⟨pv,h1,h2,h3⟩:=h
   obtain ⟨M,L,N,rfl⟩:=h2.pv.shape
   refine ⟨M,L,N,h1.trans ?_,h3⟩
   simp only [UZ.cells,zoR,zcL]
   rw [m.out])
  have E:Hid (∀W,Below y6.heap.size y6 W→W.cell? ⟨P2,0,none⟩=some (.string ⟨v.scheme.toArray⟩)∧W.cell? ⟨P2,1,none⟩=some (.iface q A)∧W.cell? ⟨P2,2,none⟩=some (.int .i64 (effZ v))∧W.cell? ⟨P2,3,none⟩=some (.bool (!(v.user++v.pass).isEmpty))):=fun W hb=>zcS ((hb.block _ (zaK qQ.out)).trans qQ.out)
  have a1:=QF.out
  have a2:=QD.out
  have a3:=QI.out
  clear QF QD QI qi
  generalize v.scheme++[58,47,47]++zaX v++[47]=t3 at*
  generalize v.scheme++[58,47,47]++zaX v=t2 at*
  generalize v.scheme++[58,47,47]=t1 at*
  go_cut [10,11] (fun pv ev wc=>ev= .int .i64 0∧ ∃(D:Nat) (M:Option Addr) (L N:Nat),pv= .pointer (some ⟨D,0,none⟩)∧Hid (wc.heap[D]? =some (.cells #[.string ⟨v.scheme.toArray⟩,.string ⟨#[]⟩,.string ⟨#[]⟩,.iface q A,.int .i64 v.port,.slice M L N,.string ⟨#[]⟩,.bool false,.string ⟨#[]⟩,.bool false] 27))∧Hid (Below y6.heap.size y6 wc))
  case first=>
   clear Qi qV qa Qh QH qz Qq
   refine wp_region_held_drew (S:=fun W=>W.cell? ⟨P2,0,none⟩=some (.string ⟨v.scheme.toArray⟩)∧W.cell? ⟨P2,1,none⟩=some (.iface q A)∧W.cell? ⟨P2,2,none⟩=some (.int .i64 (effZ v))∧W.cell? ⟨P2,3,none⟩=some (.bool (!(v.user++v.pass).isEmpty))) (by kernel_rfl) ?_ (fun qc=> ?_)
   ·exact E.out _ (zaH _)
   refine tkq 0 (some 42) (v:= ?_) rfl (.inl ⟨by rfl,?_⟩) qc ?_;rotate_left;·intro w d;(try dsimp only at d);go_simp;try with_reducible rfl
   try simp only [Act.put,tkqa,tkqb,tkqc]
   refine tkq 1 (some 43) (v:= ?_) rfl (.inl ⟨by rfl,?_⟩) qc ?_;rotate_left;·intro w d;(try dsimp only at d);go_simp;try with_reducible rfl
   try simp only [Act.put,tkqa,tkqb,tkqc]
   refine tkq 2 (some 44) (v:= ?_) rfl (.inl ⟨by rfl,?_⟩) qc ?_;rotate_left;·intro w d;(try dsimp only at d);go_simp;try with_reducible rfl
   try simp only [Act.put,tkqa,tkqb,tkqc]
   refine tkq 3 (some 45) (v:= ?_) rfl (.inl ⟨by rfl,?_⟩) qc ?_;rotate_left;·intro w d;(try dsimp only at d);go_simp;try with_reducible rfl
   try simp only [Act.put,tkqa,tkqb,tkqc]
   have Qc:Below y6.heap.size y6 y6.drew:=zaH _
   generalize QM:y6.drew=x0 at*
   clear QM
   refine wpAnyH_ready (rs:=[4,11]) (by kernel_rfl) (by simp) ?_
   refine AllReadyH.cons (o:=⟨some 46,_,_,_,_,_⟩) rfl (fun K C=> ?_) ?_
   ·go_simp
    go_at_call 14
    refine (Qm.out _ Qc).mono ?_
    rintro e x7 ⟨rfl,qN⟩
    (try go_wp2_with fail)
    have h7:=zaG Qc qN
    refine C.out _ _ ?_ (fun hA=> ?_)
    ·exact E.out _ h7
    clear C K
    try simp only [Act.put,tkqa,tkqb,tkqc]
    refine tkq 5 (some 47) (v:= ?_) rfl (.inl ⟨by rfl,?_⟩) hA ?_;rotate_left;·intro w d;(try dsimp only at d);go_simp;try with_reducible rfl
    try simp only [Act.put,tkqa,tkqb,tkqc]
    refine tkq 6 (some 48) (v:= ?_) rfl (.inl ⟨by rfl,?_⟩) hA ?_;rotate_left;·intro w d;(try dsimp only at d);go_simp;try with_reducible rfl
    try simp only [Act.put,tkqa,tkqb,tkqc]
    refine wpAnyH_ready (rs:=[7,11]) (by kernel_rfl) (by simp) ?_
    refine AllReadyH.cons (o:=⟨some 49,_,_,_,_,_⟩) rfl (fun K C=> ?_) ?_
    ·go_simp
     go_at_call 9
     refine (qX.out _ h7).mono ?_
     rintro e x8 ⟨M,L,N,rfl,qd⟩
     (try go_wp2_with fail)
     have h8:=zaG h7 qd
     refine C.out _ _ ?_ (fun hB=> ?_)
     ·exact E.out _ h8
     clear C K
     try simp only [Act.put,tkqa,tkqb,tkqc]
     refine tkq 8 (some 41) (v:= ?_) rfl (.inl ⟨by rfl,?_⟩) hB ?_;rotate_left;·intro w d;(try dsimp only at d);go_simp;try with_reducible rfl
     try simp only [Act.put,tkqa,tkqb,tkqc]
     refine tkq 9 (some 50) (v:= ?_) rfl (.inl ⟨by rfl,?_⟩) hB ?_;rotate_left;·intro w d;(try dsimp only at d);go_simp;try with_reducible rfl
     try simp only [Act.put,tkqa,tkqb,tkqc]
     refine tkq 10 (some 51) (v:= ?_) rfl (.inl ⟨by rfl,?_⟩) hB ?_;rotate_left;·intro w d;(try dsimp only at d);go_simp;try with_reducible rfl
     try simp only [Act.put,tkqa,tkqb,tkqc]
     refine wpAnyH_ready (rs:=[11]) (by kernel_rfl) (by simp) ?_
     refine AllReadyH.cons (o:=⟨some 10,_,_,_,_,_⟩) rfl (fun K C=> ?_) AllReadyH.nil
     go_simp
     have R9:=RB.new x8
     have B9:Below x8.heap.size x8 (x8.alloc (.cells zbQ 27)):=zbA x8 _
     have L9:=h8.size
     have A9:=zaG h8 B9
     unfold zbQ at R9 A9 B9
     generalize qK:x8.alloc (.cells #[.string ⟨#[]⟩,.string ⟨#[]⟩,.string ⟨#[]⟩,.nilIface,.int .i64 0,.slice none 0 0,.string ⟨#[]⟩,.bool false,.string ⟨#[]⟩,.bool false] 27)=x9 at*
     generalize x8.heap.size=D at*
     clear qK
     refine C.out _ _ ?_ (fun hC=> ?_)
     ·exact E.out _ A9
     clear C K
     try simp only [Act.put,tkqa,tkqb,tkqc]
     obtain ⟨z0,z1,z2,z3,z4,z5,z6,z7,z8,z9,k0,k1,k2,k3,k4,k5,k6,k7,k8,k9,kf⟩:=zrF R9
     have qg:=zcC A9 L9 (.string ⟨v.scheme.toArray⟩) (.string ⟨#[]⟩) (.string ⟨#[]⟩) (.iface q A) (.int .i64 v.port) (.slice M L N) (.string ⟨#[]⟩) (.bool false) (.string ⟨#[]⟩) (.bool false)
     have qj:=z6E R9 (.string ⟨v.scheme.toArray⟩) (.string ⟨#[]⟩) (.string ⟨#[]⟩) (.iface q A) (.int .i64 v.port) (.slice M L N) (.string ⟨#[]⟩) (.bool false) (.string ⟨#[]⟩) (.bool false)
     have qh:=ypG qg
     have qE:=ypG qj
     clear qg qj
     refine wpAnyH_ready (rs:=[12]) (by kernel_rfl) (by simp) ?_
     refine AllReadyH.cons (o:=⟨none,_,_,_,_,_⟩) rfl (fun K C=> ?_) AllReadyH.nil
     go_simp
     refine C.out _ _ ?_ (fun hT=> ?_)
     ·exact E.out _ qh.out
     clear C K
     try simp only [Act.put,tkqa,tkqb,tkqc]
     refine tkq 13 (some 11) (v:= ?_) rfl (.inl ⟨by rfl,?_⟩) hT ?_;rotate_left;·intro w d;(try dsimp only at d);go_simp;try with_reducible rfl
     try simp only [Act.put,tkqa,tkqb,tkqc]
     refine wpAnyH_done (by kernel_rfl) ?_ _
     clear k0 k1 k2 k3 k4 k5 k6 k7 k8 k9 kf
     go_wp2
     go_meet
     exact ⟨rfl,D,M,L,N,rfl,qE.out,qh.out⟩
    refine AllReadyH.cons (o:=⟨some 10,_,_,_,_,_⟩) rfl (fun K C=> ?_) AllReadyH.nil
    go_simp
    have R9:=RB.new x7
    have B9:Below x7.heap.size x7 (x7.alloc (.cells zbQ 27)):=zbA x7 _
    have L9:=h7.size
    have A9:=zaG h7 B9
    unfold zbQ at R9 A9 B9
    generalize qK:x7.alloc (.cells #[.string ⟨#[]⟩,.string ⟨#[]⟩,.string ⟨#[]⟩,.nilIface,.int .i64 0,.slice none 0 0,.string ⟨#[]⟩,.bool false,.string ⟨#[]⟩,.bool false] 27)=x9 at*
    generalize x7.heap.size=D at*
    clear qK
    refine C.out _ _ ?_ (fun hB=> ?_)
    ·exact E.out _ A9
    clear C K
    try simp only [Act.put,tkqa,tkqb,tkqc]
    refine wpAnyH_ready (rs:=[7]) (by kernel_rfl) (by simp) ?_
    refine AllReadyH.cons (o:=⟨some 49,_,_,_,_,_⟩) rfl (fun K C=> ?_) AllReadyH.nil
    go_simp
    go_at_call 9
    refine (qX.out _ A9).mono ?_
    rintro e x8 ⟨M,L,N,rfl,qd⟩
    (try go_wp2_with fail)
    have h8:=zaG A9 qd
    refine C.out _ _ ?_ (fun hC=> ?_)
    ·exact E.out _ h8
    clear C K
    try simp only [Act.put,tkqa,tkqb,tkqc]
    refine tkq 8 (some 41) (v:= ?_) rfl (.inl ⟨by rfl,?_⟩) hC ?_;rotate_left;·intro w d;(try dsimp only at d);go_simp;try with_reducible rfl
    try simp only [Act.put,tkqa,tkqb,tkqc]
    refine tkq 9 (some 50) (v:= ?_) rfl (.inl ⟨by rfl,?_⟩) hC ?_;rotate_left;·intro w d;(try dsimp only at d);go_simp;try with_reducible rfl
    try simp only [Act.put,tkqa,tkqb,tkqc]
    refine tkq 10 (some 51) (v:= ?_) rfl (.inl ⟨by rfl,?_⟩) hC ?_;rotate_left;·intro w d;(try dsimp only at d);go_simp;try with_reducible rfl
    try simp only [Act.put,tkqa,tkqb,tkqc]
    obtain ⟨z0,z1,z2,z3,z4,z5,z6,z7,z8,z9,k0,k1,k2,k3,k4,k5,k6,k7,k8,k9,kf⟩:=zrF (R9.below qd)
    have qg:=zcC h8 L9 (.string ⟨v.scheme.toArray⟩) (.string ⟨#[]⟩) (.string ⟨#[]⟩) (.iface q A) (.int .i64 v.port) (.slice M L N) (.string ⟨#[]⟩) (.bool false) (.string ⟨#[]⟩) (.bool false)
    have qj:=z6E (R9.below qd) (.string ⟨v.scheme.toArray⟩) (.string ⟨#[]⟩) (.string ⟨#[]⟩) (.iface q A) (.int .i64 v.port) (.slice M L N) (.string ⟨#[]⟩) (.bool false) (.string ⟨#[]⟩) (.bool false)
    have qh:=ypG qg
    have qE:=ypG qj
    clear qg qj
    refine wpAnyH_ready (rs:=[12]) (by kernel_rfl) (by simp) ?_
    refine AllReadyH.cons (o:=⟨none,_,_,_,_,_⟩) rfl (fun K C=> ?_) AllReadyH.nil
    go_simp
    refine C.out _ _ ?_ (fun hT=> ?_)
    ·exact E.out _ qh.out
    clear C K
    try simp only [Act.put,tkqa,tkqb,tkqc]
    refine tkq 13 (some 11) (v:= ?_) rfl (.inl ⟨by rfl,?_⟩) hT ?_;rotate_left;·intro w d;(try dsimp only at d);go_simp;try with_reducible rfl
    try simp only [Act.put,tkqa,tkqb,tkqc]
    refine wpAnyH_done (by kernel_rfl) ?_ _
    clear k0 k1 k2 k3 k4 k5 k6 k7 k8 k9 kf
    go_wp2
    go_meet
    exact ⟨rfl,D,M,L,N,rfl,qE.out,qh.out⟩
   refine AllReadyH.cons (o:=⟨some 10,_,_,_,_,_⟩) rfl (fun K C=> ?_) AllReadyH.nil
   go_simp
   have R9:=RB.new x0
   have B9:Below x0.heap.size x0 (x0.alloc (.cells zbQ 27)):=zbA x0 _
   have L9:=Qc.size
   have A9:=zaG Qc B9
   unfold zbQ at R9 A9 B9
   generalize qK:x0.alloc (.cells #[.string ⟨#[]⟩,.string ⟨#[]⟩,.string ⟨#[]⟩,.nilIface,.int .i64 0,.slice none 0 0,.string ⟨#[]⟩,.bool false,.string ⟨#[]⟩,.bool false] 27)=x9 at*
   generalize x0.heap.size=D at*
   clear qK
   refine C.out _ _ ?_ (fun hA=> ?_)
   ·exact E.out _ A9
   clear C K
   try simp only [Act.put,tkqa,tkqb,tkqc]
   refine wpAnyH_ready (rs:=[4]) (by kernel_rfl) (by simp) ?_
   refine AllReadyH.cons (o:=⟨some 46,_,_,_,_,_⟩) rfl (fun K C=> ?_) AllReadyH.nil
   go_simp
   go_at_call 14
   refine (Qm.out _ A9).mono ?_
   rintro e x7 ⟨rfl,qN⟩
   (try go_wp2_with fail)
   have h7:=zaG A9 qN
   refine C.out _ _ ?_ (fun hB=> ?_)
   ·exact E.out _ h7
   clear C K
   try simp only [Act.put,tkqa,tkqb,tkqc]
   refine tkq 5 (some 47) (v:= ?_) rfl (.inl ⟨by rfl,?_⟩) hB ?_;rotate_left;·intro w d;(try dsimp only at d);go_simp;try with_reducible rfl
   try simp only [Act.put,tkqa,tkqb,tkqc]
   refine tkq 6 (some 48) (v:= ?_) rfl (.inl ⟨by rfl,?_⟩) hB ?_;rotate_left;·intro w d;(try dsimp only at d);go_simp;try with_reducible rfl
   try simp only [Act.put,tkqa,tkqb,tkqc]
   refine wpAnyH_ready (rs:=[7]) (by kernel_rfl) (by simp) ?_
   refine AllReadyH.cons (o:=⟨some 49,_,_,_,_,_⟩) rfl (fun K C=> ?_) AllReadyH.nil
   go_simp
   go_at_call 9
   refine (qX.out _ h7).mono ?_
   rintro e x8 ⟨M,L,N,rfl,qd⟩
   (try go_wp2_with fail)
   have h8:=zaG h7 qd
   refine C.out _ _ ?_ (fun hC=> ?_)
   ·exact E.out _ h8
   clear C K
   try simp only [Act.put,tkqa,tkqb,tkqc]
   refine tkq 8 (some 41) (v:= ?_) rfl (.inl ⟨by rfl,?_⟩) hC ?_;rotate_left;·intro w d;(try dsimp only at d);go_simp;try with_reducible rfl
   try simp only [Act.put,tkqa,tkqb,tkqc]
   refine tkq 9 (some 50) (v:= ?_) rfl (.inl ⟨by rfl,?_⟩) hC ?_;rotate_left;·intro w d;(try dsimp only at d);go_simp;try with_reducible rfl
   try simp only [Act.put,tkqa,tkqb,tkqc]
   refine tkq 10 (some 51) (v:= ?_) rfl (.inl ⟨by rfl,?_⟩) hC ?_;rotate_left;·intro w d;(try dsimp only at d);go_simp;try with_reducible rfl
   try simp only [Act.put,tkqa,tkqb,tkqc]
   obtain ⟨z0,z1,z2,z3,z4,z5,z6,z7,z8,z9,k0,k1,k2,k3,k4,k5,k6,k7,k8,k9,kf⟩:=zrF ((R9.below qN).below qd)
   have qg:=zcC h8 L9 (.string ⟨v.scheme.toArray⟩) (.string ⟨#[]⟩) (.string ⟨#[]⟩) (.iface q A) (.int .i64 v.port) (.slice M L N) (.string ⟨#[]⟩) (.bool false) (.string ⟨#[]⟩) (.bool false)
   have qj:=z6E ((R9.below qN).below qd) (.string ⟨v.scheme.toArray⟩) (.string ⟨#[]⟩) (.string ⟨#[]⟩) (.iface q A) (.int .i64 v.port) (.slice M L N) (.string ⟨#[]⟩) (.bool false) (.string ⟨#[]⟩) (.bool false)
   have qh:=ypG qg
   have qE:=ypG qj
   clear qg qj
   refine wpAnyH_ready (rs:=[12]) (by kernel_rfl) (by simp) ?_
   refine AllReadyH.cons (o:=⟨none,_,_,_,_,_⟩) rfl (fun K C=> ?_) AllReadyH.nil
   go_simp
   refine C.out _ _ ?_ (fun hT=> ?_)
   ·exact E.out _ qh.out
   clear C K
   try simp only [Act.put,tkqa,tkqb,tkqc]
   refine tkq 13 (some 11) (v:= ?_) rfl (.inl ⟨by rfl,?_⟩) hT ?_;rotate_left;·intro w d;(try dsimp only at d);go_simp;try with_reducible rfl
   try simp only [Act.put,tkqa,tkqb,tkqc]
   refine wpAnyH_done (by kernel_rfl) ?_ _
   clear k0 k1 k2 k3 k4 k5 k6 k7 k8 k9 kf
   go_wp2
   go_meet
   exact ⟨rfl,D,M,L,N,rfl,qE.out,qh.out⟩
  case rest=>
   obtain ⟨rfl,D,M,L,N,rfl,QC,qM⟩:=hcut
   have QG:=ypG (zaG qL.out qM.out)
   have m5:=(qM.out.block _ (zaK qa.out)).trans qa.out
   have m6:=(qM.out.block _ (zaK qQ.out)).trans qQ.out
   have m2:=Qh.out.below qM.out
   have m3:=QC.out
   have Qt:Hid (∀W,Below wc.heap.size wc W→W.cell? ⟨P1,0,none⟩=some (.string ⟨v.scheme.toArray⟩)∧W.cell? ⟨P1,1,none⟩=some (.iface q A)∧W.cell? ⟨P1,2,none⟩=some (.int .i64 (effZ v))∧W.cell? ⟨P1,3,none⟩=some (.bool (!(v.user++v.pass).isEmpty))∧W.cell? ⟨P2,0,none⟩=some (.string ⟨v.scheme.toArray⟩)∧W.cell? ⟨P2,1,none⟩=some (.iface q A)∧W.cell? ⟨P2,2,none⟩=some (.int .i64 (effZ v))∧W.cell? ⟨P2,3,none⟩=some (.bool (!(v.user++v.pass).isEmpty))∧W.cell? ⟨O,0,none⟩=some (.string ⟨v.scheme.toArray⟩)∧W.cell? ⟨O,1,none⟩=some (.string ⟨v.user.toArray⟩)∧W.cell? ⟨O,2,none⟩=some (.string ⟨v.pass.toArray⟩)∧W.cell? ⟨O,3,none⟩=some (.iface q A)∧W.cell? ⟨O,4,none⟩=some (.int .i64 v.port)∧W.cell? ⟨O,5,none⟩=some (.slice aa an ac)∧W.cell? ⟨O,6,none⟩=some (.string ⟨v.query.toArray⟩)∧W.cell? ⟨O,7,none⟩=some (.bool v.hasQ)∧W.cell? ⟨O,8,none⟩=some (.string ⟨v.frag.toArray⟩)∧W.cell? ⟨O,9,none⟩=some (.bool v.hasF)∧W.cell? ⟨D,0,none⟩=some (.string ⟨v.scheme.toArray⟩)∧W.cell? ⟨D,1,none⟩=some (.string ⟨#[]⟩)∧W.cell? ⟨D,2,none⟩=some (.string ⟨#[]⟩)∧W.cell? ⟨D,3,none⟩=some (.iface q A)∧W.cell? ⟨D,4,none⟩=some (.int .i64 v.port)∧W.cell? ⟨D,5,none⟩=some (.slice M L N)∧W.cell? ⟨D,6,none⟩=some (.string ⟨#[]⟩)∧W.cell? ⟨D,7,none⟩=some (.bool false)∧W.cell? ⟨D,8,none⟩=some (.string ⟨#[]⟩)∧W.cell? ⟨D,9,none⟩=some (.bool false)):=fun W hb=>by
    obtain ⟨a0,a1,a2,a3⟩:=zcS ((hb.block _ (zaK m5)).trans m5)
    obtain ⟨b0,b1,b2,b3⟩:=zcS ((hb.block _ (zaK m6)).trans m6)
    obtain ⟨c0,c1,c2,c3,c4,c5,c6,c7,c8,c9,-⟩:=(m2.below hb).all
    obtain ⟨d0,d1,d2,d3,d4,d5,d6,d7,d8,d9,-⟩:=zbR ((hb.block _ (zaK m3)).trans m3)
    rw [m.out] at c3
    exact ⟨a0,a1,a2,a3,b0,b1,b2,b3,c0,c1,c2,c3,c4,c5,c6,c7,c8,c9,d0,d1,d2,d3,d4,d5,d6,d7,d8,d9⟩
   have qv:=fun W (hb:Below wc.heap.size wc W)=>i.out W (zaG QG.out hb)
   have qf:=qz.out.host.ne
   have QL:=qz.out.port
   have HD:Hid (∀W,Below wc.heap.size wc W→Calls Tryz.prog 15 #[.agg #[.string ⟨v.scheme.toArray⟩,.iface q A,.int .i64 (effZ v),.bool (!(v.user++v.pass).isEmpty)],.agg #[.string ⟨v.scheme.toArray⟩,.iface q A,.int .i64 (effZ v),.bool (!(v.user++v.pass).isEmpty)]] W fun e w'=>e= .returned (.slice none 0 0)∧Below wc.heap.size wc w'):=fun W J=>(Qi.out W (qv W J).2.2.1 (qv W J).2.2.2).mono (fun e w' h=>⟨h.1,zaG J h.2⟩)
   have HE:Hid (∀W,Below wc.heap.size wc W→Calls Tryz.prog 16 #[.agg #[.string ⟨v.scheme.toArray⟩,.string ⟨#[]⟩,.string ⟨#[]⟩,.iface q A,.int .i64 v.port,.slice M L N,.string ⟨#[]⟩,.bool false,.string ⟨#[]⟩,.bool false]] W fun e w'=>e= .returned (.int .i64 (effZ v))∧Below wc.heap.size wc w'):=fun W J=>by
    have h:=zjV (zoR v) (.slice M L N) W
    simp only [UZ.cells,zoR,zcL] at h
    rw [m.out] at h
    exact h.mono (fun e w' h=>⟨h.1,zaG J h.2⟩)
   have HH:Hid (∀W,Below wc.heap.size wc W→Calls Tryz.prog 14 #[.agg #[.string ⟨v.scheme.toArray⟩,.iface q A,.int .i64 (effZ v),.bool (!(v.user++v.pass).isEmpty)]] W fun e w'=>e= .returned (.string ⟨(zaX v).toArray⟩)∧Below wc.heap.size wc w'):=fun W J=>(qV.out W (qv W J).2.2.1 (qv W J).2.2.2).mono (fun e w' h=>⟨h.1,zaG J h.2⟩)
   have Qg:Hid (∀W,Below wc.heap.size wc W→Calls Tryz.prog 17 #[.agg #[.string ⟨v.scheme.toArray⟩,.string ⟨v.user.toArray⟩,.string ⟨v.pass.toArray⟩,.iface q A,.int .i64 v.port,.slice aa an ac,.string ⟨v.query.toArray⟩,.bool v.hasQ,.string ⟨v.frag.toArray⟩,.bool v.hasF]] W fun e w'=>e= .returned (.string ⟨(zaX v).toArray⟩)∧Below wc.heap.size wc w'):=fun W J=>by
    have h:=zhN v (.slice aa an ac) W Ql.out (by omega) (by have:=Qq.out;omega) (qv W J).2.2.1 (qv W J).2.2.2
    simp only [UZ.cells] at h
    rw [m.out] at h
    exact h.mono (fun e w' h=>⟨h.1,zaG J h.2⟩)
   have Qf:Hid (∀W,Below wc.heap.size wc W→Calls Tryz.prog 18 #[.iface q A] W fun e w'=>e= .returned (.bool true)∧Below wc.heap.size wc w'):=fun W J=>by
    have h:=zrD v.host W (yfB qz.out.host)
    rw [m.out,z7R qz.out.host] at h
    exact h.mono (fun e w' h=>⟨h.1,zaG J h.2⟩)
   have QP:=zxN v.host qf
   have QO:=ygH v.host v.host qf
   rw [m.out] at QP QO
   have e1:(zaX v==zaX v)=true:=by simp
   have e2:(effZ v==effZ v)=true:=by simp
   clear m5 m6 m2 m3 qv qf QL Qi qV qa qQ Qh QH qz Qq E Qm qX Ql i qL qM QC a1 a2 a3
   generalize zaX v=au at*
   generalize effZ v=ev at*
   go_wp2_with fail
   go_region_held3 (fun W=>W.cell? ⟨P1,0,none⟩=some (.string ⟨v.scheme.toArray⟩)∧W.cell? ⟨P1,1,none⟩=some (.iface q A)∧W.cell? ⟨P1,2,none⟩=some (.int .i64 (ev))∧W.cell? ⟨P1,3,none⟩=some (.bool (!(v.user++v.pass).isEmpty))∧W.cell? ⟨P2,0,none⟩=some (.string ⟨v.scheme.toArray⟩)∧W.cell? ⟨P2,1,none⟩=some (.iface q A)∧W.cell? ⟨P2,2,none⟩=some (.int .i64 (ev))∧W.cell? ⟨P2,3,none⟩=some (.bool (!(v.user++v.pass).isEmpty))∧W.cell? ⟨O,0,none⟩=some (.string ⟨v.scheme.toArray⟩)∧W.cell? ⟨O,1,none⟩=some (.string ⟨v.user.toArray⟩)∧W.cell? ⟨O,2,none⟩=some (.string ⟨v.pass.toArray⟩)∧W.cell? ⟨O,3,none⟩=some (.iface q A)∧W.cell? ⟨O,4,none⟩=some (.int .i64 v.port)∧W.cell? ⟨O,5,none⟩=some (.slice aa an ac)∧W.cell? ⟨O,6,none⟩=some (.string ⟨v.query.toArray⟩)∧W.cell? ⟨O,7,none⟩=some (.bool v.hasQ)∧W.cell? ⟨O,8,none⟩=some (.string ⟨v.frag.toArray⟩)∧W.cell? ⟨O,9,none⟩=some (.bool v.hasF)∧W.cell? ⟨D,0,none⟩=some (.string ⟨v.scheme.toArray⟩)∧W.cell? ⟨D,1,none⟩=some (.string ⟨#[]⟩)∧W.cell? ⟨D,2,none⟩=some (.string ⟨#[]⟩)∧W.cell? ⟨D,3,none⟩=some (.iface q A)∧W.cell? ⟨D,4,none⟩=some (.int .i64 v.port)∧W.cell? ⟨D,5,none⟩=some (.slice M L N)∧W.cell? ⟨D,6,none⟩=some (.string ⟨#[]⟩)∧W.cell? ⟨D,7,none⟩=some (.bool false)∧W.cell? ⟨D,8,none⟩=some (.string ⟨#[]⟩)∧W.cell? ⟨D,9,none⟩=some (.bool false))
    (first|exact Qt.out _ (zaH _)|exact Qt.out _ B)
    (first
     |(go_simp;go_at_call 15;((with_reducible refine (HD.out _ B).mono ?_);rintro e x5 ⟨rfl,B⟩))
     |(go_simp;go_at_call 15;((with_reducible refine (HD.out _ (zaH _)).mono ?_);rintro e x5 ⟨rfl,B⟩))
     |(go_simp;go_at_call 16;((with_reducible refine (HE.out _ B).mono ?_);rintro e x5 ⟨rfl,B⟩))
     |(go_simp;go_at_call 16;((with_reducible refine (HE.out _ (zaH _)).mono ?_);rintro e x5 ⟨rfl,B⟩))
     |(go_simp;go_at_call 14;((with_reducible refine (HH.out _ B).mono ?_);rintro e x5 ⟨rfl,B⟩))
     |(go_simp;go_at_call 14;((with_reducible refine (HH.out _ (zaH _)).mono ?_);rintro e x5 ⟨rfl,B⟩))
     |(go_simp;go_at_call 17;((with_reducible refine (Qg.out _ B).mono ?_);rintro e x5 ⟨rfl,B⟩))
     |(go_simp;go_at_call 17;((with_reducible refine (Qg.out _ (zaH _)).mono ?_);rintro e x5 ⟨rfl,B⟩))
     |(go_simp;go_at_call 18;((with_reducible refine (Qf.out _ B).mono ?_);rintro e x5 ⟨rfl,B⟩))
     |(go_simp;go_at_call 18;((with_reducible refine (Qf.out _ (zaH _)).mono ?_);rintro e x5 ⟨rfl,B⟩)))
   all_goals
    have HF:=ypG (zaG QG.out B)
    clear B Qt HD HE HH Qg Qf
    go_wp2
    go_ret
    exact ⟨rfl,HF.out⟩
end
end Go.Proofs.YtegmcmgndllmaaaGreatDoor
