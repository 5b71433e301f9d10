/-
  What the law CachePlays leans on, and its walk (20 of 21).
-/
import Derived.Test.YteajemblhlbfpaaGreatDoorCachePlaysPkQ
import Derived.Test.YteajemblhlbfpaaGreatDoorCachePlaysPkT
namespace Go.Proofs.YteajemblhlbfpaaGreatDoor
set_option maxRecDepth 100000
set_option maxHeartbeats 16000000
theorem tkU {P : Program} {o : Region.Mode} {g : Array Oper} {Q : Exit → Act → World → Prop} {S : World → Prop} (i : Nat) (s : Option Nat) {A : Op} {B : TypeId} {j : String} {y : _} {p : _} {v : Value} {fuel : Nat} {f : Array Bool} {a : Act} {w : World} (hi : g[i]? = some ⟨s, A, B, j, y, p⟩)
 (I : YieldsIf P g S ⟨s, A, B, j, y, p⟩ v a) (H : S w)
 (h : wpAnyH P o g Q S fuel (f.setIfInBounds i true) (a.put s v) w)
 (C : Region.noSelect g = true := by kernel_rfl) (D : Region.free o g f i = true := by kernel_rfl) (G : (Region.ready o g f).contains i = true := by kernel_rfl)
 (E : ∀ c a w, Q (.panic c) (a.put s v) w → Q (.panic c) a w := by exact fun _ _ _ h => h) : wpAnyH P o g Q S (fuel + 1) f a w :=
 wpAnyH_take hi C D G E I H h
theorem tkUa {α : Type _} (l : List α) (i : Nat) (a : α) : l.toArray.setIfInBounds i a = (l.set i a).toArray := List.setIfInBounds_toArray ..
theorem tkUb {α : Type _} (x y : α) (l : List α) : (x :: l).set 0 y = y :: l := rfl
theorem tkUc {α : Type _} (x y : α) (l : List α) (n : Nat) : (x :: l).set (n + 1) y = x :: l.set n y := rfl
abbrev zpD := @Lib.hid
section
open Go.RowKit Go.Maps Go.Sort Go.Shelf Go.Lib
theorem zcG {x y:World} {M:Nat} (h:Only [M] x y) (g: ∀p:Addr,p.block=M→x.cell? p=none) {p:Addr} {v:Value} (f:x.cell? p=some v):y.cell? p=some v:=
 (World.cell?_of_block (a:=p) (h.block p.block (World.block_lt_of_cell? x _ f) (fun e=>by rw [g p (List.mem_singleton.1 e)] at f;cases f))).trans f
theorem ziB (s:ByteArray):(⟨s.data.toList.toArray⟩:ByteArray)=s:=by cases s;simp
theorem cachePlays_walk (a0:Option Addr) (qH qQ:Nat) (z0:List Ac) (a1:Int) (_w1:(Lit.int .i64 a1).wf=true) (w:World) (w0:IsCRow w a0 qH qQ z0) (qM:PowTab w) (qP:BruTab w) (qO:MaxVar w):
  Calls Tryz.prog 3 #[.slice a0 qH qQ,.int .i64 a1] w fun e w'=>e= .returned (.bool true)∧Below w.heap.size w w':=by
 have QE:z0.length=qH:=w0.1
 subst QE
 have qR:=zpD w0
 have qC:=zpD (aw20 w qM qP qO)
 clear w0 qM qP qO
 by_cases g0:150<z0.length
 ·have QC:(150:Int)<z0.length:=by omega
  go_enter Tryz.func3,Tryz.ntmps3
  go_wp2_with fail
  refine qC.out.mono ?_
  rintro e x0 ⟨rfl,Y⟩
  have qe:=zpD Y
  clear Y
  go_wp2
  go_ret
  exact ⟨rfl,qe.out⟩
 have QC: ¬(150:Int)<z0.length:=by omega
 by_cases g1:a1<0
 ·go_enter Tryz.func3,Tryz.ntmps3
  go_wp2_with fail
  refine qC.out.mono ?_
  rintro e x0 ⟨rfl,Y⟩
  have qe:=zpD Y
  clear Y
  go_wp2
  go_ret
  exact ⟨rfl,qe.out⟩
 by_cases g2:1152921504606846976<a1
 ·go_enter Tryz.func3,Tryz.ntmps3
  go_wp2_with fail
  refine qC.out.mono ?_
  rintro e x0 ⟨rfl,Y⟩
  have qe:=zpD Y
  clear Y
  go_wp2
  go_ret
  exact ⟨rfl,qe.out⟩
 have je:Hid (z0.length≤150):=by show _≤_;omega
 go_enter Tryz.func3,Tryz.ntmps3
 go_wp2_with fail
 refine qC.out.mono ?_
 rintro e x0 ⟨rfl,Y⟩
 have qe:=zpD Y
 have Ql:=zpD (zeG x0)
 clear Y
 go_wp2_with fail
 refine Ql.out.mono ?_
 rintro e x1 ⟨cc,M,rfl,B,QJ,Qe,Qo⟩
 have Qt:Hid (zdS x1 cc M [] (fun _=>[]) none []):=⟨CacZ.new B _,rfl,(fun j x hx=>by simp at hx),(fun _ h=>nomatch h),(fun _ h=>nomatch h),(fun _ h=>nomatch h)⟩
 have qN:Hid (w.heap.size≤M):=Nat.le_trans qe.out.size Qe
 have Qw:=zpD (qe.out.trans (Qo.mono qe.out.size))
 clear B QJ Qe Qo Ql qC g0 QC g1 g2 qe
 go_wp2
 go_loopw [5,6,32] (fun cv qv i wr=> ∃(k cc M:Nat) (L Q:List CE) (zf:List UInt8→List AZ) (aq:Option Addr) (cq:Nat),k≤z0.length∧i= .int .i64 k∧cv= .pointer (some ⟨cc,0,none⟩)∧qv= .slice aq Q.length cq∧Hid (zdS wr cc M L zf aq Q)∧Hid (w.heap.size≤M)∧Hid (Below w.heap.size w wr)) (fun _ _ i _=>z0.length - (intOf i).toNat)
 case atStart=>exact ⟨0,cc,M,[],[],_,none,0,Nat.zero_le _,rfl,rfl,rfl,Qt,qN,Qw⟩
 case round=>
  clear Qt Qw qN
  obtain ⟨j,cc,M,L,Q,zf,aq,cq,hj,rfl,rfl,rfl,HP,qA,HB⟩:=hrel
  by_cases Qz:j<z0.length
  ·have ja:(j:Int)<z0.length:=by omega
   obtain ⟨ad,rfl,x,hx,Qx,r0,r1,r2,r3⟩:=(qR.out.keep HB.out).2.1.at4 Qz
   have qD:=zpD ((qR.out.keep HB.out).2.2 x Qx)
   clear hx Qx
   obtain ⟨d,qZ,E,la,lc,l⟩:=x
   dsimp only at r0 r1 r2 r3
   obtain ⟨nm,rfl⟩: ∃nm:List UInt8,qZ=⟨nm.toArray⟩:=⟨qZ.data.toList,(ziB qZ).symm⟩
   have Qn:Hid (nm.length≤maxLen):=by have:=qD.out.2.1;rwa [zlW] at this
   have Qj:=zpD qD.out.2.2.2.1
   have QM:=zpD qD.out.2.2.2.2
   have hd:=qD.out.1
   dsimp only at hd
   clear qD
   obtain ⟨y,hy⟩: ∃y,y=wr.alloc (.cells #[.int .u8 d,.string ⟨nm.toArray⟩,.int .i64 E,.slice la l.length lc] 29):=⟨_,rfl⟩
   have hb:Below wr.heap.size wr y:=by rw [hy];exact (Below.refl _ _).alloc (Nat.le_refl _) _
   have qk:y.heap[wr.heap.size]? =some (.cells #[.int .u8 d,.string ⟨nm.toArray⟩,.int .i64 E,.slice la l.length lc] 29):=by rw [hy];exact heap_alloc_new wr _
   have J:=zpD (HP.out.keep hb)
   have U:=zpD (HB.out.trans (hb.mono HB.out.size))
   have qL:=zpD (RowX.keep On.len Qj.out hb)
   have e0:=zaD qk 0
   have e1:=zaD qk 1
   have e2:=zaD qk 2
   have e3:=zaD qk 3
   simp at e0 e1 e2 e3
   clear qk hb HP HB Qj
   go_upto_region 10 with fail
   rw [←hy]
   clear hy r0 r1 r2 r3
   by_cases q0:20<l.length
   ·have Qm:(20:Int)<l.length:=by omega
    go_wp2
    go_ret
    exact ⟨rfl,U.out⟩
   have Qm: ¬(20:Int)<l.length:=by omega
   by_cases q1:E<0
   ·go_wp2
    go_ret
    exact ⟨rfl,U.out⟩
   by_cases q2:1152921504606846976<E
   ·go_wp2
    go_ret
    exact ⟨rfl,U.out⟩
   have ql:Hid (l.length≤20):=by show _≤_;omega
   go_upto_region 12 with fail
   clear q0 Qm q1 q2
   have hr:d % 5=3∨d % 5=4∨(d % 5≠3∧d % 5≠4):=by omega
   rcases hr with hm|hm|⟨qX,Qh⟩
   ·
    have QT:d.tmod 5=3:=by rw [Int.tmod_eq_emod_of_nonneg (by omega)];exact hm
    have Qi:=zpD (znQ cc M L zf E y J.out.cac)
    have qd:=zpD (map_none J.out.cac.cac.map)
    clear hm e1 e3
    go_wp2_with fail
    refine Qi.out.mono ?_
    rintro e V ⟨rfl,qG,qs⟩
    have c2:=zcG qs qd.out e2
    have QL:=zpD qG
    have qr:=zpD (J.out.two.only qd.out qs)
    have Z:=zpD (U.out.trans (zcQ qs qA.out U.out.size))
    have qj:=zpD (ziF J.out.sim E)
    have qS:Hid (∀e∈L.filter (zaI E),(zf e.nm).length≤1000):=fun e he=>J.out.short e (List.mem_filter.1 he).1
    have qY:=zdH aq cq Q E V qr.out.row qr.out.slices (by have:=zcL J.out.sim;have:=J.out.cac.len;omega)
    rw [zcL qj.out,show (Q.length:Int)=(L.length:Int) by rw [zcL J.out.sim]] at qY
    have Qp:=zpD qY
    clear qG qs Qi qY e2
    generalize ((L.length:Int) - ((L.filter (zaI E)).length:Int))=QY at*
    go_wp2_with fail
    refine Qp.out.mono ?_
    rintro e x6 ⟨v6,rfl,qU,qf⟩
    obtain ⟨a6,k6,rfl⟩:=qU.form
    have qq:=zpD ((qr.out.fewer qf (qU.row zaN) (fun q hq=>(List.mem_filter.1 hq).1)).play (QL.out.keep qf) qj.out qS.out)
    have qh:=zpD (Z.out.trans (qf.mono Z.out.size))
    clear qU qf Qp c2
    go_upto_region 28 with fail
    have qb:=zpD (zbP cc M (L.filter (zaI E)) (Q.filter (zaI E)) zf a6 k6 a1 x6 qq.out)
    go_wp2_with fail
    refine qb.out.mono ?_
    rintro e xt ⟨rfl,N⟩
    have P:=zpD (qq.out.keep N)
    have qn:=zpD (qh.out.trans (N.mono qh.out.size))
    clear N qb
    go_wp2
    go_roundw
    case rel=>exact ⟨j+1,cc,M,(L.filter (zaI E)),(Q.filter (zaI E)),zf,a6,k6,by omega,by go_num,rfl,rfl,P,qA,qn⟩
    case measure=>simp [intOf];omega
   ·
    have QT:d.tmod 5=4:=by rw [Int.tmod_eq_emod_of_nonneg (by omega)];exact hm
    have QA:=zpD (znU cc M L zf y J.out.cac)
    clear hm e2 e3
    go_wp2_with fail
    refine QA.out.mono ?_
    rintro e V ⟨c2,M2,f,rfl,qG,QX,Qv,qc⟩
    have Qb:=zpD (J.out.keep qc)
    have QP:Hid (M2≠M):=fun e=>by have:=J.out.cac.cac.map.1.lt;omega
    have QR:Hid (Q.map keyE=(L.map fun e=>(⟨e.nm,e.un,f e.nm⟩:CE)).map keyE):=by show _=_;rw [J.out.sim,List.map_map];rfl
    have QK:Hid (∀e∈(L.map fun e=>(⟨e.nm,e.un,f e.nm⟩:CE)),(zf e.nm).length≤1000):=fun e he=>by
     obtain ⟨g,hg,rfl⟩:=List.mem_map.1 he
     exact J.out.short g hg
    generalize (L.map fun e=>(⟨e.nm,e.un,f e.nm⟩:CE))=L2 at*
    have qm:=zpD (Qb.out.two.play qG QR.out QK.out)
    have Z:=zpD (U.out.trans (qc.mono U.out.size))
    have QB:Hid (w.heap.size≤M2):=Nat.le_trans U.out.size Qv
    have c1:=(qc.cell (World.block_lt_of_cell? y _ e1)).trans e1
    obtain ⟨x6,qI⟩: ∃x,x=V.alloc (.cells #[.iface 36 (.int .u32 1)] 48):=⟨_,rfl⟩
    have qf:Below V.heap.size V x6:=by rw [qI];exact (Below.refl _ _).alloc (Nat.le_refl _) _
    have QO:Hid (RowX 1 clZ x6 (some ⟨V.heap.size,0,none⟩) [AZ.four 1]):=fun k z hz=>by
     match k,hz with
     |0,hz=>
      have:z=AZ.four 1:=by simpa using hz.symm
      subst this
      refine ⟨_,rfl,fun i hi=> ?_⟩
      have h0:i=0:=by omega
      subst h0
      rw [qI]
      exact zdK V (AZ.four 1).val 48 0 _ rfl
     |k+1,hz=>simp at hz
    have qq:=zpD (qm.out.keep qf)
    have Qd:=zpD (Qb.out.keep qf)
    have qh:=zpD (Z.out.trans (qf.mono Z.out.size))
    have P:=zpD (zoF cc M L zf nm 9 (some ⟨V.heap.size,0,none⟩) [AZ.four 1] 1 x6 Qd.out.cac Qn.out (by simp) QO.out)
    have qd:=zpD (map_none Qd.out.cac.cac.map)
    clear qG QX Qv qc qf QA e1 Qb
    go_wp2_with fail
    rw [←qI]
    clear qI
    refine P.out.mono ?_
    rintro e x7 ⟨rfl,L7,QZ,_,qw⟩
    have qK:=zpD ((qq.out.two.only qd.out qw).play (qq.out.cac.other Qd.out.cac.cac.map qw QP.out) qq.out.sim qq.out.short)
    have qi:=zpD (qh.out.trans (zcQ qw qA.out qh.out.size))
    clear qw P c1
    go_upto_region 28 with fail
    have qb:=zpD (zbP c2 M2 L2 Q zf aq cq a1 x7 qK.out)
    go_wp2_with fail
    refine qb.out.mono ?_
    rintro e xt ⟨rfl,N⟩
    have P:=zpD (qK.out.keep N)
    have qn:=zpD (qi.out.trans (N.mono qi.out.size))
    clear N qb
    go_wp2
    go_roundw
    case rel=>exact ⟨j+1,c2,M2,L2,Q,zf,aq,cq,by omega,by go_num,rfl,rfl,P,QB,qn⟩
    case measure=>simp [intOf];omega
   ·
    have Qe:(d % 5==3)=false:=by simpa using qX
    have jd:(d % 5==4)=false:=by simpa using Qh
    have jc:(d.tmod 5==3)=false:=by rw [Int.tmod_eq_emod_of_nonneg (by omega)];simpa using qX
    have jb:(d.tmod 5==4)=false:=by rw [Int.tmod_eq_emod_of_nonneg (by omega)];simpa using Qh
    have Qa:Hid (∀a∈l.map On.az,a.Ok):=fun a ha=>by
     obtain ⟨o,ho,rfl⟩:=List.mem_map.1 ha
     exact On.ok (QM.out o ho)
    have qJ:Hid ((l.map On.az).length≤20):=by show _≤_;rw [List.length_map];exact ql.out
    clear qX Qh
    obtain ⟨zs,qx⟩: ∃zs,l.map On.az=zs:=⟨_,rfl⟩
    rw [qx] at Qa qJ
    by_cases qT:zs=[]
    ·
     subst qT
     have Qg:Hid (∀X,Below y.heap.size y X→Calls Tryz.prog 13 #[.slice la l.length lc] X fun e w'=> ∃v,e= .returned v∧OwnX 48 1 clZ w' X.heap.size v []∧Below X.heap.size X w'):=fun X hX=>by
      have:=zbR la lc l X (RowX.keep On.len qL.out hX) (by have:=ql.out;omega)
      rw [qx] at this
      exact this
     go_upto_region 13 with fail
     go_wp2_with fail
     refine wp_region_held_drew (S:=fun W=>W.cell? ⟨wr.heap.size,1,none⟩=some (.string ⟨nm.toArray⟩)∧W.cell? ⟨wr.heap.size,2,none⟩=some (.int .i64 E)∧W.cell? ⟨wr.heap.size,3,none⟩=some (.slice la l.length lc)) (by kernel_rfl) ?_ (fun A=> ?_)
     ·exact ⟨e1,e2,e3⟩
     refine tkU 0 (some 53) (v:= ?_) rfl (.inl ⟨by rfl,?_⟩) A ?_
     rotate_left
     ·intro w p
      (try dsimp only at p)
      obtain ⟨B,C,D⟩:=p
      go_simp
      try with_reducible rfl
     try simp only [Act.put,tkUa,tkUb,tkUc]
     refine tkU 1 (some 54) (v:= ?_) rfl (.inl ⟨by rfl,?_⟩) A ?_
     rotate_left
     ·intro w p
      (try dsimp only at p)
      obtain ⟨B,C,D⟩:=p
      go_simp
      try with_reducible rfl
     try simp only [Act.put,tkUa,tkUb,tkUc]
     refine tkU 2 (some 55) (v:= ?_) rfl (.inl ⟨by rfl,?_⟩) A ?_
     rotate_left
     ·intro w p
      (try dsimp only at p)
      obtain ⟨B,C,D⟩:=p
      go_simp
      try with_reducible rfl
     try simp only [Act.put,tkUa,tkUb,tkUc]
     refine tkU 3 (some 56) (v:= ?_) rfl (.inl ⟨by rfl,?_⟩) A ?_
     rotate_left
     ·intro w p
      (try dsimp only at p)
      obtain ⟨B,C,D⟩:=p
      go_simp
      try with_reducible rfl
     try simp only [Act.put,tkUa,tkUb,tkUc]
     refine tkU 4 (some 57) (v:= ?_) rfl (.inl ⟨by rfl,?_⟩) A ?_
     rotate_left
     ·intro w p
      (try dsimp only at p)
      obtain ⟨B,C,D⟩:=p
      go_simp
      try with_reducible rfl
     try simp only [Act.put,tkUa,tkUb,tkUc]
     refine tkU 5 (some 58) (v:= ?_) rfl (.inl ⟨by rfl,?_⟩) A ?_
     rotate_left
     ·intro w p
      (try dsimp only at p)
      obtain ⟨B,C,D⟩:=p
      go_simp
      try with_reducible rfl
     try simp only [Act.put,tkUa,tkUb,tkUc]
     refine tkU 6 (some 59) (v:= ?_) rfl (.inl ⟨by rfl,?_⟩) A ?_
     rotate_left
     ·intro w p
      (try dsimp only at p)
      obtain ⟨B,C,D⟩:=p
      go_simp
      try with_reducible rfl
     try simp only [Act.put,tkUa,tkUb,tkUc]
     refine wpAnyH_ready (rs:=[7]) (by kernel_rfl) (by simp) ?_
     refine AllReadyH.cons (o:=⟨some 60,_,_,_,_,_⟩) rfl (fun K T=> ?_) AllReadyH.nil
     go_simp
     go_at_call 13
     refine (Qg.out _ (zaF _)).mono ?_
     rintro e5 V ⟨v5,rfl,qy,qc⟩
     obtain ⟨a5,c5,rfl⟩:=qy.form
     have H:=(zaF y).trans qc
     have k1:V.cell? ⟨wr.heap.size,1,none⟩=some (.string ⟨nm.toArray⟩):=(H.cell (World.block_lt_of_cell? y _ e1)).trans e1
     have k2:V.cell? ⟨wr.heap.size,2,none⟩=some (.int .i64 E):=(H.cell (World.block_lt_of_cell? y _ e2)).trans e2
     have k3:V.cell? ⟨wr.heap.size,3,none⟩=some (.slice la l.length lc):=(H.cell (World.block_lt_of_cell? y _ e3)).trans e3
     have qm:=zpD (J.out.keep H)
     have Z:=zpD (U.out.trans (H.mono U.out.size))
     have qr:=zpD (RowX.keep On.len qL.out H)
     have P:=zpD (zgE cc ⟨nm.toArray⟩ E a5 c5 V)
     clear qy qc H
     (try go_wp2_with fail)
     refine T.out _ _ ?_ (fun qg=> ?_)
     ·exact ⟨k1,k2,k3⟩
     clear T K
     try simp only [Act.put,tkUa,tkUb,tkUc]
     refine wpAnyH_ready (rs:=[8]) (by kernel_rfl) (by simp) ?_
     refine AllReadyH.cons (o:=⟨some 61,_,_,_,_,_⟩) rfl (fun K T=> ?_) AllReadyH.nil
     go_simp
     go_at_call 12
     refine (P.out).mono ?_
     rintro e6 x6 ⟨rfl,rfl⟩
     (try go_wp2_with fail)
     refine T.out _ _ ?_ (fun O=> ?_)
     ·exact ⟨k1,k2,k3⟩
     clear T K
     try simp only [Act.put,tkUa,tkUb,tkUc]
     refine tkU 9 (some 13) (v:= ?_) rfl (.inl ⟨by rfl,?_⟩) O ?_
     rotate_left
     ·intro w p
      (try dsimp only at p)
      obtain ⟨B,C,D⟩:=p
      go_simp
      try with_reducible rfl
     try simp only [Act.put,tkUa,tkUb,tkUc]
     refine wpAnyH_done (by kernel_rfl) ?_ _
     clear e1 e2 e3
     have qB:Hid (∀X,Below V.heap.size V X→Calls Tryz.prog 13 #[.slice la l.length lc] X fun e w'=> ∃v,e= .returned v∧OwnX 48 1 clZ w' X.heap.size v []∧Below X.heap.size X w'):=fun X hX=>by
      have:=zbR la lc l X (RowX.keep On.len qr.out hX) (by have:=ql.out;omega)
      rw [qx] at this
      exact this
     go_upto_region 14 with fail
     go_wp2_with fail
     refine wp_region_held_drew (S:=fun W=>W.cell? ⟨wr.heap.size,1,none⟩=some (.string ⟨nm.toArray⟩)∧W.cell? ⟨wr.heap.size,2,none⟩=some (.int .i64 E)∧W.cell? ⟨wr.heap.size,3,none⟩=some (.slice la l.length lc)) (by kernel_rfl) ?_ (fun A=> ?_)
     ·exact ⟨k1,k2,k3⟩
     refine tkU 0 (some 63) (v:= ?_) rfl (.inl ⟨by rfl,?_⟩) A ?_
     rotate_left
     ·intro w p
      (try dsimp only at p)
      obtain ⟨B,C,D⟩:=p
      go_simp
      try with_reducible rfl
     try simp only [Act.put,tkUa,tkUb,tkUc]
     refine tkU 1 (some 64) (v:= ?_) rfl (.inl ⟨by rfl,?_⟩) A ?_
     rotate_left
     ·intro w p
      (try dsimp only at p)
      obtain ⟨B,C,D⟩:=p
      go_simp
      try with_reducible rfl
     try simp only [Act.put,tkUa,tkUb,tkUc]
     refine tkU 2 (some 65) (v:= ?_) rfl (.inl ⟨by rfl,?_⟩) A ?_
     rotate_left
     ·intro w p
      (try dsimp only at p)
      obtain ⟨B,C,D⟩:=p
      go_simp
      try with_reducible rfl
     try simp only [Act.put,tkUa,tkUb,tkUc]
     refine tkU 3 (some 66) (v:= ?_) rfl (.inl ⟨by rfl,?_⟩) A ?_
     rotate_left
     ·intro w p
      (try dsimp only at p)
      obtain ⟨B,C,D⟩:=p
      go_simp
      try with_reducible rfl
     try simp only [Act.put,tkUa,tkUb,tkUc]
     refine tkU 4 (some 67) (v:= ?_) rfl (.inl ⟨by rfl,?_⟩) A ?_
     rotate_left
     ·intro w p
      (try dsimp only at p)
      obtain ⟨B,C,D⟩:=p
      go_simp
      try with_reducible rfl
     try simp only [Act.put,tkUa,tkUb,tkUc]
     refine tkU 5 (some 68) (v:= ?_) rfl (.inl ⟨by rfl,?_⟩) A ?_
     rotate_left
     ·intro w p
      (try dsimp only at p)
      obtain ⟨B,C,D⟩:=p
      go_simp
      try with_reducible rfl
     try simp only [Act.put,tkUa,tkUb,tkUc]
     refine tkU 6 (some 69) (v:= ?_) rfl (.inl ⟨by rfl,?_⟩) A ?_
     rotate_left
     ·intro w p
      (try dsimp only at p)
      obtain ⟨B,C,D⟩:=p
      go_simp
      try with_reducible rfl
     try simp only [Act.put,tkUa,tkUb,tkUc]
     refine wpAnyH_ready (rs:=[7]) (by kernel_rfl) (by simp) ?_
     refine AllReadyH.cons (o:=⟨some 70,_,_,_,_,_⟩) rfl (fun K T=> ?_) AllReadyH.nil
     go_simp
     go_at_call 13
     refine (qB.out _ (zaF _)).mono ?_
     rintro e7 x7 ⟨v7,rfl,qp,qE⟩
     obtain ⟨a7,c7,rfl⟩:=qp.form
     have I:=(zaF V).trans qE
     have q1:x7.cell? ⟨wr.heap.size,1,none⟩=some (.string ⟨nm.toArray⟩):=(I.cell (World.block_lt_of_cell? V _ k1)).trans k1
     have q2:x7.cell? ⟨wr.heap.size,2,none⟩=some (.int .i64 E):=(I.cell (World.block_lt_of_cell? V _ k2)).trans k2
     have q3:x7.cell? ⟨wr.heap.size,3,none⟩=some (.slice la l.length lc):=(I.cell (World.block_lt_of_cell? V _ k3)).trans k3
     have qK:=zpD (qm.out.keep I)
     have qi:=zpD (Z.out.trans (I.mono Z.out.size))
     have Qc:=zpD (zdO a7 c7 [] x7 (qp.row zaQ) (by simp) (fun a h=>nomatch h))
     clear qp qE I
     (try go_wp2_with fail)
     refine T.out _ _ ?_ (fun qg=> ?_)
     ·exact ⟨q1,q2,q3⟩
     clear T K
     try simp only [Act.put,tkUa,tkUb,tkUc]
     refine wpAnyH_ready (rs:=[8]) (by kernel_rfl) (by simp) ?_
     refine AllReadyH.cons (o:=⟨some 71,_,_,_,_,_⟩) rfl (fun K T=> ?_) AllReadyH.nil
     go_simp
     go_at_call 15
     refine (Qc.out).mono ?_
     rintro e8 x8 ⟨v8,rfl,qz,R⟩
     obtain ⟨a8,c8,rfl⟩:=qz.form
     have s1:x8.cell? ⟨wr.heap.size,1,none⟩=some (.string ⟨nm.toArray⟩):=(R.cell (World.block_lt_of_cell? x7 _ q1)).trans q1
     have s2:x8.cell? ⟨wr.heap.size,2,none⟩=some (.int .i64 E):=(R.cell (World.block_lt_of_cell? x7 _ q2)).trans q2
     have s3:x8.cell? ⟨wr.heap.size,3,none⟩=some (.slice la l.length lc):=(R.cell (World.block_lt_of_cell? x7 _ q3)).trans q3
     have Qs:=zpD (qK.out.keep R)
     have qF:=zpD (qi.out.trans (R.mono qi.out.size))
     have qW:=zpD (zfS aq cq Q.length ⟨nm.toArray⟩ E a8 c8 x8)
     clear qz R
     (try go_wp2_with fail)
     refine T.out _ _ ?_ (fun O=> ?_)
     ·exact ⟨s1,s2,s3⟩
     clear T K
     try simp only [Act.put,tkUa,tkUb,tkUc]
     refine wpAnyH_ready (rs:=[9]) (by kernel_rfl) (by simp) ?_
     refine AllReadyH.cons (o:=⟨some 72,_,_,_,_,_⟩) rfl (fun K T=> ?_) AllReadyH.nil
     go_simp
     go_at_call 14
     refine (qW.out).mono ?_
     rintro e9 x9 ⟨rfl,rfl⟩
     (try go_wp2_with fail)
     refine T.out _ _ ?_ (fun G=> ?_)
     ·exact ⟨s1,s2,s3⟩
     clear T K
     try simp only [Act.put,tkUa,tkUb,tkUc]
     refine tkU 10 (some 62) (v:= ?_) rfl (.inl ⟨by rfl,?_⟩) G ?_
     rotate_left
     ·intro w p
      (try dsimp only at p)
      obtain ⟨B,C,D⟩:=p
      go_simp
      try with_reducible rfl
     try simp only [Act.put,tkUa,tkUb,tkUc]
     refine tkU 11 (some 73) (v:= ?_) rfl (.inl ⟨by rfl,?_⟩) G ?_
     rotate_left
     ·intro w p
      (try dsimp only at p)
      obtain ⟨B,C,D⟩:=p
      go_simp
      try with_reducible rfl
     try simp only [Act.put,tkUa,tkUb,tkUc]
     refine tkU 12 (some 74) (v:= ?_) rfl (.inl ⟨by rfl,?_⟩) G ?_
     rotate_left
     ·intro w p
      (try dsimp only at p)
      obtain ⟨B,C,D⟩:=p
      go_simp
      try with_reducible rfl
     try simp only [Act.put,tkUa,tkUb,tkUc]
     refine tkU 13 (some 14) (v:= ?_) rfl (.inl ⟨by rfl,?_⟩) G ?_
     rotate_left
     ·intro w p
      (try dsimp only at p)
      obtain ⟨B,C,D⟩:=p
      go_simp
      try with_reducible rfl
     try simp only [Act.put,tkUa,tkUb,tkUc]
     refine tkU 14 (some 15) (v:= ?_) rfl (.inl ⟨by rfl,?_⟩) G ?_
     rotate_left
     ·intro w p
      (try dsimp only at p)
      obtain ⟨B,C,D⟩:=p
      go_simp
      try with_reducible rfl
     try simp only [Act.put,tkUa,tkUb,tkUc]
     refine wpAnyH_done (by kernel_rfl) ?_ _
     clear k1 k2 k3 q1 q2 q3
     go_upto_region 28 with fail
     have qb:=zpD (zbP cc M L Q zf aq cq a1 x8 Qs.out)
     go_wp2_with fail
     refine qb.out.mono ?_
     rintro e xt ⟨rfl,N⟩
     have P:=zpD (Qs.out.keep N)
     have qn:=zpD (qF.out.trans (N.mono qF.out.size))
     clear N qb
     go_wp2
     go_roundw
     case rel=>exact ⟨j+1,cc,M,L,Q,zf,aq,cq,by omega,by go_num,rfl,rfl,P,qA,qn⟩
     case measure=>simp [intOf];omega
    ·
     have Qg:Hid (∀X,Below y.heap.size y X→Calls Tryz.prog 13 #[.slice la l.length lc] X fun e w'=> ∃v,e= .returned v∧OwnX 48 1 clZ w' X.heap.size v zs∧Below X.heap.size X w'):=fun X hX=>by
      have:=zbR la lc l X (RowX.keep On.len qL.out hX) (by have:=ql.out;omega)
      rw [qx] at this
      exact this
     have QU:=zpD qx
     have Qr:=zpD qT
     have qj:=zpD J.out.sim
     have QQ:=zpD J.out.cac.cac.map.2
     have qS:=zpD J.out.short
     have QI:Hid (Q.length≤64):=by have:=zcL J.out.sim;have:=J.out.cac.len;show _≤_;omega
     clear qx qT
     go_upto_region 13 with fail
     go_wp2_with fail
     refine wp_region_held_drew (S:=fun W=>W.cell? ⟨wr.heap.size,1,none⟩=some (.string ⟨nm.toArray⟩)∧W.cell? ⟨wr.heap.size,2,none⟩=some (.int .i64 E)∧W.cell? ⟨wr.heap.size,3,none⟩=some (.slice la l.length lc)) (by kernel_rfl) ?_ (fun A=> ?_)
     ·exact ⟨e1,e2,e3⟩
     refine tkU 0 (some 53) (v:= ?_) rfl (.inl ⟨by rfl,?_⟩) A ?_
     rotate_left
     ·intro w p
      (try dsimp only at p)
      obtain ⟨B,C,D⟩:=p
      go_simp
      try with_reducible rfl
     try simp only [Act.put,tkUa,tkUb,tkUc]
     refine tkU 1 (some 54) (v:= ?_) rfl (.inl ⟨by rfl,?_⟩) A ?_
     rotate_left
     ·intro w p
      (try dsimp only at p)
      obtain ⟨B,C,D⟩:=p
      go_simp
      try with_reducible rfl
     try simp only [Act.put,tkUa,tkUb,tkUc]
     refine tkU 2 (some 55) (v:= ?_) rfl (.inl ⟨by rfl,?_⟩) A ?_
     rotate_left
     ·intro w p
      (try dsimp only at p)
      obtain ⟨B,C,D⟩:=p
      go_simp
      try with_reducible rfl
     try simp only [Act.put,tkUa,tkUb,tkUc]
     refine tkU 3 (some 56) (v:= ?_) rfl (.inl ⟨by rfl,?_⟩) A ?_
     rotate_left
     ·intro w p
      (try dsimp only at p)
      obtain ⟨B,C,D⟩:=p
      go_simp
      try with_reducible rfl
     try simp only [Act.put,tkUa,tkUb,tkUc]
     refine tkU 4 (some 57) (v:= ?_) rfl (.inl ⟨by rfl,?_⟩) A ?_
     rotate_left
     ·intro w p
      (try dsimp only at p)
      obtain ⟨B,C,D⟩:=p
      go_simp
      try with_reducible rfl
     try simp only [Act.put,tkUa,tkUb,tkUc]
     refine tkU 5 (some 58) (v:= ?_) rfl (.inl ⟨by rfl,?_⟩) A ?_
     rotate_left
     ·intro w p
      (try dsimp only at p)
      obtain ⟨B,C,D⟩:=p
      go_simp
      try with_reducible rfl
     try simp only [Act.put,tkUa,tkUb,tkUc]
     refine tkU 6 (some 59) (v:= ?_) rfl (.inl ⟨by rfl,?_⟩) A ?_
     rotate_left
     ·intro w p
      (try dsimp only at p)
      obtain ⟨B,C,D⟩:=p
      go_simp
      try with_reducible rfl
     try simp only [Act.put,tkUa,tkUb,tkUc]
     refine wpAnyH_ready (rs:=[7]) (by kernel_rfl) (by simp) ?_
     refine AllReadyH.cons (o:=⟨some 60,_,_,_,_,_⟩) rfl (fun K T=> ?_) AllReadyH.nil
     go_simp
     go_at_call 13
     refine (Qg.out _ (zaF _)).mono ?_
     rintro e5 V ⟨v5,rfl,qy,qc⟩
     obtain ⟨a5,c5,rfl⟩:=qy.form
     have H:=(zaF y).trans qc
     have k1:V.cell? ⟨wr.heap.size,1,none⟩=some (.string ⟨nm.toArray⟩):=(H.cell (World.block_lt_of_cell? y _ e1)).trans e1
     have k2:V.cell? ⟨wr.heap.size,2,none⟩=some (.int .i64 E):=(H.cell (World.block_lt_of_cell? y _ e2)).trans e2
     have k3:V.cell? ⟨wr.heap.size,3,none⟩=some (.slice la l.length lc):=(H.cell (World.block_lt_of_cell? y _ e3)).trans e3
     have qm:=zpD (J.out.keep H)
     have Z:=zpD (U.out.trans (H.mono U.out.size))
     have qr:=zpD (RowX.keep On.len qL.out H)
     have qd:=zpD (map_none qm.out.cac.cac.map)
     have P:=zpD (put_z cc M L zf nm E a5 zs c5 V qm.out.cac Qn.out Qr.out (by have:=qJ.out;omega) (qy.row zaQ))
     clear qy qc H
     (try go_wp2_with fail)
     refine T.out _ _ ?_ (fun qg=> ?_)
     ·exact ⟨k1,k2,k3⟩
     clear T K
     try simp only [Act.put,tkUa,tkUb,tkUc]
     refine wpAnyH_ready (rs:=[8]) (by kernel_rfl) (by simp) ?_
     refine AllReadyH.cons (o:=⟨some 61,_,_,_,_,_⟩) rfl (fun K T=> ?_) AllReadyH.nil
     go_simp
     go_at_call 12
     refine (P.out).mono ?_
     rintro e6 x6 ⟨rfl,v6,Qq,qa⟩
     have m1:x6.cell? ⟨wr.heap.size,1,none⟩=some (.string ⟨nm.toArray⟩):=zcG qa qd.out k1
     have m2:x6.cell? ⟨wr.heap.size,2,none⟩=some (.int .i64 E):=zcG qa qd.out k2
     have m3:x6.cell? ⟨wr.heap.size,3,none⟩=some (.slice la l.length lc):=zcG qa qd.out k3
     have QS:=zpD Qq
     have QG:=zpD (qm.out.two.only qd.out qa)
     have qh:=zpD (Z.out.trans (zcQ qa qA.out Z.out.size))
     have QN:=zpD (zcX On.len qr.out qd.out qa)
     clear Qq qa
     (try go_wp2_with fail)
     refine T.out _ _ ?_ (fun O=> ?_)
     ·exact ⟨m1,m2,m3⟩
     clear T K
     try simp only [Act.put,tkUa,tkUb,tkUc]
     refine tkU 9 (some 13) (v:= ?_) rfl (.inl ⟨by rfl,?_⟩) O ?_
     rotate_left
     ·intro w p
      (try dsimp only at p)
      obtain ⟨B,C,D⟩:=p
      go_simp
      try with_reducible rfl
     try simp only [Act.put,tkUa,tkUb,tkUc]
     refine wpAnyH_done (by kernel_rfl) ?_ _
     clear e1 e2 e3 k1 k2 k3
     have qB:Hid (∀X,Below x6.heap.size x6 X→Calls Tryz.prog 13 #[.slice la l.length lc] X fun e w'=> ∃v,e= .returned v∧OwnX 48 1 clZ w' X.heap.size v zs∧Below X.heap.size X w'):=fun X hX=>by
      have:=zbR la lc l X (RowX.keep On.len QN.out hX) (by have:=ql.out;omega)
      rw [QU.out] at this
      exact this
     go_upto_region 14 with fail
     go_wp2_with fail
     refine wp_region_held_drew (S:=fun W=>W.cell? ⟨wr.heap.size,1,none⟩=some (.string ⟨nm.toArray⟩)∧W.cell? ⟨wr.heap.size,2,none⟩=some (.int .i64 E)∧W.cell? ⟨wr.heap.size,3,none⟩=some (.slice la l.length lc)) (by kernel_rfl) ?_ (fun A=> ?_)
     ·exact ⟨m1,m2,m3⟩
     refine tkU 0 (some 63) (v:= ?_) rfl (.inl ⟨by rfl,?_⟩) A ?_
     rotate_left
     ·intro w p
      (try dsimp only at p)
      obtain ⟨B,C,D⟩:=p
      go_simp
      try with_reducible rfl
     try simp only [Act.put,tkUa,tkUb,tkUc]
     refine tkU 1 (some 64) (v:= ?_) rfl (.inl ⟨by rfl,?_⟩) A ?_
     rotate_left
     ·intro w p
      (try dsimp only at p)
      obtain ⟨B,C,D⟩:=p
      go_simp
      try with_reducible rfl
     try simp only [Act.put,tkUa,tkUb,tkUc]
     refine tkU 2 (some 65) (v:= ?_) rfl (.inl ⟨by rfl,?_⟩) A ?_
     rotate_left
     ·intro w p
      (try dsimp only at p)
      obtain ⟨B,C,D⟩:=p
      go_simp
      try with_reducible rfl
     try simp only [Act.put,tkUa,tkUb,tkUc]
     refine tkU 3 (some 66) (v:= ?_) rfl (.inl ⟨by rfl,?_⟩) A ?_
     rotate_left
     ·intro w p
      (try dsimp only at p)
      obtain ⟨B,C,D⟩:=p
      go_simp
      try with_reducible rfl
     try simp only [Act.put,tkUa,tkUb,tkUc]
     refine tkU 4 (some 67) (v:= ?_) rfl (.inl ⟨by rfl,?_⟩) A ?_
     rotate_left
     ·intro w p
      (try dsimp only at p)
      obtain ⟨B,C,D⟩:=p
      go_simp
      try with_reducible rfl
     try simp only [Act.put,tkUa,tkUb,tkUc]
     refine tkU 5 (some 68) (v:= ?_) rfl (.inl ⟨by rfl,?_⟩) A ?_
     rotate_left
     ·intro w p
      (try dsimp only at p)
      obtain ⟨B,C,D⟩:=p
      go_simp
      try with_reducible rfl
     try simp only [Act.put,tkUa,tkUb,tkUc]
     refine tkU 6 (some 69) (v:= ?_) rfl (.inl ⟨by rfl,?_⟩) A ?_
     rotate_left
     ·intro w p
      (try dsimp only at p)
      obtain ⟨B,C,D⟩:=p
      go_simp
      try with_reducible rfl
     try simp only [Act.put,tkUa,tkUb,tkUc]
     refine wpAnyH_ready (rs:=[7]) (by kernel_rfl) (by simp) ?_
     refine AllReadyH.cons (o:=⟨some 70,_,_,_,_,_⟩) rfl (fun K T=> ?_) AllReadyH.nil
     go_simp
     go_at_call 13
     refine (qB.out _ (zaF _)).mono ?_
     rintro e7 x7 ⟨v7,rfl,qp,qE⟩
     obtain ⟨a7,c7,rfl⟩:=qp.form
     have I:=(zaF x6).trans qE
     have q1:x7.cell? ⟨wr.heap.size,1,none⟩=some (.string ⟨nm.toArray⟩):=(I.cell (World.block_lt_of_cell? x6 _ m1)).trans m1
     have q2:x7.cell? ⟨wr.heap.size,2,none⟩=some (.int .i64 E):=(I.cell (World.block_lt_of_cell? x6 _ m2)).trans m2
     have q3:x7.cell? ⟨wr.heap.size,3,none⟩=some (.slice la l.length lc):=(I.cell (World.block_lt_of_cell? x6 _ m3)).trans m3
     have QH:=zpD (QS.out.keep I)
     have QW:=zpD (QG.out.keep I)
     have qi:=zpD (qh.out.trans (I.mono qh.out.size))
     have Qc:=zpD (zdO a7 c7 zs x7 (qp.row zaQ) (by have:=qJ.out;omega) Qa.out)
     clear qp qE I
     (try go_wp2_with fail)
     refine T.out _ _ ?_ (fun qg=> ?_)
     ·exact ⟨q1,q2,q3⟩
     clear T K
     try simp only [Act.put,tkUa,tkUb,tkUc]
     refine wpAnyH_ready (rs:=[8]) (by kernel_rfl) (by simp) ?_
     refine AllReadyH.cons (o:=⟨some 71,_,_,_,_,_⟩) rfl (fun K T=> ?_) AllReadyH.nil
     go_simp
     go_at_call 15
     refine (Qc.out).mono ?_
     rintro e8 x8 ⟨v8,rfl,qz,R⟩
     obtain ⟨a8,c8,rfl⟩:=qz.form
     have s1:x8.cell? ⟨wr.heap.size,1,none⟩=some (.string ⟨nm.toArray⟩):=(R.cell (World.block_lt_of_cell? x7 _ q1)).trans q1
     have s2:x8.cell? ⟨wr.heap.size,2,none⟩=some (.int .i64 E):=(R.cell (World.block_lt_of_cell? x7 _ q2)).trans q2
     have s3:x8.cell? ⟨wr.heap.size,3,none⟩=some (.slice la l.length lc):=(R.cell (World.block_lt_of_cell? x7 _ q3)).trans q3
     have QD:=zpD (QH.out.keep R)
     have Qf:=zpD (QW.out.keep R)
     have qF:=zpD (qi.out.trans (R.mono qi.out.size))
     have QF:=zpD (qz.row zbN)
     have qW:=zpD (zeK aq cq Q nm E a8 zs.length c8 x8 Qf.out.row Qf.out.slices (zhC qj.out QQ.out) (by have:=QI.out;omega) (by have:=Qr.out;have:=List.length_pos_iff.2 this;omega))
     clear qz R
     (try go_wp2_with fail)
     refine T.out _ _ ?_ (fun O=> ?_)
     ·exact ⟨s1,s2,s3⟩
     clear T K
     try simp only [Act.put,tkUa,tkUb,tkUc]
     refine wpAnyH_ready (rs:=[9]) (by kernel_rfl) (by simp) ?_
     refine AllReadyH.cons (o:=⟨some 72,_,_,_,_,_⟩) rfl (fun K T=> ?_) AllReadyH.nil
     go_simp
     go_at_call 14
     refine (qW.out).mono ?_
     rintro e9 x9 ⟨v9,rfl,qV,qo⟩
     obtain ⟨a9,c9,rfl⟩:=qV.form
     have t1:x9.cell? ⟨wr.heap.size,1,none⟩=some (.string ⟨nm.toArray⟩):=(qo.cell (World.block_lt_of_cell? x8 _ s1)).trans s1
     have t2:x9.cell? ⟨wr.heap.size,2,none⟩=some (.int .i64 E):=(qo.cell (World.block_lt_of_cell? x8 _ s2)).trans s2
     have t3:x9.cell? ⟨wr.heap.size,3,none⟩=some (.slice la l.length lc):=(qo.cell (World.block_lt_of_cell? x8 _ s3)).trans s3
     have Qk:=zpD ((Qf.out.put (n:=nm) (u:=E) qo QF.out Qa.out (qV.row zaN)).play (QD.out.keep qo) (zoB qj.out nm E _ _) (ziW qS.out (by have:=qJ.out;omega)))
     have Qy:=zpD (qF.out.trans (qo.mono qF.out.size))
     clear qV qo
     (try go_wp2_with fail)
     refine T.out _ _ ?_ (fun G=> ?_)
     ·exact ⟨t1,t2,t3⟩
     clear T K
     try simp only [Act.put,tkUa,tkUb,tkUc]
     refine tkU 10 (some 62) (v:= ?_) rfl (.inl ⟨by rfl,?_⟩) G ?_
     rotate_left
     ·intro w p
      (try dsimp only at p)
      obtain ⟨B,C,D⟩:=p
      go_simp
      try with_reducible rfl
     try simp only [Act.put,tkUa,tkUb,tkUc]
     refine tkU 11 (some 73) (v:= ?_) rfl (.inl ⟨by rfl,?_⟩) G ?_
     rotate_left
     ·intro w p
      (try dsimp only at p)
      obtain ⟨B,C,D⟩:=p
      go_simp
      try with_reducible rfl
     try simp only [Act.put,tkUa,tkUb,tkUc]
     refine tkU 12 (some 74) (v:= ?_) rfl (.inl ⟨by rfl,?_⟩) G ?_
     rotate_left
     ·intro w p
      (try dsimp only at p)
      obtain ⟨B,C,D⟩:=p
      go_simp
      try with_reducible rfl
     try simp only [Act.put,tkUa,tkUb,tkUc]
     refine tkU 13 (some 14) (v:= ?_) rfl (.inl ⟨by rfl,?_⟩) G ?_
     rotate_left
     ·intro w p
      (try dsimp only at p)
      obtain ⟨B,C,D⟩:=p
      go_simp
      try with_reducible rfl
     try simp only [Act.put,tkUa,tkUb,tkUc]
     refine tkU 14 (some 15) (v:= ?_) rfl (.inl ⟨by rfl,?_⟩) G ?_
     rotate_left
     ·intro w p
      (try dsimp only at p)
      obtain ⟨B,C,D⟩:=p
      go_simp
      try with_reducible rfl
     try simp only [Act.put,tkUa,tkUb,tkUc]
     refine wpAnyH_done (by kernel_rfl) ?_ _
     clear m1 m2 m3 q1 q2 q3 s1 s2 s3 t1 t2 t3
     go_upto_region 28 with fail
     have qb:=zpD (zbP cc M (putE ⟨nm,E,v6⟩ (zaP nm L)) (putE ⟨nm,E,.slice a8 zs.length c8⟩ (zaP nm Q)) (upd zf nm zs) a9 c9 a1 x9 Qk.out)
     go_wp2_with fail
     refine qb.out.mono ?_
     rintro e xt ⟨rfl,N⟩
     have P:=zpD (Qk.out.keep N)
     have qn:=zpD (Qy.out.trans (N.mono Qy.out.size))
     clear N qb
     go_wp2
     go_roundw
     case rel=>exact ⟨j+1,cc,M,(putE ⟨nm,E,v6⟩ (zaP nm L)),(putE ⟨nm,E,.slice a8 zs.length c8⟩ (zaP nm Q)),(upd zf nm zs),a9,c9,by omega,by go_num,rfl,rfl,P,qA,qn⟩
     case measure=>simp [intOf];omega
  ·have QV:j=z0.length:=by omega
   subst QV
   clear Qz
   go_wp2
   go_ret
   exact ⟨rfl,HB.out⟩
end
end Go.Proofs.YteajemblhlbfpaaGreatDoor
