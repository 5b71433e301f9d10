/-
  What the law CacheSweeps leans on, and its walk (20 of 21).
-/
import Derived.Test.YteajemblhlbfpaaGreatDoorCacheSweepsPkQ
import Derived.Test.YteajemblhlbfpaaGreatDoorCacheSweepsPkT
namespace Go.Proofs.YteajemblhlbfpaaGreatDoor
set_option maxRecDepth 100000
set_option maxHeartbeats 16000000
theorem tkU {P : Program} {o : Region.Mode} {g : Array Oper} {Q : Exit → Act → World → Prop} {S : World → Prop} (i : Nat) (s : Option Nat) {y : Op} {p : TypeId} {j : String} {q : _} {z : _} {v : Value} {fuel : Nat} {f : Array Bool} {a : Act} {w : World} (hi : g[i]? = some ⟨s, y, p, j, q, z⟩)
 (A : YieldsIf P g S ⟨s, y, p, j, q, z⟩ v a) (G : S w)
 (h : wpAnyH P o g Q S fuel (f.setIfInBounds i true) (a.put s v) w)
 (B : Region.noSelect g = true := by kernel_rfl) (E : Region.free o g f i = true := by kernel_rfl) (D : (Region.ready o g f).contains i = true := by kernel_rfl)
 (C : ∀ c a w, Q (.panic c) (a.put s v) w → Q (.panic c) a w := by exact fun _ _ _ h => h) : wpAnyH P o g Q S (fuel + 1) f a w :=
 wpAnyH_take hi B E D C A G h
theorem tkUa {α : Type _} (l : List α) (i : Nat) (a : α) : l.toArray.setIfInBounds i a = (l.set i a).toArray := List.setIfInBounds_toArray ..
theorem tkUb {α : Type _} (x y : α) (l : List α) : (x :: l).set 0 y = y :: l := rfl
theorem tkUc {α : Type _} (x y : α) (l : List α) (n : Nat) : (x :: l).set (n + 1) y = x :: l.set n y := rfl
abbrev znQ := @Lib.hid
section
open Go.RowKit Go.Maps Go.Sort Go.Shelf Go.Lib
theorem zcF {x y:World} {M:Nat} (h:Only [M] x y) (g: ∀p:Addr,p.block=M→x.cell? p=none) {p:Addr} {v:Value} (f:x.cell? p=some v):y.cell? p=some v:=
 (World.cell?_of_block (a:=p) (h.block p.block (World.block_lt_of_cell? x _ f) (fun e=>by rw [g p (List.mem_singleton.1 e)] at f;cases f))).trans f
theorem zhA (s:ByteArray):(⟨s.data.toList.toArray⟩:ByteArray)=s:=by cases s;simp
theorem cacheSweeps_walk (a0:Option Addr) (qe qr:Nat) (z0:List Ac) (z:Int) (_w1:(Lit.int .i64 z).wf=true) (w:World) (w0:IsCRow w a0 qe qr z0) (qx:PowTab w) (qw:BruTab w) (qy:MaxVar w):
  Calls Tryz.prog 6 #[.slice a0 qe qr,.int .i64 z] w fun e w'=>e= .returned (.bool true)∧Below w.heap.size w w':=by
 have je:z0.length=qe:=w0.1
 subst je
 have qv:=znQ w0
 have Z:=znQ (aw20 w qx qw qy)
 clear w0 qx qw qy
 by_cases g0:150<z0.length
 ·have qV:(150:Int)<z0.length:=by omega
  go_enter Tryz.func6,Tryz.ntmps6
  go_wp2_with fail
  refine Z.out.mono ?_
  rintro e x0 ⟨rfl,B⟩
  have C:=znQ B
  clear B
  go_wp2
  go_ret
  exact ⟨rfl,C.out⟩
 have qV: ¬(150:Int)<z0.length:=by omega
 by_cases g1:z<0
 ·go_enter Tryz.func6,Tryz.ntmps6
  go_wp2_with fail
  refine Z.out.mono ?_
  rintro e x0 ⟨rfl,B⟩
  have C:=znQ B
  clear B
  go_wp2
  go_ret
  exact ⟨rfl,C.out⟩
 by_cases g2:1152921504606846976<z
 ·go_enter Tryz.func6,Tryz.ntmps6
  go_wp2_with fail
  refine Z.out.mono ?_
  rintro e x0 ⟨rfl,B⟩
  have C:=znQ B
  clear B
  go_wp2
  go_ret
  exact ⟨rfl,C.out⟩
 have jg:Hid (z0.length≤150):=by show _≤_;omega
 go_enter Tryz.func6,Tryz.ntmps6
 go_wp2_with fail
 refine Z.out.mono ?_
 rintro e x0 ⟨rfl,B⟩
 have C:=znQ B
 have QC:=znQ (zeA x0)
 clear B
 go_wp2_with fail
 refine QC.out.mono ?_
 rintro e x1 ⟨cc,M,rfl,E,QG,QF,qW⟩
 have Qi:=znQ (CacZ.new E (fun _=>[]))
 have jk:Hid (w.heap.size≤cc):=Nat.le_trans C.out.size QG
 have qR:Hid (w.heap.size≤M):=Nat.le_trans C.out.size QF
 have Qy:=znQ (C.out.trans (qW.mono C.out.size))
 clear E QG QF qW QC Z g0 qV g1 g2 C
 go_wp2
 go_loopw [37] (fun i wr=> ∃(k:Nat) (L:List CE) (zf:List UInt8→List AZ),k≤z0.length∧i= .int .i64 k∧Hid (CacZ wr cc M L zf)∧Hid (Below w.heap.size w wr)) (fun i _=>z0.length - (intOf i).toNat)
 case atStart=>exact ⟨0,[],_,Nat.zero_le _,rfl,Qi,Qy⟩
 case round=>
  clear Qi Qy
  obtain ⟨j,L,zf,hj,rfl,HZ,HB⟩:=hrel
  by_cases J:j<z0.length
  ·have jh:(j:Int)<z0.length:=by omega
   obtain ⟨ad,rfl,x,hx,Qe,r0,r1,r2,r3⟩:=(qv.out.keep HB.out).2.1.at4 J
   have qM:=znQ ((qv.out.keep HB.out).2.2 x Qe)
   clear hx Qe
   obtain ⟨d,qQ,G,la,lc,l⟩:=x
   dsimp only at r0 r1 r2 r3
   obtain ⟨nm,rfl⟩: ∃nm:List UInt8,qQ=⟨nm.toArray⟩:=⟨qQ.data.toList,(zhA qQ).symm⟩
   have Q:Hid (nm.length≤maxLen):=by have:=qM.out.2.1;rwa [ziQ] at this
   have Qv:=znQ qM.out.2.2.2.1
   clear qM
   obtain ⟨y,hy⟩: ∃y,y=wr.alloc (.cells #[.int .u8 d,.string ⟨nm.toArray⟩,.int .i64 G,.slice la l.length lc] 29):=⟨_,rfl⟩
   have hb:Below wr.heap.size wr y:=by rw [hy];exact (Below.refl _ _).alloc (Nat.le_refl _) _
   have R:y.heap[wr.heap.size]? =some (.cells #[.int .u8 d,.string ⟨nm.toArray⟩,.int .i64 G,.slice la l.length lc] 29):=by rw [hy];exact heap_alloc_new wr _
   have Qk:=znQ (HZ.out.keep hb)
   have D:=znQ (HB.out.trans (hb.mono HB.out.size))
   have qn:=znQ (RowX.keep On.len Qv.out hb)
   have e1:=zaD R 1
   have e2:=zaD R 2
   have e3:=zaD R 3
   simp at e1 e2 e3
   have HE:Hid (y.cell? ⟨wr.heap.size,1,none⟩=some (.string ⟨nm.toArray⟩)∧y.cell? ⟨wr.heap.size,2,none⟩=some (.int .i64 G)∧y.cell? ⟨wr.heap.size,3,none⟩=some (.slice la l.length lc)):=⟨e1,e2,e3⟩
   clear R hb HZ HB Qv
   go_upto_region 9 with fail
   rw [←hy]
   clear hy r0 r1 r2 r3
   by_cases q0:20<l.length
   ·have QI:(20:Int)<l.length:=by omega
    go_wp2
    go_ret
    exact ⟨rfl,D.out⟩
   have QI: ¬(20:Int)<l.length:=by omega
   by_cases q1:G<0
   ·go_wp2
    go_ret
    exact ⟨rfl,D.out⟩
   by_cases q2:1152921504606846976<G
   ·go_wp2
    go_ret
    exact ⟨rfl,D.out⟩
   have qs:Hid (l.length≤20):=by show _≤_;omega
   have ja:Hid (∀X,Below y.heap.size y X→Calls Tryz.prog 13 #[.slice la l.length lc] X fun e w'=> ∃v,e= .returned v∧OwnX 48 1 clZ w' X.heap.size v (l.map On.az)∧Below X.heap.size X w'):=fun X hX=>zgN la lc l X (RowX.keep On.len qn.out hX) (by have:=qs.out;omega)
   go_upto_region 11 with fail
   clear q0 QI q1 q2 e1 e2 e3
   go_wp2_with fail
   refine wp_region_held_drew (S:=fun W=>W.cell? ⟨wr.heap.size,1,none⟩=some (.string ⟨nm.toArray⟩)∧W.cell? ⟨wr.heap.size,2,none⟩=some (.int .i64 G)∧W.cell? ⟨wr.heap.size,3,none⟩=some (.slice la l.length lc)) (by kernel_rfl) ?_ (fun q=> ?_)
   ·exact HE.out
   refine tkU 0 (some 55) (v:= ?_) rfl (.inl ⟨by rfl,?_⟩) q ?_
   rotate_left
   ·intro w p
    (try dsimp only at p)
    obtain ⟨E,T,U⟩:=p
    go_simp
    try with_reducible rfl
   try simp only [Act.put,tkUa,tkUb,tkUc]
   refine tkU 1 (some 56) (v:= ?_) rfl (.inl ⟨by rfl,?_⟩) q ?_
   rotate_left
   ·intro w p
    (try dsimp only at p)
    obtain ⟨E,T,U⟩:=p
    go_simp
    try with_reducible rfl
   try simp only [Act.put,tkUa,tkUb,tkUc]
   refine tkU 2 (some 57) (v:= ?_) rfl (.inl ⟨by rfl,?_⟩) q ?_
   rotate_left
   ·intro w p
    (try dsimp only at p)
    obtain ⟨E,T,U⟩:=p
    go_simp
    try with_reducible rfl
   try simp only [Act.put,tkUa,tkUb,tkUc]
   refine tkU 3 (some 58) (v:= ?_) rfl (.inl ⟨by rfl,?_⟩) q ?_
   rotate_left
   ·intro w p
    (try dsimp only at p)
    obtain ⟨E,T,U⟩:=p
    go_simp
    try with_reducible rfl
   try simp only [Act.put,tkUa,tkUb,tkUc]
   refine tkU 4 (some 59) (v:= ?_) rfl (.inl ⟨by rfl,?_⟩) q ?_
   rotate_left
   ·intro w p
    (try dsimp only at p)
    obtain ⟨E,T,U⟩:=p
    go_simp
    try with_reducible rfl
   try simp only [Act.put,tkUa,tkUb,tkUc]
   refine tkU 5 (some 60) (v:= ?_) rfl (.inl ⟨by rfl,?_⟩) q ?_
   rotate_left
   ·intro w p
    (try dsimp only at p)
    obtain ⟨E,T,U⟩:=p
    go_simp
    try with_reducible rfl
   try simp only [Act.put,tkUa,tkUb,tkUc]
   refine tkU 6 (some 61) (v:= ?_) rfl (.inl ⟨by rfl,?_⟩) q ?_
   rotate_left
   ·intro w p
    (try dsimp only at p)
    obtain ⟨E,T,U⟩:=p
    go_simp
    try with_reducible rfl
   try simp only [Act.put,tkUa,tkUb,tkUc]
   refine wpAnyH_ready (rs:=[7]) (by kernel_rfl) (by simp) ?_
   refine AllReadyH.cons (o:=⟨some 62,_,_,_,_,_⟩) rfl (fun K hK=> ?_) AllReadyH.nil
   go_simp
   go_at_call 13
   refine (ja.out _ (zaG _)).mono ?_
   rintro e5 x5 ⟨v5,rfl,qD,QL⟩
   obtain ⟨a5,c5,rfl⟩:=qD.form
   have A:=(zaG y).trans QL
   have Qz:x5.cell? ⟨wr.heap.size,1,none⟩=some (.string ⟨nm.toArray⟩):=(A.cell (World.block_lt_of_cell? y _ HE.out.1)).trans HE.out.1
   have QH:x5.cell? ⟨wr.heap.size,2,none⟩=some (.int .i64 G):=(A.cell (World.block_lt_of_cell? y _ HE.out.2.1)).trans HE.out.2.1
   have Qj:x5.cell? ⟨wr.heap.size,3,none⟩=some (.slice la l.length lc):=(A.cell (World.block_lt_of_cell? y _ HE.out.2.2)).trans HE.out.2.2
   have qX:=znQ (zmW cc M L zf nm G a5 (l.map On.az) c5 x5 (Qk.out.keep A) Q.out (by rw [List.length_map];have:=qs.out;omega) (qD.row zaP))
   have qH:=znQ (map_none (Qk.out.keep A).cac.map)
   have V:=znQ (D.out.trans (A.mono D.out.size))
   rw [List.length_map] at qX
   rw [List.length_map]
   clear qD QL A
   (try go_wp2_with fail)
   refine hK.out _ _ ?_ (fun QN=> ?_)
   ·exact ⟨Qz,QH,Qj⟩
   clear hK K
   try simp only [Act.put,tkUa,tkUb,tkUc]
   refine wpAnyH_ready (rs:=[8]) (by kernel_rfl) (by simp) ?_
   refine AllReadyH.cons (o:=⟨some 63,_,_,_,_,_⟩) rfl (fun K hK=> ?_) AllReadyH.nil
   go_simp
   go_at_call 12
   refine (qX.out).mono ?_
   rintro e6 x6 ⟨rfl,L6,QU,qZ,I⟩
   have Qd:x6.cell? ⟨wr.heap.size,1,none⟩=some (.string ⟨nm.toArray⟩):=zcF I qH.out Qz
   have qY:x6.cell? ⟨wr.heap.size,2,none⟩=some (.int .i64 G):=zcF I qH.out QH
   have Qx:x6.cell? ⟨wr.heap.size,3,none⟩=some (.slice la l.length lc):=zcF I qH.out Qj
   have jb:=znQ qZ
   have qc:=znQ (V.out.trans (zbW I qR.out V.out.size))
   clear qZ I
   (try go_wp2_with fail)
   refine hK.out _ _ ?_ (fun QM=> ?_)
   ·exact ⟨Qd,qY,Qx⟩
   clear hK K
   try simp only [Act.put,tkUa,tkUb,tkUc]
   refine wpAnyH_done (by kernel_rfl) ?_ _
   go_wp2
   go_roundw
   case rel=>exact ⟨j+1,L6,QU,by omega,by go_num,jb,qc⟩
   case measure=>simp [intOf];omega
  ·have jd:j=z0.length:=by omega
   subst jd
   clear J
   have Qb:=znQ (zmR cc M L zf wr HZ.out)
   go_wp2_with fail
   refine Qb.out.mono ?_
   rintro e x2 ⟨c2,M2,f,rfl,QE,jc,jf,qJ⟩
   have Qh:=znQ (HZ.out.keep qJ)
   have D:=znQ (HB.out.trans (qJ.mono HB.out.size))
   have QP:Hid (M2≠M):=fun e=>by have:=HZ.out.cac.map.1.lt;omega
   have qf:Hid (L.length≤64):=HZ.out.len
   have qE:=znQ QE
   have qP:Hid (∀e∈L,(⟨e.nm,e.un,f e.nm⟩:CE)∈L.map fun e=>(⟨e.nm,e.un,f e.nm⟩:CE)):=fun e O=>List.mem_map_of_mem O
   have QO:Hid ((L.map fun e=>(⟨e.nm,e.un,f e.nm⟩:CE)).map CE.nm=L.map CE.nm):=by show _=_;rw [List.map_map];rfl
   have qn:Hid ((L.map fun e=>(⟨e.nm,e.un,f e.nm⟩:CE)).length=L.length):=List.length_map _
   generalize (L.map fun e=>(⟨e.nm,e.un,f e.nm⟩:CE))=L2 at*
   have Q:=znQ (zbN c2 M2 L2 x2 qE.out.cac (by have:=qn.out;have:=qf.out;omega))
   clear QE jc jf qJ Qb HZ HB
   go_wp2_with fail
   refine Q.out.mono ?_
   rintro e x3 ⟨v3,rfl,qp,qo⟩
   rw [QO.out] at qp
   obtain ⟨a3,k3,rfl⟩:=qp.form
   have QJ:=znQ (qp.row zdA)
   have QB:=znQ (Qh.out.keep qo)
   have ql:=znQ (qE.out.keep qo)
   have qB:=znQ (D.out.trans (qo.mono D.out.size))
   have qa:(L.map CE.nm).length=L.length:=List.length_map _
   rw [qa]
   clear qp qo qa Qh qE D Q
   go_wp2
   go_loopw [9,70] (fun g i wr=> ∃k m:Nat,k≤L.length∧i= .int .i64 k∧g= .int .i64 m∧Hid (m=((L.take k).filter (zaM z)).length)∧Hid (Below x3.heap.size x3 wr)) (fun _ i _=>L.length - (intOf i).toNat)
   case atStart=>exact ⟨0,0,Nat.zero_le _,rfl,rfl,(rfl:(0:Nat)=_),Below.refl _ _⟩
   case round=>
    obtain ⟨k,m,hk,rfl,rfl,qb,a⟩:=hrel
    by_cases J:k<L.length
    ·have QY:(k:Int)<L.length:=by omega
     have QW:(L.length:Int)≤64:=by have:=qf.out;omega
     obtain ⟨e,O⟩: ∃e,L[k]? =some e:=⟨_,List.getElem?_eq_getElem J⟩
     have Qt:Hid (e∈L):=List.mem_of_getElem? O
     obtain ⟨ad,rfl,r0⟩:=(RowX.keep zdA QJ.out a.out).r1N (k:=k) (x:=e.nm) (by rw [List.getElem?_map,O];rfl)
     have ji:m≤64:=by
      have:=qb.out
      have h1:((L.take k).filter (zaM z)).length≤(L.take k).length:=List.length_filter_le _ _
      rw [List.length_take] at h1
      have:=qf.out
      omega
     have HT:Hid (((L.take (k+1)).filter (zaM z)).length=m+(if zaM z e then 1 else 0)):=by
      show _=_
      rw [List.take_add_one,O,List.filter_append,List.length_append,qb.out]
      cases hg:zaM z e<;>simp [hg]
     cases hg:zaM z e with
     |true=>
      have Y:=znQ (zcZ c2 M2 L2 zf z wr (ql.out.keep a.out) (qP.out e Qt.out) (n:=e.nm) rfl true hg)
      have qz:Hid (m+1=((L.take (k+1)).filter (zaM z)).length):=by have:=HT.out;rw [hg] at this;exact this.symm
      clear O hg HT
      go_upto_region 18 with fail
      go_wp2_with fail
      refine Y.out.mono ?_
      rintro e x4 ⟨v4,rfl,_,qg⟩
      have N:=znQ (a.out.trans (qg.mono a.out.size))
      clear qg Y
      go_wp2
      go_roundw
      case rel=>exact ⟨k+1,m+1,by omega,by go_num,by go_num,qz,N⟩
      case measure=>simp [intOf];omega
     |false=>
      have Y:=znQ (zcZ c2 M2 L2 zf z wr (ql.out.keep a.out) (qP.out e Qt.out) (n:=e.nm) rfl false hg)
      have qz:Hid (m=((L.take (k+1)).filter (zaM z)).length):=by have:=HT.out;rw [hg] at this;exact this.symm
      clear O hg HT
      go_upto_region 18 with fail
      go_wp2_with fail
      refine Y.out.mono ?_
      rintro e x4 ⟨v4,rfl,_,qg⟩
      have N:=znQ (a.out.trans (qg.mono a.out.size))
      clear qg Y
      go_wp2
      go_roundw
      case rel=>exact ⟨k+1,m,by omega,by go_num,rfl,qz,N⟩
      case measure=>simp [intOf];omega
    ·have qC:k=L.length:=by omega
     subst qC
     rw [List.take_length] at qb
     clear J hk
     have QX:=qb.out
     subst QX
     clear qb
     have qT:=znQ (QB.out.keep a.out)
     have QA:=znQ (ql.out.keep a.out)
     have N:=znQ (qB.out.trans (a.out.mono qB.out.size))
     have P:=znQ (zhL cc M L zf z wr qT.out)
     have QQ:Hid (∀e∈L.filter (zaM z),e∈L∧zaM z e=true):=fun e O=>List.mem_filter.1 O
     have QR:Hid ((L.filter (zaM z)).filter (zaM z)=L.filter (zaM z)):=List.filter_eq_self.2 fun e O=>(List.mem_filter.1 O).2
     have qI:Hid ((L.filter (zaM z)).length≤L.length):=List.length_filter_le _ _
     have QW:(L.length:Int)≤64:=by have:=qf.out;omega
     generalize L.filter (zaM z)=H at*
     have QV:=qI.out
     have hw:IntKind.i64.wrap ((L.length:Int) - (H.length:Int))=(L.length:Int) - (H.length:Int):=by rw [IntKind.wrap_i64];omega
     clear QB ql qB QJ a QV
     go_wp2_with fail
     refine P.out.mono ?_
     rintro e x5 ⟨rfl,qO,qd⟩
     have Ql:=znQ qO
     have Qo:=znQ (QA.out.other qT.out.cac.map qd QP.out)
     have V:=znQ (N.out.trans (zbW qd qR.out N.out.size))
     have Q:=znQ (zbN cc M H x5 qO.cac (by have:=qI.out;have:=qf.out;omega))
     clear qO qd P qT QA N
     go_wp2_with fail
     refine Q.out.mono ?_
     rintro e x6 ⟨v6,rfl,qU,qi⟩
     obtain ⟨a6,k6,rfl⟩:=qU.form
     have Qq:=znQ (qU.row zdA)
     have qk:=znQ (Ql.out.keep qi)
     have qG:=znQ (Qo.out.keep qi)
     have qc:=znQ (V.out.trans (qi.mono V.out.size))
     have qa:(H.map CE.nm).length=H.length:=List.length_map _
     rw [qa]
     clear qU qi qa Ql Qo V Q
     go_wp2
     go_loopw [91] (fun i wr=> ∃k:Nat,k≤H.length∧i= .int .i64 k∧Hid (Below x6.heap.size x6 wr)) (fun i _=>H.length - (intOf i).toNat)
     case atStart=>exact ⟨0,Nat.zero_le _,rfl,Below.refl _ _⟩
     case round=>
      obtain ⟨k,hk,rfl,a⟩:=hrel
      by_cases J:k<H.length
      ·have QY:(k:Int)<H.length:=by omega
       have jj:(H.length:Int)≤64:=by have:=qI.out;omega
       obtain ⟨e,O⟩: ∃e,H[k]? =some e:=⟨_,List.getElem?_eq_getElem J⟩
       have qm:e∈H:=List.mem_of_getElem? O
       obtain ⟨Qn,qN⟩:=QQ.out e qm
       obtain ⟨ad,rfl,r0⟩:=(RowX.keep zdA Qq.out a.out).r1N (k:=k) (x:=e.nm) (by rw [List.getElem?_map,O];rfl)
       have Qp:=znQ (zcZ cc M H zf z wr (qk.out.keep a.out) qm (n:=e.nm) rfl true qN)
       have Qr:Hid (∀W,Below wr.heap.size wr W→Calls Tryz.prog 18 #[.pointer (some ⟨c2,0,none⟩),.string ⟨e.nm.toArray⟩,.int .i64 z] W fun r w'=> ∃v,r= .returned (.tuple #[v,.bool true])∧(true=true→OwnX 48 1 clZ w' W.heap.size v (zf e.nm))∧Below W.heap.size W w'):=fun W hW=>zcZ c2 M2 L2 zf z W ((qG.out.keep a.out).keep hW) (qP.out e Qn) (n:=e.nm) rfl true qN
       have QT:Hid ((zf e.nm).length≤1000000):=(qk.out.few e qm).2.2
       clear O qm Qn qN
       go_upto_region 26 with fail
       go_wp2_with fail
       refine Qp.out.mono ?_
       rintro e7 x7 ⟨v7,rfl,Qa,Qf⟩
       have qL:=znQ (Qa (by first|rfl|trivial))
       obtain ⟨a7,k7,rfl⟩:=qL.out.form
       have qj:=znQ Qf
       clear Qa Qf Qp
       go_wp2_with fail
       refine (Qr.out x7 qj.out).mono ?_
       rintro e8 x8 ⟨v8,rfl,Qg,qF⟩
       have qS:=znQ (Qg (by first|rfl|trivial))
       obtain ⟨a8,k8,rfl⟩:=qS.out.form
       have qq:=znQ (qL.out.keep qF)
       have qA:=znQ (a.out.trans ((qj.out.trans (qF.mono qj.out.size)).mono a.out.size))
       have QD:=znQ (zeB a7 a8 k7 k8 (zf e.nm) x8 (qq.out.row zaP) (qS.out.row zaP) QT.out)
       clear Qg qF Qr qL qS qj qq
       go_wp2_with fail
       refine QD.out.mono ?_
       rintro e9 x9 ⟨rfl,Qw⟩
       have qh:=znQ (qA.out.trans (Qw.mono qA.out.size))
       clear Qw QD qA
       go_wp2
       go_roundw
       case rel=>exact ⟨k+1,by omega,by go_num,qh⟩
       case measure=>simp [intOf];omega
      ·have qC:k=H.length:=by omega
       subst qC
       clear J
       have Qm:=znQ (qk.out.keep a.out)
       have QS:=znQ (qG.out.keep a.out)
       have qh:=znQ (qc.out.trans (a.out.mono qc.out.size))
       have Qs:=znQ (zdU cc M H wr Qm.out.cac)
       have qK:=znQ (zdU c2 M2 L2 wr QS.out.cac)
       rw [qn.out] at qK
       have P:=znQ (zhL cc M H zf z wr Qm.out)
       rw [QR.out] at P
       have hz:(H.length:Int) - (H.length:Int)=0:=by omega
       rw [hz] at P
       clear qk qG qc Qq a hk hz
       go_wp2_with fail
       refine Qs.out.mono ?_
       rintro e QZ ⟨rfl,rfl⟩
       go_wp2_with fail
       refine qK.out.mono ?_
       rintro e QZ ⟨rfl,rfl⟩
       go_wp2_with fail
       refine P.out.mono ?_
       rintro e jl ⟨rfl,_,QK⟩
       have Qc:=znQ (qh.out.trans (zbW QK qR.out qh.out.size))
       clear QK P Qs qK
       go_wp2
       go_ret
       exact ⟨rfl,Qc.out⟩
end
end Go.Proofs.YteajemblhlbfpaaGreatDoor
