/-
  What the law AgreeNever leans on, and its walk (40 of 42).
-/
import Derived.Test.YtegmcmgndllmaaaGreatDoorAgreeNeverPkb
import Derived.Test.YtegmcmgndllmaaaGreatDoorAgreeNeverPkj
import Derived.Test.YtegmcmgndllmaaaGreatDoorAgreeNeverPkk
import Derived.Test.YtegmcmgndllmaaaGreatDoorAgreeNeverPkg
import Derived.Test.YtegmcmgndllmaaaGreatDoorAgreeNeverPkn
namespace Go.Proofs.YtegmcmgndllmaaaGreatDoor
set_option maxRecDepth 100000
set_option maxHeartbeats 16000000
abbrev ymC := @Lib.hid
abbrev ymD := @Nat.le_refl
abbrev ymE := @Go.RowKit.Below.refl
section
open Go.RowKit
def zgI:Array Value:= #[.string ⟨#[]⟩,.string ⟨#[]⟩,.string ⟨#[]⟩,.nilIface,.int .i64 0,.slice none 0 0,.string ⟨#[]⟩,.bool false,.string ⟨#[]⟩,.bool false,.string ⟨#[]⟩,.nilIface,.int .i64 0,.bool false]
theorem zcM {x:World} {g:Nat} {c:Array Value} {t:TypeId} (h:x.heap[g]? =some (.cells c t)) (i:Nat) (v:Value) (d:c[i]? =some v):x.setCell ⟨g,i,none⟩ v=x:=by
 have e:c.setIfInBounds i v=c:=by
  apply Array.ext (by simp)
  intro j f m
  rw [Array.getElem_setIfInBounds]
  split
  ·rename_i q
   subst q
   exact ((Array.getElem?_eq_some_iff.1 d).2).symm
  ·rfl
 rw [setCell_eq_setRow x g i c t (0,0) v h,e,setRow_self x g c t (0,0) h]
def putZ (x:World) (g:Nat):World:=((((((((((((((x.setCell ⟨g,0,none⟩ (.string ⟨#[]⟩)).setCell ⟨g,1,none⟩ (.string ⟨#[]⟩)).setCell ⟨g,2,none⟩ (.string ⟨#[]⟩)).setCell ⟨g,3,none⟩ (.nilIface)).setCell ⟨g,4,none⟩ (.int .i64 0)).setCell ⟨g,5,none⟩ (.slice none 0 0)).setCell ⟨g,6,none⟩ (.string ⟨#[]⟩)).setCell ⟨g,7,none⟩ (.bool false)).setCell ⟨g,8,none⟩ (.string ⟨#[]⟩)).setCell ⟨g,9,none⟩ (.bool false)).setCell ⟨g,10,none⟩ (.string ⟨#[]⟩)).setCell ⟨g,11,none⟩ (.nilIface)).setCell ⟨g,12,none⟩ (.int .i64 0)).setCell ⟨g,13,none⟩ (.bool false))
theorem z6Q {x:World} {g:Nat} {t:TypeId} (h:x.heap[g]? =some (.cells zgI t)):putZ x g=x:=by
 unfold putZ
 rw [zcM h 0 (.string ⟨#[]⟩) rfl,zcM h 1 (.string ⟨#[]⟩) rfl,zcM h 2 (.string ⟨#[]⟩) rfl,zcM h 3 (.nilIface) rfl,zcM h 4 (.int .i64 0) rfl,zcM h 5 (.slice none 0 0) rfl,zcM h 6 (.string ⟨#[]⟩) rfl,zcM h 7 (.bool false) rfl,zcM h 8 (.string ⟨#[]⟩) rfl,zcM h 9 (.bool false) rfl,zcM h 10 (.string ⟨#[]⟩) rfl,zcM h 11 (.nilIface) rfl,zcM h 12 (.int .i64 0) rfl,zcM h 13 (.bool false) rfl]
theorem zeM {w x:World} {g B:Nat} {t:TypeId} (d:Below B w x) (h:x.heap[g]? =some (.cells zgI t)):Below B w (putZ x g):=by rw [z6Q h];exact d
theorem zdY {y:World} {g:Nat} {t:TypeId} (h:y.heap[g]? =some (.cells zgI t)):y.cell? ⟨g,0,none⟩=some (.string ⟨#[]⟩)∧y.cell? ⟨g,1,none⟩=some (.string ⟨#[]⟩)∧y.cell? ⟨g,2,none⟩=some (.string ⟨#[]⟩)∧y.cell? ⟨g,3,none⟩=some (.nilIface)∧y.cell? ⟨g,4,none⟩=some (.int .i64 0)∧y.cell? ⟨g,5,none⟩=some (.slice none 0 0)∧y.cell? ⟨g,6,none⟩=some (.string ⟨#[]⟩)∧y.cell? ⟨g,7,none⟩=some (.bool false)∧y.cell? ⟨g,8,none⟩=some (.string ⟨#[]⟩)∧y.cell? ⟨g,9,none⟩=some (.bool false)∧y.cell? ⟨g,10,none⟩=some (.string ⟨#[]⟩)∧y.cell? ⟨g,11,none⟩=some (.nilIface)∧y.cell? ⟨g,12,none⟩=some (.int .i64 0)∧y.cell? ⟨g,13,none⟩=some (.bool false):=
 ⟨zaB h 0,zaB h 1,zaB h 2,zaB h 3,zaB h 4,zaB h 5,zaB h 6,zaB h 7,zaB h 8,zaB h 9,zaB h 10,zaB h 11,zaB h 12,zaB h 13⟩
theorem zfR {x:World} {g:Nat} {t:TypeId} (h:x.heap[g]? =some (.cells zgI t)):(putZ x g).cell? ⟨g,0,none⟩=some (.string ⟨#[]⟩)∧(putZ x g).cell? ⟨g,1,none⟩=some (.string ⟨#[]⟩)∧(putZ x g).cell? ⟨g,2,none⟩=some (.string ⟨#[]⟩)∧(putZ x g).cell? ⟨g,3,none⟩=some (.nilIface)∧(putZ x g).cell? ⟨g,4,none⟩=some (.int .i64 0)∧(putZ x g).cell? ⟨g,5,none⟩=some (.slice none 0 0)∧(putZ x g).cell? ⟨g,6,none⟩=some (.string ⟨#[]⟩)∧(putZ x g).cell? ⟨g,7,none⟩=some (.bool false)∧(putZ x g).cell? ⟨g,8,none⟩=some (.string ⟨#[]⟩)∧(putZ x g).cell? ⟨g,9,none⟩=some (.bool false)∧(putZ x g).cell? ⟨g,10,none⟩=some (.string ⟨#[]⟩)∧(putZ x g).cell? ⟨g,11,none⟩=some (.nilIface)∧(putZ x g).cell? ⟨g,12,none⟩=some (.int .i64 0)∧(putZ x g).cell? ⟨g,13,none⟩=some (.bool false):=by
 rw [z6Q h];exact zdY h
theorem z0U {p:PZ} (h:(zcO p).2≠0):(zcO p).1=ziU:=by
 unfold zcO at h ⊢
 split
 ·rfl
 ·rename_i f
  rw [if_neg f] at h
  split
  ·rfl
  ·rename_i i
   rw [if_neg i] at h
   split
   ·rfl
   ·rename_i j
    rw [if_neg j] at h
    split
    ·rfl
    ·rename_i d
     rw [if_neg d] at h
     exact absurd rfl h
theorem zrN {p:PZ} (h:(zcO p).2=0): ∃j o,(zcO p).1.host.val= .iface j o:=by
 unfold zcO at h ⊢
 split
 ·rename_i f;rw [if_pos f] at h;exact absurd h (by decide)
 ·rename_i f
  rw [if_neg f] at h
  split
  ·rename_i i;rw [if_pos i] at h;exact absurd h (by decide)
  ·rename_i i
   rw [if_neg i] at h
   split
   ·rename_i d;rw [if_pos d] at h;exact absurd h d
   ·rename_i d
    rw [if_neg d] at h
    split
    ·rename_i m;rw [if_pos m] at h;exact absurd h (by decide)
    ·exact HZ.iface (zlQ (Classical.not_not.1 d)).ne
theorem zsT (G:Value) (a b:List UInt8) (d o:TypeId) (f A:Value) (m n:Int) (q:Bool) (w:World):
  Calls Tryz.prog 61 #[G,.agg #[.string ⟨a.toArray⟩,.iface d f,.int .i64 m,.bool q],.agg #[.string ⟨b.toArray⟩,.iface o A,.int .i64 n,.bool true]] w fun e w'=>e= .returned (.int .i64 9)∧Below w.heap.size w w':=by
 have D:Hid (Below w.heap.size w ((w.alloc (.cells #[.string ⟨a.toArray⟩,.iface d f,.int .i64 m,.bool q] 37)).alloc (.cells #[.string ⟨b.toArray⟩,.iface o A,.int .i64 n,.bool true] 37))):=((ymE _ w).alloc (ymD _) _).alloc (by simp) _
 have j:=heap_alloc_new w (.cells #[.string ⟨a.toArray⟩,.iface d f,.int .i64 m,.bool q] 37)
 have B:=heap_alloc_new (w.alloc (.cells #[.string ⟨a.toArray⟩,.iface d f,.int .i64 m,.bool q] 37)) (.cells #[.string ⟨b.toArray⟩,.iface o A,.int .i64 n,.bool true] 37)
 have C:=(ymE (w.alloc (.cells #[.string ⟨a.toArray⟩,.iface d f,.int .i64 m,.bool q] 37)).heap.size (w.alloc (.cells #[.string ⟨a.toArray⟩,.iface d f,.int .i64 m,.bool q] 37))).alloc (ymD _) (.cells #[.string ⟨b.toArray⟩,.iface o A,.int .i64 n,.bool true] 37)
 have j:=(C.block _ (zaD j)).trans j
 have E:(w.alloc (.cells #[.string ⟨a.toArray⟩,.iface d f,.int .i64 m,.bool q] 37)).heap.size=w.heap.size+1:=by simp
 rw [E] at B
 obtain ⟨I,i⟩: ∃y,y=(w.alloc (.cells #[.string ⟨a.toArray⟩,.iface d f,.int .i64 m,.bool q] 37)).alloc (.cells #[.string ⟨b.toArray⟩,.iface o A,.int .i64 n,.bool true] 37):=⟨_,rfl⟩
 rw [←i] at D j B
 obtain ⟨-,-,-,J⟩:=zhS j
 obtain ⟨-,-,-,H⟩:=zhS B
 clear j B C E
 cases q<;>
 ·go_enter Tryz.func61,Tryz.ntmps61
  go_upto_region 1 with fail
  rw [←i]
  clear i
  go_wp2
  go_ret
  exact ⟨rfl,D.out⟩
theorem zvY (l:List UInt8) (gv:Value) (w:World) (hl:l.length≤1000000) (qJ:MaxVar w) (qI:Lib.Utf8Tabs 1 2 w)
  (H:(zfC l none).2=0→(zdK sixB l).2=0→(zcO (zdK sixB l).1).2=0→(zcO (zdK sixB l).1).1.user=true):
  Calls Tryz.prog 21 #[gv,.string ⟨l.toArray⟩] w fun e w'=> ∃er,e= .returned (.tuple #[.agg zgI,.int .i64 er])∧er≠0∧Below w.heap.size w w':=by
 have E:=ymC (fun y (hy:Below w.heap.size w y)=>(⟨zaA qJ hy,zeU qI hy⟩:MaxVar y∧Lib.Utf8Tabs 1 2 y))
 have qH:=ymC (fun W (hW:MaxVar W)=>z9O l W hW)
 have qj:=ymC (fun W (hm:MaxVar W) (hu:Lib.Utf8Tabs 1 2 W)=>zvL l W hm hu)
 have qn:=ymC ((z0L sixB l).mono hl)
 have B:Hid ((zfC l none).2=0→ ∃it iv,(zfC l none).1.host.val= .iface it iv):=fun h=>HZ.iface (z9K l none (fun _ e=>by cases e) h).host.ne
 have U:=ymC H
 clear qJ qI H hl
 generalize zfC l none=rr at*
 obtain ⟨v,er⟩:=rr
 simp only at B U
 obtain ⟨x0,Y⟩: ∃y,y=w.alloc (.cells zgI 56):=⟨_,rfl⟩
 have qh:Hid (Below w.heap.size w x0):=by show Below _ _ _;rw [Y];exact (ymE _ _).alloc (ymD _) _
 have qi:Hid (x0.heap[w.heap.size]? =some (.cells zgI 56)):=by show _=_;rw [Y];exact heap_alloc_new w _
 unfold zgI at Y
 have Qj: ∃hv,v.host.val=hv∧(hv= .nilIface∨ ∃it iv,hv= .iface it iv):=by
  rcases v.host.shape with h|⟨it,iv,h⟩
  ·exact ⟨_,h,.inl rfl⟩
  ·exact ⟨_,h,.inr ⟨it,iv,rfl⟩⟩
 obtain ⟨hv,qx,Qi⟩:=Qj
 rcases Qi with rfl|⟨it,iv,rfl⟩
 ·have V:=ymC qx
  clear qx
  go_enter Tryz.func21,Tryz.ntmps21
  go_upto_region 1 with fail
  rw [←Y]
  clear Y
  go_wp2_with fail
  refine (qH.out x0 (E.out x0 qh.out).1).mono ?_
  rintro e x1 ⟨pa,rfl,ql,qe⟩
  obtain ⟨aa,an,ac,rfl⟩:=ql.pv.shape
  obtain ⟨y1,m⟩: ∃y,y=x1.alloc (.cells (v.cells (.slice aa an ac)) 27):=⟨_,rfl⟩
  have hd1:Below x1.heap.size x1 y1:=by rw [m];exact zcD x1 _
  have qd:UB y1 x1.heap.size v (.slice aa an ac):=by rw [m];exact UB.new x1 v _
  have C:=(qe.block _ (zaD qi.out)).trans qi.out
  have C:=(hd1.block _ (zaD C)).trans C
  have A:=ymC C
  have Z:=ymC (zaJ (zaJ qh.out qe) hd1)
  obtain ⟨ga,qa⟩: ∃g,g=x1.heap.size:=⟨_,rfl⟩
  rw [←qa] at qd
  have qp:=ymC qd
  simp only [UZ.cells] at m ⊢
  rw [V.out] at m ⊢
  clear qe hd1 ql qd C qh qi qH
  go_upto_region 2 with fail
  rw [←m,←qa]
  clear m qa
  by_cases c1:er=0
  rotate_left
  ·have qv:(er !=0)=true:=bne_iff_ne.2 c1
   obtain ⟨r0,r1,r2,r3,r4,r5,r6,r7,r8,r9,qC,qw,qs,qE⟩:=zdY A.out
   have rf:=zaT A.out
   have j:=zeM Z.out A.out
   have d:=zfR A.out
   unfold putZ at j d
   have K:=ymC j
   have S:=ymC d
   clear j d qp E qj qn B U
   go_wp2
   obtain ⟨e0,e1,e2,e3,e4,e5,e6,e7,e8,e9,O,I,N,M⟩:=S.out
   refine bodyPost_ret (v:= .tuple #[.agg zgI,.int .i64 er]) (by simp [results,Tryz.results21,go_sem,zgI,e0,e1,e2,e3,e4,e5,e6,e7,e8,e9,O,I,N,M]) rfl ?_
   exact ⟨_,rfl,c1,K.out⟩
  subst c1
  obtain ⟨qY,Qa,hq⟩:=B.out rfl
  rw [V.out] at hq
  cases hq
 ·have V:=ymC qx
  clear qx
  go_enter Tryz.func21,Tryz.ntmps21
  go_upto_region 1 with fail
  rw [←Y]
  clear Y
  go_wp2_with fail
  refine (qH.out x0 (E.out x0 qh.out).1).mono ?_
  rintro e x1 ⟨pa,rfl,ql,qe⟩
  obtain ⟨aa,an,ac,rfl⟩:=ql.pv.shape
  obtain ⟨y1,m⟩: ∃y,y=x1.alloc (.cells (v.cells (.slice aa an ac)) 27):=⟨_,rfl⟩
  have hd1:Below x1.heap.size x1 y1:=by rw [m];exact zcD x1 _
  have qd:UB y1 x1.heap.size v (.slice aa an ac):=by rw [m];exact UB.new x1 v _
  have C:=(qe.block _ (zaD qi.out)).trans qi.out
  have C:=(hd1.block _ (zaD C)).trans C
  have A:=ymC C
  have Z:=ymC (zaJ (zaJ qh.out qe) hd1)
  obtain ⟨ga,qa⟩: ∃g,g=x1.heap.size:=⟨_,rfl⟩
  rw [←qa] at qd
  have qp:=ymC qd
  simp only [UZ.cells] at m ⊢
  rw [V.out] at m ⊢
  clear qe hd1 ql qd C qh qi qH
  go_upto_region 2 with fail
  rw [←m,←qa]
  clear m qa
  by_cases c1:er=0
  rotate_left
  ·have qv:(er !=0)=true:=bne_iff_ne.2 c1
   obtain ⟨r0,r1,r2,r3,r4,r5,r6,r7,r8,r9,qC,qw,qs,qE⟩:=zdY A.out
   have rf:=zaT A.out
   have j:=zeM Z.out A.out
   have d:=zfR A.out
   unfold putZ at j d
   have K:=ymC j
   have S:=ymC d
   clear j d qp E qj qn B U
   go_wp2
   obtain ⟨e0,e1,e2,e3,e4,e5,e6,e7,e8,e9,O,I,N,M⟩:=S.out
   refine bodyPost_ret (v:= .tuple #[.agg zgI,.int .i64 er]) (by simp [results,Tryz.results21,go_sem,zgI,e0,e1,e2,e3,e4,e5,e6,e7,e8,e9,O,I,N,M]) rfl ?_
   exact ⟨_,rfl,c1,K.out⟩
  subst c1
  obtain ⟨qY,Qa,hq⟩:=B.out rfl
  clear hq qY Qa
  have U:=ymC (U.out (by first|rfl|trivial))
  have qj:=ymC (qj.out y1 (E.out y1 Z.out).1 (E.out y1 Z.out).2)
  generalize zdK sixB l=px at*
  obtain ⟨p,f⟩:=px
  go_wp2_with fail
  refine qj.out.mono ?_
  rintro e x2 ⟨rfl,qy⟩
  obtain ⟨y2,qk⟩: ∃y,y=x2.alloc (.cells p.cells 32):=⟨_,rfl⟩
  have i:Below x2.heap.size x2 y2:=by rw [qk];exact (ymE _ _).alloc (ymD _) _
  have qP:PB 32 y2 x2.heap.size p:=by rw [qk];exact PB.new _ x2 p
  have qM:=(qy.block _ (zaD A.out)).trans A.out
  have D:=ymC ((i.block _ (zaD qM)).trans qM)
  have qg:=ymC (zaJ (zaJ Z.out qy) i)
  have qm:=ymC ((qp.out.below qy).below i)
  obtain ⟨gp,qU⟩: ∃g,g=x2.heap.size:=⟨_,rfl⟩
  rw [←qU] at qP
  have qF:=ymC qP
  clear qj Z qp A qy i qM qP
  dsimp only [PZ.cells] at qk ⊢
  go_upto_region 5 with fail
  rw [←qk,←qU]
  clear qk qU
  by_cases c2:f=0
  rotate_left
  ·have qv:(f !=0)=true:=bne_iff_ne.2 c2
   obtain ⟨r0,r1,r2,r3,r4,r5,r6,r7,r8,r9,qC,qw,qs,qE⟩:=zdY D.out
   have rf:=zaT D.out
   have j:=zeM qg.out D.out
   have d:=zfR D.out
   unfold putZ at j d
   have K:=ymC j
   have S:=ymC d
   clear j d qm E qn B U qF
   go_wp2
   obtain ⟨e0,e1,e2,e3,e4,e5,e6,e7,e8,e9,O,I,N,M⟩:=S.out
   refine bodyPost_ret (v:= .tuple #[.agg zgI,.int .i64 f]) (by simp [results,Tryz.results21,go_sem,zgI,e0,e1,e2,e3,e4,e5,e6,e7,e8,e9,O,I,N,M]) rfl ?_
   exact ⟨_,rfl,c2,K.out⟩
  subst c2
  have U:=ymC (U.out (by first|rfl|trivial))
  have qG:=qn.out
  have G:=ymC (zrZ p y2 qG.1 qG.2.2.1 qG.2.2.2.1 (E.out y2 qg.out).1)
  have qQ:=z0U (p:=p)
  have qR:=zrN (p:=p)
  have U:=ymC U.out
  simp only at U
  generalize zcO p=sx at*
  obtain ⟨s,h⟩:=sx
  simp only at qQ qR U
  have qT:=ymC qQ
  have qS:=ymC qR
  unfold z6K SZ.cells at G
  simp only at G
  clear qn B qG qQ qR
  obtain ⟨d0,d1,d2,d3,d4,d5,d6,d7,d8,d9,qV,Qb,Qg⟩:=qF.out.all
  by_cases c3:h=0
  rotate_left
  ·obtain rfl:=qT.out c3
   unfold ziU HZ.val at G
   change Hid (Calls _ _ _ _ fun e w'=>e= .returned (.tuple #[.agg #[.string ⟨#[]⟩,.nilIface,.int .i64 0,.bool false],.int .i64 h])∧_) at G
   go_wp2_with fail
   refine G.out.mono ?_
   rintro e x3 ⟨rfl,Q⟩
   clear d0 d1 d2 d3 d4 d5 d6 d7 d8 d9 qV Qb Qg G qF
   obtain ⟨y3,J⟩: ∃y,y=x3.alloc (.cells #[.string ⟨#[]⟩,.nilIface,.int .i64 0,.bool false] 37):=⟨_,rfl⟩
   have i:Below x3.heap.size x3 y3:=by rw [J];exact (ymE _ _).alloc (ymD _) _
   have o:y3.heap[x3.heap.size]? =some (.cells #[.string ⟨#[]⟩,.nilIface,.int .i64 0,.bool false] 37):=by rw [J];exact heap_alloc_new x3 _
   have qb:=(Q.block _ (zaD D.out)).trans D.out
   have X:=ymC ((i.block _ (zaD qb)).trans qb)
   have qr:=ymC (zaJ (zaJ qg.out Q) i)
   have qA:=ymC ((qm.out.below Q).below i)
   obtain ⟨gs,qc⟩: ∃g,g=x3.heap.size:=⟨_,rfl⟩
   rw [←qc] at o
   have qf:=ymC o
   clear qg qm D Q i qb o
   go_upto_region 8 with fail
   rw [←J,←qc]
   clear J qc
   have qv:(h !=0)=true:=bne_iff_ne.2 c3
   obtain ⟨r0,r1,r2,r3,r4,r5,r6,r7,r8,r9,qC,qw,qs,qE⟩:=zdY X.out
   have rf:=zaT X.out
   have j:=zeM qr.out X.out
   have d:=zfR X.out
   unfold putZ at j d
   have K:=ymC j
   have S:=ymC d
   clear j d qA E U qT qS qf
   go_wp2
   obtain ⟨e0,e1,e2,e3,e4,e5,e6,e7,e8,e9,O,I,N,M⟩:=S.out
   refine bodyPost_ret (v:= .tuple #[.agg zgI,.int .i64 h]) (by simp [results,Tryz.results21,go_sem,zgI,e0,e1,e2,e3,e4,e5,e6,e7,e8,e9,O,I,N,M]) rfl ?_
   exact ⟨_,rfl,c3,K.out⟩
  subst c3
  obtain ⟨jt,jv,Qd⟩:=qS.out (by first|rfl|trivial)
  have qX:s.user=true:=by first|exact U.out rfl|exact U.out trivial rfl|exact U.out rfl rfl|exact U.out trivial
  rw [Qd,qX] at G
  clear Qd qX U qT qS
  go_wp2_with fail
  refine G.out.mono ?_
  rintro e x3 ⟨rfl,Q⟩
  clear d0 d1 d2 d3 d4 d5 d6 d7 d8 d9 qV Qb Qg G qF
  obtain ⟨y3,J⟩: ∃y,y=x3.alloc (.cells #[.string ⟨s.scheme.toArray⟩,.iface jt jv,.int .i64 s.port,.bool true] 37):=⟨_,rfl⟩
  have i:Below x3.heap.size x3 y3:=by rw [J];exact (ymE _ _).alloc (ymD _) _
  have o:y3.heap[x3.heap.size]? =some (.cells #[.string ⟨s.scheme.toArray⟩,.iface jt jv,.int .i64 s.port,.bool true] 37):=by rw [J];exact heap_alloc_new x3 _
  have qb:=(Q.block _ (zaD D.out)).trans D.out
  have X:=ymC ((i.block _ (zaD qb)).trans qb)
  have qr:=ymC (zaJ (zaJ qg.out Q) i)
  have qA:=ymC ((qm.out.below Q).below i)
  obtain ⟨gs,qc⟩: ∃g,g=x3.heap.size:=⟨_,rfl⟩
  rw [←qc] at o
  have qf:=ymC o
  clear qg qm D Q i qb o
  go_upto_region 8 with fail
  rw [←J,←qc]
  clear J qc
  have qD:=zvA v aa an ac y3 ⟨it,iv,V.out⟩
  have qW:(ztG v).cells= #[.string ⟨v.scheme.toArray⟩,.iface it iv,.int .i64 (effZ v),.bool (!(v.user++v.pass).isEmpty)]:=by
   unfold SZ.cells ztG
   simp only
   rw [V.out]
  simp only [qW,UZ.cells] at qD
  rw [V.out] at qD
  have Qc:=ymC qD
  clear qD qW
  obtain ⟨u0,u1,u2,u3,u4,u5,u6,u7,u8,u9,-⟩:=qA.out.all
  rw [V.out] at u3
  go_wp2_with fail
  refine Qc.out.mono ?_
  rintro e x4 ⟨rfl,qB⟩
  clear u0 u1 u2 u3 u4 u5 u6 u7 u8 u9 Qc qA
  obtain ⟨y4,qz⟩: ∃y,y=x4.alloc (.cells #[.string ⟨v.scheme.toArray⟩,.iface it iv,.int .i64 (effZ v),.bool (!(v.user++v.pass).isEmpty)] 37):=⟨_,rfl⟩
  have i:Below x4.heap.size x4 y4:=by rw [qz];exact (ymE _ _).alloc (ymD _) _
  have qL:y4.heap[x4.heap.size]? =some (.cells #[.string ⟨v.scheme.toArray⟩,.iface it iv,.int .i64 (effZ v),.bool (!(v.user++v.pass).isEmpty)] 37):=by rw [qz];exact heap_alloc_new x4 _
  have qo:=(qB.block _ (zaD X.out)).trans X.out
  have qo:=(i.block _ (zaD qo)).trans qo
  have o:=(qB.block _ (zaD qf.out)).trans qf.out
  have o:=(i.block _ (zaD o)).trans o
  have qN:=ymC qo
  have qf:=ymC o
  have Qe:=ymC (zaJ (zaJ qr.out qB) i)
  obtain ⟨gl,qO⟩: ∃g,g=x4.heap.size:=⟨_,rfl⟩
  rw [←qO] at qL
  have Qf:=ymC qL
  clear qr X qB i qo o qL
  go_upto_region 11 with fail
  rw [←qz,←qO]
  clear qz qO
  obtain ⟨a0,a1,a2,a3⟩:=zhS qf.out
  obtain ⟨b0,b1,b2,b3⟩:=zhS Qf.out
  have qZ:=ymC (zsT gv v.scheme s.scheme it jt iv jv (effZ v) s.port (!(v.user++v.pass).isEmpty) y4)
  go_wp2_with fail
  refine qZ.out.mono ?_
  rintro e x5 ⟨rfl,qK⟩
  have qq:=ymC ((qK.block _ (zaD qN.out)).trans qN.out)
  have Qh:=ymC (zaJ Qe.out qK)
  have c9:(9:Int)≠0:=by decide
  clear a0 a1 a2 a3 b0 b1 b2 b3 qZ qf Qf qN Qe qK
  go_upto_region 12 with fail
  have qv:((9:Int) !=0)=true:=bne_iff_ne.2 c9
  obtain ⟨r0,r1,r2,r3,r4,r5,r6,r7,r8,r9,qC,qw,qs,qE⟩:=zdY qq.out
  have rf:=zaT qq.out
  have j:=zeM Qh.out qq.out
  have d:=zfR qq.out
  unfold putZ at j d
  have K:=ymC j
  have S:=ymC d
  clear j d E
  go_wp2
  obtain ⟨e0,e1,e2,e3,e4,e5,e6,e7,e8,e9,O,I,N,M⟩:=S.out
  refine bodyPost_ret (v:= .tuple #[.agg zgI,.int .i64 (9:Int)]) (by simp [results,Tryz.results21,go_sem,zgI,e0,e1,e2,e3,e4,e5,e6,e7,e8,e9,O,I,N,M]) rfl ?_
  exact ⟨_,rfl,c9,K.out⟩
end
end Go.Proofs.YtegmcmgndllmaaaGreatDoor
