/-
  What the law AgreeNever leans on, and its walk (33 of 42).
-/
import Derived.Test.YtegmcmgndllmaaaGreatDoorAgreeNeverPka
import Derived.Test.YtegmcmgndllmaaaGreatDoorAgreeNeverPke
import Derived.Test.YtegmcmgndllmaaaGreatDoorAgreeNeverPkg
import Derived.Test.YtegmcmgndllmaaaGreatDoorAgreeNeverPkY
namespace Go.Proofs.YtegmcmgndllmaaaGreatDoor
set_option maxRecDepth 100000
set_option maxHeartbeats 16000000
abbrev ylU := @Lib.hid
section
open Go.RowKit
def zkR (l:List UInt8):Int×Bool:=match digP 0 l with
 |none=>(0,false)
 |some n=>if 65535<n then (0,false) else (n,true)
theorem z1H {l:List UInt8} (h:digP 0 l=none):zkR l=(0,false):=by unfold zkR;rw [h]
theorem z3U {l:List UInt8} {n:Int} (h:digP 0 l=some n) (d:65535<n):zkR l=(0,false):=by unfold zkR;rw [h];exact if_pos d
theorem yhZ {l:List UInt8} {n:Int} (h:digP 0 l=some n) (d: ¬65535<n):zkR l=(n,true):=by unfold zkR;rw [h];exact if_neg d
theorem yfV {l:List UInt8} (o:l≠[]):(zeL l= -2∧zkR l=(0,false))∨(zeL l≠ -2∧zkR l=(zeL l,true)):=by
 unfold zkR zeL
 rw [if_neg o]
 rcases zqV l 0 0 (.inl rfl) with ⟨d,i⟩|⟨a,b,d,i,f⟩
 ·left;rw [d,i];exact ⟨rfl,rfl⟩
 ·rw [d,i]
  have A:=zvF l 0 a (by omega) (by omega) d
  rcases f with rfl|⟨m,B,j⟩
  ·by_cases h:65535<a
   ·left;simp only;rw [if_pos h,if_pos h];exact ⟨rfl,rfl⟩
   ·right
    simp only
    rw [if_neg h,if_neg (by omega)]
    exact ⟨by omega,rfl⟩
  ·left;simp only;rw [if_pos m,if_pos j];exact ⟨rfl,rfl⟩
def SZ.cells (s:SZ):Array Value:= #[.string ⟨s.scheme.toArray⟩,s.host.val,.int .i64 s.port,.bool s.user]
def z6K (w:World) (x:SZ×Int) (e:Ending) (w':World):Prop:=e= .returned (.tuple #[.agg x.1.cells,.int .i64 x.2])∧Below w.heap.size w w'
def put4 (x:World) (g:Nat) (j i d f:Value):World:=(((x.setCell ⟨g,0,none⟩ j).setCell ⟨g,1,none⟩ i).setCell ⟨g,2,none⟩ d).setCell ⟨g,3,none⟩ f
theorem zbP {w x:World} {g B:Nat} (h:Below B w x) (d:B≤g) (m j f i:Value):Below B w (put4 x g m j f i):=
 (((h.setCell (p:=⟨g,0,none⟩) d _).setCell (p:=⟨g,1,none⟩) d _).setCell (p:=⟨g,2,none⟩) d _).setCell (p:=⟨g,3,none⟩) d _
theorem zbR {t:TypeId} {x:World} {g:Nat} {B C A o:Value} (h:x.heap[g]? =some (.cells #[B,C,A,o] t)) (j i d f:Value):(put4 x g j i d f).cell? ⟨g,0,none⟩=some j∧(put4 x g j i d f).cell? ⟨g,1,none⟩=some i∧(put4 x g j i d f).cell? ⟨g,2,none⟩=some d∧(put4 x g j i d f).cell? ⟨g,3,none⟩=some f:=by
 have m:(put4 x g j i d f).heap[g]? =some (.cells #[j,i,d,f] t):=zaK (zaK (zaK (zaK h 0 j) 1 i) 2 d) 3 f
 exact ⟨zaB m 0,zaB m 1,zaB m 2,zaB m 3⟩
structure SB (tp ts:TypeId) (w x:World) (p:PZ) (z:Array Value):Prop where
 below:Below w.heap.size w x
 box:PB tp x w.heap.size p
 res:x.heap[w.heap.size+1]? =some (.cells z ts)
theorem SB.keep {tp ts:TypeId} {w x y:World} {p:PZ} {z:Array Value} (h:SB tp ts w x p z) (d:Below x.heap.size x y):SB tp ts w y p z:=
 ⟨zaJ h.below d,h.box.below d,(d.block _ (zaD h.res)).trans h.res⟩
theorem SB.first (tp ts:TypeId) (w:World) (p:PZ) (z:Array Value):SB tp ts w ((w.alloc (.cells p.cells tp)).alloc (.cells z ts)) p z:=by
 have f:(w.alloc (.cells p.cells tp)).heap.size=w.heap.size+1:=by simp
 have d:=heap_alloc_new (w.alloc (.cells p.cells tp)) (.cells z ts)
 rw [f] at d
 exact ⟨((Below.refl _ w).alloc (Nat.le_refl _) _).alloc (by simp) _,(PB.new tp w p).below ((Below.refl _ _).alloc (Nat.le_refl _) _),d⟩
theorem zcC {t:TypeId} {x:World} {g:Nat} (h:x.heap[g]? =some (.cells #[.string ⟨#[]⟩,.nilIface,.int .i64 0,.bool false] t)):x.cell? ⟨g,0,none⟩=some (.string ⟨#[]⟩)∧x.cell? ⟨g,1,none⟩=some .nilIface∧x.cell? ⟨g,2,none⟩=some (.int .i64 0)∧x.cell? ⟨g,3,none⟩=some (.bool false):=⟨zaB h 0,zaB h 1,zaB h 2,zaB h 3⟩
theorem zoD (l:List UInt8) (w:World):
  Calls Tryz.prog 46 #[.string ⟨l.toArray⟩] w fun e w'=>e= .returned (.tuple #[.int .i64 (zkR l).1,.bool (zkR l).2])∧Below w.heap.size w w':=by
 have hz:(ByteArray.mk l.toArray).size=l.length:=by simp [ByteArray.size]
 have N:=ylU (z1H (l:=l))
 have V:=ylU (fun n=>z3U (l:=l) (n:=n))
 have Y:=ylU (fun n=>yhZ (l:=l) (n:=n))
 obtain ⟨res,K⟩: ∃r,zkR l=r:=⟨_,rfl⟩
 rw [K] at N V Y ⊢
 clear K
 go_enter Tryz.func46,Tryz.ntmps46
 go_wp2
 go_loopg [4] l.length (fun gf o wx=> ∃(d:Nat) (n:Int),o= .int .i64 n∧0≤n∧n≤65536∧wx.heap[w.heap.size]? =some (.stringIter ⟨l.toArray⟩ d)∧Below w.heap.size w wx∧d≤l.length∧Hid (digP 0 l=digP n (l.drop d))∧l.length≤d+gf)
 case atStart=>exact ⟨0,0,rfl,by omega,by omega,World.iter_heap w _ 0,(Below.refl _ w).alloc (Nat.le_refl _) _,Nat.zero_le _,rfl,by omega⟩
 case round=>
  obtain ⟨d,n,rfl,qe,qb,H,C,qc,HS,qd⟩:=hrel
  by_cases Q:d<l.length
  ·obtain ⟨Z,rfl⟩: ∃Z,gk=Z+1:=⟨gk - 1,by omega⟩
   have i:d<(ByteArray.mk l.toArray).size:=by rw [hz];exact Q
   have B: ∀O,(Instr.next (.pointer (some ⟨w.heap.size,0,none⟩)) true O).run Tryz.prog wr=_:=fun O=>Lib.run_next_any_at wr w.heap.size _ d O H i
   have D:l.drop d=l[d]::l.drop (d+1):=List.drop_eq_getElem_cons Q
   have G:(ByteArray.mk l.toArray)[d]=l[d]:=rfl
   by_cases f:(ByteArray.mk l.toArray)[d].toNat<128
   ·rw [decode_ascii _ d i f,G] at B
    rw [G] at f
    have J:=Lib.iterAt_heap wr w.heap.size _ d (d+1) H
    have j:=Lib.below_iterAt C (k:=w.heap.size) (Nat.le_refl _) ⟨l.toArray⟩ (d+1)
    simp only at B
    generalize wr.iterAt w.heap.size ⟨l.toArray⟩ (d+1)=wi at*
    obtain ⟨c,hc⟩: ∃c,l[d]=c:=⟨_,rfl⟩
    rw [hc] at B f D
    have E:Hid (digP 0 l=if zaX c.toNat=true then digP (min (10*n+((c.toNat:Int) - 48)) 65536) (l.drop (d+1)) else none):=by show _=_;rw [HS.out,D,digP]
    have X:=z3R (c:=c.toNat)
    clear hc D G H C i
    generalize c.toNat=I at*
    have M:=ylU (fun W=>zbT (I:Int) W)
    have HV:=ylU (fun W=>zbS (I:Int) W)
    cases S:zaX (I:Int) with
    |false=>
     rw [S] at M E
     have A:=ylU (N.out E.out)
     go_wp2_with fail
     refine (M.out _).mono ?_
     rintro e w' ⟨rfl,rfl⟩
     go_wp2
     go_ret2
     exact ⟨by rw [A.out];rfl,j⟩
    |true=>
     rw [S] at M E
     obtain ⟨v1,v2,v3⟩:=X S
     rw [v1] at HV
     have A:Hid (digP 0 l=digP (min (10*n+((I:Int) - 48)) 65536) (l.drop (d+1))):=E.out.trans (if_pos rfl)
     clear E S v1 X
     by_cases m:65536<10*n+((I:Int) - 48)
     ·have hm:min (10*n+((I:Int) - 48)) 65536=65536:=by omega
      rw [hm] at A
      go_wp2_with (first|(go_at_call 97;refine (M.out _).mono ?_;rintro e w' ⟨rfl,rfl⟩)|(go_at_call 107;refine (HV.out _).mono ?_;rintro e w' ⟨rfl,rfl⟩))
      go_roundg Z
      case measure=>omega
      case rel=>exact ⟨d+1,65536,rfl,by omega,by omega,J,j,by omega,A.out,by omega⟩
     ·have hm:min (10*n+((I:Int) - 48)) 65536=10*n+((I:Int) - 48):=by omega
      rw [hm] at A
      go_wp2_with (first|(go_at_call 97;refine (M.out _).mono ?_;rintro e w' ⟨rfl,rfl⟩)|(go_at_call 107;refine (HV.out _).mono ?_;rintro e w' ⟨rfl,rfl⟩))
      go_roundg Z
      case measure=>omega
      case rel=>exact ⟨d+1,10*n+((I:Int) - 48),rfl,by omega,by omega,J,j,by omega,A.out,by omega⟩
   ·have qa:=zuC _ d i f
    have U:zaX (l[d].toNat:Int)=false:=decide_eq_false (by rw [G] at f;omega)
    have A:=ylU (N.out (by rw [HS.out,D,digP,if_neg (by rw [U];decide)]))
    obtain ⟨R,hR⟩: ∃R,(Utf8.decode ⟨l.toArray⟩ d).1=R:=⟨_,rfl⟩
    rw [hR] at qa B
    have j:=Lib.below_iterAt C (k:=w.heap.size) (Nat.le_refl _) ⟨l.toArray⟩ (d+(Utf8.decode ⟨l.toArray⟩ d).2)
    generalize wr.iterAt w.heap.size ⟨l.toArray⟩ (d+(Utf8.decode ⟨l.toArray⟩ d).2)=wi at*
    have M:=ylU (fun W=>zbT (R:Int) W)
    rw [show zaX (R:Int)=false from decide_eq_false (by omega)] at M
    clear hR U D G f
    go_wp2_with fail
    refine (M.out _).mono ?_
    rintro e w' ⟨rfl,rfl⟩
    go_wp2
    go_ret2
    exact ⟨by rw [A.out];rfl,j⟩
  ·have i: ¬d<(ByteArray.mk l.toArray).size:=by rw [hz];exact Q
   have B: ∀O,(Instr.next (.pointer (some ⟨w.heap.size,0,none⟩)) true O).run Tryz.prog wr=_:=fun O=>Lib.run_next_end_at wr w.heap.size _ d O H i
   have HE:Hid (digP 0 l=some n):=by show _=_;rw [HS.out,List.drop_eq_nil_of_le (by omega)];rfl
   by_cases m:65535<n
   ·have A:=ylU (V.out n HE.out m)
    have S:decide (65535<n)=true:=decide_eq_true m
    go_wp2
    go_ret2
    exact ⟨by rw [A.out];rfl,C⟩
   ·have S:decide (65535<n)=false:=decide_eq_false m
    have A:=ylU (Y.out n HE.out (by omega))
    go_wp2
    go_ret2
    exact ⟨by rw [A.out];rfl,C⟩
theorem zrZ (p:PZ) (w:World) (f1:p.scheme.length≤1000000) (f3:p.host.length≤1000000) (_f4:p.port.length≤1000000) (qf:MaxVar w):
  Calls Tryz.prog 12 #[.agg p.cells] w (z6K w (zcO p)):=by
 have qd:=ylU (SB.first 32 37 w p #[.string ⟨#[]⟩,.nilIface,.int .i64 0,.bool false])
 have qa:=ylU (fun y (hy:Below w.heap.size w y)=>zaA qf hy)
 have qg:=ylU (fun W=>zkG ⟨p.scheme.toArray⟩ W (by rw [zaI];omega))
 have O:=ylU (fun W=>zgD (zaM p.scheme) W)
 have C:=ylU (fun W (hm:MaxVar W)=>zjM ⟨p.host.toArray⟩ W (by rw [zaI];omega) hm)
 have H:=ylU (fun W=>zoD p.port W)
 have K:=ylU (yfV (l:=p.port))
 have N:Hid (zcO p=if p.hasS=false∨ownZ (zaM p.scheme)=0 then (ziU,5)
  else if p.hasA=false then (ziU,6)
  else if (zdR p.host).2≠0 then (ziU,(zdR p.host).2)
  else if p.hasP=true∧zeL p.port= -2 then (ziU,8)
  else (⟨zaM p.scheme,(zdR p.host).1,if p.hasP=true∧p.port≠[] then zeL p.port else ownZ (zaM p.scheme),p.hasU⟩,0)):=rfl
 simp only at qg C
 have qr:=zaI p.port
 have qq:zeL []≠ -2:=by decide
 generalize zcO p=res at*
 generalize zkR p.port=ps at*
 generalize ql:zeL p.port=pw at N K
 have qe:Hid (pw=zeL p.port):=ql.symm
 clear ql
 generalize zdR p.host=hz at*
 generalize zaM p.scheme=D at*
 generalize qj:p.port=pt at*
 obtain ⟨x0,qb⟩: ∃y,y=(w.alloc (.cells p.cells 32)).alloc (.cells #[.string ⟨#[]⟩,.nilIface,.int .i64 0,.bool false] 37):=⟨_,rfl⟩
 rw [←qb] at qd
 dsimp only [PZ.cells] at qb ⊢
 rw [qj] at qb ⊢
 have M:=ylU qj
 clear qf f1 f3 qj
 obtain ⟨hh,he⟩:=hz
 generalize ownZ D=own at*
 simp only at C N
 go_enter Tryz.func12,Tryz.ntmps12
 go_upto_region 1 with fail
 rw [←qb]
 clear qb
 obtain ⟨d0,-,-,-,-,-,-,-,-,-,-,-,-⟩:=qd.out.box.all
 go_wp2_with fail
 refine (qg.out _).mono ?_
 rintro e x1 ⟨rfl,qo⟩
 have o:=ylU (qd.out.keep qo)
 clear d0 qo qd qg
 obtain ⟨-,d1,-,-,-,d5,-,-,-,-,-,-,-⟩:=o.out.box.all
 by_cases U:p.hasS=false
 ·have A:Hid (res=(ziU,5)):=by show _=_;rw [N.out,if_pos (.inl U)]
  rw [U] at d1
  clear N O C H K qa U M d5
  go_upto_region 3 with fail
  clear d1
  obtain ⟨r0,r1,r2,r3⟩:=zcC o.out.res
  have rf:=zaT o.out.res
  have f:=zbP o.out.below (Nat.le_succ _) (.string ⟨#[]⟩) .nilIface (.int .i64 0) (.bool false)
  have d:=zbR o.out.res (.string ⟨#[]⟩) .nilIface (.int .i64 0) (.bool false)
  unfold put4 at f d
  have j:=ylU f
  have m:=ylU d
  clear f d o
  go_wp2
  obtain ⟨J,E,I,G⟩:=m.out
  obtain rfl:=A.out
  refine bodyPost_ret (v:= .tuple #[.agg #[.string ⟨#[]⟩,.nilIface,.int .i64 0,.bool false],.int .i64 5]) (by simp [results,Tryz.results12,go_sem,J,E,I,G]) rfl ?_
  exact ⟨rfl,j.out⟩
 have U:p.hasS=true:=by cases h:p.hasS;exact absurd h U;rfl
 rw [U] at d1
 by_cases c2:own=0
 ·have A:Hid (res=(ziU,5)):=by show _=_;rw [N.out,if_pos (.inr c2)]
  subst c2
  clear N C H K qa U M d5
  go_wp2_with fail
  refine (O.out _).mono ?_
  rintro e w' ⟨rfl,rfl⟩
  clear O
  go_upto_region 3 with fail
  clear d1
  obtain ⟨r0,r1,r2,r3⟩:=zcC o.out.res
  have rf:=zaT o.out.res
  have f:=zbP o.out.below (Nat.le_succ _) (.string ⟨#[]⟩) .nilIface (.int .i64 0) (.bool false)
  have d:=zbR o.out.res (.string ⟨#[]⟩) .nilIface (.int .i64 0) (.bool false)
  unfold put4 at f d
  have j:=ylU f
  have m:=ylU d
  clear f d o
  go_wp2
  obtain ⟨J,E,I,G⟩:=m.out
  obtain rfl:=A.out
  refine bodyPost_ret (v:= .tuple #[.agg #[.string ⟨#[]⟩,.nilIface,.int .i64 0,.bool false],.int .i64 5]) (by simp [results,Tryz.results12,go_sem,J,E,I,G]) rfl ?_
  exact ⟨rfl,j.out⟩
 have qn:(own==0)=false:=beq_eq_false_iff_ne.2 c2
 go_wp2_with fail
 refine (O.out _).mono ?_
 rintro e w' ⟨rfl,rfl⟩
 by_cases S:p.hasA=false
 ·have A:Hid (res=(ziU,6)):=by show _=_;rw [N.out,if_neg (by rintro (q|q);rw [U] at q;cases q;exact c2 q),if_pos S]
  rw [S] at d5
  clear N C H K qa U M O c2 S
  go_upto_region 5 with fail
  clear d1 d5 qn
  obtain ⟨r0,r1,r2,r3⟩:=zcC o.out.res
  have rf:=zaT o.out.res
  have f:=zbP o.out.below (Nat.le_succ _) (.string ⟨#[]⟩) .nilIface (.int .i64 0) (.bool false)
  have d:=zbR o.out.res (.string ⟨#[]⟩) .nilIface (.int .i64 0) (.bool false)
  unfold put4 at f d
  have j:=ylU f
  have m:=ylU d
  clear f d o
  go_wp2
  obtain ⟨J,E,I,G⟩:=m.out
  obtain rfl:=A.out
  refine bodyPost_ret (v:= .tuple #[.agg #[.string ⟨#[]⟩,.nilIface,.int .i64 0,.bool false],.int .i64 6]) (by simp [results,Tryz.results12,go_sem,J,E,I,G]) rfl ?_
  exact ⟨rfl,j.out⟩
 have S:p.hasA=true:=by cases h:p.hasA;exact absurd h S;rfl
 rw [S] at d5
 go_upto_region 6 with fail
 clear d1 d5 qn
 have C:=ylU (C.out x1 (qa.out x1 o.out.below))
 obtain ⟨-,-,-,-,d4,-,-,-,-,-,-,-,-⟩:=o.out.box.all
 obtain ⟨hv,qk,qi⟩: ∃hv,hh.val=hv∧(hv= .nilIface∨ ∃V Y,hv= .iface V Y):=by
  rcases hh.shape with h|⟨V,Y,h⟩
  ·exact ⟨_,h,.inl rfl⟩
  ·exact ⟨_,h,.inr ⟨V,Y,rfl⟩⟩
 unfold zqT at C
 simp only at C
 rw [qk] at C
 have X:=ylU qk
 clear qk qa
 go_wp2_with fail
 refine C.out.mono ?_
 rintro e x2 ⟨rfl,qm⟩
 have i:=ylU (o.out.keep qm)
 clear d4 qm C o
 by_cases c4:he=0
 ·subst c4
  go_upto_region 9 with fail
  go_wp2_with fail
  refine (O.out _).mono ?_
  rintro e w' ⟨rfl,rfl⟩
  clear O
  obtain ⟨-,-,-,d3,-,-,d6,d7,-,-,-,-,-⟩:=i.out.box.all
  rw [M.out] at d6
  have qp:p.hasP=false∨(p.hasP=true∧pt=[])∨(p.hasP=true∧pt≠[]):=by
   cases p.hasP
   ·exact .inl rfl
   ·by_cases q:pt=[]
    ·exact .inr (.inl ⟨rfl,q⟩)
    ·exact .inr (.inr ⟨rfl,q⟩)
  have Q: ¬(p.hasS=false∨own=0):=by rintro (q|q);rw [U] at q;cases q;exact c2 q
  rcases qp with Z|⟨Z,c6⟩|⟨Z,c6⟩
  ·have A:Hid (res=(⟨D,hh,own,p.hasU⟩,0)):=by show _=_;rw [N.out,if_neg Q,if_neg (by rw [S];decide),if_neg (by simp),if_neg (by rintro ⟨q,_⟩;rw [Z] at q;cases q),if_neg (by rintro ⟨q,_⟩;rw [Z] at q;cases q)]
   rw [Z] at d7
   clear N H K Z M Q U c2 S
   go_upto_region 15 with fail
   clear d6 d7
   rcases qi with rfl|⟨V,Y,rfl⟩
   ·obtain ⟨r0,r1,r2,r3⟩:=zcC i.out.res
    have rf:=zaT i.out.res
    have f:=zbP i.out.below (Nat.le_succ _) (.string ⟨D.toArray⟩) .nilIface (.int .i64 own) (.bool p.hasU)
    have d:=zbR i.out.res (.string ⟨D.toArray⟩) .nilIface (.int .i64 own) (.bool p.hasU)
    unfold put4 at f d
    have j:=ylU f
    have m:=ylU d
    clear f d i
    go_wp2
    obtain ⟨J,E,I,G⟩:=m.out
    obtain rfl:=A.out
    refine bodyPost_ret (v:= .tuple #[.agg #[.string ⟨D.toArray⟩,.nilIface,.int .i64 own,.bool p.hasU],.int .i64 0]) (by simp [results,Tryz.results12,go_sem,J,E,I,G]) rfl ?_
    refine ⟨?_,j.out⟩
    unfold SZ.cells
    simp only
    rw [X.out]
   ·obtain ⟨r0,r1,r2,r3⟩:=zcC i.out.res
    have rf:=zaT i.out.res
    have f:=zbP i.out.below (Nat.le_succ _) (.string ⟨D.toArray⟩) (.iface V Y) (.int .i64 own) (.bool p.hasU)
    have d:=zbR i.out.res (.string ⟨D.toArray⟩) (.iface V Y) (.int .i64 own) (.bool p.hasU)
    unfold put4 at f d
    have j:=ylU f
    have m:=ylU d
    clear f d i
    go_wp2
    obtain ⟨J,E,I,G⟩:=m.out
    obtain rfl:=A.out
    refine bodyPost_ret (v:= .tuple #[.agg #[.string ⟨D.toArray⟩,.iface V Y,.int .i64 own,.bool p.hasU],.int .i64 0]) (by simp [results,Tryz.results12,go_sem,J,E,I,G]) rfl ?_
    refine ⟨?_,j.out⟩
    unfold SZ.cells
    simp only
    rw [X.out]
  ·have A:Hid (res=(⟨D,hh,own,p.hasU⟩,0)):=by show _=_;rw [N.out,if_neg Q,if_neg (by rw [S];decide),if_neg (by simp),if_neg (by rintro ⟨_,q⟩;exact qq ((congrArg zeL c6).symm.trans (qe.out.symm.trans q))),if_neg (by rintro ⟨_,q⟩;exact q c6)]
   rw [Z] at d7
   rw [c6] at d6
   clear N H K Z M Q U c2 S c6 qe
   go_upto_region 15 with fail
   clear d6 d7
   rcases qi with rfl|⟨V,Y,rfl⟩
   ·obtain ⟨r0,r1,r2,r3⟩:=zcC i.out.res
    have rf:=zaT i.out.res
    have f:=zbP i.out.below (Nat.le_succ _) (.string ⟨D.toArray⟩) .nilIface (.int .i64 own) (.bool p.hasU)
    have d:=zbR i.out.res (.string ⟨D.toArray⟩) .nilIface (.int .i64 own) (.bool p.hasU)
    unfold put4 at f d
    have j:=ylU f
    have m:=ylU d
    clear f d i
    go_wp2
    obtain ⟨J,E,I,G⟩:=m.out
    obtain rfl:=A.out
    refine bodyPost_ret (v:= .tuple #[.agg #[.string ⟨D.toArray⟩,.nilIface,.int .i64 own,.bool p.hasU],.int .i64 0]) (by simp [results,Tryz.results12,go_sem,J,E,I,G]) rfl ?_
    refine ⟨?_,j.out⟩
    unfold SZ.cells
    simp only
    rw [X.out]
   ·obtain ⟨r0,r1,r2,r3⟩:=zcC i.out.res
    have rf:=zaT i.out.res
    have f:=zbP i.out.below (Nat.le_succ _) (.string ⟨D.toArray⟩) (.iface V Y) (.int .i64 own) (.bool p.hasU)
    have d:=zbR i.out.res (.string ⟨D.toArray⟩) (.iface V Y) (.int .i64 own) (.bool p.hasU)
    unfold put4 at f d
    have j:=ylU f
    have m:=ylU d
    clear f d i
    go_wp2
    obtain ⟨J,E,I,G⟩:=m.out
    obtain rfl:=A.out
    refine bodyPost_ret (v:= .tuple #[.agg #[.string ⟨D.toArray⟩,.iface V Y,.int .i64 own,.bool p.hasU],.int .i64 0]) (by simp [results,Tryz.results12,go_sem,J,E,I,G]) rfl ?_
    refine ⟨?_,j.out⟩
    unfold SZ.cells
    simp only
    rw [X.out]
  ·have qh:(pt==[])=false:=by rw [beq_eq_false_iff_ne];exact c6
   rw [Z] at d7
   rcases K.out c6 with ⟨g1,g2⟩|⟨g1,g2⟩
   ·have A:Hid (res=(ziU,8)):=by show _=_;rw [N.out,if_neg Q,if_neg (by rw [S];decide),if_neg (by simp),if_pos ⟨Z,g1⟩]
    subst g2
    clear N K Z M Q U c2 S c6 g1 qe
    go_wp2_with fail
    refine (H.out _).mono ?_
    rintro e x3 ⟨rfl,qc⟩
    have B:=ylU (i.out.keep qc)
    clear qc i H d3 d6 d7 qh
    go_upto_region 13 with fail
    obtain ⟨r0,r1,r2,r3⟩:=zcC B.out.res
    have rf:=zaT B.out.res
    have f:=zbP B.out.below (Nat.le_succ _) (.string ⟨#[]⟩) .nilIface (.int .i64 0) (.bool false)
    have d:=zbR B.out.res (.string ⟨#[]⟩) .nilIface (.int .i64 0) (.bool false)
    unfold put4 at f d
    have j:=ylU f
    have m:=ylU d
    clear f d B
    go_wp2
    obtain ⟨J,E,I,G⟩:=m.out
    obtain rfl:=A.out
    refine bodyPost_ret (v:= .tuple #[.agg #[.string ⟨#[]⟩,.nilIface,.int .i64 0,.bool false],.int .i64 8]) (by simp [results,Tryz.results12,go_sem,J,E,I,G]) rfl ?_
    exact ⟨rfl,j.out⟩
   ·have A:Hid (res=(⟨D,hh,pw,p.hasU⟩,0)):=by show _=_;rw [N.out,if_neg Q,if_neg (by rw [S];decide),if_neg (by simp),if_neg (by rintro ⟨_,q⟩;exact g1 q),if_pos ⟨Z,c6⟩]
    subst g2
    clear N K Z M Q U c2 S c6 g1 qe
    go_wp2_with fail
    refine (H.out _).mono ?_
    rintro e x3 ⟨rfl,qc⟩
    have B:=ylU (i.out.keep qc)
    clear qc i H d3 d6 d7 qh
    obtain ⟨-,-,-,d3,-,-,-,-,-,-,-,-,-⟩:=B.out.box.all
    go_upto_region 15 with fail
    rcases qi with rfl|⟨V,Y,rfl⟩
    ·obtain ⟨r0,r1,r2,r3⟩:=zcC B.out.res
     have rf:=zaT B.out.res
     have f:=zbP B.out.below (Nat.le_succ _) (.string ⟨D.toArray⟩) .nilIface (.int .i64 pw) (.bool p.hasU)
     have d:=zbR B.out.res (.string ⟨D.toArray⟩) .nilIface (.int .i64 pw) (.bool p.hasU)
     unfold put4 at f d
     have j:=ylU f
     have m:=ylU d
     clear f d B
     go_wp2
     obtain ⟨J,E,I,G⟩:=m.out
     obtain rfl:=A.out
     refine bodyPost_ret (v:= .tuple #[.agg #[.string ⟨D.toArray⟩,.nilIface,.int .i64 pw,.bool p.hasU],.int .i64 0]) (by simp [results,Tryz.results12,go_sem,J,E,I,G]) rfl ?_
     refine ⟨?_,j.out⟩
     unfold SZ.cells
     simp only
     rw [X.out]
    ·obtain ⟨r0,r1,r2,r3⟩:=zcC B.out.res
     have rf:=zaT B.out.res
     have f:=zbP B.out.below (Nat.le_succ _) (.string ⟨D.toArray⟩) (.iface V Y) (.int .i64 pw) (.bool p.hasU)
     have d:=zbR B.out.res (.string ⟨D.toArray⟩) (.iface V Y) (.int .i64 pw) (.bool p.hasU)
     unfold put4 at f d
     have j:=ylU f
     have m:=ylU d
     clear f d B
     go_wp2
     obtain ⟨J,E,I,G⟩:=m.out
     obtain rfl:=A.out
     refine bodyPost_ret (v:= .tuple #[.agg #[.string ⟨D.toArray⟩,.iface V Y,.int .i64 pw,.bool p.hasU],.int .i64 0]) (by simp [results,Tryz.results12,go_sem,J,E,I,G]) rfl ?_
     refine ⟨?_,j.out⟩
     unfold SZ.cells
     simp only
     rw [X.out]
 ·have A:Hid (res=(ziU,he)):=by show _=_;rw [N.out,if_neg (by rintro (q|q);rw [U] at q;cases q;exact c2 q),if_neg (by rw [S];decide),if_pos c4]
  have qh:(he !=0)=true:=bne_iff_ne.2 c4
  clear N H K M U c2 S O X
  go_upto_region 8 with fail
  obtain ⟨r0,r1,r2,r3⟩:=zcC i.out.res
  have rf:=zaT i.out.res
  have f:=zbP i.out.below (Nat.le_succ _) (.string ⟨#[]⟩) .nilIface (.int .i64 0) (.bool false)
  have d:=zbR i.out.res (.string ⟨#[]⟩) .nilIface (.int .i64 0) (.bool false)
  unfold put4 at f d
  have j:=ylU f
  have m:=ylU d
  clear f d i
  go_wp2
  obtain ⟨J,E,I,G⟩:=m.out
  obtain rfl:=A.out
  refine bodyPost_ret (v:= .tuple #[.agg #[.string ⟨#[]⟩,.nilIface,.int .i64 0,.bool false],.int .i64 he]) (by simp [results,Tryz.results12,go_sem,J,E,I,G]) rfl ?_
  exact ⟨rfl,j.out⟩
end
end Go.Proofs.YtegmcmgndllmaaaGreatDoor
