/-
  What the law AuthorityAgrees leans on, and its walk (32 of 43).
-/
import Derived.Test.YtegmcmgndllmaaaGreatDoorAuthorityAgreesPka
import Derived.Test.YtegmcmgndllmaaaGreatDoorAuthorityAgreesPkd
import Derived.Test.YtegmcmgndllmaaaGreatDoorAuthorityAgreesPkf
import Derived.Test.YtegmcmgndllmaaaGreatDoorAuthorityAgreesPkZ
namespace Go.Proofs.YtegmcmgndllmaaaGreatDoor
set_option maxRecDepth 100000
set_option maxHeartbeats 16000000
abbrev ypA := @Lib.hid
section
open Go.RowKit
def zkP (l:List UInt8):Int×Bool:=match digP 0 l with
 |none=>(0,false)
 |some n=>if 65535<n then (0,false) else (n,true)
theorem z1W {l:List UInt8} (h:digP 0 l=none):zkP l=(0,false):=by unfold zkP;rw [h]
theorem z5R {l:List UInt8} {n:Int} (h:digP 0 l=some n) (d:65535<n):zkP l=(0,false):=by unfold zkP;rw [h];exact if_pos d
theorem ymJ {l:List UInt8} {n:Int} (h:digP 0 l=some n) (d: ¬65535<n):zkP l=(n,true):=by unfold zkP;rw [h];exact if_neg d
theorem yeH {l:List UInt8} (j:l≠[]):(zdJ l= -2∧zkP l=(0,false))∨(zdJ l≠ -2∧zkP l=(zdJ l,true)):=by
 unfold zkP zdJ
 rw [if_neg j]
 rcases zrR l 0 0 (.inl rfl) with ⟨d,e⟩|⟨a,b,d,e,f⟩
 ·left;rw [d,e];exact ⟨rfl,rfl⟩
 ·rw [d,e]
  have o:=zwY l 0 a (by omega) (by omega) d
  rcases f with rfl|⟨g,m,i⟩
  ·by_cases h:65535<a
   ·left;simp only;rw [if_pos h,if_pos h];exact ⟨rfl,rfl⟩
   ·right
    simp only
    rw [if_neg h,if_neg (by omega)]
    exact ⟨by omega,rfl⟩
  ·left;simp only;rw [if_pos g,if_pos i];exact ⟨rfl,rfl⟩
def SZ.cells (s:SZ):Array Value:= #[.string ⟨s.scheme.toArray⟩,s.host.val,.int .i64 s.port,.bool s.user]
def yaM (w:World) (x:SZ×Int) (e:Ending) (w':World):Prop:=e= .returned (.tuple #[.agg x.1.cells,.int .i64 x.2])∧Below w.heap.size w w'
def put4 (x:World) (g:Nat) (e d i f:Value):World:=(((x.setCell ⟨g,0,none⟩ e).setCell ⟨g,1,none⟩ d).setCell ⟨g,2,none⟩ i).setCell ⟨g,3,none⟩ f
theorem zbI {w x:World} {g B:Nat} (h:Below B w x) (d:B≤g) (e f i j:Value):Below B w (put4 x g e f i j):=
 (((h.setCell (p:=⟨g,0,none⟩) d _).setCell (p:=⟨g,1,none⟩) d _).setCell (p:=⟨g,2,none⟩) d _).setCell (p:=⟨g,3,none⟩) d _
theorem zbM {t:TypeId} {x:World} {g:Nat} {o A m q:Value} (h:x.heap[g]? =some (.cells #[o,A,m,q] t)) (e d i f:Value):(put4 x g e d i f).cell? ⟨g,0,none⟩=some e∧(put4 x g e d i f).cell? ⟨g,1,none⟩=some d∧(put4 x g e d i f).cell? ⟨g,2,none⟩=some i∧(put4 x g e d i f).cell? ⟨g,3,none⟩=some f:=by
 have j:(put4 x g e d i f).heap[g]? =some (.cells #[e,d,i,f] t):=zaL (zaL (zaL (zaL h 0 e) 1 d) 2 i) 3 f
 exact ⟨zaA j 0,zaA j 1,zaA j 2,zaA j 3⟩
structure SB (tp ts:TypeId) (w x:World) (p:PZ) (z:Array Value):Prop where
 below:Below w.heap.size w x
 box:PB tp x w.heap.size p
 res:x.heap[w.heap.size+1]? =some (.cells z ts)
theorem SB.keep {tp ts:TypeId} {w x y:World} {p:PZ} {z:Array Value} (h:SB tp ts w x p z) (d:Below x.heap.size x y):SB tp ts w y p z:=
 ⟨zaG h.below d,h.box.below d,(d.block _ (zaK h.res)).trans h.res⟩
theorem SB.first (tp ts:TypeId) (w:World) (p:PZ) (z:Array Value):SB tp ts w ((w.alloc (.cells p.cells tp)).alloc (.cells z ts)) p z:=by
 have e:(w.alloc (.cells p.cells tp)).heap.size=w.heap.size+1:=by simp
 have d:=heap_alloc_new (w.alloc (.cells p.cells tp)) (.cells z ts)
 rw [e] at d
 exact ⟨((Below.refl _ w).alloc (Nat.le_refl _) _).alloc (by simp) _,(PB.new tp w p).below ((Below.refl _ _).alloc (Nat.le_refl _) _),d⟩
theorem zbV {t:TypeId} {x:World} {g:Nat} (h:x.heap[g]? =some (.cells #[.string ⟨#[]⟩,.nilIface,.int .i64 0,.bool false] t)):x.cell? ⟨g,0,none⟩=some (.string ⟨#[]⟩)∧x.cell? ⟨g,1,none⟩=some .nilIface∧x.cell? ⟨g,2,none⟩=some (.int .i64 0)∧x.cell? ⟨g,3,none⟩=some (.bool false):=⟨zaA h 0,zaA h 1,zaA h 2,zaA h 3⟩
theorem zoK (l:List UInt8) (w:World):
  Calls Tryz.prog 46 #[.string ⟨l.toArray⟩] w fun e w'=>e= .returned (.tuple #[.int .i64 (zkP l).1,.bool (zkP l).2])∧Below w.heap.size w w':=by
 have hz:(ByteArray.mk l.toArray).size=l.length:=by simp [ByteArray.size]
 have K:=ypA (z1W (l:=l))
 have T:=ypA (fun n=>z5R (l:=l) (n:=n))
 have S:=ypA (fun n=>ymJ (l:=l) (n:=n))
 obtain ⟨res,J⟩: ∃r,zkP l=r:=⟨_,rfl⟩
 rw [J] at K T S ⊢
 clear J
 go_enter Tryz.func46,Tryz.ntmps46
 go_wp2
 go_loopg [4] l.length (fun gf o wx=> ∃(d:Nat) (n:Int),o= .int .i64 n∧0≤n∧n≤65536∧wx.heap[w.heap.size]? =some (.stringIter ⟨l.toArray⟩ d)∧Below w.heap.size w wx∧d≤l.length∧Hid (digP 0 l=digP n (l.drop d))∧l.length≤d+gf)
 case atStart=>exact ⟨0,0,rfl,by omega,by omega,World.iter_heap w _ 0,(Below.refl _ w).alloc (Nat.le_refl _) _,Nat.zero_le _,rfl,by omega⟩
 case round=>
  obtain ⟨d,n,rfl,qc,qa,G,A,qb,X,qd⟩:=hrel
  by_cases L:d<l.length
  ·obtain ⟨U,rfl⟩: ∃U,gk=U+1:=⟨gk - 1,by omega⟩
   have g:d<(ByteArray.mk l.toArray).size:=by rw [hz];exact L
   have D: ∀M,(Instr.next (.pointer (some ⟨w.heap.size,0,none⟩)) true M).run Tryz.prog wr=_:=fun M=>Lib.run_next_any_at wr w.heap.size _ d M G g
   have q:l.drop d=l[d]::l.drop (d+1):=List.drop_eq_getElem_cons L
   have B:(ByteArray.mk l.toArray)[d]=l[d]:=rfl
   by_cases f:(ByteArray.mk l.toArray)[d].toNat<128
   ·rw [decode_ascii _ d g f,B] at D
    rw [B] at f
    have H:=Lib.iterAt_heap wr w.heap.size _ d (d+1) G
    have i:=Lib.below_iterAt A (k:=w.heap.size) (Nat.le_refl _) ⟨l.toArray⟩ (d+1)
    simp only at D
    generalize wr.iterAt w.heap.size ⟨l.toArray⟩ (d+1)=wi at*
    obtain ⟨c,hc⟩: ∃c,l[d]=c:=⟨_,rfl⟩
    rw [hc] at D f q
    have C:Hid (digP 0 l=if zaU c.toNat=true then digP (min (10*n+((c.toNat:Int) - 48)) 65536) (l.drop (d+1)) else none):=by show _=_;rw [X.out,q,digP]
    have Q:=ycD (c:=c.toNat)
    clear hc q B G A g
    generalize c.toNat=E at*
    have I:=ypA (fun W=>zbO (E:Int) W)
    have Y:=ypA (fun W=>zbP (E:Int) W)
    cases N:zaU (E:Int) with
    |false=>
     rw [N] at I C
     have m:=ypA (K.out C.out)
     go_wp2_with fail
     refine (I.out _).mono ?_
     rintro e w' ⟨rfl,rfl⟩
     go_wp2
     go_ret2
     exact ⟨by rw [m.out];rfl,i⟩
    |true=>
     rw [N] at I C
     obtain ⟨v1,v2,v3⟩:=Q N
     rw [v1] at Y
     have m:Hid (digP 0 l=digP (min (10*n+((E:Int) - 48)) 65536) (l.drop (d+1))):=C.out.trans (if_pos rfl)
     clear C N v1 Q
     by_cases j:65536<10*n+((E:Int) - 48)
     ·have Z:min (10*n+((E:Int) - 48)) 65536=65536:=by omega
      rw [Z] at m
      go_wp2_with (first|(go_at_call 97;refine (I.out _).mono ?_;rintro e w' ⟨rfl,rfl⟩)|(go_at_call 107;refine (Y.out _).mono ?_;rintro e w' ⟨rfl,rfl⟩))
      go_roundg U
      case measure=>omega
      case rel=>exact ⟨d+1,65536,rfl,by omega,by omega,H,i,by omega,m.out,by omega⟩
     ·have Z:min (10*n+((E:Int) - 48)) 65536=10*n+((E:Int) - 48):=by omega
      rw [Z] at m
      go_wp2_with (first|(go_at_call 97;refine (I.out _).mono ?_;rintro e w' ⟨rfl,rfl⟩)|(go_at_call 107;refine (Y.out _).mono ?_;rintro e w' ⟨rfl,rfl⟩))
      go_roundg U
      case measure=>omega
      case rel=>exact ⟨d+1,10*n+((E:Int) - 48),rfl,by omega,by omega,H,i,by omega,m.out,by omega⟩
   ·have V:=zvN _ d g f
    have O:zaU (l[d].toNat:Int)=false:=decide_eq_false (by rw [B] at f;omega)
    have m:=ypA (K.out (by rw [X.out,q,digP,if_neg (by rw [O];decide)]))
    obtain ⟨R,hR⟩: ∃R,(Utf8.decode ⟨l.toArray⟩ d).1=R:=⟨_,rfl⟩
    rw [hR] at V D
    have i:=Lib.below_iterAt A (k:=w.heap.size) (Nat.le_refl _) ⟨l.toArray⟩ (d+(Utf8.decode ⟨l.toArray⟩ d).2)
    generalize wr.iterAt w.heap.size ⟨l.toArray⟩ (d+(Utf8.decode ⟨l.toArray⟩ d).2)=wi at*
    have I:=ypA (fun W=>zbO (R:Int) W)
    rw [show zaU (R:Int)=false from decide_eq_false (by omega)] at I
    clear hR O q B f
    go_wp2_with fail
    refine (I.out _).mono ?_
    rintro e w' ⟨rfl,rfl⟩
    go_wp2
    go_ret2
    exact ⟨by rw [m.out];rfl,i⟩
  ·have g: ¬d<(ByteArray.mk l.toArray).size:=by rw [hz];exact L
   have D: ∀M,(Instr.next (.pointer (some ⟨w.heap.size,0,none⟩)) true M).run Tryz.prog wr=_:=fun M=>Lib.run_next_end_at wr w.heap.size _ d M G g
   have HE:Hid (digP 0 l=some n):=by show _=_;rw [X.out,List.drop_eq_nil_of_le (by omega)];rfl
   by_cases j:65535<n
   ·have m:=ypA (T.out n HE.out j)
    have N:decide (65535<n)=true:=decide_eq_true j
    go_wp2
    go_ret2
    exact ⟨by rw [m.out];rfl,A⟩
   ·have N:decide (65535<n)=false:=decide_eq_false j
    have m:=ypA (S.out n HE.out (by omega))
    go_wp2
    go_ret2
    exact ⟨by rw [m.out];rfl,A⟩
theorem zsE (p:PZ) (w:World) (f1:p.scheme.length≤1000000) (f3:p.host.length≤1000000) (_f4:p.port.length≤1000000) (qd:MaxVar w):
  Calls Tryz.prog 12 #[.agg p.cells] w (yaM w (zlC p)):=by
 have qb:=ypA (SB.first 32 37 w p #[.string ⟨#[]⟩,.nilIface,.int .i64 0,.bool false])
 have Z:=ypA (fun y (hy:Below w.heap.size w y)=>zaD qd hy)
 have qh:=ypA (fun W=>zkI ⟨p.scheme.toArray⟩ W (by rw [zaF];omega))
 have N:=ypA (fun W=>zeM (zaI p.scheme) W)
 have B:=ypA (fun W (hm:MaxVar W)=>zjU ⟨p.host.toArray⟩ W (by rw [zaF];omega) hm)
 have H:=ypA (fun W=>zoK p.port W)
 have D:=ypA (yeH (l:=p.port))
 have L:Hid (zlC p=if p.hasS=false∨ownZ (zaI p.scheme)=0 then (zkL,5)
  else if p.hasA=false then (zkL,6)
  else if (zcN p.host).2≠0 then (zkL,(zcN p.host).2)
  else if p.hasP=true∧zdJ p.port= -2 then (zkL,8)
  else (⟨zaI p.scheme,(zcN p.host).1,if p.hasP=true∧p.port≠[] then zdJ p.port else ownZ (zaI p.scheme),p.hasU⟩,0)):=rfl
 simp only at qh B
 have qp:=zaF p.port
 have qo:zdJ []≠ -2:=by decide
 generalize zlC p=res at*
 generalize zkP p.port=ps at*
 generalize qj:zdJ p.port=pw at L D
 have qc:Hid (pw=zdJ p.port):=qj.symm
 clear qj
 generalize zcN p.host=hz at*
 generalize zaI p.scheme=C at*
 generalize qe:p.port=pt at*
 obtain ⟨x0,Y⟩: ∃y,y=(w.alloc (.cells p.cells 32)).alloc (.cells #[.string ⟨#[]⟩,.nilIface,.int .i64 0,.bool false] 37):=⟨_,rfl⟩
 rw [←Y] at qb
 dsimp only [PZ.cells] at Y ⊢
 rw [qe] at Y ⊢
 have K:=ypA qe
 clear qd f1 f3 qe
 obtain ⟨hh,he⟩:=hz
 generalize ownZ C=own at*
 simp only at B L
 go_enter Tryz.func12,Tryz.ntmps12
 go_upto_region 1 with fail
 rw [←Y]
 clear Y
 obtain ⟨d0,-,-,-,-,-,-,-,-,-,-,-,-⟩:=qb.out.box.all
 go_wp2_with fail
 refine (qh.out _).mono ?_
 rintro e x1 ⟨rfl,ql⟩
 have m:=ypA (qb.out.keep ql)
 clear d0 ql qb qh
 obtain ⟨-,d1,-,-,-,d5,-,-,-,-,-,-,-⟩:=m.out.box.all
 by_cases O:p.hasS=false
 ·have o:Hid (res=(zkL,5)):=by show _=_;rw [L.out,if_pos (.inl O)]
  rw [O] at d1
  clear L N B H D Z O K d5
  go_upto_region 3 with fail
  clear d1
  obtain ⟨r0,r1,r2,r3⟩:=zbV m.out.res
  have rf:=zaJ m.out.res
  have f:=zbI m.out.below (Nat.le_succ _) (.string ⟨#[]⟩) .nilIface (.int .i64 0) (.bool false)
  have d:=zbM m.out.res (.string ⟨#[]⟩) .nilIface (.int .i64 0) (.bool false)
  unfold put4 at f d
  have i:=ypA f
  have j:=ypA d
  clear f d m
  go_wp2
  obtain ⟨E,I,J,G⟩:=j.out
  obtain rfl:=o.out
  refine bodyPost_ret (v:= .tuple #[.agg #[.string ⟨#[]⟩,.nilIface,.int .i64 0,.bool false],.int .i64 5]) (by simp [results,Tryz.results12,go_sem,E,I,J,G]) rfl ?_
  exact ⟨rfl,i.out⟩
 have O:p.hasS=true:=by cases h:p.hasS;exact absurd h O;rfl
 rw [O] at d1
 by_cases X:own=0
 ·have o:Hid (res=(zkL,5)):=by show _=_;rw [L.out,if_pos (.inr X)]
  subst X
  clear L B H D Z O K d5
  go_wp2_with fail
  refine (N.out _).mono ?_
  rintro e w' ⟨rfl,rfl⟩
  clear N
  go_upto_region 3 with fail
  clear d1
  obtain ⟨r0,r1,r2,r3⟩:=zbV m.out.res
  have rf:=zaJ m.out.res
  have f:=zbI m.out.below (Nat.le_succ _) (.string ⟨#[]⟩) .nilIface (.int .i64 0) (.bool false)
  have d:=zbM m.out.res (.string ⟨#[]⟩) .nilIface (.int .i64 0) (.bool false)
  unfold put4 at f d
  have i:=ypA f
  have j:=ypA d
  clear f d m
  go_wp2
  obtain ⟨E,I,J,G⟩:=j.out
  obtain rfl:=o.out
  refine bodyPost_ret (v:= .tuple #[.agg #[.string ⟨#[]⟩,.nilIface,.int .i64 0,.bool false],.int .i64 5]) (by simp [results,Tryz.results12,go_sem,E,I,J,G]) rfl ?_
  exact ⟨rfl,i.out⟩
 have qk:(own==0)=false:=beq_eq_false_iff_ne.2 X
 go_wp2_with fail
 refine (N.out _).mono ?_
 rintro e w' ⟨rfl,rfl⟩
 by_cases Q:p.hasA=false
 ·have o:Hid (res=(zkL,6)):=by show _=_;rw [L.out,if_neg (by rintro (q|q);rw [O] at q;cases q;exact X q),if_pos Q]
  rw [Q] at d5
  clear L B H D Z O K N X Q
  go_upto_region 5 with fail
  clear d1 d5 qk
  obtain ⟨r0,r1,r2,r3⟩:=zbV m.out.res
  have rf:=zaJ m.out.res
  have f:=zbI m.out.below (Nat.le_succ _) (.string ⟨#[]⟩) .nilIface (.int .i64 0) (.bool false)
  have d:=zbM m.out.res (.string ⟨#[]⟩) .nilIface (.int .i64 0) (.bool false)
  unfold put4 at f d
  have i:=ypA f
  have j:=ypA d
  clear f d m
  go_wp2
  obtain ⟨E,I,J,G⟩:=j.out
  obtain rfl:=o.out
  refine bodyPost_ret (v:= .tuple #[.agg #[.string ⟨#[]⟩,.nilIface,.int .i64 0,.bool false],.int .i64 6]) (by simp [results,Tryz.results12,go_sem,E,I,J,G]) rfl ?_
  exact ⟨rfl,i.out⟩
 have Q:p.hasA=true:=by cases h:p.hasA;exact absurd h Q;rfl
 rw [Q] at d5
 go_upto_region 6 with fail
 clear d1 d5 qk
 have B:=ypA (B.out x1 (Z.out x1 m.out.below))
 obtain ⟨-,-,-,-,d4,-,-,-,-,-,-,-,-⟩:=m.out.box.all
 obtain ⟨hv,qf,qg⟩: ∃hv,hh.val=hv∧(hv= .nilIface∨ ∃U T,hv= .iface U T):=by
  rcases hh.shape with h|⟨U,T,h⟩
  ·exact ⟨_,h,.inl rfl⟩
  ·exact ⟨_,h,.inr ⟨U,T,rfl⟩⟩
 unfold zqN at B
 simp only at B
 rw [qf] at B
 have S:=ypA qf
 clear qf Z
 go_wp2_with fail
 refine B.out.mono ?_
 rintro e x2 ⟨rfl,qm⟩
 have g:=ypA (m.out.keep qm)
 clear d4 qm B m
 by_cases c4:he=0
 ·subst c4
  go_upto_region 9 with fail
  go_wp2_with fail
  refine (N.out _).mono ?_
  rintro e w' ⟨rfl,rfl⟩
  clear N
  obtain ⟨-,-,-,d3,-,-,d6,d7,-,-,-,-,-⟩:=g.out.box.all
  rw [K.out] at d6
  have qn:p.hasP=false∨(p.hasP=true∧pt=[])∨(p.hasP=true∧pt≠[]):=by
   cases p.hasP
   ·exact .inl rfl
   ·by_cases q:pt=[]
    ·exact .inr (.inl ⟨rfl,q⟩)
    ·exact .inr (.inr ⟨rfl,q⟩)
  have M: ¬(p.hasS=false∨own=0):=by rintro (q|q);rw [O] at q;cases q;exact X q
  rcases qn with V|⟨V,c6⟩|⟨V,c6⟩
  ·have o:Hid (res=(⟨C,hh,own,p.hasU⟩,0)):=by show _=_;rw [L.out,if_neg M,if_neg (by rw [Q];decide),if_neg (by simp),if_neg (by rintro ⟨q,_⟩;rw [V] at q;cases q),if_neg (by rintro ⟨q,_⟩;rw [V] at q;cases q)]
   rw [V] at d7
   clear L H D V K M O X Q
   go_upto_region 15 with fail
   clear d6 d7
   rcases qg with rfl|⟨U,T,rfl⟩
   ·obtain ⟨r0,r1,r2,r3⟩:=zbV g.out.res
    have rf:=zaJ g.out.res
    have f:=zbI g.out.below (Nat.le_succ _) (.string ⟨C.toArray⟩) .nilIface (.int .i64 own) (.bool p.hasU)
    have d:=zbM g.out.res (.string ⟨C.toArray⟩) .nilIface (.int .i64 own) (.bool p.hasU)
    unfold put4 at f d
    have i:=ypA f
    have j:=ypA d
    clear f d g
    go_wp2
    obtain ⟨E,I,J,G⟩:=j.out
    obtain rfl:=o.out
    refine bodyPost_ret (v:= .tuple #[.agg #[.string ⟨C.toArray⟩,.nilIface,.int .i64 own,.bool p.hasU],.int .i64 0]) (by simp [results,Tryz.results12,go_sem,E,I,J,G]) rfl ?_
    refine ⟨?_,i.out⟩
    unfold SZ.cells
    simp only
    rw [S.out]
   ·obtain ⟨r0,r1,r2,r3⟩:=zbV g.out.res
    have rf:=zaJ g.out.res
    have f:=zbI g.out.below (Nat.le_succ _) (.string ⟨C.toArray⟩) (.iface U T) (.int .i64 own) (.bool p.hasU)
    have d:=zbM g.out.res (.string ⟨C.toArray⟩) (.iface U T) (.int .i64 own) (.bool p.hasU)
    unfold put4 at f d
    have i:=ypA f
    have j:=ypA d
    clear f d g
    go_wp2
    obtain ⟨E,I,J,G⟩:=j.out
    obtain rfl:=o.out
    refine bodyPost_ret (v:= .tuple #[.agg #[.string ⟨C.toArray⟩,.iface U T,.int .i64 own,.bool p.hasU],.int .i64 0]) (by simp [results,Tryz.results12,go_sem,E,I,J,G]) rfl ?_
    refine ⟨?_,i.out⟩
    unfold SZ.cells
    simp only
    rw [S.out]
  ·have o:Hid (res=(⟨C,hh,own,p.hasU⟩,0)):=by show _=_;rw [L.out,if_neg M,if_neg (by rw [Q];decide),if_neg (by simp),if_neg (by rintro ⟨_,q⟩;exact qo ((congrArg zdJ c6).symm.trans (qc.out.symm.trans q))),if_neg (by rintro ⟨_,q⟩;exact q c6)]
   rw [V] at d7
   rw [c6] at d6
   clear L H D V K M O X Q c6 qc
   go_upto_region 15 with fail
   clear d6 d7
   rcases qg with rfl|⟨U,T,rfl⟩
   ·obtain ⟨r0,r1,r2,r3⟩:=zbV g.out.res
    have rf:=zaJ g.out.res
    have f:=zbI g.out.below (Nat.le_succ _) (.string ⟨C.toArray⟩) .nilIface (.int .i64 own) (.bool p.hasU)
    have d:=zbM g.out.res (.string ⟨C.toArray⟩) .nilIface (.int .i64 own) (.bool p.hasU)
    unfold put4 at f d
    have i:=ypA f
    have j:=ypA d
    clear f d g
    go_wp2
    obtain ⟨E,I,J,G⟩:=j.out
    obtain rfl:=o.out
    refine bodyPost_ret (v:= .tuple #[.agg #[.string ⟨C.toArray⟩,.nilIface,.int .i64 own,.bool p.hasU],.int .i64 0]) (by simp [results,Tryz.results12,go_sem,E,I,J,G]) rfl ?_
    refine ⟨?_,i.out⟩
    unfold SZ.cells
    simp only
    rw [S.out]
   ·obtain ⟨r0,r1,r2,r3⟩:=zbV g.out.res
    have rf:=zaJ g.out.res
    have f:=zbI g.out.below (Nat.le_succ _) (.string ⟨C.toArray⟩) (.iface U T) (.int .i64 own) (.bool p.hasU)
    have d:=zbM g.out.res (.string ⟨C.toArray⟩) (.iface U T) (.int .i64 own) (.bool p.hasU)
    unfold put4 at f d
    have i:=ypA f
    have j:=ypA d
    clear f d g
    go_wp2
    obtain ⟨E,I,J,G⟩:=j.out
    obtain rfl:=o.out
    refine bodyPost_ret (v:= .tuple #[.agg #[.string ⟨C.toArray⟩,.iface U T,.int .i64 own,.bool p.hasU],.int .i64 0]) (by simp [results,Tryz.results12,go_sem,E,I,J,G]) rfl ?_
    refine ⟨?_,i.out⟩
    unfold SZ.cells
    simp only
    rw [S.out]
  ·have qi:(pt==[])=false:=by rw [beq_eq_false_iff_ne];exact c6
   rw [V] at d7
   rcases D.out c6 with ⟨g1,g2⟩|⟨g1,g2⟩
   ·have o:Hid (res=(zkL,8)):=by show _=_;rw [L.out,if_neg M,if_neg (by rw [Q];decide),if_neg (by simp),if_pos ⟨V,g1⟩]
    subst g2
    clear L D V K M O X Q c6 g1 qc
    go_wp2_with fail
    refine (H.out _).mono ?_
    rintro e x3 ⟨rfl,qa⟩
    have A:=ypA (g.out.keep qa)
    clear qa g H d3 d6 d7 qi
    go_upto_region 13 with fail
    obtain ⟨r0,r1,r2,r3⟩:=zbV A.out.res
    have rf:=zaJ A.out.res
    have f:=zbI A.out.below (Nat.le_succ _) (.string ⟨#[]⟩) .nilIface (.int .i64 0) (.bool false)
    have d:=zbM A.out.res (.string ⟨#[]⟩) .nilIface (.int .i64 0) (.bool false)
    unfold put4 at f d
    have i:=ypA f
    have j:=ypA d
    clear f d A
    go_wp2
    obtain ⟨E,I,J,G⟩:=j.out
    obtain rfl:=o.out
    refine bodyPost_ret (v:= .tuple #[.agg #[.string ⟨#[]⟩,.nilIface,.int .i64 0,.bool false],.int .i64 8]) (by simp [results,Tryz.results12,go_sem,E,I,J,G]) rfl ?_
    exact ⟨rfl,i.out⟩
   ·have o:Hid (res=(⟨C,hh,pw,p.hasU⟩,0)):=by show _=_;rw [L.out,if_neg M,if_neg (by rw [Q];decide),if_neg (by simp),if_neg (by rintro ⟨_,q⟩;exact g1 q),if_pos ⟨V,c6⟩]
    subst g2
    clear L D V K M O X Q c6 g1 qc
    go_wp2_with fail
    refine (H.out _).mono ?_
    rintro e x3 ⟨rfl,qa⟩
    have A:=ypA (g.out.keep qa)
    clear qa g H d3 d6 d7 qi
    obtain ⟨-,-,-,d3,-,-,-,-,-,-,-,-,-⟩:=A.out.box.all
    go_upto_region 15 with fail
    rcases qg with rfl|⟨U,T,rfl⟩
    ·obtain ⟨r0,r1,r2,r3⟩:=zbV A.out.res
     have rf:=zaJ A.out.res
     have f:=zbI A.out.below (Nat.le_succ _) (.string ⟨C.toArray⟩) .nilIface (.int .i64 pw) (.bool p.hasU)
     have d:=zbM A.out.res (.string ⟨C.toArray⟩) .nilIface (.int .i64 pw) (.bool p.hasU)
     unfold put4 at f d
     have i:=ypA f
     have j:=ypA d
     clear f d A
     go_wp2
     obtain ⟨E,I,J,G⟩:=j.out
     obtain rfl:=o.out
     refine bodyPost_ret (v:= .tuple #[.agg #[.string ⟨C.toArray⟩,.nilIface,.int .i64 pw,.bool p.hasU],.int .i64 0]) (by simp [results,Tryz.results12,go_sem,E,I,J,G]) rfl ?_
     refine ⟨?_,i.out⟩
     unfold SZ.cells
     simp only
     rw [S.out]
    ·obtain ⟨r0,r1,r2,r3⟩:=zbV A.out.res
     have rf:=zaJ A.out.res
     have f:=zbI A.out.below (Nat.le_succ _) (.string ⟨C.toArray⟩) (.iface U T) (.int .i64 pw) (.bool p.hasU)
     have d:=zbM A.out.res (.string ⟨C.toArray⟩) (.iface U T) (.int .i64 pw) (.bool p.hasU)
     unfold put4 at f d
     have i:=ypA f
     have j:=ypA d
     clear f d A
     go_wp2
     obtain ⟨E,I,J,G⟩:=j.out
     obtain rfl:=o.out
     refine bodyPost_ret (v:= .tuple #[.agg #[.string ⟨C.toArray⟩,.iface U T,.int .i64 pw,.bool p.hasU],.int .i64 0]) (by simp [results,Tryz.results12,go_sem,E,I,J,G]) rfl ?_
     refine ⟨?_,i.out⟩
     unfold SZ.cells
     simp only
     rw [S.out]
 ·have o:Hid (res=(zkL,he)):=by show _=_;rw [L.out,if_neg (by rintro (q|q);rw [O] at q;cases q;exact X q),if_neg (by rw [Q];decide),if_pos c4]
  have qi:(he !=0)=true:=bne_iff_ne.2 c4
  clear L H D K O X Q N S
  go_upto_region 8 with fail
  obtain ⟨r0,r1,r2,r3⟩:=zbV g.out.res
  have rf:=zaJ g.out.res
  have f:=zbI g.out.below (Nat.le_succ _) (.string ⟨#[]⟩) .nilIface (.int .i64 0) (.bool false)
  have d:=zbM g.out.res (.string ⟨#[]⟩) .nilIface (.int .i64 0) (.bool false)
  unfold put4 at f d
  have i:=ypA f
  have j:=ypA d
  clear f d g
  go_wp2
  obtain ⟨E,I,J,G⟩:=j.out
  obtain rfl:=o.out
  refine bodyPost_ret (v:= .tuple #[.agg #[.string ⟨#[]⟩,.nilIface,.int .i64 0,.bool false],.int .i64 he]) (by simp [results,Tryz.results12,go_sem,E,I,J,G]) rfl ?_
  exact ⟨rfl,i.out⟩
end
end Go.Proofs.YtegmcmgndllmaaaGreatDoor
