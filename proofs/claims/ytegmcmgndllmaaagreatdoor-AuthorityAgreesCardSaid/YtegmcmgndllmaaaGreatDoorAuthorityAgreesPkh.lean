/-
  What the law AuthorityAgrees leans on, and its walk (33 of 43).
-/
import Derived.Deep.RegionHeld3
import Derived.Test.YtegmcmgndllmaaaGreatDoorAuthorityAgreesPkf
import Derived.Test.YtegmcmgndllmaaaGreatDoorAuthorityAgreesPkT
import Derived.Test.YtegmcmgndllmaaaGreatDoorAuthorityAgreesPkR
import Derived.Test.YtegmcmgndllmaaaGreatDoorAuthorityAgreesPkI
namespace Go.Proofs.YtegmcmgndllmaaaGreatDoor
set_option maxRecDepth 100000
set_option maxHeartbeats 16000000
abbrev ypB := @Lib.hid
abbrev ypC := @Nat.le_of_lt
section
open Go.RowKit
theorem z6P (u:UZ):zfI u=u.scheme++[58,47,47]++whoU u++zaX u++askU u:=by unfold zfI zqX;rfl
theorem z4X (u:UZ) (pv:Value) (w:World) (q:u.user.length+u.pass.length≤1000000):
  Calls Tryz.prog 42 #[.agg (u.cells pv)] w (zdY w (whoU u)):=by
 have d:=zbA w (u.cells pv)
 by_cases e:u.pass=[]
 ·have o:u.pass.isEmpty=true:=by rw [e];rfl
  by_cases f:u.user=[]
  ·have m:u.user.isEmpty=true:=by rw [f];rfl
   have g:=ypB (yfM e f)
   simp only [UZ.cells] at d ⊢
   clear e f
   go_enter Tryz.func42,Tryz.ntmps42
   go_wp2
   go_ret
   exact ⟨by rw [g.out];rfl,d⟩
  ·have m:u.user.isEmpty=false:=by rw [List.isEmpty_eq_false_iff];exact f
   have g:=ypB (yiL e f)
   have i: ∀W,(Op.stringOp .add ⟨u.user.toArray⟩ ⟨#[64]⟩).run Tryz.prog W= .ok (.string ⟨(u.user++[64]).toArray⟩) W:=zgE u.user [64] (by simp;omega)
   generalize u.user++[64]=j at*
   simp only [UZ.cells] at d ⊢
   clear e f
   go_enter Tryz.func42,Tryz.ntmps42
   go_wp2
   go_ret
   exact ⟨by rw [g.out];try rfl,d⟩
 ·have o:u.pass.isEmpty=false:=by rw [List.isEmpty_eq_false_iff];exact e
  have g:=ypB (yeJ e)
  have i: ∀W,(Op.stringOp .add ⟨u.user.toArray⟩ ⟨#[58]⟩).run Tryz.prog W= .ok (.string ⟨(u.user++[58]).toArray⟩) W:=zgE u.user [58] (by simp;omega)
  have A: ∀W,(Op.stringOp .add ⟨(u.user++[58]).toArray⟩ ⟨u.pass.toArray⟩).run Tryz.prog W= .ok (.string ⟨(u.user++[58]++u.pass).toArray⟩) W:=zgE (u.user++[58]) u.pass (by simp;omega)
  have B: ∀W,(Op.stringOp .add ⟨(u.user++[58]++u.pass).toArray⟩ ⟨#[64]⟩).run Tryz.prog W= .ok (.string ⟨(u.user++[58]++u.pass++[64]).toArray⟩) W:=zgE (u.user++[58]++u.pass) [64] (by simp;omega)
  generalize u.user++[58]++u.pass++[64]=D at*
  generalize u.user++[58]++u.pass=C at*
  generalize u.user++[58]=j at*
  simp only [UZ.cells] at d ⊢
  clear e
  go_enter Tryz.func42,Tryz.ntmps42
  go_wp2
  go_ret
  exact ⟨by rw [g.out];try rfl,d⟩
theorem yaY {u:UZ} (h:u.port= -1):zaX u=zbD u.host:=by unfold zaX;rw [if_pos h]
theorem zqB {u:UZ} (h:u.port≠ -1):zaX u=zbD u.host++[58]++Lib.itoa u.port:=by unfold zaX;rw [if_neg h]
theorem zhN (u:UZ) (pv:Value) (w:World) (hi:u.host.In) (M: -9223372036854775808≤u.port∧u.port≤9223372036854775807) (I:(zaX u).length≤1000000) (g:PowTab w) (A:BruTab w):
  Calls Tryz.prog 17 #[.agg (u.cells pv)] w (zdY w (zaX u)):=by
 obtain ⟨f,d⟩: ∃y,y=w.alloc (.cells (u.cells pv) 27):=⟨_,rfl⟩
 have i:Below w.heap.size w f:=by rw [d];exact zbA w _
 have G:UB f w.heap.size u pv:=by rw [d];exact UB.new w u pv
 have o:=zaK G
 have L:=ypB i
 have B:Hid (∀x,Below f.heap.size f x→x.cell? ⟨w.heap.size,3,none⟩=some u.host.val∧x.cell? ⟨w.heap.size,4,none⟩=some (.int .i64 u.port)):=fun x O=>by
  have h:=G.below O
  exact ⟨h.all.2.2.2.1,h.all.2.2.2.2.1⟩
 have K:Hid (∀W,Below f.heap.size f W→Calls Tryz.prog 47 #[u.host.val] W fun e w'=>e= .returned (.string ⟨(zbD u.host).toArray⟩)∧Below f.heap.size f w'):=fun W C=>(zgD u.host W hi (zaC g (i.trans (C.mono (ypC o)))) (zaB A (i.trans (C.mono (ypC o))))).mono (fun e w' h=>⟨h.1,zaG C h.2⟩)
 have S:Hid (∀W,Below f.heap.size f W→Calls Tryz.prog 51 #[.int .i64 u.port] W fun e w'=>e= .returned (.string ⟨(Lib.itoa u.port).toArray⟩)∧Below f.heap.size f w'):=fun W C=>(zuC u.port W M.1 M.2 (zaC g (i.trans (C.mono (ypC o))))).mono (fun e w' h=>⟨h.1,zaG C h.2⟩)
 obtain ⟨-,-,-,H,E,-⟩:=G.all
 have q:w.heap.size≤f.heap.size:=ypC o
 simp only [UZ.cells] at d
 clear G i g A
 by_cases m:u.port= -1
 ·have J:=ypB (yaY m)
  have N:(u.port==(-1:Int))=true:=by rw [m];rfl
  simp only [UZ.cells]
  rw [m]
  rw [m] at d E
  rw [d] at H E
  clear m
  go_enter Tryz.func17,Tryz.ntmps17
  go_wp2_with fail
  rw [←d]
  refine (K.out _ (Below.refl _ _)).mono ?_
  rintro e Q ⟨rfl,j⟩
  clear d H E
  go_wp2
  go_ret
  exact ⟨by rw [J.out];try rfl,L.out.trans (j.mono q)⟩
 ·have J:=ypB (zqB m)
  have N:(u.port==(-1:Int))=false:=beq_eq_false_iff_ne.2 m
  rw [zqB m] at I
  simp only [List.length_append,List.length_cons,List.length_nil] at I
  have X: ∀W,(Op.stringOp .add ⟨(zbD u.host).toArray⟩ ⟨#[58]⟩).run Tryz.prog W= .ok (.string ⟨(zbD u.host++[58]).toArray⟩) W:=zgE _ [58] (by simp;omega)
  have Z: ∀W,(Op.stringOp .add ⟨(zbD u.host++[58]).toArray⟩ ⟨(Lib.itoa u.port).toArray⟩).run Tryz.prog W= .ok (.string ⟨(zbD u.host++[58]++Lib.itoa u.port).toArray⟩) W:=zgE _ _ (by simp;omega)
  rw [d] at H E
  generalize zbD u.host++[58]++Lib.itoa u.port=t2 at*
  generalize zbD u.host++[58]=T at*
  generalize zbD u.host=V at*
  generalize Lib.itoa u.port=Y at*
  simp only [UZ.cells]
  go_enter Tryz.func17,Tryz.ntmps17
  go_wp2_with fail
  rw [←d]
  clear d H E m I
  go_region_held3 (fun W=>W.cell? ⟨w.heap.size,3,none⟩=some u.host.val∧W.cell? ⟨w.heap.size,4,none⟩=some (.int .i64 u.port))
   (first|exact B.out _ (zaH _)|exact B.out _ j|exact B.out _ D)
   (first
    |(go_simp;go_at_call 47;((with_reducible refine (K.out _ (zaH _)).mono ?_);rintro e Q ⟨rfl,j⟩))
    |(go_simp;go_at_call 51;((with_reducible refine (S.out _ j).mono ?_);rintro e U ⟨rfl,D⟩)))
  go_wp2
  go_ret
  exact ⟨by rw [J.out];try rfl,L.out.trans (D.mono q)⟩
structure AB (w wr:World) (b:Nat) (u:UZ) (pv:Value) (acc:List UInt8):Prop where
 below:Below w.heap.size w wr
 eb:b=w.heap.size+1
 ub:UB wr w.heap.size u pv
 isb:Lib.IsBuilderF 160 5 b b (Lib.byteCells acc) wr
 size:b<wr.heap.size
theorem AB.write {w wr:World} {b:Nat} {u:UZ} {pv:Value} {acc s:List UInt8} (h:AB w wr b u pv acc) (j:acc.length+s.length≤1000000000):
  Calls Tryz.prog 101 #[.pointer (some ⟨b,0,none⟩),.string ⟨s.toArray⟩] wr fun e x=>(∃n:Int,e= .returned (.tuple #[.int .i64 n,.nilIface]))∧AB w x b u pv (acc++s):=by
 refine (Tryz.Builder_WriteString_k b b _ _ _ h.isb (by rw [Lib.byteCells_length,zaF];omega) (ypC h.size)).mono ?_
 rintro e x ⟨rfl,i,d,m⟩
 have g:w.heap.size≤b:=by rw [h.eb];omega
 have f:w.heap.size<b:=by rw [h.eb];omega
 refine ⟨⟨_,rfl⟩,⟨h.below.trans (d.mono g),h.eb,(d.block _ f).trans h.ub,?_,Nat.lt_of_lt_of_le h.size d.size⟩⟩
 rw [Lib.byteCells_append]
 exact .inr i
theorem AB.first (w:World) (u:UZ) (pv:Value):AB w ((w.alloc (.cells (u.cells pv) 27)).alloc (.cells #[.pointer none,.slice none 0 0] 160)) (w.heap.size+1) u pv []:=by
 have d:=UB.new w u pv
 have e:(w.alloc (.cells (u.cells pv) 27)).heap.size=w.heap.size+1:=by simp
 refine ⟨((Below.refl _ w).alloc (Nat.le_refl _) _).alloc (by simp) _,rfl,d.below ((Below.refl _ _).alloc (Nat.le_refl _) _),?_,by simp⟩
 have:=Lib.IsBuilderF.of (Lib.fresh_isBuilder 160 5 (w.alloc (.cells (u.cells pv) 27)))
 rw [e] at this
 exact this
theorem zuD {l:List (List UInt8)} {k:Nat} (d:k<l.length):zbC (l.take (k+1))=zbC (l.take k)++([47]++l.getD k []):=by
 rw [List.take_succ_eq_append_getElem d,z1Z]
 simp [List.getD,List.getElem?_eq_getElem d]
theorem z9H (l:List (List UInt8)) (k:Nat):(zbC (l.take k)).length≤(zbC l).length:=by
 induction l generalizing k with
 |nil=>simp
 |cons a r d=>
  match k with
  |0=>simp [zbC]
  |k+1=>have:=d k;simp only [List.take_succ_cons,zbC,List.length_append,List.length_cons];omega
theorem yiG (l:List (List UInt8)) (k:Nat) (e:k<l.length):(l.getD k []).length+1≤(zbC l).length:=by
 have d:=z9H l (k+1)
 rw [zuD e,List.length_append,List.length_append] at d
 simp only [List.length_cons,List.length_nil] at d
 omega
theorem zpC: ∀l:List (List UInt8),l.length≤(zbC l).length
 |[]=>Nat.le_refl _
 |a::r=>by have:=zpC r;simp only [zbC,List.length_append,List.length_cons];omega
theorem yjC {u:UZ} (h:u.hasQ=true):askU u=zbC u.path++([63]++u.query):=by unfold askU;rw [if_pos h];rfl
theorem askU_n {u:UZ} (h:u.hasQ=false):askU u=zbC u.path:=by unfold askU;rw [if_neg (by rw [h];decide),List.append_nil]
theorem z4S (u:UZ) (pv:Value) (w:World) (M:PV w pv u.path) (V:(askU u).length≤1000000):
  Calls Tryz.prog 43 #[.agg (u.cells pv)] w (zdY w (askU u)):=by
 obtain ⟨N,T⟩: ∃N,u.path.length=N:=⟨_,rfl⟩
 have qe:(zbC u.path).length≤1000000:=by
  unfold askU at V
  rw [List.length_append] at V
  omega
 have qc:N≤1000000:=by have:=zpC u.path;omega
 obtain ⟨L,Q,Z,d⟩: ∃L Q,pv= .slice L N Q∧ ∀x,Below w.heap.size w x→ ∀j,j<N→ ∃g,L=some ⟨g,0,none⟩∧x.cell? ⟨g,j,none⟩=some (.string ⟨(u.path.getD j []).toArray⟩):=by
  rcases M with ⟨X,h2⟩|⟨g,c,X,_,h3⟩
  ·exact ⟨none,0,by rw [h2,←T,X];rfl,fun x _ j hj=>by rw [←T,X] at hj;cases hj⟩
  ·exact ⟨_,_,by rw [X,T],fun x hb j hj=>⟨g,rfl,(h3.keep hb).2 j (by omega)⟩⟩
 subst Z
 have D:=ypB d
 have HN:=ypB T
 obtain ⟨x0,m⟩: ∃y,y=(w.alloc (.cells (u.cells (.slice L N Q)) 27)).alloc (.cells #[.pointer none,.slice none 0 0] 160):=⟨_,rfl⟩
 have J:AB w x0 (w.heap.size+1) u (.slice L N Q) []:=by rw [m];exact AB.first w u _
 have U:=ypB J
 obtain ⟨-,-,-,-,-,d5,-⟩:=J.ub.all
 simp only [UZ.cells] at m ⊢
 rw [m] at d5
 have o:=ypB V
 clear M d J T V
 go_enter Tryz.func43,Tryz.ntmps43
 go_wp2
 rw [←m]
 clear m d5
 go_loopw [9] (fun i wr=> ∃k:Nat,k≤N∧i= .int .i64 k∧Hid (AB w wr (w.heap.size+1) u (.slice L N Q) (zbC (u.path.take k)))) (fun i _=>N - (intOf i).toNat)
 case atStart=>exact ⟨0,Nat.zero_le _,rfl,U⟩
 case round=>
  obtain ⟨k,hk,rfl,B⟩:=hrel
  clear U
  by_cases E:k<N
  ·obtain ⟨mg,rfl,A⟩:=D.out _ B.out.below k E
   have qa:=yiG u.path k (by rw [HN.out];exact E)
   have qd:=z9H u.path k
   have O:=ypB (zuD (l:=u.path) (k:=k) (by rw [HN.out];exact E))
   obtain ⟨s,hs⟩: ∃s,u.path.getD k []=s:=⟨_,rfl⟩
   rw [hs] at A qa O
   have a1: ∀W,(Op.stringOp .add ⟨#[47]⟩ ⟨s.toArray⟩).run Tryz.prog W= .ok (.string ⟨([47]++s).toArray⟩) W:=zgE [47] s (by simp;omega)
   have K:=ypB (B.out.write (s:=[47]++s) (by simp;omega))
   rw [←O.out] at K
   generalize [47]++s=q at*
   clear hs B
   go_wp2_with fail
   refine K.out.mono ?_
   rintro e x ⟨⟨n,rfl⟩,f⟩
   have C:=ypB f
   clear f K A
   go_wp2
   go_roundw
   case rel=>exact ⟨k+1,by omega,by go_num,C.out⟩
   case measure=>simp [intOf];omega
  ·have qb:k=N:=by omega
   have S:u.path.take k=u.path:=List.take_of_length_le (by rw [HN.out];omega)
   rw [S] at B
   obtain ⟨-,-,-,-,-,-,d6,Y,-⟩:=B.out.ub.all
   cases I:u.hasQ with
   |true=>
    have HF:=ypB (yjC I)
    have G:=o.out
    rw [yjC I] at G
    simp only [List.length_append,List.length_cons,List.length_nil] at G
    rw [I] at Y
    have a1: ∀W,(Op.stringOp .add ⟨#[63]⟩ ⟨u.query.toArray⟩).run Tryz.prog W= .ok (.string ⟨([63]++u.query).toArray⟩) W:=zgE [63] u.query (by simp;omega)
    have K:=ypB (B.out.write (s:=[63]++u.query) (by simp;omega))
    generalize zbC u.path++([63]++u.query)=t2 at*
    generalize [63]++u.query=q at*
    clear I G o B
    go_wp2_with fail
    refine K.out.mono ?_
    rintro e x ⟨⟨n,rfl⟩,f⟩
    have H:w.heap.size+1≤x.heap.size:=ypC f.size
    have C:=ypB f
    clear f K d6 Y
    go_wp2_with fail
    refine (Tryz.Builder_String_any_k (w.heap.size+1) (w.heap.size+1) _ _ C.out.isb H).mono ?_
    rintro e x5 ⟨rfl,_,b5,_⟩
    go_wp2
    go_ret
    exact ⟨by rw [HF.out];try rfl,C.out.below.trans (b5.mono (by omega))⟩
   |false=>
    have HF:=ypB (askU_n I)
    rw [I] at Y
    have H:w.heap.size+1≤wr.heap.size:=ypC B.out.size
    generalize zbC u.path=t2 at*
    clear I o
    go_wp2_with fail
    clear d6 Y
    refine (Tryz.Builder_String_any_k (w.heap.size+1) (w.heap.size+1) _ _ B.out.isb H).mono ?_
    rintro e x5 ⟨rfl,_,b5,_⟩
    go_wp2
    go_ret
    exact ⟨by rw [HF.out];try rfl,B.out.below.trans (b5.mono (by omega))⟩
theorem z1S (u:UZ) (pv:Value) (w:World) (C:PV w pv u.path) (hi:u.host.In) (M: -9223372036854775808≤u.port∧u.port≤9223372036854775807) (I:(zfI u).length≤1000000) (B:u.user.length+u.pass.length≤1000000) (o:PowTab w) (m:BruTab w):
  Calls Tryz.prog 11 #[.agg (u.cells pv)] w (zdY w (zfI u)):=by
 obtain ⟨d,f⟩: ∃y,y=w.alloc (.cells (u.cells pv) 27):=⟨_,rfl⟩
 have A:Below w.heap.size w d:=by rw [f];exact zbA w _
 have H:UB d w.heap.size u pv:=by rw [f];exact UB.new w u pv
 have j:w.heap.size≤d.heap.size:=ypC (zaK H)
 have Y:=ypB A
 have q:=ypB (fun W (g:Below d.heap.size d W)=>A.trans (g.mono j))
 have i:Hid (∀x,Below d.heap.size d x→x.cell? ⟨w.heap.size,0,none⟩=some (.string ⟨u.scheme.toArray⟩)∧x.cell? ⟨w.heap.size,1,none⟩=some (.string ⟨u.user.toArray⟩)∧x.cell? ⟨w.heap.size,2,none⟩=some (.string ⟨u.pass.toArray⟩)∧x.cell? ⟨w.heap.size,3,none⟩=some (u.host.val)∧x.cell? ⟨w.heap.size,4,none⟩=some (.int .i64 u.port)∧x.cell? ⟨w.heap.size,5,none⟩=some (pv)∧x.cell? ⟨w.heap.size,6,none⟩=some (.string ⟨u.query.toArray⟩)∧x.cell? ⟨w.heap.size,7,none⟩=some (.bool u.hasQ)∧x.cell? ⟨w.heap.size,8,none⟩=some (.string ⟨u.frag.toArray⟩)∧x.cell? ⟨w.heap.size,9,none⟩=some (.bool u.hasF)):=fun x U=>by
  have h:=H.below U
  obtain ⟨Z,V,O,S,T,N,d6,d7,X,Q,-⟩:=h.all
  exact ⟨Z,V,O,S,T,N,d6,d7,X,Q⟩
 have HF:=ypB (z6P u)
 rw [z6P u] at I
 simp only [List.length_append,List.length_cons,List.length_nil] at I
 have K:Hid (∀W,Below d.heap.size d W→Calls Tryz.prog 42 #[.agg #[.string ⟨u.scheme.toArray⟩,.string ⟨u.user.toArray⟩,.string ⟨u.pass.toArray⟩,u.host.val,.int .i64 u.port,pv,.string ⟨u.query.toArray⟩,.bool u.hasQ,.string ⟨u.frag.toArray⟩,.bool u.hasF]] W fun e w'=>e= .returned (.string ⟨(whoU u).toArray⟩)∧Below d.heap.size d w'):=fun W g=>(z4X u pv W B).mono (fun e w' h=>⟨h.1,zaG g h.2⟩)
 have J:Hid (∀W,Below d.heap.size d W→Calls Tryz.prog 17 #[.agg #[.string ⟨u.scheme.toArray⟩,.string ⟨u.user.toArray⟩,.string ⟨u.pass.toArray⟩,u.host.val,.int .i64 u.port,pv,.string ⟨u.query.toArray⟩,.bool u.hasQ,.string ⟨u.frag.toArray⟩,.bool u.hasF]] W fun e w'=>e= .returned (.string ⟨(zaX u).toArray⟩)∧Below d.heap.size d w'):=fun W g=>(zhN u pv W hi M (by omega) (zaC o (q.out W g)) (zaB m (q.out W g))).mono (fun e w' h=>⟨h.1,zaG g h.2⟩)
 have L:Hid (∀W,Below d.heap.size d W→Calls Tryz.prog 43 #[.agg #[.string ⟨u.scheme.toArray⟩,.string ⟨u.user.toArray⟩,.string ⟨u.pass.toArray⟩,u.host.val,.int .i64 u.port,pv,.string ⟨u.query.toArray⟩,.bool u.hasQ,.string ⟨u.frag.toArray⟩,.bool u.hasF]] W fun e w'=>e= .returned (.string ⟨(askU u).toArray⟩)∧Below d.heap.size d w'):=fun W g=>(z4S u pv W (C.keep (q.out W g)) (by omega)).mono (fun e w' h=>⟨h.1,zaG g h.2⟩)
 have a1: ∀W,(Op.stringOp .add ⟨u.scheme.toArray⟩ ⟨#[58,47,47]⟩).run Tryz.prog W= .ok (.string ⟨(u.scheme++[58,47,47]).toArray⟩) W:=zgE _ [58,47,47] (by simp;omega)
 have a2: ∀W,(Op.stringOp .add ⟨(u.scheme++[58,47,47]).toArray⟩ ⟨(whoU u).toArray⟩).run Tryz.prog W= .ok (.string ⟨(u.scheme++[58,47,47]++whoU u).toArray⟩) W:=zgE _ _ (by simp;omega)
 have a3: ∀W,(Op.stringOp .add ⟨(u.scheme++[58,47,47]++whoU u).toArray⟩ ⟨(zaX u).toArray⟩).run Tryz.prog W= .ok (.string ⟨(u.scheme++[58,47,47]++whoU u++zaX u).toArray⟩) W:=zgE _ _ (by simp;omega)
 have a4: ∀W,(Op.stringOp .add ⟨(u.scheme++[58,47,47]++whoU u++zaX u).toArray⟩ ⟨(askU u).toArray⟩).run Tryz.prog W= .ok (.string ⟨(u.scheme++[58,47,47]++whoU u++zaX u++askU u).toArray⟩) W:=zgE _ _ (by simp;omega)
 generalize u.scheme++[58,47,47]++whoU u++zaX u++askU u=t4 at*
 generalize u.scheme++[58,47,47]++whoU u++zaX u=t3 at*
 generalize u.scheme++[58,47,47]++whoU u=t2 at*
 generalize u.scheme++[58,47,47]=t1 at*
 generalize whoU u=tw at*
 generalize zaX u=ta at*
 generalize askU u=tk at*
 simp only [UZ.cells] at f ⊢
 clear H A I o m C M B hi
 go_enter Tryz.func11,Tryz.ntmps11
 go_wp2_with fail
 rw [←f]
 clear f
 go_region_held3 (fun W=>W.cell? ⟨w.heap.size,0,none⟩=some (.string ⟨u.scheme.toArray⟩)∧W.cell? ⟨w.heap.size,1,none⟩=some (.string ⟨u.user.toArray⟩)∧W.cell? ⟨w.heap.size,2,none⟩=some (.string ⟨u.pass.toArray⟩)∧W.cell? ⟨w.heap.size,3,none⟩=some (u.host.val)∧W.cell? ⟨w.heap.size,4,none⟩=some (.int .i64 u.port)∧W.cell? ⟨w.heap.size,5,none⟩=some (pv)∧W.cell? ⟨w.heap.size,6,none⟩=some (.string ⟨u.query.toArray⟩)∧W.cell? ⟨w.heap.size,7,none⟩=some (.bool u.hasQ)∧W.cell? ⟨w.heap.size,8,none⟩=some (.string ⟨u.frag.toArray⟩)∧W.cell? ⟨w.heap.size,9,none⟩=some (.bool u.hasF))
  (first|exact i.out _ (zaH _)|exact i.out _ D|exact i.out _ E|exact i.out _ G)
  (first
   |(go_simp;go_at_call 42;((with_reducible refine (K.out _ (zaH _)).mono ?_);rintro e x1 ⟨rfl,D⟩))
   |(go_simp;go_at_call 17;((with_reducible refine (J.out _ D).mono ?_);rintro e x2 ⟨rfl,E⟩))
   |(go_simp;go_at_call 43;((with_reducible refine (L.out _ E).mono ?_);rintro e x3 ⟨rfl,G⟩)))
 go_wp2
 go_ret
 exact ⟨by rw [HF.out];try rfl,Y.out.trans (G.mono j)⟩
end
end Go.Proofs.YtegmcmgndllmaaaGreatDoor
