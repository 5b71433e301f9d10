/-
  What the law AgreeNever leans on, and its walk (3 of 42).
-/
import Derived.Laws.BitsLemmas
import Derived.Deep.DeepCutAuto
import Derived.Lib.ItoaNum
import Derived.Test.YtegmcmgndllmaaaGreatDoorAgreeNeverPkS
import Derived.Lib.AppendIntMem
import Derived.Lib.SmallJoins
import Derived.Test.YtegmcmgndllmaaaGreatDoorAgreeNeverPkB
import Derived.Test.YtegmcmgndllmaaaGreatDoorAgreeNeverPkA
namespace Go.Proofs.YtegmcmgndllmaaaGreatDoor
set_option maxRecDepth 100000
set_option maxHeartbeats 16000000
abbrev ykE := @Lib.hid
abbrev ykF := @decide_eq_false
abbrev ykG := @congrArg
section
section
open Go.RowKit
def limZ (n i:Nat):Int:=if i+1=n then 256^(5 - n) else 256
def wtZ (n i:Nat):Int:=if i+1=n then 1 else 256^(3 - i)
def goF (n:Nat):Nat→Int→List (List UInt8)→Int×Bool
 |_,A,[]=>(A,true)
 |i,A,p::r=>if (zcV p).2=true∧(zcV p).1<limZ n i then goF n (i+1) (A+(zcV p).1*wtZ n i) r else (0,false)
def ziH (ps:List (List UInt8)):Nat:=if 1<ps.length∧ps.getD (ps.length - 1) []=[] then ps.length - 1 else ps.length
def yeY (ps:List (List UInt8)):Int×Bool:=if 4<ziH ps then (0,false) else goF (ziH ps) 0 0 (ps.take (ziH ps))
def zkX (l:List UInt8):Int×Bool:=yeY (zaU l)
theorem zuZ (b:Int) (o:0≤b) (l:List UInt8) (d:zbO b l=true):0≤numZ b l∧numZ b l≤1099511627776:=by
 have key: ∀(l:List UInt8) (n:Int),0≤n→n≤1099511627776→zbO b l=true→0≤l.foldl (zwR b) n∧l.foldl (zwR b) n≤1099511627776:=by
  intro l
  induction l with
  |nil=>intro n f i _;exact ⟨f,i⟩
  |cons c l m=>
   intro n f i d
   have j:digC b c=true∧zbO b l=true:=by simpa [zbO] using d
   have B:=of_decide_eq_true j.1
   have A:0≤n*b:=Int.mul_nonneg f o
   refine m _ ?_ (yiX _) j.2
   unfold zwR capZ
   split<;>omega
 exact key l 0 (Int.le_refl _) (by omega) d
theorem zjG (l:List UInt8):0≤(zcV l).1∧(zcV l).1≤1099511627776:=by
 unfold zcV
 split
 ·exact ⟨Int.le_refl _,by show (0:Int)≤_;omega⟩
 ·split
  ·have d:=zoR l
   exact zuZ _ (by omega) _ (by assumption)
  ·exact ⟨Int.le_refl _,by show (0:Int)≤_;omega⟩
theorem yjU (n k:Nat) (A:Int) (ps:List (List UInt8)) (h:n≤k):goF n k A ((ps.take n).drop k)=(A,true):=by
 rw [List.drop_eq_nil_of_le (by simp;omega)]
 rfl
theorem zrW (n k:Nat) (ps:List (List UInt8)) (h:k<n) (d:n≤ps.length):(ps.take n).drop k=ps.getD k []::(ps.take n).drop (k+1):=by
 rw [List.drop_eq_getElem_cons (by simp;omega)]
 congr 1
 rw [List.getElem_take,List.getD,List.getElem?_eq_getElem (by omega)]
 rfl
theorem z7Q (n k:Nat) (A:Int) (ps:List (List UInt8)) (p:List UInt8) (x:Int) (h:k<n) (f:n≤ps.length) (d:ps.getD k []=p) (j:zcV p=(x,true)) (i:x<limZ n k):
  goF n k A ((ps.take n).drop k)=goF n (k+1) (A+x*wtZ n k) ((ps.take n).drop (k+1)):=by
 rw [zrW n k ps h f,d]
 show (if _ then _ else _)=_
 rw [j,if_pos ⟨rfl,i⟩]
theorem zyF (n k:Nat) (A:Int) (ps:List (List UInt8)) (p:List UInt8) (x:Int) (b:Bool) (h:k<n) (m:n≤ps.length) (i:ps.getD k []=p) (B:zcV p=(x,b)) (o:b=false∨limZ n k≤x):
  goF n k A ((ps.take n).drop k)=(0,false):=by
 rw [zrW n k ps h m,i]
 show (if _ then _ else _)=_
 rw [B,if_neg]
 rintro ⟨d,j⟩
 rcases o with f|f
 ·rw [f] at d;cases d
 ·exact absurd j (by show ¬x<_;omega)
theorem z1C (n:Nat) (ps:List (List UInt8)) (h:ps.length=n+1) (i:n=0∨ps.getD n []≠[]):ziH ps=n+1:=by
 unfold ziH
 rw [h,Nat.add_sub_cancel,if_neg]
 rintro ⟨j,f⟩
 rcases i with d|d
 ·omega
 ·exact d f
theorem zuQ (n:Nat) (ps:List (List UInt8)) (h:ps.length=n+2) (d:ps.getD (n+1) []=[]):ziH ps=n+1:=by
 unfold ziH
 rw [h,show n+2 - 1=n+1 from rfl,d,if_pos ⟨by omega,rfl⟩]
theorem ydF {l:List UInt8} {n:Nat} (d:ziH (zaU l)=n) (h:n≤4):zkX l=goF n 0 0 (((zaU l).take n).drop 0):=by
 unfold zkX yeY
 rw [d,if_neg (by omega)]
 rfl
theorem z0H {l:List UInt8} {n:Nat} (d:ziH (zaU l)=n) (h:4<n):zkX l=(0,false):=by
 unfold zkX yeY
 rw [d,if_pos h]
theorem zxK (i:Nat) (x y:Int) (j:0≤x) (A:x % 2^i=0) (m:x<4294967296) (d:0≤y) (o:y<2^i) (f:y<4294967296):bits .or .u32 x y=x+y:=
 bits_join .u32 32 (by decide) (fun n C B=>by rw [IntKind.wrap_u32];omega) i x y j A m d o f
theorem zbI.form2 {B:Nat} {w:World} {v:Value} {ps:List (List UInt8)} (h:zbI B w v ps) (o:0<ps.length):
  ∃g d,v= .slice (some ⟨g,0,none⟩) ps.length d∧ps.length≤d∧g<w.heap.size∧ ∀j,j<ps.length→w.cell? ⟨g,j,none⟩=some (.string ⟨(ps.getD j []).toArray⟩):=by
 obtain ⟨g,c,rfl,m,C⟩:=h.form o
 refine ⟨g,c,rfl,?_,m,C⟩
 unfold zbI at h
 rcases h.2 with ⟨A,_⟩|⟨E,d,i,D,_,_,f,_⟩
 ·cases A
 ·cases D;exact f
def zvK (w:World) (x:Int×Bool) (e:Ending) (w':World):Prop:=e= .returned (.tuple #[.int .u32 x.1,.bool x.2])∧Below w.heap.size w w'
theorem zcS {w w':World} {x:Int×Bool} {n:Int} {b:Bool} (h:x=(n,b)) (d:Below w.heap.size w w'):zvK w x (.returned (.tuple #[.int .u32 n,.bool b])) w':=by
 subst h;exact ⟨rfl,d⟩
theorem zoX (l:List UInt8): ∃L x,(zaU l).length=L+1∧(zaU l).getD L []=x∧L≤l.length∧(0<L∧x=[]∧ziH (zaU l)=L∨(L=0∨x≠[])∧ziH (zaU l)=L+1):=by
 have A:0<(zaU l).length:=zjK _ _
 have o:=zdF (hasB [46]) l
 obtain ⟨L,d⟩: ∃L,(zaU l).length=L+1:=⟨(zaU l).length - 1,by omega⟩
 refine ⟨L,_,d,rfl,by unfold zaU at d;omega,?_⟩
 by_cases h:0<L∧(zaU l).getD L []=[]
 ·obtain ⟨j,f⟩:=h
  refine .inl ⟨j,f,?_⟩
  obtain ⟨n,rfl⟩: ∃n,L=n+1:=⟨L - 1,by omega⟩
  exact zuQ n _ d f
 ·have i:L=0∨(zaU l).getD L []≠[]:=by
   by_cases e:L=0
   ·exact .inl e
   ·exact .inr fun m=>h ⟨by omega,m⟩
  exact .inr ⟨i,z1C L _ d i⟩
theorem step4 (k n:Nat) (A x V:Int) (J:k≤n) (K:n≤3) (j:0≤A) (f:A<4294967296) (d:A % 2^(32 - 8*k)=0) (C:0≤x) (G:x<limZ (n+1) k)
  (D:V=if k=n then x % 4294967296 else x % 4294967296*2^(24 - 8*k) % 4294967296):
  bits .or .u32 A V=A+x*wtZ (n+1) k∧0≤A+x*wtZ (n+1) k∧A+x*wtZ (n+1) k<4294967296∧(k+1≤n→(A+x*wtZ (n+1) k) % 2^(32 - 8*(k+1))=0):=by
 have key: ∀(i:Nat) (W:Int),A % 2^i=0→V=x*W→0≤x*W→x*W<2^i→x*W<4294967296→bits .or .u32 A V=A+x*W:=fun i W E o I H B=>by rw [o];exact zxK i A _ j E f I H B
 obtain ⟨W,m⟩: ∃W,wtZ (n+1) k=W:=⟨_,rfl⟩
 rw [m]
 rcases (show n=0∨n=1∨n=2∨n=3 from by omega) with rfl|rfl|rfl|rfl<;>
  rcases (show k=0∨k=1∨k=2∨k=3 from by omega) with rfl|rfl|rfl|rfl<;>
  first
  |omega
  |(simp [limZ] at G
    simp at D d
    simp [wtZ] at m
    subst m
    refine ⟨?_,by omega,by omega,fun h=>by first|omega|(simp;omega)⟩
    first
    |exact key 32 _ (by simpa using d) (by omega) (by omega) (by omega) (by omega)
    |exact key 24 _ (by simpa using d) (by omega) (by omega) (by omega) (by omega)
    |exact key 16 _ (by simpa using d) (by omega) (by omega) (by omega) (by omega)
    |exact key 8 _ (by simpa using d) (by omega) (by omega) (by omega) (by omega))
theorem lim4 (k n:Nat) (x:Int) (f:k≤n) (i:n≤3) (d:0≤x):(if k=n then x/2^(32 - 8*k) else x/256)=0↔x<limZ (n+1) k:=by
 rcases (show n=0∨n=1∨n=2∨n=3 from by omega) with rfl|rfl|rfl|rfl<;>
  rcases (show k=0∨k=1∨k=2∨k=3 from by omega) with rfl|rfl|rfl|rfl<;>
  first
  |omega
  |(simp [limZ];omega)
theorem z2D (s:ByteArray) (w:World) (hs:s.size≤1073741824):
  Calls Tryz.prog 106 #[.string s] w (zvK w (zkX s.data.toList)):=by
 obtain ⟨L,x,hL,hx,qf,hc⟩:=zoX s.data.toList
 rw [zaR] at qf
 go_enter Tryz.func106,Tryz.ntmps106
 go_wp2_with fail
 refine (zdN s _ _ hs).mono ?_
 rintro e w1 ⟨v,rfl,Q,f⟩
 have qb:zbI w.heap.size w1 v (zaU s.data.toList):=Q
 obtain ⟨g,qg,rfl,qe,hg,B⟩:=qb.form2 (by omega)
 rw [hL] at qe ⊢
 have N:=B L (by omega)
 rw [hx] at N
 have HC:=ykE B
 have Y:=ykE hL
 clear B Q qb hL hx
 obtain ⟨b,I⟩: ∃b,decide (0<L∧x=[])=b:=⟨_,rfl⟩
 have qc:ziH (zaU s.data.toList)=(if b=true then L else L+1)∧(b=true→0<L):=by
  rcases hc with ⟨h1,h2,J⟩|⟨h,J⟩
  ·rw [←I,decide_eq_true ⟨h1,h2⟩];exact ⟨J,fun _=>h1⟩
  ·rw [←I,ykF (by rintro ⟨h1,h2⟩;rcases h with h|h;omega;exact h h2)];exact ⟨J,fun e=>by cases e⟩
 have HB:=ykE I
 have Z:=ykE qc
 clear I qc
 go_upto_region 3 with fail
 go_cut [26] (fun v wc=>v= .bool b∧wc=w1)
 case first=>
  rcases hc with ⟨h1,rfl,J⟩|⟨rfl|S,J⟩
  ·have I:b=true:=by rw [←HB.out];exact decide_eq_true ⟨h1,rfl⟩
   have hd:(0:Int)<(L:Int):=by omega
   clear J
   go_wp2
   go_meet
   exact ⟨by rw [I],rfl⟩
  ·have I:b=false:=by rw [←HB.out];exact ykF (by omega)
   clear J
   go_wp2
   go_meet
   exact ⟨by rw [I],rfl⟩
  ·have I:b=false:=by rw [←HB.out];exact ykF (fun h=>S h.2)
   have qi:x.isEmpty=false:=zeI S
   clear J S
   go_wp2
   all_goals
    go_meet
    exact ⟨by rw [I],rfl⟩
 case rest=>
 obtain ⟨rfl,rfl⟩:=hcut
 rename World=>w2
 clear N hc
 go_upto_if 26 with fail
 go_cut [5] (fun v wc=> ∃n:Nat,v= .int .i64 n∧n≤L∧wc=w2∧Hid (ziH (zaU s.data.toList)=n+1))
 case first=>
  cases b with
  |true=>
   have h0:=Z.out.2 rfl
   obtain ⟨n,rfl⟩: ∃n,L=n+1:=⟨L - 1,by omega⟩
   clear h0
   go_wp2
   go_meet
   exact ⟨n,ykG (Value.int .i64) (by omega),by omega,rfl,Z.out.1⟩
  |false=>
   go_wp2
   go_meet
   exact ⟨L,ykG (Value.int .i64) (by omega),Nat.le_refl _,rfl,Z.out.1⟩
 case rest=>
 obtain ⟨n,rfl,hn,rfl,Z⟩:=hcut
 rename World=>w1
 by_cases h3:3<n
 ·have hd:decide ((3:Int)<(n:Int))=true:=decide_eq_true (by omega)
  have HZ:=ykE (z0H Z.out (by omega))
  go_wp2
  go_ret2
  exact zcS HZ.out f
 have hd:decide ((3:Int)<(n:Int))=false:=ykF (by omega)
 have HZ:=ykE (ydF Z.out (by omega))
 have qj:(n:Int)+1≤(qg:Int):=by omega
 go_wp2
 clear hd
 go_loopw [6,36] (fun v i wr=> ∃(k:Nat) (A:Int),k≤n+1∧i= .int .i64 k∧v= .int .u32 A∧0≤A∧A<4294967296∧Hid (k≤n→A % 2^(32 - 8*k)=0)∧Hid (goF (n+1) k A (((zaU s.data.toList).take (n+1)).drop k)=zkX s.data.toList)∧Below w1.heap.size w1 wr) (fun _ i _=>n+1 - (intOf i).toNat)
 case atStart=>exact ⟨0,0,by omega,rfl,rfl,by omega,by omega,fun _=>rfl,HZ.out.symm,Below.refl _ _⟩
 case round=>
  obtain ⟨k,A,J,rfl,rfl,qa,qd,HM,U,G⟩:=hrel
  by_cases o:k≤n
  ·obtain ⟨p,Q⟩: ∃p,(zaU s.data.toList).getD k []=p:=⟨_,rfl⟩
   have N:=(G.cell (p:=⟨g,k,none⟩) hg).trans (HC.out k (by rw [Y.out];omega))
   rw [Q] at N
   obtain ⟨x,b,M⟩: ∃x b,zcV p=(x,b):=⟨_,_,rfl⟩
   have j:=zjG p
   have qk:p.length≤s.size:=by rw [←Q,←zaR];exact ziA _ _ _
   rw [M] at j
   have X:=ykE (fun W=>zjT ⟨p.toArray⟩ W (by rw [zaI];omega))
   rw [zaQ,M] at X
   have HA:=ykE (HM.out o)
   have HP:=ykE Q
   have H:=ykE M
   obtain ⟨j,ql⟩:=j
   clear Q M
   by_cases d:k=n
   ·have e1:((k:Int)==(n:Int))=true:=by rw [d];simp
    have D:=ykE d
    clear d
    go_wp2_with fail
    refine (X.out _).mono ?_
    rintro e w2 ⟨rfl,V⟩
    have E:=G.trans (V.mono G.size)
    cases b with
    |false=>
     have K:=ykE (U.out.symm.trans (zyF (n+1) k A _ p x false (by omega) (by rw [Y.out];omega) HP.out H.out (.inl rfl)))
     go_wp2
     go_ret2
     exact zcS K.out (f.trans (E.mono f.size))
    |true=>
     by_cases m:x<limZ (n+1) k
     ·have hq:(x/2^(32 - 8*k) !=0)=false:=by rw [bne_eq_false_iff_eq];have:=(lim4 k n x o (by omega) j).2 m;rwa [if_pos D.out] at this
      have C:=U.out
      rw [z7Q (n+1) k A _ p x (by omega) (by rw [Y.out];omega) HP.out H.out m] at C
      obtain ⟨j1,j2,j3,j4⟩:=step4 k n A x (x % 4294967296) o (by omega) qa qd HA.out j m (by rw [if_pos D.out])
      have HJ:=ykE j1
      have O:=ykE C
      clear C j1
      go_wp2
      go_roundw
      case rel=>exact ⟨k+1,A+x*wtZ (n+1) k,by omega,by go_num,by rw [HJ.out],j2,j3,j4,O.out,E⟩
      case measure=>simp [intOf];omega
     ·have hq:(x/2^(32 - 8*k) !=0)=true:=by rw [bne_iff_ne];have:=fun h=>m ((lim4 k n x o (by omega) j).1 h);rwa [if_pos D.out] at this
      have K:=ykE (U.out.symm.trans (zyF (n+1) k A _ p x true (by omega) (by rw [Y.out];omega) HP.out H.out (.inr (by omega))))
      go_wp2
      go_ret2
      exact zcS K.out (f.trans (E.mono f.size))
   ·have e1:((k:Int)==(n:Int))=false:=beq_eq_false_iff_ne.2 (by omega)
    have D:=ykE d
    have qh:(k:Int)<(n:Int):=by omega
    clear d
    go_wp2_with fail
    refine (X.out _).mono ?_
    rintro e w2 ⟨rfl,V⟩
    have E:=G.trans (V.mono G.size)
    cases b with
    |false=>
     have K:=ykE (U.out.symm.trans (zyF (n+1) k A _ p x false (by omega) (by rw [Y.out];omega) HP.out H.out (.inl rfl)))
     go_wp2
     go_ret2
     exact zcS K.out (f.trans (E.mono f.size))
    |true=>
     by_cases m:x<limZ (n+1) k
     ·have hq:(x/256 !=0)=false:=by rw [bne_eq_false_iff_eq];have:=(lim4 k n x o (by omega) j).2 m;rwa [if_neg D.out] at this
      have C:=U.out
      rw [z7Q (n+1) k A _ p x (by omega) (by rw [Y.out];omega) HP.out H.out m] at C
      obtain ⟨j1,j2,j3,j4⟩:=step4 k n A x (x % 4294967296*2^(24 - 8*k) % 4294967296) o (by omega) qa qd HA.out j m (by rw [if_neg D.out])
      have HJ:=ykE j1
      have O:=ykE C
      clear C j1
      go_wp2
      go_roundw
      case rel=>exact ⟨k+1,A+x*wtZ (n+1) k,by omega,by go_num,by rw [HJ.out],j2,j3,j4,O.out,E⟩
      case measure=>simp [intOf];omega
     ·have hq:(x/256 !=0)=true:=by rw [bne_iff_ne];have:=fun h=>m ((lim4 k n x o (by omega) j).1 h);rwa [if_neg D.out] at this
      have K:=ykE (U.out.symm.trans (zyF (n+1) k A _ p x true (by omega) (by rw [Y.out];omega) HP.out H.out (.inr (by omega))))
      go_wp2
      go_ret2
      exact zcS K.out (f.trans (E.mono f.size))
  ·obtain rfl:k=n+1:=by omega
   have K:=ykE (U.out.symm.trans (yjU (n+1) (n+1) A _ (Nat.le_refl _)))
   go_wp2
   go_ret2
   exact zcS K.out (f.trans (G.mono f.size))
def goS:Int→List (List UInt8)→Int×Bool
 |A,[]=>(A,true)
 |A,p::r=>if (decZ p 255).2=true then goS (A*256+(decZ p 255).1) r else (0,false)
def zaP (l:List UInt8):Int×Bool:=if (zaU l).length=4 then goS 0 (zaU l) else (0,false)
theorem zgL (l:List UInt8) (m:Int) (d:0≤m):0≤(decZ l m).1∧(decZ l m).1≤m:=by
 unfold decZ
 split
 ·exact ⟨Int.le_refl _,d⟩
 ·rename_i h
  split
  ·exact ⟨Int.le_refl _,d⟩
  ·refine ⟨znK l ?_,by show decN l≤m;omega⟩
   cases f:zbO 10 l with
   |true=>rfl
   |false=>rw [f] at h;simp at h
theorem zzG (k:Nat) (ps:List (List UInt8)) (h:k<ps.length):ps.drop k=ps.getD k []::ps.drop (k+1):=by
 rw [List.drop_eq_getElem_cons h,List.getD,List.getElem?_eq_getElem h]
 rfl
theorem ygS (k:Nat) (A:Int) (ps:List (List UInt8)) (p:List UInt8) (x:Int) (h:k<ps.length) (d:ps.getD k []=p) (f:decZ p 255=(x,true)):goS A (ps.drop k)=goS (A*256+x) (ps.drop (k+1)):=by
 rw [zzG k ps h,d]
 show (if _ then _ else _)=_
 rw [f,if_pos rfl]
theorem goS_no (k:Nat) (A:Int) (ps:List (List UInt8)) (p:List UInt8) (x:Int) (h:k<ps.length) (d:ps.getD k []=p) (f:decZ p 255=(x,false)):goS A (ps.drop k)=(0,false):=by
 rw [zzG k ps h,d]
 show (if _ then _ else _)=_
 rw [f]
 rfl
theorem yiZ (k:Nat) (A:Int) (ps:List (List UInt8)) (h:ps.length≤k):goS A (ps.drop k)=(A,true):=by
 rw [List.drop_eq_nil_of_le h]
 rfl
theorem ztT {l:List UInt8} (h:(zaU l).length=4):zaP l=goS 0 ((zaU l).drop 0):=by
 unfold zaP;rw [if_pos h];rfl
theorem z2V {l:List UInt8} (h:(zaU l).length≠4):zaP l=(0,false):=by
 unfold zaP;rw [if_neg h]
theorem zfX (s:ByteArray) (w:World) (hs:s.size≤1073741824):
  Calls Tryz.prog 278 #[.string s] w (zvK w (zaP s.data.toList)):=by
 by_cases Q:(zaU s.data.toList).length=4
 ·have X:=ykE Q
  have HZ:=ykE (ztT Q)
  clear Q
  go_enter Tryz.func278,Tryz.ntmps278
  go_wp2_with fail
  refine (zdN s _ _ hs).mono ?_
  rintro e G ⟨v,rfl,U,f⟩
  have D:zbI w.heap.size G v (zaU s.data.toList):=U
  obtain ⟨g,qc,rfl,C,hg,d⟩:=D.form2 (by rw [X.out];omega)
  rw [X.out] at C d ⊢
  have K:=ykE d
  clear U D d
  go_wp2
  go_loopw [5,17] (fun v i wr=> ∃(k:Nat) (A:Int),k≤4∧i= .int .i64 k∧v= .int .u32 A∧0≤A∧Hid (A<256^k)∧Hid (goS A ((zaU s.data.toList).drop k)=zaP s.data.toList)∧Below G.heap.size G wr) (fun _ i _=>4 - (intOf i).toNat)
  case atStart=>exact ⟨0,0,by omega,rfl,rfl,by omega,(by show (0:Int)<256^0;decide),HZ.out.symm,Below.refl _ _⟩
  case round=>
   obtain ⟨k,A,hk,rfl,rfl,qh,S,HG,j⟩:=hrel
   by_cases J:k<4
   ·obtain ⟨p,H⟩: ∃p,(zaU s.data.toList).getD k []=p:=⟨_,rfl⟩
    have N:=K.out k J
    rw [H] at N
    have qd:wr.cell? ⟨g,k,none⟩=some (.string ⟨p.toArray⟩):=(j.cell (p:=⟨g,k,none⟩) hg).trans N
    have qi:p.length≤s.size:=by rw [←H,←zaR];exact ziA _ _ _
    obtain ⟨x,b,O⟩: ∃x b,decZ p 255=(x,b):=⟨_,_,rfl⟩
    have hx:0≤x∧x≤255:=by have h9:=zgL p 255 (by decide);rw [O] at h9;exact h9
    obtain ⟨qg,qj⟩:=hx
    have qf:A<16777216:=by
     have V:=S.out
     rcases (show k=0∨k=1∨k=2∨k=3 from by omega) with rfl|rfl|rfl|rfl
     all_goals
      simp at V
      omega
    have Y:A*256+x<256^(k+1):=by
     have V:=S.out
     rcases (show k=0∨k=1∨k=2∨k=3 from by omega) with rfl|rfl|rfl|rfl
     all_goals
      simp at V ⊢
      omega
    have qb:=ykE Y
    have qe:bits .or .u32 (A*256) x=A*256+x:=zxK 8 _ _ (by omega) (by omega) (by omega) (by omega) (by omega) (by omega)
    have HP:=ykE H
    have E:=ykE O
    clear H O N Y
    cases b with
    |true=>
     have I:=HG.out
     rw [ygS k A _ p x (by rw [X.out];exact J) HP.out E.out] at I
     have qa:=ykE I
     clear I
     go_wp2_with fail
     refine (zcQ ⟨p.toArray⟩ 255 _ (by rw [zaI];omega) (by decide) (by decide)).mono ?_
     rw [zaQ,E.out]
     rintro e w2 ⟨rfl,B⟩
     have M:Below G.heap.size G w2:=j.trans (B.mono j.size)
     clear B
     go_wp2
     go_roundw
     case rel=>exact ⟨k+1,A*256+x,by omega,by go_num,rfl,by omega,qb,qa,M⟩
     case measure=>simp [intOf];omega
    |false=>
     have HN:=ykE (HG.out.symm.trans (goS_no k A _ p x (by rw [X.out];exact J) HP.out E.out))
     go_wp2_with fail
     refine (zcQ ⟨p.toArray⟩ 255 _ (by rw [zaI];omega) (by decide) (by decide)).mono ?_
     rw [zaQ,E.out]
     rintro e w2 ⟨rfl,B⟩
     have M:Below G.heap.size G w2:=j.trans (B.mono j.size)
     clear B
     go_wp2
     go_ret2
     exact zcS HN.out (f.trans (M.mono f.size))
   ·have o:=HG.out
    rw [yiZ k A _ (by rw [X.out];omega)] at o
    have HF:=ykE o.symm
    clear o
    go_wp2
    go_ret2
    exact zcS HF.out (f.trans (j.mono f.size))
 ·obtain ⟨m,Z⟩: ∃m,(zaU s.data.toList).length=m:=⟨_,rfl⟩
  have HZ:=ykE (z2V Q)
  have h0:0<(zaU s.data.toList).length:=zjK _ _
  rw [Z] at Q h0
  have ql:m≤1073741825:=by
   have V:=zdF (hasB [46]) s.data.toList
   rw [zaR] at V
   have h2:=Z
   unfold zaU at h2
   omega
  have qk:((m:Int) !=4)=true:=by rw [bne_iff_ne];omega
  have S:=ykE Z
  clear Z Q
  go_enter Tryz.func278,Tryz.ntmps278
  go_wp2_with fail
  refine (zdN s _ _ hs).mono ?_
  rintro e G ⟨v,rfl,U,f⟩
  have D:zbI w.heap.size G v (zaU s.data.toList):=U
  obtain ⟨g,qc,rfl,C,hg,d⟩:=D.form2 (by rw [S.out];omega)
  rw [S.out]
  clear U D d C
  go_wp2
  go_ret2
  exact zcS HZ.out f
def dec3 (u:Nat):List UInt8:=
 if u<10 then [UInt8.ofNat (48+u)] else if u<100 then [UInt8.ofNat (48+u/10),UInt8.ofNat (48+u % 10)] else [UInt8.ofNat (48+u/100),UInt8.ofNat (48+u/10 % 10),UInt8.ofNat (48+u % 10)]
def txt (a b c d:Nat):List UInt8:=dec3 a++[46]++(dec3 b++[46]++(dec3 c++[46]++dec3 d))
def txtZ (n:Int):List UInt8:=txt (n/16777216).toNat (n/65536 % 256).toNat (n/256 % 256).toNat (n % 256).toNat
abbrev PowTab (w:World):Prop:=Lib.TabIs Tryz.prog w "internal/strconv.uint64pow10" .u64 Lib.pow10Tab
theorem zaH {w w':World} (h:PowTab w) (d:Below w.heap.size w w'):PowTab w':=
 Lib.tabBelow_of_tabIs h w' d
theorem zxX (i:Nat) (x y:Int) (j:0≤x) (A:x % 2^i=0) (m:x<18446744073709551616) (d:0≤y) (o:y<2^i) (f:y<18446744073709551616):bits .or .u64 x y=x+y:=
 bits_join .u64 64 (by decide) (fun n C B=>by rw [IntKind.wrap_u64];omega) i x y j A m d o f
theorem zxF (n:Int) (w:World) (f:0≤n) (i:n≤4294967295):
  Calls Tryz.prog 392 #[.int .u32 n] w fun e w'=>e= .returned (.tuple #[.int .u64 0,.int .u64 (281470681743360+n)])∧w=w':=by
 have d:bits .or .u64 281470681743360 n=281470681743360+n:=zxX 32 _ _ (by omega) (by decide) (by omega) f (by omega) (by omega)
 go_enter Tryz.func392,Tryz.ntmps392
 go_wp2
 go_ret2
 exact ⟨rfl,rfl⟩
def RetStr (w:World) (l:List UInt8) (e:Ending) (w':World):Prop:=e= .returned (.string ⟨l.toArray⟩)∧Below w.heap.size w w'
theorem dec3_1: ∀i:Fin 10,dec3 i.val=[UInt8.ofNat (48+i.val)]:=by decide+kernel
theorem dec3_2: ∀i j:Fin 10,i.val≠0→dec3 (i.val*10+j.val)=[UInt8.ofNat (48+i.val),UInt8.ofNat (48+j.val)]:=by decide+kernel
theorem dec3_3: ∀i j k:Fin 10,i.val≠0→dec3 ((i.val*10+j.val)*10+k.val)=[UInt8.ofNat (48+i.val),UInt8.ofNat (48+j.val),UInt8.ofNat (48+k.val)]:=by decide+kernel
theorem zeC (c:UInt8) (h:digC 10 c=true): ∃i:Nat,i<10∧c=UInt8.ofNat (48+i)∧c.toNat=48+i∧valZ (c.toNat:Int)=(i:Int):=by
 rw [ziW] at h
 obtain ⟨d,f⟩:=zrS h
 refine ⟨c.toNat - 48,by omega,?_,by omega,?_⟩
 ·apply UInt8.toNat_inj.1
  rw [show 48+(c.toNat - 48)=c.toNat from by omega]
  simp
 ·rw [zpA d f];omega
theorem zjY (p:List UInt8) (x:Int) (h:decZ p 255=(x,true)):0≤x∧x≤255∧p=dec3 x.toNat:=by
 have K:=zgL p 255 (by decide)
 rw [h] at K
 refine ⟨K.1,K.2,?_⟩
 unfold decZ at h
 split at h
 ·exact absurd (ykG Prod.snd h) (by simp)
 ·rename_i m
  split at h
  ·exact absurd (ykG Prod.snd h) (by simp)
  ·rename_i Q
   have D:decN p=x:=ykG Prod.fst h
   have H:zbO 10 p=true:=by
    cases H:zbO 10 p with
    |true=>rfl
    |false=>rw [H] at m;simp at m
   rw [H] at m
   have f: ∀c∈p,digC 10 c=true:=List.all_eq_true.1 H
   match p,D,m,f,Q,H with
   |[],_,m,_,_,_=>simp at m
   |[a],D,_,f,_,_=>
    obtain ⟨i,hi,I,_,S⟩:=zeC a (f a (by simp))
    have:x=(i:Int):=by rw [←D];simp [decN,S]
    rw [this,I]
    exact (dec3_1 ⟨i,hi⟩).symm
   |[a,b],D,m,f,_,_=>
    obtain ⟨i,hi,I,A,B⟩:=zeC a (f a (by simp))
    obtain ⟨j,J,G,_,o⟩:=zeC b (f b (by simp))
    have C:i≠0:=by
     intro e
     apply m
     simp [A,e]
    have:x=((i*10+j:Nat):Int):=by rw [←D];simp [decN,B,o]
    rw [this,I,G]
    exact (dec3_2 ⟨i,hi⟩ ⟨j,J⟩ C).symm
   |[a,b,c],D,m,f,_,_=>
    obtain ⟨i,hi,I,A,B⟩:=zeC a (f a (by simp))
    obtain ⟨j,J,G,_,o⟩:=zeC b (f b (by simp))
    obtain ⟨k,O,N,_,E⟩:=zeC c (f c (by simp))
    have C:i≠0:=by
     intro e
     apply m
     simp [A,e]
    have:x=(((i*10+j)*10+k:Nat):Int):=by rw [←D];simp [decN,B,o,E]
    rw [this,I,G,N]
    exact (dec3_3 ⟨i,hi⟩ ⟨j,J⟩ ⟨k,O⟩ C).symm
   |a::b::c::d::r,D,m,f,Q,H=>
    exfalso
    obtain ⟨i,hi,I,A,B⟩:=zeC a (f a (by simp))
    obtain ⟨j,J,_,_,o⟩:=zeC b (f b (by simp))
    obtain ⟨k,O,_,_,E⟩:=zeC c (f c (by simp))
    obtain ⟨l,U,_,_,M⟩:=zeC d (f d (by simp))
    have C:i≠0:=by
     intro e
     apply m
     simp [A,e]
    have V:=zlF (a::b::c::d::r) 4 H
    have X:decN ((a::b::c::d::r).take 4)=(((i:Int)*10+j)*10+k)*10+l:=by simp [decN,B,o,E,M]
    omega
theorem z6P (l:List (List UInt8)): ∀(A x:Int),goS A l=(x,false)→x=0:=by
 induction l with
 |nil=>intro A x h;exact absurd (ykG Prod.snd h) (by simp [goS])
 |cons p r d=>
  intro A x h
  unfold goS at h
  split at h
  ·exact d _ _ h
  ·exact (ykG Prod.fst h).symm
theorem ztI (l:List UInt8) (x:Int) (h:zaP l=(x,false)):x=0:=by
 unfold zaP at h
 split at h
 ·exact z6P _ _ _ h
 ·exact (ykG Prod.fst h).symm
theorem zlL {A x:Int} {p:List UInt8} {r:List (List UInt8)} (h:goS A (p::r)=(x,true)): ∃y,decZ p 255=(y,true)∧goS (A*256+y) r=(x,true):=by
 unfold goS at h
 split at h
 ·rename_i d
  refine ⟨(decZ p 255).1,?_,h⟩
  rw [←d]
 ·exact absurd (ykG Prod.snd h) (by simp)
theorem zxB (l:List UInt8) (x:Int) (h:zaP l=(x,true)):0≤x∧x≤4294967295∧l=txtZ x:=by
 unfold zaP at h
 split at h
 ·rename_i E
  have i:Lib.join (zaU l) [46]=l:=z1W l 46
  match Z:zaU l,E,h,i with
  |[B,K,o,I],_,h,i=>
   obtain ⟨d,J,h⟩:=zlL h
   obtain ⟨m,G,h⟩:=zlL h
   obtain ⟨f,C,h⟩:=zlL h
   obtain ⟨j,M,h⟩:=zlL h
   have U:(((0*256+d)*256+m)*256+f)*256+j=x:=ykG Prod.fst h
   obtain ⟨Q,b0,rfl⟩:=zjY B d J
   obtain ⟨X,S,rfl⟩:=zjY K m G
   obtain ⟨V,b2,rfl⟩:=zjY o f C
   obtain ⟨O,Y,rfl⟩:=zjY I j M
   refine ⟨by omega,by omega,?_⟩
   rw [←i]
   have H:x/16777216=d:=by omega
   have A:x/65536 % 256=m:=by omega
   have N:x/256 % 256=f:=by omega
   have D:x % 256=j:=by omega
   unfold txtZ
   rw [H,A,N,D]
   simp [Lib.join,txt,List.intercalate]
 ·exact absurd (ykG Prod.snd h) (by simp)
def valP (b:Int) (L:List UInt8):Int:=L.foldl (fun n c=>n*b+valZ (c.toNat:Int)) 0
theorem z5T (b:Int) (L:List UInt8): ∀a:Int,L.foldl (fun n c=>n*b+valZ (c.toNat:Int)) a=a*b^L.length+valP b L:=by
 unfold valP
 induction L with
 |nil=>intro a;simp
 |cons c L d=>
  intro a
  simp only [List.foldl_cons,List.length_cons]
  rw [d,d (0*b+_),Int.pow_succ]
  rw [Int.zero_mul,Int.zero_add,Int.add_mul,Int.mul_assoc,Int.mul_comm b (b^L.length),Int.add_assoc]
theorem z8U (b:Int) (c:UInt8) (L:List UInt8):valP b (c::L)=valZ (c.toNat:Int)*b^L.length+valP b L:=by
 show (c::L).foldl _ 0=_
 rw [List.foldl_cons,z5T,Int.zero_mul,Int.zero_add]
theorem zmC (b:Int) (j:0≤b) (L:List UInt8) (d:zbO b L=true):0≤valP b L:=by
 have key: ∀(L:List UInt8) (n:Int),0≤n→zbO b L=true→0≤L.foldl (fun n c=>n*b+valZ (c.toNat:Int)) n:=by
  intro L
  induction L with
  |nil=>intro n h _;exact h
  |cons c L i=>
   intro n h d
   have f:digC b c=true∧zbO b L=true:=by simpa [zbO] using d
   have o:=of_decide_eq_true f.1
   have m:0≤n*b:=Int.mul_nonneg h j
   exact i (n*b+valZ (c.toNat:Int)) (by omega) f.2
 exact key L 0 (Int.le_refl _) d
end
section
open Go.RowKit Go.Sort Go.Lib
def bruTab:List Int:=[0,1,56,2,57,49,28,3,61,58,42,50,38,29,17,4,62,47,59,36,45,43,51,22,53,39,33,30,24,18,12,5,63,55,48,27,60,41,37,16,46,35,44,21,52,32,23,11,54,26,40,15,34,20,31,10,25,14,19,9,13,8,7,6]
abbrev BruTab (w:World):Prop:=Lib.TabIs Tryz.prog w "math/bits.deBruijn64tab" .u8 bruTab
theorem zaG {w w':World} (h:BruTab w) (d:Below w.heap.size w w'):BruTab w':=
 Lib.tabBelow_of_tabIs h w' d
theorem ygQ (w:World) (h:BruTab w) (i:Nat) (hi:i<64):w.cell? ⟨5,i,none⟩=some (.int .u8 (bruTab.getD i 0)):=
 Lib.TabIs.cell h (by kernel_rfl) i (by simpa [bruTab] using hi)
theorem tz64_8 (w:World) (h:BruTab w):Calls Tryz.prog 311 #[.int .u64 8] w fun e w'=>e= .returned (.int .i64 3)∧w=w':=by
 have i:w.cell? ⟨5,7,none⟩=some (.int .u8 3):=ygQ w h 7 (by decide)
 have d:IntKind.u64.wrap (-8)=18446744073709551608:=by decide
 have f:bits .and .u64 8 18446744073709551608=8:=by decide
 clear h
 go_enter Tryz.func311,Tryz.ntmps311
 go_wp2
 go_ret
 exact ⟨rfl,rfl⟩
theorem yhW (w:World) (h:BruTab w):Calls Tryz.prog 311 #[.int .u64 16] w fun e w'=>e= .returned (.int .i64 4)∧w=w':=by
 have i:w.cell? ⟨5,15,none⟩=some (.int .u8 4):=ygQ w h 15 (by decide)
 have d:IntKind.u64.wrap (-16)=18446744073709551600:=by decide
 have f:bits .and .u64 16 18446744073709551600=16:=by decide
 clear h
 go_enter Tryz.func311,Tryz.ntmps311
 go_wp2
 go_ret
 exact ⟨rfl,rfl⟩
end
end
end Go.Proofs.YtegmcmgndllmaaaGreatDoor
