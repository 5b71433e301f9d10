/-
  What the law AuthorityAgrees leans on, and its walk (3 of 43).
-/
import Derived.Laws.BitsLemmas
import Derived.Deep.DeepCutAuto
import Derived.Lib.ItoaNum
import Derived.Test.YtegmcmgndllmaaaGreatDoorShelf
import Derived.Lib.AppendIntMem
import Derived.Lib.SmallJoins
import Derived.Test.YtegmcmgndllmaaaGreatDoorAuthorityAgreesPkB
import Derived.Test.YtegmcmgndllmaaaGreatDoorAuthorityAgreesPkA
namespace Go.Proofs.YtegmcmgndllmaaaGreatDoor
set_option maxRecDepth 100000
set_option maxHeartbeats 16000000
abbrev ynI := @Lib.hid
abbrev ynJ := @decide_eq_false
abbrev ynK := @congrArg
section
section
open Go.RowKit
def limZ (n i:Nat):Int:=if i+1=n then 256^(5 - n) else 256
def wtZ (n i:Nat):Int:=if i+1=n then 1 else 256^(3 - i)
def goF (n:Nat):Nat→Int→List (List UInt8)→Int×Bool
 |_,A,[]=>(A,true)
 |i,A,p::r=>if (zcK p).2=true∧(zcK p).1<limZ n i then goF n (i+1) (A+(zcK p).1*wtZ n i) r else (0,false)
def zhI (ps:List (List UInt8)):Nat:=if 1<ps.length∧ps.getD (ps.length - 1) []=[] then ps.length - 1 else ps.length
def ybB (ps:List (List UInt8)):Int×Bool:=if 4<zhI ps then (0,false) else goF (zhI ps) 0 0 (ps.take (zhI ps))
def ziH (l:List UInt8):Int×Bool:=ybB (zaS l)
theorem zxH (b:Int) (j:0≤b) (l:List UInt8) (f:zbG b l=true):0≤numZ b l∧numZ b l≤1099511627776:=by
 have d: ∀(l:List UInt8) (n:Int),0≤n→n≤1099511627776→zbG b l=true→0≤l.foldl (zwV b) n∧l.foldl (zwV b) n≤1099511627776:=by
  intro l
  induction l with
  |nil=>intro n e g _;exact ⟨e,g⟩
  |cons c l m=>
   intro n e g f
   have i:digC b c=true∧zbG b l=true:=by simpa [zbG] using f
   have q:=of_decide_eq_true i.1
   have o:0≤n*b:=Int.mul_nonneg e j
   refine m _ ?_ (ykP _) i.2
   unfold zwV capZ
   split<;>omega
 exact d l 0 (Int.le_refl _) (by omega) f
theorem zkD (l:List UInt8):0≤(zcK l).1∧(zcK l).1≤1099511627776:=by
 unfold zcK
 split
 ·exact ⟨Int.le_refl _,by show (0:Int)≤_;omega⟩
 ·split
  ·have d:=zpH l
   exact zxH _ (by omega) _ (by assumption)
  ·exact ⟨Int.le_refl _,by show (0:Int)≤_;omega⟩
theorem ylC (n k:Nat) (A:Int) (ps:List (List UInt8)) (h:n≤k):goF n k A ((ps.take n).drop k)=(A,true):=by
 rw [List.drop_eq_nil_of_le (by simp;omega)]
 rfl
theorem zvB (n k:Nat) (ps:List (List UInt8)) (h:k<n) (d:n≤ps.length):(ps.take n).drop k=ps.getD k []::(ps.take n).drop (k+1):=by
 rw [List.drop_eq_getElem_cons (by simp;omega)]
 congr 1
 rw [List.getElem_take,List.getD,List.getElem?_eq_getElem (by omega)]
 rfl
theorem z8L (n k:Nat) (A:Int) (ps:List (List UInt8)) (p:List UInt8) (x:Int) (h:k<n) (d:n≤ps.length) (f:ps.getD k []=p) (g:zcK p=(x,true)) (e:x<limZ n k):
  goF n k A ((ps.take n).drop k)=goF n (k+1) (A+x*wtZ n k) ((ps.take n).drop (k+1)):=by
 rw [zvB n k ps h d,f]
 show (if _ then _ else _)=_
 rw [g,if_pos ⟨rfl,e⟩]
theorem zzF (n k:Nat) (A:Int) (ps:List (List UInt8)) (p:List UInt8) (x:Int) (b:Bool) (h:k<n) (f:n≤ps.length) (i:ps.getD k []=p) (m:zcK p=(x,b)) (g:b=false∨limZ n k≤x):
  goF n k A ((ps.take n).drop k)=(0,false):=by
 rw [zvB n k ps h f,i]
 show (if _ then _ else _)=_
 rw [m,if_neg]
 rintro ⟨d,j⟩
 rcases g with e|e
 ·rw [e] at d;cases d
 ·exact absurd j (by show ¬x<_;omega)
theorem zkS (n:Nat) (ps:List (List UInt8)) (h:ps.length=n+1) (f:n=0∨ps.getD n []≠[]):zhI ps=n+1:=by
 unfold zhI
 rw [h,Nat.add_sub_cancel,if_neg]
 rintro ⟨g,e⟩
 rcases f with d|d
 ·omega
 ·exact d e
theorem zuU (n:Nat) (ps:List (List UInt8)) (h:ps.length=n+2) (d:ps.getD (n+1) []=[]):zhI ps=n+1:=by
 unfold zhI
 rw [h,show n+2 - 1=n+1 from rfl,d,if_pos ⟨by omega,rfl⟩]
theorem ygG {l:List UInt8} {n:Nat} (d:zhI (zaS l)=n) (h:n≤4):ziH l=goF n 0 0 (((zaS l).take n).drop 0):=by
 unfold ziH ybB
 rw [d,if_neg (by omega)]
 rfl
theorem z2T {l:List UInt8} {n:Nat} (d:zhI (zaS l)=n) (h:4<n):ziH l=(0,false):=by
 unfold ziH ybB
 rw [d,if_pos h]
theorem zyY (i:Nat) (x y:Int) (g:0≤x) (m:x % 2^i=0) (d:x<4294967296) (e:0≤y) (j:y<2^i) (f:y<4294967296):bits .or .u32 x y=x+y:=
 bits_join .u32 32 (by decide) (fun n q o=>by rw [IntKind.wrap_u32];omega) i x y g m d e j f
theorem zaZ.form2 {B:Nat} {w:World} {v:Value} {ps:List (List UInt8)} (h:zaZ B w v ps) (i:0<ps.length):
  ∃g d,v= .slice (some ⟨g,0,none⟩) ps.length d∧ps.length≤d∧g<w.heap.size∧ ∀j,j<ps.length→w.cell? ⟨g,j,none⟩=some (.string ⟨(ps.getD j []).toArray⟩):=by
 obtain ⟨g,c,rfl,f,q⟩:=h.form i
 refine ⟨g,c,rfl,?_,f,q⟩
 unfold zaZ at h
 rcases h.2 with ⟨A,_⟩|⟨C,d,o,m,_,_,e,_⟩
 ·cases A
 ·cases m;exact e
def zwK (w:World) (x:Int×Bool) (e:Ending) (w':World):Prop:=e= .returned (.tuple #[.int .u32 x.1,.bool x.2])∧Below w.heap.size w w'
theorem zcU {w w':World} {x:Int×Bool} {n:Int} {b:Bool} (h:x=(n,b)) (d:Below w.heap.size w w'):zwK w x (.returned (.tuple #[.int .u32 n,.bool b])) w':=by
 subst h;exact ⟨rfl,d⟩
theorem zpW (l:List UInt8): ∃L x,(zaS l).length=L+1∧(zaS l).getD L []=x∧L≤l.length∧(0<L∧x=[]∧zhI (zaS l)=L∨(L=0∨x≠[])∧zhI (zaS l)=L+1):=by
 have o:0<(zaS l).length:=zkK _ _
 have m:=zcV (hasB [46]) l
 obtain ⟨L,d⟩: ∃L,(zaS l).length=L+1:=⟨(zaS l).length - 1,by omega⟩
 refine ⟨L,_,d,rfl,by unfold zaS at d;omega,?_⟩
 by_cases h:0<L∧(zaS l).getD L []=[]
 ·obtain ⟨i,g⟩:=h
  refine .inl ⟨i,g,?_⟩
  obtain ⟨n,rfl⟩: ∃n,L=n+1:=⟨L - 1,by omega⟩
  exact zuU n _ d g
 ·have f:L=0∨(zaS l).getD L []≠[]:=by
   by_cases e:L=0
   ·exact .inl e
   ·exact .inr fun j=>h ⟨by omega,j⟩
  exact .inr ⟨f,zkS L _ d f⟩
theorem step4 (k n:Nat) (A x V:Int) (I:k≤n) (H:n≤3) (g:0≤A) (f:A<4294967296) (e:A % 2^(32 - 8*k)=0) (B:0≤x) (q:x<limZ (n+1) k)
  (m:V=if k=n then x % 4294967296 else x % 4294967296*2^(24 - 8*k) % 4294967296):
  bits .or .u32 A V=A+x*wtZ (n+1) k∧0≤A+x*wtZ (n+1) k∧A+x*wtZ (n+1) k<4294967296∧(k+1≤n→(A+x*wtZ (n+1) k) % 2^(32 - 8*(k+1))=0):=by
 have d: ∀(i:Nat) (W:Int),A % 2^i=0→V=x*W→0≤x*W→x*W<2^i→x*W<4294967296→bits .or .u32 A V=A+x*W:=fun i W C o D E G=>by rw [o];exact zyY i A _ g C f D E G
 obtain ⟨W,j⟩: ∃W,wtZ (n+1) k=W:=⟨_,rfl⟩
 rw [j]
 rcases (show n=0∨n=1∨n=2∨n=3 from by omega) with rfl|rfl|rfl|rfl<;>
  rcases (show k=0∨k=1∨k=2∨k=3 from by omega) with rfl|rfl|rfl|rfl<;>
  first
  |omega
  |(simp [limZ] at q
    simp at m e
    simp [wtZ] at j
    subst j
    refine ⟨?_,by omega,by omega,fun h=>by first|omega|(simp;omega)⟩
    first
    |exact d 32 _ (by simpa using e) (by omega) (by omega) (by omega) (by omega)
    |exact d 24 _ (by simpa using e) (by omega) (by omega) (by omega) (by omega)
    |exact d 16 _ (by simpa using e) (by omega) (by omega) (by omega) (by omega)
    |exact d 8 _ (by simpa using e) (by omega) (by omega) (by omega) (by omega))
theorem lim4 (k n:Nat) (x:Int) (f:k≤n) (e:n≤3) (d:0≤x):(if k=n then x/2^(32 - 8*k) else x/256)=0↔x<limZ (n+1) k:=by
 rcases (show n=0∨n=1∨n=2∨n=3 from by omega) with rfl|rfl|rfl|rfl<;>
  rcases (show k=0∨k=1∨k=2∨k=3 from by omega) with rfl|rfl|rfl|rfl<;>
  first
  |omega
  |(simp [limZ];omega)
theorem z4K (s:ByteArray) (w:World) (hs:s.size≤1073741824):
  Calls Tryz.prog 106 #[.string s] w (zwK w (ziH s.data.toList)):=by
 obtain ⟨L,x,hL,hx,qe,hc⟩:=zpW s.data.toList
 rw [zaN] at qe
 go_enter Tryz.func106,Tryz.ntmps106
 go_wp2_with fail
 refine (zdD s _ _ hs).mono ?_
 rintro e w1 ⟨v,rfl,Q,d⟩
 have Z:zaZ w.heap.size w1 v (zaS s.data.toList):=Q
 obtain ⟨g,qf,rfl,qc,hg,B⟩:=Z.form2 (by omega)
 rw [hL] at qc ⊢
 have I:=B L (by omega)
 rw [hx] at I
 have HC:=ynI B
 have N:=ynI hL
 clear B Q Z hL hx
 obtain ⟨b,H⟩: ∃b,decide (0<L∧x=[])=b:=⟨_,rfl⟩
 have qd:zhI (zaS s.data.toList)=(if b=true then L else L+1)∧(b=true→0<L):=by
  rcases hc with ⟨h1,h2,M⟩|⟨h,M⟩
  ·rw [←H,decide_eq_true ⟨h1,h2⟩];exact ⟨M,fun _=>h1⟩
  ·rw [←H,ynJ (by rintro ⟨h1,h2⟩;rcases h with h|h;omega;exact h h2)];exact ⟨M,fun e=>by cases e⟩
 have HB:=ynI H
 have Y:=ynI qd
 clear H qd
 go_upto_region 3 with fail
 go_cut [26] (fun v wc=>v= .bool b∧wc=w1)
 case first=>
  rcases hc with ⟨h1,rfl,M⟩|⟨rfl|T,M⟩
  ·have H:b=true:=by rw [←HB.out];exact decide_eq_true ⟨h1,rfl⟩
   have hd:(0:Int)<(L:Int):=by omega
   clear M
   go_wp2
   go_meet
   exact ⟨by rw [H],rfl⟩
  ·have H:b=false:=by rw [←HB.out];exact ynJ (by omega)
   clear M
   go_wp2
   go_meet
   exact ⟨by rw [H],rfl⟩
  ·have H:b=false:=by rw [←HB.out];exact ynJ (fun h=>T h.2)
   have qj:x.isEmpty=false:=zeB T
   clear M T
   go_wp2
   all_goals
    go_meet
    exact ⟨by rw [H],rfl⟩
 case rest=>
 obtain ⟨rfl,rfl⟩:=hcut
 rename World=>w2
 clear I hc
 go_upto_if 26 with fail
 go_cut [5] (fun v wc=> ∃n:Nat,v= .int .i64 n∧n≤L∧wc=w2∧Hid (zhI (zaS s.data.toList)=n+1))
 case first=>
  cases b with
  |true=>
   have h0:=Y.out.2 rfl
   obtain ⟨n,rfl⟩: ∃n,L=n+1:=⟨L - 1,by omega⟩
   clear h0
   go_wp2
   go_meet
   exact ⟨n,ynK (Value.int .i64) (by omega),by omega,rfl,Y.out.1⟩
  |false=>
   go_wp2
   go_meet
   exact ⟨L,ynK (Value.int .i64) (by omega),Nat.le_refl _,rfl,Y.out.1⟩
 case rest=>
 obtain ⟨n,rfl,hn,rfl,Y⟩:=hcut
 rename World=>w1
 by_cases h3:3<n
 ·have hd:decide ((3:Int)<(n:Int))=true:=decide_eq_true (by omega)
  have HZ:=ynI (z2T Y.out (by omega))
  go_wp2
  go_ret2
  exact zcU HZ.out d
 have hd:decide ((3:Int)<(n:Int))=false:=ynJ (by omega)
 have HZ:=ynI (ygG Y.out (by omega))
 have qh:(n:Int)+1≤(qf:Int):=by omega
 go_wp2
 clear hd
 go_loopw [6,36] (fun v i wr=> ∃(k:Nat) (A:Int),k≤n+1∧i= .int .i64 k∧v= .int .u32 A∧0≤A∧A<4294967296∧Hid (k≤n→A % 2^(32 - 8*k)=0)∧Hid (goF (n+1) k A (((zaS s.data.toList).take (n+1)).drop k)=ziH s.data.toList)∧Below w1.heap.size w1 wr) (fun _ i _=>n+1 - (intOf i).toNat)
 case atStart=>exact ⟨0,0,by omega,rfl,rfl,by omega,by omega,fun _=>rfl,HZ.out.symm,Below.refl _ _⟩
 case round=>
  obtain ⟨k,A,M,rfl,rfl,qb,qa,HM,U,E⟩:=hrel
  by_cases D:k≤n
  ·obtain ⟨p,Q⟩: ∃p,(zaS s.data.toList).getD k []=p:=⟨_,rfl⟩
   have I:=(E.cell (p:=⟨g,k,none⟩) hg).trans (HC.out k (by rw [N.out];omega))
   rw [Q] at I
   obtain ⟨x,b,J⟩: ∃x b,zcK p=(x,b):=⟨_,_,rfl⟩
   have m:=zkD p
   have qi:p.length≤s.size:=by rw [←Q,←zaN];exact ziD _ _ _
   rw [J] at m
   have V:=ynI (fun W=>zjI ⟨p.toArray⟩ W (by rw [zaF];omega))
   rw [zaM,J] at V
   have HA:=ynI (HM.out D)
   have X:=ynI Q
   have G:=ynI J
   obtain ⟨m,qk⟩:=m
   clear Q J
   by_cases f:k=n
   ·have e1:((k:Int)==(n:Int))=true:=by rw [f];simp
    have o:=ynI f
    clear f
    go_wp2_with fail
    refine (V.out _).mono ?_
    rintro e w2 ⟨rfl,S⟩
    have q:=E.trans (S.mono E.size)
    cases b with
    |false=>
     have K:=ynI (U.out.symm.trans (zzF (n+1) k A _ p x false (by omega) (by rw [N.out];omega) X.out G.out (.inl rfl)))
     go_wp2
     go_ret2
     exact zcU K.out (d.trans (q.mono d.size))
    |true=>
     by_cases j:x<limZ (n+1) k
     ·have hq:(x/2^(32 - 8*k) !=0)=false:=by rw [bne_eq_false_iff_eq];have:=(lim4 k n x D (by omega) m).2 j;rwa [if_pos o.out] at this
      have C:=U.out
      rw [z8L (n+1) k A _ p x (by omega) (by rw [N.out];omega) X.out G.out j] at C
      obtain ⟨j1,j2,j3,j4⟩:=step4 k n A x (x % 4294967296) D (by omega) qb qa HA.out m j (by rw [if_pos o.out])
      have HJ:=ynI j1
      have O:=ynI C
      clear C j1
      go_wp2
      go_roundw
      case rel=>exact ⟨k+1,A+x*wtZ (n+1) k,by omega,by go_num,by rw [HJ.out],j2,j3,j4,O.out,q⟩
      case measure=>simp [intOf];omega
     ·have hq:(x/2^(32 - 8*k) !=0)=true:=by rw [bne_iff_ne];have:=fun h=>j ((lim4 k n x D (by omega) m).1 h);rwa [if_pos o.out] at this
      have K:=ynI (U.out.symm.trans (zzF (n+1) k A _ p x true (by omega) (by rw [N.out];omega) X.out G.out (.inr (by omega))))
      go_wp2
      go_ret2
      exact zcU K.out (d.trans (q.mono d.size))
   ·have e1:((k:Int)==(n:Int))=false:=beq_eq_false_iff_ne.2 (by omega)
    have o:=ynI f
    have qg:(k:Int)<(n:Int):=by omega
    clear f
    go_wp2_with fail
    refine (V.out _).mono ?_
    rintro e w2 ⟨rfl,S⟩
    have q:=E.trans (S.mono E.size)
    cases b with
    |false=>
     have K:=ynI (U.out.symm.trans (zzF (n+1) k A _ p x false (by omega) (by rw [N.out];omega) X.out G.out (.inl rfl)))
     go_wp2
     go_ret2
     exact zcU K.out (d.trans (q.mono d.size))
    |true=>
     by_cases j:x<limZ (n+1) k
     ·have hq:(x/256 !=0)=false:=by rw [bne_eq_false_iff_eq];have:=(lim4 k n x D (by omega) m).2 j;rwa [if_neg o.out] at this
      have C:=U.out
      rw [z8L (n+1) k A _ p x (by omega) (by rw [N.out];omega) X.out G.out j] at C
      obtain ⟨j1,j2,j3,j4⟩:=step4 k n A x (x % 4294967296*2^(24 - 8*k) % 4294967296) D (by omega) qb qa HA.out m j (by rw [if_neg o.out])
      have HJ:=ynI j1
      have O:=ynI C
      clear C j1
      go_wp2
      go_roundw
      case rel=>exact ⟨k+1,A+x*wtZ (n+1) k,by omega,by go_num,by rw [HJ.out],j2,j3,j4,O.out,q⟩
      case measure=>simp [intOf];omega
     ·have hq:(x/256 !=0)=true:=by rw [bne_iff_ne];have:=fun h=>j ((lim4 k n x D (by omega) m).1 h);rwa [if_neg o.out] at this
      have K:=ynI (U.out.symm.trans (zzF (n+1) k A _ p x true (by omega) (by rw [N.out];omega) X.out G.out (.inr (by omega))))
      go_wp2
      go_ret2
      exact zcU K.out (d.trans (q.mono d.size))
  ·obtain rfl:k=n+1:=by omega
   have K:=ynI (U.out.symm.trans (ylC (n+1) (n+1) A _ (Nat.le_refl _)))
   go_wp2
   go_ret2
   exact zcU K.out (d.trans (E.mono d.size))
def goS:Int→List (List UInt8)→Int×Bool
 |A,[]=>(A,true)
 |A,p::r=>if (decZ p 255).2=true then goS (A*256+(decZ p 255).1) r else (0,false)
def zbN (l:List UInt8):Int×Bool:=if (zaS l).length=4 then goS 0 (zaS l) else (0,false)
theorem zoJ (l:List UInt8) (m:Int) (d:0≤m):0≤(decZ l m).1∧(decZ l m).1≤m:=by
 unfold decZ
 split
 ·exact ⟨Int.le_refl _,d⟩
 ·rename_i h
  split
  ·exact ⟨Int.le_refl _,d⟩
  ·refine ⟨zoC l ?_,by show decN l≤m;omega⟩
   cases e:zbG 10 l with
   |true=>rfl
   |false=>rw [e] at h;simp at h
theorem z0A (k:Nat) (ps:List (List UInt8)) (h:k<ps.length):ps.drop k=ps.getD k []::ps.drop (k+1):=by
 rw [List.drop_eq_getElem_cons h,List.getD,List.getElem?_eq_getElem h]
 rfl
theorem ylN (k:Nat) (A:Int) (ps:List (List UInt8)) (p:List UInt8) (x:Int) (h:k<ps.length) (d:ps.getD k []=p) (e:decZ p 255=(x,true)):goS A (ps.drop k)=goS (A*256+x) (ps.drop (k+1)):=by
 rw [z0A k ps h,d]
 show (if _ then _ else _)=_
 rw [e,if_pos rfl]
theorem goS_no (k:Nat) (A:Int) (ps:List (List UInt8)) (p:List UInt8) (x:Int) (h:k<ps.length) (d:ps.getD k []=p) (e:decZ p 255=(x,false)):goS A (ps.drop k)=(0,false):=by
 rw [z0A k ps h,d]
 show (if _ then _ else _)=_
 rw [e]
 rfl
theorem ymC (k:Nat) (A:Int) (ps:List (List UInt8)) (h:ps.length≤k):goS A (ps.drop k)=(A,true):=by
 rw [List.drop_eq_nil_of_le h]
 rfl
theorem zvC {l:List UInt8} (h:(zaS l).length=4):zbN l=goS 0 ((zaS l).drop 0):=by
 unfold zbN;rw [if_pos h];rfl
theorem zpA {l:List UInt8} (h:(zaS l).length≠4):zbN l=(0,false):=by
 unfold zbN;rw [if_neg h]
theorem zlA (s:ByteArray) (w:World) (hs:s.size≤1073741824):
  Calls Tryz.prog 278 #[.string s] w (zwK w (zbN s.data.toList)):=by
 by_cases N:(zaS s.data.toList).length=4
 ·have Q:=ynI N
  have HZ:=ynI (zvC N)
  clear N
  go_enter Tryz.func278,Tryz.ntmps278
  go_wp2_with fail
  refine (zdD s _ _ hs).mono ?_
  rintro e E ⟨v,rfl,T,f⟩
  have B:zaZ w.heap.size E v (zaS s.data.toList):=T
  obtain ⟨g,X,rfl,q,hg,d⟩:=B.form2 (by rw [Q.out];omega)
  rw [Q.out] at q d ⊢
  have I:=ynI d
  clear T B d
  go_wp2
  go_loopw [5,17] (fun v i wr=> ∃(k:Nat) (A:Int),k≤4∧i= .int .i64 k∧v= .int .u32 A∧0≤A∧Hid (A<256^k)∧Hid (goS A ((zaS s.data.toList).drop k)=zbN s.data.toList)∧Below E.heap.size E wr) (fun _ i _=>4 - (intOf i).toNat)
  case atStart=>exact ⟨0,0,by omega,rfl,rfl,by omega,(by show (0:Int)<256^0;decide),HZ.out.symm,Below.refl _ _⟩
  case round=>
   obtain ⟨k,A,hk,rfl,rfl,qj,U,HG,j⟩:=hrel
   by_cases L:k<4
   ·obtain ⟨p,D⟩: ∃p,(zaS s.data.toList).getD k []=p:=⟨_,rfl⟩
    have H:=I.out k L
    rw [D] at H
    have qb:wr.cell? ⟨g,k,none⟩=some (.string ⟨p.toArray⟩):=(j.cell (p:=⟨g,k,none⟩) hg).trans H
    have qf:p.length≤s.size:=by rw [←D,←zaN];exact ziD _ _ _
    obtain ⟨x,b,J⟩: ∃x b,decZ p 255=(x,b):=⟨_,_,rfl⟩
    have hx:0≤x∧x≤255:=by have h9:=zoJ p 255 (by decide);rw [J] at h9;exact h9
    obtain ⟨qd,qi⟩:=hx
    have qg:A<16777216:=by
     have S:=U.out
     rcases (show k=0∨k=1∨k=2∨k=3 from by omega) with rfl|rfl|rfl|rfl
     all_goals
      simp at S
      omega
    have O:A*256+x<256^(k+1):=by
     have S:=U.out
     rcases (show k=0∨k=1∨k=2∨k=3 from by omega) with rfl|rfl|rfl|rfl
     all_goals
      simp at S ⊢
      omega
    have Z:=ynI O
    have qc:bits .or .u32 (A*256) x=A*256+x:=zyY 8 _ _ (by omega) (by omega) (by omega) (by omega) (by omega) (by omega)
    have HP:=ynI D
    have G:=ynI J
    clear D J H O
    cases b with
    |true=>
     have M:=HG.out
     rw [ylN k A _ p x (by rw [Q.out];exact L) HP.out G.out] at M
     have qa:=ynI M
     clear M
     go_wp2_with fail
     refine (znY ⟨p.toArray⟩ 255 _ (by rw [zaF];omega) (by decide) (by decide)).mono ?_
     rw [zaM,G.out]
     rintro e Y ⟨rfl,o⟩
     have K:Below E.heap.size E Y:=j.trans (o.mono j.size)
     clear o
     go_wp2
     go_roundw
     case rel=>exact ⟨k+1,A*256+x,by omega,by go_num,rfl,by omega,Z,qa,K⟩
     case measure=>simp [intOf];omega
    |false=>
     have HN:=ynI (HG.out.symm.trans (goS_no k A _ p x (by rw [Q.out];exact L) HP.out G.out))
     go_wp2_with fail
     refine (znY ⟨p.toArray⟩ 255 _ (by rw [zaF];omega) (by decide) (by decide)).mono ?_
     rw [zaM,G.out]
     rintro e Y ⟨rfl,o⟩
     have K:Below E.heap.size E Y:=j.trans (o.mono j.size)
     clear o
     go_wp2
     go_ret2
     exact zcU HN.out (f.trans (K.mono f.size))
   ·have C:=HG.out
    rw [ymC k A _ (by rw [Q.out];omega)] at C
    have HF:=ynI C.symm
    clear C
    go_wp2
    go_ret2
    exact zcU HF.out (f.trans (j.mono f.size))
 ·obtain ⟨m,V⟩: ∃m,(zaS s.data.toList).length=m:=⟨_,rfl⟩
  have HZ:=ynI (zpA N)
  have h0:0<(zaS s.data.toList).length:=zkK _ _
  rw [V] at N h0
  have qe:m≤1073741825:=by
   have S:=zcV (hasB [46]) s.data.toList
   rw [zaN] at S
   have h2:=V
   unfold zaS at h2
   omega
  have qh:((m:Int) !=4)=true:=by rw [bne_iff_ne];omega
  have U:=ynI V
  clear V N
  go_enter Tryz.func278,Tryz.ntmps278
  go_wp2_with fail
  refine (zdD s _ _ hs).mono ?_
  rintro e E ⟨v,rfl,T,f⟩
  have B:zaZ w.heap.size E v (zaS s.data.toList):=T
  obtain ⟨g,X,rfl,q,hg,d⟩:=B.form2 (by rw [U.out];omega)
  rw [U.out]
  clear T B d q
  go_wp2
  go_ret2
  exact zcU HZ.out f
def dec3 (u:Nat):List UInt8:=
 if u<10 then [UInt8.ofNat (48+u)] else if u<100 then [UInt8.ofNat (48+u/10),UInt8.ofNat (48+u % 10)] else [UInt8.ofNat (48+u/100),UInt8.ofNat (48+u/10 % 10),UInt8.ofNat (48+u % 10)]
theorem zoQ (u:Nat) (h:u<1000):Lib.decDigits u=dec3 u:=by
 unfold dec3
 by_cases d:u<10
 ·rw [if_pos d,Lib.decDigits,dif_pos d]
 ·rw [if_neg d,Lib.decDigits,dif_neg d,Lib.decDigits]
  by_cases e:u<100
  ·rw [if_pos e,dif_pos (by omega)];rfl
  ·rw [if_neg e,dif_neg (by omega),Lib.decDigits,dif_pos (by omega),show u/10/10=u/100 from by omega];rfl
theorem ycW (n:Int) (d:0≤n) (e:n<1000):Lib.itoa n=dec3 n.toNat:=by
 unfold Lib.itoa
 rw [if_neg (by omega),zoQ _ (by omega)]
theorem z7A: ∀u:Fin 256,zcK (dec3 u.val)=((u.val:Int),true):=by decide+kernel
theorem yaB: ∀u:Fin 256,(dec3 u.val).all (fun c=> !hasB [46] c)=true:=by decide+kernel
theorem yfQ: ∀u:Fin 256,(dec3 u.val).isEmpty=false:=by decide+kernel
theorem zlP (u:Nat) (h:u<256):zcK (dec3 u)=((u:Int),true):=z7A ⟨u,h⟩
theorem zlY (u:Nat) (h:u<256): ∀c∈dec3 u,hasB [46] c=false:=by
 intro c d
 have:=List.all_eq_true.1 (yaB ⟨u,h⟩) c d
 simpa using this
theorem zwL (u:Nat) (h:u<256):dec3 u≠[]:=by
 intro e
 have:=yfQ ⟨u,h⟩
 simp only at this
 rw [e] at this
 cases this
theorem zbJ (u:Nat):(dec3 u).length≤3:=by
 unfold dec3
 repeat' split
 all_goals simp
theorem zvD (p:UInt8→Bool) (l:List UInt8): ∀(xs:List (List UInt8)) (t:List UInt8),l.foldl (zaP p) (xs,t)=(xs++(l.foldl (zaP p) ([],t)).1,(l.foldl (zaP p) ([],t)).2):=by
 induction l with
 |nil=>intro xs t;simp
 |cons c l d=>
  intro xs t
  simp only [List.foldl_cons,zaP]
  by_cases e:p c=true
  ·simp only [e,if_true]
   rw [d (xs++[t]) [],d ([]++[t]) []]
   simp
  ·have f:p c=false:=by simpa using e
   simp only [f]
   rw [show (if false=true then (xs++[t],([]:List UInt8)) else (xs,t++[c]))=(xs,t++[c]) from rfl,d xs (t++[c])]
   rfl
theorem ziZ (a r:List UInt8) (h: ∀c∈a,hasB [46] c=false):zaS (a++[46]++r)=a::zaS r:=by
 unfold zaS zbF spl
 rw [List.foldl_append,List.foldl_append,zlU _ a [] [] h]
 have e:[46].foldl (zaP (hasB [46])) (([]:List (List UInt8)),([]:List UInt8)++a)=([a],[]):=by simp [zaP,has46]
 rw [e,zvD _ r [a] []]
 simp
theorem zpM (a:List UInt8) (h: ∀c∈a,hasB [46] c=false):zaS a=[a]:=by
 unfold zaS zbF spl
 rw [zlU _ a [] [] h]
 simp
def txt (a b c d:Nat):List UInt8:=dec3 a++[46]++(dec3 b++[46]++(dec3 c++[46]++dec3 d))
theorem zoW (a b c d:Nat) (g:a<256) (f:b<256) (e:c<256) (i:d<256):zaS (txt a b c d)=[dec3 a,dec3 b,dec3 c,dec3 d]:=by
 unfold txt
 rw [ziZ _ _ (zlY a g),ziZ _ _ (zlY b f),ziZ _ _ (zlY c e),zpM _ (zlY d i)]
theorem yhO (a b c d:Nat) (i:a<256) (g:b<256) (f:c<256) (e:d<256):ziH (txt a b c d)=((a:Int)*16777216+b*65536+c*256+d,true):=by
 unfold ziH ybB
 rw [zoW a b c d i g f e]
 have C:zhI [dec3 a,dec3 b,dec3 c,dec3 d]=4:=zkS 3 _ rfl (.inr (zwL d e))
 rw [C]
 have j:limZ 4 0=256:=rfl
 have A:limZ 4 (0+1)=256:=rfl
 have o:limZ 4 (0+1+1)=256:=rfl
 have q:limZ 4 (0+1+1+1)=256:=rfl
 have v0:wtZ 4 0=16777216:=rfl
 have D:wtZ 4 (0+1)=65536:=rfl
 have m:wtZ 4 (0+1+1)=256:=rfl
 have B:wtZ 4 (0+1+1+1)=1:=rfl
 show (if 4<4 then _ else goF 4 0 0 [dec3 a,dec3 b,dec3 c,dec3 d])=_
 rw [if_neg (by omega)]
 unfold goF
 rw [zlP a i,j,v0,if_pos ⟨rfl,by show (a:Int)<256;omega⟩]
 unfold goF
 rw [zlP b g,A,D,if_pos ⟨rfl,by show (b:Int)<256;omega⟩]
 unfold goF
 rw [zlP c f,o,m,if_pos ⟨rfl,by show (c:Int)<256;omega⟩]
 unfold goF
 rw [zlP d e,q,B,if_pos ⟨rfl,by show (d:Int)<256;omega⟩]
 unfold goF
 congr 1
 show (0:Int)+(a:Int)*16777216+(b:Int)*65536+(c:Int)*256+(d:Int)*1=_
 omega
def txtZ (n:Int):List UInt8:=txt (n/16777216).toNat (n/65536 % 256).toNat (n/256 % 256).toNat (n % 256).toNat
theorem yiE (n:Int):(txtZ n).length≤15:=by
 unfold txtZ txt
 have d:=zbJ (n/16777216).toNat
 have f:=zbJ (n/65536 % 256).toNat
 have e:=zbJ (n/256 % 256).toNat
 have g:=zbJ (n % 256).toNat
 simp only [List.length_append,List.length_cons,List.length_nil]
 omega
theorem ycM (n:Int) (d:0≤n) (e:n≤4294967295):ziH (txtZ n)=(n,true):=by
 unfold txtZ
 rw [yhO _ _ _ _ (by omega) (by omega) (by omega) (by omega)]
 congr 1
 omega
abbrev PowTab (w:World):Prop:=Lib.TabIs Tryz.prog w "internal/strconv.uint64pow10" .u64 Lib.pow10Tab
theorem zaC {w w':World} (h:PowTab w) (d:Below w.heap.size w w'):PowTab w':=
 Lib.tabBelow_of_tabIs h w' d
theorem zmB (n:Int) (w:World) (f:0≤n) (g:n≤255) (d:PowTab w):
  Calls Tryz.prog 51 #[.int .i64 n] w fun e w'=>e= .returned (.string ⟨(dec3 n.toNat).toArray⟩)∧Below w.heap.size w w':=by
 refine (Tryz.strconv_Itoa n (by omega) (by omega) w d).mono ?_
 rintro e w' ⟨rfl,k,os,rfl⟩
 rw [ycW n f (by omega)]
 exact ⟨rfl,Lib.below_grow _ _ (Nat.le_refl _) _ _⟩
theorem zqR (x:Int) (_h:0≤x):IntKind.u8.wrap x=x % 256:=by rw [IntKind.wrap_u8]
theorem z3O (n:Int) (w:World) (m:0≤n) (f:n≤4294967295):
  Calls Tryz.prog 393 #[.int .u32 n] w fun e w'=>e= .returned (.agg #[.int .u8 (n/16777216),.int .u8 (n/65536 % 256),.int .u8 (n/256 % 256),.int .u8 (n % 256)])∧Below w.heap.size w w':=by
 have g:IntKind.u8.wrap (n/16777216)=n/16777216:=by rw [zqR _ (by omega)];omega
 have i:IntKind.u8.wrap (n/65536)=n/65536 % 256:=zqR _ (by omega)
 have j:IntKind.u8.wrap (n/256)=n/256 % 256:=zqR _ (by omega)
 have d:IntKind.u8.wrap n=n % 256:=zqR _ (by omega)
 go_enter Tryz.func393,Tryz.ntmps393
 go_wp2
 exact bodyPost_ret (v:= .agg #[.int .u8 (n/16777216),.int .u8 (n/65536 % 256),.int .u8 (n/256 % 256),.int .u8 (n % 256)]) (by simp [results,Tryz.results393,go_sem]) rfl ⟨rfl,(Below.refl _ _).alloc (Nat.le_refl _) _⟩
theorem yeT (i:Nat) (x y:Int) (g:0≤x) (m:x % 2^i=0) (d:x<18446744073709551616) (e:0≤y) (j:y<2^i) (f:y<18446744073709551616):bits .or .u64 x y=x+y:=
 bits_join .u64 64 (by decide) (fun n q o=>by rw [IntKind.wrap_u64];omega) i x y g m d e j f
theorem cat2 (x y:List UInt8):ByteArray.mk x.toArray++ByteArray.mk y.toArray=ByteArray.mk (x++y).toArray:=zjO x y
theorem cat3 (x y:List UInt8):ByteArray.mk x.toArray++ByteArray.mk #[46]++ByteArray.mk y.toArray=ByteArray.mk (x++[46]++y).toArray:=by
 rw [show (ByteArray.mk #[46])=ByteArray.mk [46].toArray from rfl,zjO,zjO]
theorem yhN (W:World) (a b c d:Int):(Instr.index 360 (.agg #[.int .u8 a,.int .u8 b,.int .u8 c,.int .u8 d]) (.int .i64 0)).run Tryz.prog W= .ok (.int .u8 a) W:=by
 simp [Instr.index,run_underlying Tryz.underlying360,asIntOf,go_sem,Tryz.sizeOf5,Tryz.isAgg5]
theorem yhJ (W:World) (a b c d:Int):(Instr.index 360 (.agg #[.int .u8 a,.int .u8 b,.int .u8 c,.int .u8 d]) (.int .i64 1)).run Tryz.prog W= .ok (.int .u8 b) W:=by
 simp [Instr.index,run_underlying Tryz.underlying360,asIntOf,go_sem,Tryz.sizeOf5,Tryz.isAgg5]
theorem yiA (W:World) (a b c d:Int):(Instr.index 360 (.agg #[.int .u8 a,.int .u8 b,.int .u8 c,.int .u8 d]) (.int .i64 2)).run Tryz.prog W= .ok (.int .u8 c) W:=by
 simp [Instr.index,run_underlying Tryz.underlying360,asIntOf,go_sem,Tryz.sizeOf5,Tryz.isAgg5]
theorem yfF (W:World) (a b c d:Int):(Instr.index 360 (.agg #[.int .u8 a,.int .u8 b,.int .u8 c,.int .u8 d]) (.int .i64 3)).run Tryz.prog W= .ok (.int .u8 d) W:=by
 simp [Instr.index,run_underlying Tryz.underlying360,asIntOf,go_sem,Tryz.sizeOf5,Tryz.isAgg5]
def z9E (d e f g:Int):Nat→List UInt8
 |0=>[]
 |1=>dec3 d.toNat
 |2=>dec3 d.toNat++[46]++dec3 e.toNat
 |3=>dec3 d.toNat++[46]++dec3 e.toNat++[46]++dec3 f.toNat
 |_=>dec3 d.toNat++[46]++dec3 e.toNat++[46]++dec3 f.toNat++[46]++dec3 g.toNat
theorem zjR (f g e d:Int) (k:Nat):(z9E f g e d k).length≤15:=by
 have i:=zbJ f.toNat
 have m:=zbJ g.toNat
 have j:=zbJ e.toNat
 have o:=zbJ d.toNat
 unfold z9E
 split
 all_goals first|(simp;done)|(simp;omega)|omega
theorem z8Q (n:Int):z9E (n/16777216) (n/65536 % 256) (n/256 % 256) (n % 256) 4=txtZ n:=by
 simp [z9E,txtZ,txt]
def zdY (w:World) (l:List UInt8) (e:Ending) (w':World):Prop:=e= .returned (.string ⟨l.toArray⟩)∧Below w.heap.size w w'
theorem z7M (n:Int) (w:World) (U:0≤n) (S:n≤4294967295) (E:PowTab w):
  Calls Tryz.prog 391 #[.int .u32 n] w (zdY w (txtZ n)):=by
 have K:=ynI E
 have T:=ynI (z8Q n)
 clear E
 go_enter Tryz.func391,Tryz.ntmps391
 go_wp2_with fail
 refine (z3O n _ U S).mono ?_
 rintro e Z ⟨rfl,J⟩
 obtain ⟨A,I⟩: ∃b,n/16777216=b:=⟨_,rfl⟩
 obtain ⟨m,B⟩: ∃b,n/65536 % 256=b:=⟨_,rfl⟩
 obtain ⟨o,D⟩: ∃b,n/256 % 256=b:=⟨_,rfl⟩
 obtain ⟨q,C⟩: ∃b,n % 256=b:=⟨_,rfl⟩
 have l0:0≤A:=by omega
 have X:0≤m:=by omega
 have l2:0≤o:=by omega
 have l3:0≤q:=by omega
 have m0:A≤255:=by omega
 have Y:m≤255:=by omega
 have V:o≤255:=by omega
 have m3:q≤255:=by omega
 rw [I,B,D,C]
 have Q:=T.out
 rw [I,B,D,C] at Q
 have M:=ynI Q
 clear Q I B D C
 have N:=ynI (zaC K.out J)
 go_wp2
 go_loopw [3,8] (fun v i wr=> ∃(k:Nat),k≤4∧i= .int .i64 k∧v= .string ⟨(z9E A m o q k).toArray⟩∧Hid (PowTab wr)∧Below w.heap.size w wr) (fun _ i _=>4 - (intOf i).toNat)
 case atStart=>exact ⟨0,by omega,rfl,rfl,N,J⟩
 case round=>
  obtain ⟨k,hk,rfl,rfl,HT,f⟩:=hrel
  rcases (show k=0∨k=1∨k=2∨k=3∨k=4 from by omega) with rfl|rfl|rfl|rfl|rfl
  ·try rw [show ((0:Nat):Int)=0 from rfl]
   have H:=fun W=>yhN W A m o q
   have O:=zbJ A.toNat
   have L:=zjR A m o q 0
   go_wp2_with fail
   refine (zmB A _ (by omega) (by omega) HT.out).mono ?_
   rintro e G ⟨rfl,d⟩
   have j:Below w.heap.size w G:=f.trans (d.mono f.size)
   have g:=ynI (zaC HT.out d)
   clear d
   go_wp2
   go_roundw
   case rel=>exact ⟨1,by omega,(by first|rfl|go_num),(by first|rfl|exact ynK Value.string (cat3 _ _)|exact ynK Value.string (cat2 _ _)),g,j⟩
   case measure=>first|(simp [intOf];done)|(simp [intOf];omega)
  ·try rw [show ((1:Nat):Int)=1 from rfl]
   have H:=fun W=>yhJ W A m o q
   have O:=zbJ m.toNat
   have L:=zjR A m o q 1
   go_wp2_with fail
   refine (zmB m _ (by omega) (by omega) HT.out).mono ?_
   rintro e G ⟨rfl,d⟩
   have j:Below w.heap.size w G:=f.trans (d.mono f.size)
   have g:=ynI (zaC HT.out d)
   clear d
   go_wp2
   go_roundw
   case rel=>exact ⟨2,by omega,(by first|rfl|go_num),(by first|rfl|exact ynK Value.string (cat3 _ _)|exact ynK Value.string (cat2 _ _)),g,j⟩
   case measure=>first|(simp [intOf];done)|(simp [intOf];omega)
  ·try rw [show ((2:Nat):Int)=2 from rfl]
   have H:=fun W=>yiA W A m o q
   have O:=zbJ o.toNat
   have L:=zjR A m o q 2
   go_wp2_with fail
   refine (zmB o _ (by omega) (by omega) HT.out).mono ?_
   rintro e G ⟨rfl,d⟩
   have j:Below w.heap.size w G:=f.trans (d.mono f.size)
   have g:=ynI (zaC HT.out d)
   clear d
   go_wp2
   go_roundw
   case rel=>exact ⟨3,by omega,(by first|rfl|go_num),(by first|rfl|exact ynK Value.string (cat3 _ _)|exact ynK Value.string (cat2 _ _)),g,j⟩
   case measure=>first|(simp [intOf];done)|(simp [intOf];omega)
  ·try rw [show ((3:Nat):Int)=3 from rfl]
   have H:=fun W=>yfF W A m o q
   have O:=zbJ q.toNat
   have L:=zjR A m o q 3
   go_wp2_with fail
   refine (zmB q _ (by omega) (by omega) HT.out).mono ?_
   rintro e G ⟨rfl,d⟩
   have j:Below w.heap.size w G:=f.trans (d.mono f.size)
   have g:=ynI (zaC HT.out d)
   clear d
   go_wp2
   go_roundw
   case rel=>exact ⟨4,by omega,(by first|rfl|go_num),(by first|rfl|exact ynK Value.string (cat3 _ _)|exact ynK Value.string (cat2 _ _)),g,j⟩
   case measure=>first|(simp [intOf];done)|(simp [intOf];omega)
  ·try rw [show ((4:Nat):Int)=4 from rfl]
   go_wp2
   go_ret
   exact ⟨ynK (fun l:List UInt8=>Ending.returned (.string ⟨l.toArray⟩)) M.out,f⟩
theorem dec3_1: ∀i:Fin 10,dec3 i.val=[UInt8.ofNat (48+i.val)]:=by decide+kernel
theorem dec3_2: ∀i j:Fin 10,i.val≠0→dec3 (i.val*10+j.val)=[UInt8.ofNat (48+i.val),UInt8.ofNat (48+j.val)]:=by decide+kernel
theorem dec3_3: ∀i j k:Fin 10,i.val≠0→dec3 ((i.val*10+j.val)*10+k.val)=[UInt8.ofNat (48+i.val),UInt8.ofNat (48+j.val),UInt8.ofNat (48+k.val)]:=by decide+kernel
theorem zdO (c:UInt8) (h:digC 10 c=true): ∃i:Nat,i<10∧c=UInt8.ofNat (48+i)∧c.toNat=48+i∧valZ (c.toNat:Int)=(i:Int):=by
 rw [ziV] at h
 obtain ⟨d,e⟩:=ztZ h
 refine ⟨c.toNat - 48,by omega,?_,by omega,?_⟩
 ·apply UInt8.toNat_inj.1
  rw [show 48+(c.toNat - 48)=c.toNat from by omega]
  simp
 ·rw [zpU d e];omega
theorem zjX (p:List UInt8) (x:Int) (h:decZ p 255=(x,true)):0≤x∧x≤255∧p=dec3 x.toNat:=by
 have J:=zoJ p 255 (by decide)
 rw [h] at J
 refine ⟨J.1,J.2,?_⟩
 unfold decZ at h
 split at h
 ·exact absurd (ynK Prod.snd h) (by simp)
 ·rename_i g
  split at h
  ·exact absurd (ynK Prod.snd h) (by simp)
  ·rename_i L
   have B:decN p=x:=ynK Prod.fst h
   have E:zbG 10 p=true:=by
    cases E:zbG 10 p with
    |true=>rfl
    |false=>rw [E] at g;simp at g
   rw [E] at g
   have f: ∀c∈p,digC 10 c=true:=List.all_eq_true.1 E
   match p,B,g,f,L,E with
   |[],_,g,_,_,_=>simp at g
   |[a],B,_,f,_,_=>
    obtain ⟨i,hi,G,_,N⟩:=zdO a (f a (by simp))
    have:x=(i:Int):=by rw [←B];simp [decN,N]
    rw [this,G]
    exact (dec3_1 ⟨i,hi⟩).symm
   |[a,b],B,g,f,_,_=>
    obtain ⟨i,hi,G,m,q⟩:=zdO a (f a (by simp))
    obtain ⟨j,H,C,_,o⟩:=zdO b (f b (by simp))
    have A:i≠0:=by
     intro e
     apply g
     simp [m,e]
    have:x=((i*10+j:Nat):Int):=by rw [←B];simp [decN,q,o]
    rw [this,G,C]
    exact (dec3_2 ⟨i,hi⟩ ⟨j,H⟩ A).symm
   |[a,b,c],B,g,f,_,_=>
    obtain ⟨i,hi,G,m,q⟩:=zdO a (f a (by simp))
    obtain ⟨j,H,C,_,o⟩:=zdO b (f b (by simp))
    obtain ⟨k,M,I,_,D⟩:=zdO c (f c (by simp))
    have A:i≠0:=by
     intro e
     apply g
     simp [m,e]
    have:x=(((i*10+j)*10+k:Nat):Int):=by rw [←B];simp [decN,q,o,D]
    rw [this,G,C,I]
    exact (dec3_3 ⟨i,hi⟩ ⟨j,H⟩ ⟨k,M⟩ A).symm
   |a::b::c::d::r,B,g,f,L,E=>
    exfalso
    obtain ⟨i,hi,G,m,q⟩:=zdO a (f a (by simp))
    obtain ⟨j,H,_,_,o⟩:=zdO b (f b (by simp))
    obtain ⟨k,M,_,_,D⟩:=zdO c (f c (by simp))
    obtain ⟨l,O,_,_,K⟩:=zdO d (f d (by simp))
    have A:i≠0:=by
     intro e
     apply g
     simp [m,e]
    have S:=zlK (a::b::c::d::r) 4 E
    have Q:decN ((a::b::c::d::r).take 4)=(((i:Int)*10+j)*10+k)*10+l:=by simp [decN,q,o,D,K]
    omega
theorem z9N (l:List (List UInt8)): ∀(A x:Int),goS A l=(x,false)→x=0:=by
 induction l with
 |nil=>intro A x h;exact absurd (ynK Prod.snd h) (by simp [goS])
 |cons p r d=>
  intro A x h
  unfold goS at h
  split at h
  ·exact d _ _ h
  ·exact (ynK Prod.fst h).symm
theorem zsB (l:List UInt8) (x:Int) (h:zbN l=(x,false)):x=0:=by
 unfold zbN at h
 split at h
 ·exact z9N _ _ _ h
 ·exact (ynK Prod.fst h).symm
theorem zlT {A x:Int} {p:List UInt8} {r:List (List UInt8)} (h:goS A (p::r)=(x,true)): ∃y,decZ p 255=(y,true)∧goS (A*256+y) r=(x,true):=by
 unfold goS at h
 split at h
 ·rename_i d
  refine ⟨(decZ p 255).1,?_,h⟩
  rw [←d]
 ·exact absurd (ynK Prod.snd h) (by simp)
theorem zvY (l:List UInt8) (x:Int) (h:zbN l=(x,true)):0≤x∧x≤4294967295∧l=txtZ x:=by
 unfold zbN at h
 split at h
 ·rename_i G
  have i:Lib.join (zaS l) [46]=l:=z3A l 46
  match V:zaS l,G,h,i with
  |[C,H,j,I],_,h,i=>
   obtain ⟨f,q,h⟩:=zlT h
   obtain ⟨e,J,h⟩:=zlT h
   obtain ⟨g,m,h⟩:=zlT h
   obtain ⟨d,A,h⟩:=zlT h
   have S:(((0*256+f)*256+e)*256+g)*256+d=x:=ynK Prod.fst h
   obtain ⟨L,U,rfl⟩:=zjX C f q
   obtain ⟨K,O,rfl⟩:=zjX H e J
   obtain ⟨T,M,rfl⟩:=zjX j g m
   obtain ⟨Q,N,rfl⟩:=zjX I d A
   refine ⟨by omega,by omega,?_⟩
   rw [←i]
   have B:x/16777216=f:=by omega
   have D:x/65536 % 256=e:=by omega
   have o:x/256 % 256=g:=by omega
   have E:x % 256=d:=by omega
   unfold txtZ
   rw [B,D,o,E]
   simp [Lib.join,txt,List.intercalate]
 ·exact absurd (ynK Prod.snd h) (by simp)
def valP (b:Int) (L:List UInt8):Int:=L.foldl (fun n c=>n*b+valZ (c.toNat:Int)) 0
def dgt (d:Nat):UInt8:=if d<10 then UInt8.ofNat (48+d) else UInt8.ofNat (87+d)
theorem yiR: ∀d:Fin 16,valZ ((dgt d.val).toNat:Int)=(d.val:Int):=by decide+kernel
theorem zrN (d:Nat) (h:d<16):valZ ((dgt d).toNat:Int)=(d:Int):=yiR ⟨d,h⟩
theorem ycU (b:Int) (d:Nat) (h:d<16) (e:(d:Int)<b):digC b (dgt d)=true:=znV (zrN d h) (by omega) e
theorem ydT (b:Int) (L:List UInt8): ∀a:Int,L.foldl (fun n c=>n*b+valZ (c.toNat:Int)) a=a*b^L.length+valP b L:=by
 unfold valP
 induction L with
 |nil=>intro a;simp
 |cons c L d=>
  intro a
  simp only [List.foldl_cons,List.length_cons]
  rw [d,d (0*b+_),Int.pow_succ]
  rw [Int.zero_mul,Int.zero_add,Int.add_mul,Int.mul_assoc,Int.mul_comm b (b^L.length),Int.add_assoc]
theorem zsS (b:Int) (c:UInt8) (L:List UInt8):valP b (c::L)=valZ (c.toNat:Int)*b^L.length+valP b L:=by
 show (c::L).foldl _ 0=_
 rw [List.foldl_cons,ydT,Int.zero_mul,Int.zero_add]
theorem z8H (b:Nat) (v:Nat) (T:List UInt8) (u:Int) (f:v % b<16) (h:(v:Int)*(b:Int)^T.length+valP b T=u):
  ((v/b:Nat):Int)*(b:Int)^(dgt (v % b)::T).length+valP b (dgt (v % b)::T)=u:=by
 rw [zsS,zrN _ f,←h,List.length_cons,Int.pow_succ]
 have e:(v:Int)=((v/b:Nat):Int)*b+((v % b:Nat):Int):=by
  have:=Nat.div_add_mod v b
  have d:v=(v/b)*b+v % b:=by rw [Nat.mul_comm];exact this.symm
  exact_mod_cast d
 conv=>rhs;rw [e]
 rw [Int.add_mul,Int.mul_assoc,Int.mul_comm (b:Int) ((b:Int)^T.length)]
 omega
theorem znZ (b:Int) (g:0≤b) (L:List UInt8) (e:zbG b L=true):0≤valP b L:=by
 have d: ∀(L:List UInt8) (n:Int),0≤n→zbG b L=true→0≤L.foldl (fun n c=>n*b+valZ (c.toNat:Int)) n:=by
  intro L
  induction L with
  |nil=>intro n h _;exact h
  |cons c L i=>
   intro n h e
   have f:digC b c=true∧zbG b L=true:=by simpa [zbG] using e
   have m:=of_decide_eq_true f.1
   have j:0≤n*b:=Int.mul_nonneg h g
   exact i (n*b+valZ (c.toNat:Int)) (by omega) f.2
 exact d L 0 (Int.le_refl _) e
end
section
open Go.RowKit Go.Sort Go.Lib
def bruTab:List Int:=[0,1,56,2,57,49,28,3,61,58,42,50,38,29,17,4,62,47,59,36,45,43,51,22,53,39,33,30,24,18,12,5,63,55,48,27,60,41,37,16,46,35,44,21,52,32,23,11,54,26,40,15,34,20,31,10,25,14,19,9,13,8,7,6]
abbrev BruTab (w:World):Prop:=Lib.TabIs Tryz.prog w "math/bits.deBruijn64tab" .u8 bruTab
theorem zaB {w w':World} (h:BruTab w) (d:Below w.heap.size w w'):BruTab w':=
 Lib.tabBelow_of_tabIs h w' d
theorem yjH (w:World) (h:BruTab w) (i:Nat) (hi:i<64):w.cell? ⟨5,i,none⟩=some (.int .u8 (bruTab.getD i 0)):=
 Lib.TabIs.cell h (by kernel_rfl) i (by simpa [bruTab] using hi)
theorem tz64_8 (w:World) (h:BruTab w):Calls Tryz.prog 311 #[.int .u64 8] w fun e w'=>e= .returned (.int .i64 3)∧w=w':=by
 have d:w.cell? ⟨5,7,none⟩=some (.int .u8 3):=yjH w h 7 (by decide)
 have f:IntKind.u64.wrap (-8)=18446744073709551608:=by decide
 have g:bits .and .u64 8 18446744073709551608=8:=by decide
 clear h
 go_enter Tryz.func311,Tryz.ntmps311
 go_wp2
 go_ret
 exact ⟨rfl,rfl⟩
theorem z9I (w:World) (h:BruTab w):Calls Tryz.prog 311 #[.int .u64 16] w fun e w'=>e= .returned (.int .i64 4)∧w=w':=by
 have d:w.cell? ⟨5,15,none⟩=some (.int .u8 4):=yjH w h 15 (by decide)
 have f:IntKind.u64.wrap (-16)=18446744073709551600:=by decide
 have g:bits .and .u64 16 18446744073709551600=16:=by decide
 clear h
 go_enter Tryz.func311,Tryz.ntmps311
 go_wp2
 go_ret
 exact ⟨rfl,rfl⟩
theorem tz_16 (w:World) (h:BruTab w):Calls Tryz.prog 287 #[.int .u64 16] w fun e w'=>e= .returned (.int .i64 4)∧w=w':=by
 have HT:=ynI h
 clear h
 go_enter Tryz.func287,Tryz.ntmps287
 go_wp2_with (go_at_call 311;refine (z9I _ HT.out).mono ?_;rintro e w' ⟨rfl,rfl⟩)
 go_ret
 exact ⟨rfl,rfl⟩
theorem ykR (w:World):Calls Tryz.prog 286 #[.int .i64 16] w fun e w'=>e= .returned (.bool true)∧w=w':=by
 have d:bits .and .i64 16 15=0:=by decide
 go_enter Tryz.func286,Tryz.ntmps286
 go_wp2
 go_ret
 exact ⟨rfl,rfl⟩
def ydB:Array Value:= #[.int .u8 0,.int .u8 0,.int .u8 0,.int .u8 0,.int .u8 0,.int .u8 0,.int .u8 0,.int .u8 0,.int .u8 0,.int .u8 0,.int .u8 0,.int .u8 0,.int .u8 0,.int .u8 0,.int .u8 0,.int .u8 0,.int .u8 0,.int .u8 0,.int .u8 0,.int .u8 0,.int .u8 0,.int .u8 0,.int .u8 0,.int .u8 0,.int .u8 0,.int .u8 0,.int .u8 0,.int .u8 0,.int .u8 0,.int .u8 0,.int .u8 0,.int .u8 0,.int .u8 0,.int .u8 0,.int .u8 0,.int .u8 0,.int .u8 0,.int .u8 0,.int .u8 0,.int .u8 0,.int .u8 0,.int .u8 0,.int .u8 0,.int .u8 0,.int .u8 0,.int .u8 0,.int .u8 0,.int .u8 0,.int .u8 0,.int .u8 0,.int .u8 0,.int .u8 0,.int .u8 0,.int .u8 0,.int .u8 0,.int .u8 0,.int .u8 0,.int .u8 0,.int .u8 0,.int .u8 0,.int .u8 0,.int .u8 0,.int .u8 0,.int .u8 0,.int .u8 0]
def zeO (B i:Nat) (T:List UInt8) (w:World):Prop:=
 ∃d:Array Value,w.heap[B]? =some (.cells d 306 (0,0))∧d.size=65∧i+T.length=65∧ ∀j x,T[j]? =some x→d[i+j]? =some (.int .u8 (x.toNat:Int))
theorem zrH (w:World):zeO w.heap.size 65 [] (w.alloc (.cells ydB 306)):=
 ⟨ydB,heap_alloc_new w _,rfl,rfl,fun j x h=>by simp at h⟩
theorem zeO.cell {B i:Nat} {T:List UInt8} {w:World} (h:zeO B i T w) (k:Nat) (f:k<65): ∃u,w.cell? ⟨B,k,none⟩=some u:=by
 obtain ⟨d,e,g,_,_⟩:=h
 rw [cell_of_row w B k d _ _ e]
 exact ⟨_,Array.getElem?_eq_getElem (by omega)⟩
theorem zeO.frozen {B i:Nat} {T:List UInt8} {w:World} (h:zeO B i T w) (k:Nat):w.frozen? ⟨B,k,none⟩=false:=by
 obtain ⟨e,d,_,_,_⟩:=h
 simp [World.frozen?,d]
theorem zeO.put {B i:Nat} {T:List UInt8} {w:World} (h:zeO B (i+1) T w) (c:UInt8):zeO B i (c::T) (w.setCell ⟨B,i,none⟩ (.int .u8 (c.toNat:Int))):=by
 obtain ⟨d,f,m,o,g⟩:=h
 refine ⟨d.setIfInBounds i (.int .u8 (c.toNat:Int)),?_,by simpa using m,by simp;omega,fun j x e=> ?_⟩
 ·simp [World.setCell,Array.getElem?_modify,f]
 ·rw [Array.getElem?_setIfInBounds]
  cases j with
  |zero=>
   simp at e
   subst e
   rw [if_pos (by omega),if_pos (by omega)]
  |succ j=>
   rw [if_neg (by omega),show i+(j+1)=i+1+j from by omega]
   exact g j x (by simpa using e)
theorem zeO.conv {B i:Nat} {T:List UInt8} {w:World} (h:zeO B i T w):
  (convert 158 9 (.slice (some ⟨B,i,none⟩) (65 - i) (65 - i))).run Tryz.prog w= .ok (.string ⟨T.toArray⟩) w:=by
 refine zeI w _ _ 5 _ _ ?_ Tryz.underlying158 Tryz.underlying5 Tryz.underlying9
 obtain ⟨e,g,q,o,m⟩:=h
 refine ⟨_,65 - i,by rw [Lib.byteCells_length,show 65 - i=T.length from by omega],fun j u f=>⟨_,rfl,?_⟩⟩
 rw [Lib.add_plain,cell_of_row w B (i+j) e _ _ g]
 have d: ∃x,T[j]? =some x∧u= .int .u8 (x.toNat:Int):=by
  simp only [Lib.byteCells,List.getElem?_map,Option.map_eq_some_iff] at f
  obtain ⟨x,d,rfl⟩:=f
  exact ⟨x,d,rfl⟩
 obtain ⟨x,d,rfl⟩:=d
 exact m j x d
theorem dig36': ∀d:Fin 16,(ByteArray.mk #[48,49,50,51,52,53,54,55,56,57,97,98,99,100,101,102,103,104,105,106,107,108,109,110,111,112,113,114,115,116,117,118,119,120,121,122])[d.val]? =some (dgt d.val):=by decide+kernel
theorem dig36 (W:World) (d:Nat) (h:d<16):(Instr.index 9 (.string ⟨#[48,49,50,51,52,53,54,55,56,57,97,98,99,100,101,102,103,104,105,106,107,108,109,110,111,112,113,114,115,116,117,118,119,120,121,122]⟩) (.int .u64 (d:Int))).run Tryz.prog W= .ok (.int .u8 ((dgt d).toNat:Int)) W:=by
 rw [run_index_string W 9 _ .u64 (d:Int) Tryz.underlying9,dif_pos ⟨by omega,by show (d:Int)<36;omega⟩]
 have e:=dig36' ⟨d,h⟩
 have f:(ByteArray.mk #[48,49,50,51,52,53,54,55,56,57,97,98,99,100,101,102,103,104,105,106,107,108,109,110,111,112,113,114,115,116,117,118,119,120,121,122])[((d:Int)).toNat]'(by show _<36;omega)=dgt d:=by
  rw [ByteArray.getElem?_lt' _ _ (by show d<36;omega)] at e
  exact Option.some.inj e
 rw [f]
theorem ybY (v l:Nat) (h:v<2^(64 - l)) (e:8≤v):l≤60:=by
 by_cases d:l≤60
 ·exact d
 ·exfalso
  have:2^(64 - l)≤2^3:=Nat.pow_le_pow_right (by decide) (by omega)
  omega
theorem yhY (v l b:Nat) (h:v<2^(64 - l)) (f:l≤60) (d:2≤b):v/b<2^(64 - (l+1)):=by
 have e:64 - l=(64 - (l+1))+1:=by omega
 rw [e,Nat.pow_succ] at h
 rw [Nat.div_lt_iff_lt_mul (by omega)]
 exact Nat.lt_of_lt_of_le h (Nat.mul_le_mul_left _ d)
end
end
end Go.Proofs.YtegmcmgndllmaaaGreatDoor
