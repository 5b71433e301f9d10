/-
  What the law ResolveMeets leans on, and its walk (3 of 46).
-/
import Derived.Laws.BitsLemmas
import Derived.Deep.DeepCutAuto
import Derived.Lib.ItoaNum
import Derived.Test.YtmjappnpedjlnaaGreatDoorResolveMeetsPkS
import Derived.Lib.AppendIntMem
import Derived.Lib.SmallJoins
import Derived.Test.YtmjappnpedjlnaaGreatDoorResolveMeetsPkB
import Derived.Test.YtmjappnpedjlnaaGreatDoorResolveMeetsPkA
namespace Go.Proofs.YtmjappnpedjlnaaGreatDoor
set_option maxRecDepth 100000
set_option maxHeartbeats 16000000
abbrev yoM := @Lib.hid
abbrev yoN := @decide_eq_false
abbrev yoO := @congrArg
section
section
open Go.RowKit
def limZ (n i:Nat):Int:=if i+1=n then 256^(5 - n) else 256
def wtZ (n i:Nat):Int:=if i+1=n then 1 else 256^(3 - i)
def goF (n:Nat):Nat→Int→List (List UInt8)→Int×Bool
 |_,A,[]=>(A,true)
 |i,A,p::r=>if (zcZ p).2=true∧(zcZ p).1<limZ n i then goF n (i+1) (A+(zcZ p).1*wtZ n i) r else (0,false)
def zjA (ps:List (List UInt8)):Nat:=if 1<ps.length∧ps.getD (ps.length - 1) []=[] then ps.length - 1 else ps.length
def yiB (ps:List (List UInt8)):Int×Bool:=if 4<zjA ps then (0,false) else goF (zjA ps) 0 0 (ps.take (zjA ps))
def zlP (l:List UInt8):Int×Bool:=yiB (zaU l)
theorem zyS (b:Int) (hb:0≤b) (l:List UInt8) (hd:zbR b l=true):0≤numZ b l∧numZ b l≤1099511627776:=by
 have key: ∀(l:List UInt8) (n:Int),0≤n→n≤1099511627776→zbR b l=true→0≤l.foldl (zxN b) n∧l.foldl (zxN b) n≤1099511627776:=by
  intro l
  induction l with
  |nil=>intro n h0 h1 _;exact ⟨h0,h1⟩
  |cons c l ih=>
   intro n h0 h1 hd
   have h2:digC b c=true∧zbR b l=true:=by simpa [zbR] using hd
   have h3:=of_decide_eq_true h2.1
   have hp:0≤n*b:=Int.mul_nonneg h0 hb
   refine ih _ ?_ (ylR _) h2.2
   unfold zxN capZ
   split<;>omega
 exact key l 0 (Int.le_refl _) (by omega) hd
theorem zkT (l:List UInt8):0≤(zcZ l).1∧(zcZ l).1≤1099511627776:=by
 unfold zcZ
 split
 ·exact ⟨Int.le_refl _,by show (0:Int)≤_;omega⟩
 ·split
  ·have hb:=zpX l
   exact zyS _ (by omega) _ (by assumption)
  ·exact ⟨Int.le_refl _,by show (0:Int)≤_;omega⟩
theorem ynT (n k:Nat) (A:Int) (ps:List (List UInt8)) (h:n≤k):goF n k A ((ps.take n).drop k)=(A,true):=by
 rw [List.drop_eq_nil_of_le (by simp;omega)]
 rfl
theorem ztO (n k:Nat) (ps:List (List UInt8)) (h:k<n) (hn:n≤ps.length):(ps.take n).drop k=ps.getD k []::(ps.take n).drop (k+1):=by
 rw [List.drop_eq_getElem_cons (by simp;omega)]
 congr 1
 rw [List.getElem_take,List.getD,List.getElem?_eq_getElem (by omega)]
 rfl
theorem yeB (n k:Nat) (A:Int) (ps:List (List UInt8)) (p:List UInt8) (x:Int) (h:k<n) (hn:n≤ps.length) (hp:ps.getD k []=p) (hx:zcZ p=(x,true)) (hl:x<limZ n k):
  goF n k A ((ps.take n).drop k)=goF n (k+1) (A+x*wtZ n k) ((ps.take n).drop (k+1)):=by
 rw [ztO n k ps h hn,hp]
 show (if _ then _ else _)=_
 rw [hx,if_pos ⟨rfl,hl⟩]
theorem z0N (n k:Nat) (A:Int) (ps:List (List UInt8)) (p:List UInt8) (x:Int) (b:Bool) (h:k<n) (hn:n≤ps.length) (hp:ps.getD k []=p) (hx:zcZ p=(x,b)) (hl:b=false∨limZ n k≤x):
  goF n k A ((ps.take n).drop k)=(0,false):=by
 rw [ztO n k ps h hn,hp]
 show (if _ then _ else _)=_
 rw [hx,if_neg]
 rintro ⟨h1,h2⟩
 rcases hl with h3|h3
 ·rw [h3] at h1;cases h1
 ·exact absurd h2 (by show ¬x<_;omega)
theorem zpN (n:Nat) (ps:List (List UInt8)) (h:ps.length=n+1) (hc:n=0∨ps.getD n []≠[]):zjA ps=n+1:=by
 unfold zjA
 rw [h,Nat.add_sub_cancel,if_neg]
 rintro ⟨h1,h2⟩
 rcases hc with h3|h3
 ·omega
 ·exact h3 h2
theorem zvO (n:Nat) (ps:List (List UInt8)) (h:ps.length=n+2) (hx:ps.getD (n+1) []=[]):zjA ps=n+1:=by
 unfold zjA
 rw [h,show n+2 - 1=n+1 from rfl,hx,if_pos ⟨by omega,rfl⟩]
theorem yhB {l:List UInt8} {n:Nat} (hk:zjA (zaU l)=n) (h:n≤4):zlP l=goF n 0 0 (((zaU l).take n).drop 0):=by
 unfold zlP yiB
 rw [hk,if_neg (by omega)]
 rfl
theorem z5R {l:List UInt8} {n:Nat} (hk:zjA (zaU l)=n) (h:4<n):zlP l=(0,false):=by
 unfold zlP yiB
 rw [hk,if_pos h]
theorem z0C (i:Nat) (x y:Int) (hx0:0≤x) (hx:x % 2^i=0) (hx1:x<4294967296) (hy0:0≤y) (hy:y<2^i) (hy1:y<4294967296):bits .or .u32 x y=x+y:=
 bits_join .u32 32 (by decide) (fun n h0 h1=>by rw [IntKind.wrap_u32];omega) i x y hx0 hx hx1 hy0 hy hy1
theorem zbA.form2 {B:Nat} {w:World} {v:Value} {ps:List (List UInt8)} (h:zbA B w v ps) (hn:0<ps.length):
  ∃g cap,v= .slice (some ⟨g,0,none⟩) ps.length cap∧ps.length≤cap∧g<w.heap.size∧ ∀j,j<ps.length→w.cell? ⟨g,j,none⟩=some (.string ⟨(ps.getD j []).toArray⟩):=by
 obtain ⟨g,c,rfl,hg,hc⟩:=h.form hn
 refine ⟨g,c,rfl,?_,hg,hc⟩
 unfold zbA at h
 rcases h.2 with ⟨h0,_⟩|⟨g',cap,cur,hv,_,_,hle,_⟩
 ·cases h0
 ·cases hv;exact hle
def zxW (w:World) (x:Int×Bool) (e:Ending) (w':World):Prop:=e= .returned (.tuple #[.int .u32 x.1,.bool x.2])∧Below w.heap.size w w'
theorem zcX {w w':World} {x:Int×Bool} {n:Int} {b:Bool} (h:x=(n,b)) (hb:Below w.heap.size w w'):zxW w x (.returned (.tuple #[.int .u32 n,.bool b])) w':=by
 subst h;exact ⟨rfl,hb⟩
theorem zpO (l:List UInt8): ∃L x,(zaU l).length=L+1∧(zaU l).getD L []=x∧L≤l.length∧(0<L∧x=[]∧zjA (zaU l)=L∨(L=0∨x≠[])∧zjA (zaU l)=L+1):=by
 have h0:0<(zaU l).length:=zkH _ _
 have hl:=zdK (hasB [46]) l
 obtain ⟨L,hL⟩: ∃L,(zaU l).length=L+1:=⟨(zaU l).length - 1,by omega⟩
 refine ⟨L,_,hL,rfl,by unfold zaU at hL;omega,?_⟩
 by_cases h:0<L∧(zaU l).getD L []=[]
 ·obtain ⟨h1,h2⟩:=h
  refine .inl ⟨h1,h2,?_⟩
  obtain ⟨n,rfl⟩: ∃n,L=n+1:=⟨L - 1,by omega⟩
  exact zvO n _ hL h2
 ·have hc:L=0∨(zaU l).getD L []≠[]:=by
   by_cases e:L=0
   ·exact .inl e
   ·exact .inr fun e2=>h ⟨by omega,e2⟩
  exact .inr ⟨hc,zpN L _ hL hc⟩
theorem step4 (k n:Nat) (A x V:Int) (hk:k≤n) (hn:n≤3) (hA0:0≤A) (hA1:A<4294967296) (hA:A % 2^(32 - 8*k)=0) (hx0:0≤x) (hx:x<limZ (n+1) k)
  (hV:V=if k=n then x % 4294967296 else x % 4294967296*2^(24 - 8*k) % 4294967296):
  bits .or .u32 A V=A+x*wtZ (n+1) k∧0≤A+x*wtZ (n+1) k∧A+x*wtZ (n+1) k<4294967296∧(k+1≤n→(A+x*wtZ (n+1) k) % 2^(32 - 8*(k+1))=0):=by
 have key: ∀(i:Nat) (W:Int),A % 2^i=0→V=x*W→0≤x*W→x*W<2^i→x*W<4294967296→bits .or .u32 A V=A+x*W:=fun i W h1 h2 h3 h4 h5=>by rw [h2];exact z0C i A _ hA0 h1 hA1 h3 h4 h5
 obtain ⟨W,hW⟩: ∃W,wtZ (n+1) k=W:=⟨_,rfl⟩
 rw [hW]
 rcases (show n=0∨n=1∨n=2∨n=3 from by omega) with rfl|rfl|rfl|rfl<;>
  rcases (show k=0∨k=1∨k=2∨k=3 from by omega) with rfl|rfl|rfl|rfl<;>
  first
  |omega
  |(simp [limZ] at hx
    simp at hV hA
    simp [wtZ] at hW
    subst hW
    refine ⟨?_,by omega,by omega,fun h=>by first|omega|(simp;omega)⟩
    first
    |exact key 32 _ (by simpa using hA) (by omega) (by omega) (by omega) (by omega)
    |exact key 24 _ (by simpa using hA) (by omega) (by omega) (by omega) (by omega)
    |exact key 16 _ (by simpa using hA) (by omega) (by omega) (by omega) (by omega)
    |exact key 8 _ (by simpa using hA) (by omega) (by omega) (by omega) (by omega))
theorem lim4 (k n:Nat) (x:Int) (hk:k≤n) (hn:n≤3) (hx0:0≤x):(if k=n then x/2^(32 - 8*k) else x/256)=0↔x<limZ (n+1) k:=by
 rcases (show n=0∨n=1∨n=2∨n=3 from by omega) with rfl|rfl|rfl|rfl<;>
  rcases (show k=0∨k=1∨k=2∨k=3 from by omega) with rfl|rfl|rfl|rfl<;>
  first
  |omega
  |(simp [limZ];omega)
theorem z3I (s:ByteArray) (w:World) (hs:s.size≤1073741824):
  Calls Tryz.prog 128 #[.string s] w (zxW w (zlP s.data.toList)):=by
 obtain ⟨L,x,hL,hx,hLl,hc⟩:=zpO s.data.toList
 rw [zaN] at hLl
 go_enter Tryz.func128,Tryz.ntmps128
 go_wp2_with fail
 refine (zdN s _ _ hs).mono ?_
 rintro e w1 ⟨v,rfl,hp,hb1⟩
 have hp':zbA w.heap.size w1 v (zaU s.data.toList):=hp
 obtain ⟨g,cap,rfl,hcap,hg,hcell⟩:=hp'.form2 (by omega)
 rw [hL] at hcap ⊢
 have hcx:=hcell L (by omega)
 rw [hx] at hcx
 have HC:=yoM hcell
 have HL:=yoM hL
 clear hcell hp hp' hL hx
 obtain ⟨b,hb⟩: ∃b,decide (0<L∧x=[])=b:=⟨_,rfl⟩
 have hcb:zjA (zaU s.data.toList)=(if b=true then L else L+1)∧(b=true→0<L):=by
  rcases hc with ⟨h1,h2,hk⟩|⟨h,hk⟩
  ·rw [←hb,decide_eq_true ⟨h1,h2⟩];exact ⟨hk,fun _=>h1⟩
  ·rw [←hb,yoN (by rintro ⟨h1,h2⟩;rcases h with h|h;omega;exact h h2)];exact ⟨hk,fun e=>by cases e⟩
 have HB:=yoM hb
 have HK:=yoM hcb
 clear hb hcb
 go_upto_region 3 with fail
 go_cut [26] (fun v wc=>v= .bool b∧wc=w1)
 case first=>
  rcases hc with ⟨h1,rfl,hk⟩|⟨rfl|hne,hk⟩
  ·have hb:b=true:=by rw [←HB.out];exact decide_eq_true ⟨h1,rfl⟩
   have hd:(0:Int)<(L:Int):=by omega
   clear hk
   go_wp2
   go_meet
   exact ⟨by rw [hb],rfl⟩
  ·have hb:b=false:=by rw [←HB.out];exact yoN (by omega)
   clear hk
   go_wp2
   go_meet
   exact ⟨by rw [hb],rfl⟩
  ·have hb:b=false:=by rw [←HB.out];exact yoN (fun h=>hne h.2)
   have hxe:x.isEmpty=false:=zeU hne
   clear hk hne
   go_wp2
   all_goals
    go_meet
    exact ⟨by rw [hb],rfl⟩
 case rest=>
 obtain ⟨rfl,rfl⟩:=hcut
 rename World=>w2
 clear hcx hc
 go_upto_if 26 with fail
 go_cut [5] (fun v wc=> ∃n:Nat,v= .int .i64 n∧n≤L∧wc=w2∧Hid (zjA (zaU s.data.toList)=n+1))
 case first=>
  cases b with
  |true=>
   have h0:=HK.out.2 rfl
   obtain ⟨n,rfl⟩: ∃n,L=n+1:=⟨L - 1,by omega⟩
   clear h0
   go_wp2
   go_meet
   exact ⟨n,yoO (Value.int .i64) (by omega),by omega,rfl,HK.out.1⟩
  |false=>
   go_wp2
   go_meet
   exact ⟨L,yoO (Value.int .i64) (by omega),Nat.le_refl _,rfl,HK.out.1⟩
 case rest=>
 obtain ⟨n,rfl,hn,rfl,HK⟩:=hcut
 rename World=>w1
 by_cases h3:3<n
 ·have hd:decide ((3:Int)<(n:Int))=true:=decide_eq_true (by omega)
  have HZ:=yoM (z5R HK.out (by omega))
  go_wp2
  go_ret2
  exact zcX HZ.out hb1
 have hd:decide ((3:Int)<(n:Int))=false:=yoN (by omega)
 have HZ:=yoM (yhB HK.out (by omega))
 have hnc:(n:Int)+1≤(cap:Int):=by omega
 go_wp2
 clear hd
 go_loopw [6,36] (fun v i wr=> ∃(k:Nat) (A:Int),k≤n+1∧i= .int .i64 k∧v= .int .u32 A∧0≤A∧A<4294967296∧Hid (k≤n→A % 2^(32 - 8*k)=0)∧Hid (goF (n+1) k A (((zaU s.data.toList).take (n+1)).drop k)=zlP s.data.toList)∧Below w1.heap.size w1 wr) (fun _ i _=>n+1 - (intOf i).toNat)
 case atStart=>exact ⟨0,0,by omega,rfl,rfl,by omega,by omega,fun _=>rfl,HZ.out.symm,Below.refl _ _⟩
 case round=>
  obtain ⟨k,A,hk,rfl,rfl,hA0,hA1,HM,HG,hbw⟩:=hrel
  by_cases hkn:k≤n
  ·obtain ⟨p,hp⟩: ∃p,(zaU s.data.toList).getD k []=p:=⟨_,rfl⟩
   have hcx:=(hbw.cell (p:=⟨g,k,none⟩) hg).trans (HC.out k (by rw [HL.out];omega))
   rw [hp] at hcx
   obtain ⟨x,b,hpz⟩: ∃x b,zcZ p=(x,b):=⟨_,_,rfl⟩
   have hx0:=zkT p
   have hpl:p.length≤s.size:=by rw [←hp,←zaN];exact ziU _ _ _
   rw [hpz] at hx0
   have HPP:=yoM (fun W=>zjZ ⟨p.toArray⟩ W (by rw [zaB];omega))
   rw [zaL,hpz] at HPP
   have HA:=yoM (HM.out hkn)
   have HP:=yoM hp
   have HPZ:=yoM hpz
   obtain ⟨hx0,hx1⟩:=hx0
   clear hp hpz
   by_cases hlast:k=n
   ·have e1:((k:Int)==(n:Int))=true:=by rw [hlast];simp
    have HLA:=yoM hlast
    clear hlast
    go_wp2_with fail
    refine (HPP.out _).mono ?_
    rintro e w2 ⟨rfl,hb2⟩
    have hc2:=hbw.trans (hb2.mono hbw.size)
    cases b with
    |false=>
     have HN:=yoM (HG.out.symm.trans (z0N (n+1) k A _ p x false (by omega) (by rw [HL.out];omega) HP.out HPZ.out (.inl rfl)))
     go_wp2
     go_ret2
     exact zcX HN.out (hb1.trans (hc2.mono hb1.size))
    |true=>
     by_cases hxl:x<limZ (n+1) k
     ·have hq:(x/2^(32 - 8*k) !=0)=false:=by rw [bne_eq_false_iff_eq];have:=(lim4 k n x hkn (by omega) hx0).2 hxl;rwa [if_pos HLA.out] at this
      have hgo:=HG.out
      rw [yeB (n+1) k A _ p x (by omega) (by rw [HL.out];omega) HP.out HPZ.out hxl] at hgo
      obtain ⟨j1,j2,j3,j4⟩:=step4 k n A x (x % 4294967296) hkn (by omega) hA0 hA1 HA.out hx0 hxl (by rw [if_pos HLA.out])
      have HJ:=yoM j1
      have HG2:=yoM hgo
      clear hgo j1
      go_wp2
      go_roundw
      case rel=>exact ⟨k+1,A+x*wtZ (n+1) k,by omega,by go_num,by rw [HJ.out],j2,j3,j4,HG2.out,hc2⟩
      case measure=>simp [intOf];omega
     ·have hq:(x/2^(32 - 8*k) !=0)=true:=by rw [bne_iff_ne];have:=fun h=>hxl ((lim4 k n x hkn (by omega) hx0).1 h);rwa [if_pos HLA.out] at this
      have HN:=yoM (HG.out.symm.trans (z0N (n+1) k A _ p x true (by omega) (by rw [HL.out];omega) HP.out HPZ.out (.inr (by omega))))
      go_wp2
      go_ret2
      exact zcX HN.out (hb1.trans (hc2.mono hb1.size))
   ·have e1:((k:Int)==(n:Int))=false:=beq_eq_false_iff_ne.2 (by omega)
    have HLA:=yoM hlast
    have hkn':(k:Int)<(n:Int):=by omega
    clear hlast
    go_wp2_with fail
    refine (HPP.out _).mono ?_
    rintro e w2 ⟨rfl,hb2⟩
    have hc2:=hbw.trans (hb2.mono hbw.size)
    cases b with
    |false=>
     have HN:=yoM (HG.out.symm.trans (z0N (n+1) k A _ p x false (by omega) (by rw [HL.out];omega) HP.out HPZ.out (.inl rfl)))
     go_wp2
     go_ret2
     exact zcX HN.out (hb1.trans (hc2.mono hb1.size))
    |true=>
     by_cases hxl:x<limZ (n+1) k
     ·have hq:(x/256 !=0)=false:=by rw [bne_eq_false_iff_eq];have:=(lim4 k n x hkn (by omega) hx0).2 hxl;rwa [if_neg HLA.out] at this
      have hgo:=HG.out
      rw [yeB (n+1) k A _ p x (by omega) (by rw [HL.out];omega) HP.out HPZ.out hxl] at hgo
      obtain ⟨j1,j2,j3,j4⟩:=step4 k n A x (x % 4294967296*2^(24 - 8*k) % 4294967296) hkn (by omega) hA0 hA1 HA.out hx0 hxl (by rw [if_neg HLA.out])
      have HJ:=yoM j1
      have HG2:=yoM hgo
      clear hgo j1
      go_wp2
      go_roundw
      case rel=>exact ⟨k+1,A+x*wtZ (n+1) k,by omega,by go_num,by rw [HJ.out],j2,j3,j4,HG2.out,hc2⟩
      case measure=>simp [intOf];omega
     ·have hq:(x/256 !=0)=true:=by rw [bne_iff_ne];have:=fun h=>hxl ((lim4 k n x hkn (by omega) hx0).1 h);rwa [if_neg HLA.out] at this
      have HN:=yoM (HG.out.symm.trans (z0N (n+1) k A _ p x true (by omega) (by rw [HL.out];omega) HP.out HPZ.out (.inr (by omega))))
      go_wp2
      go_ret2
      exact zcX HN.out (hb1.trans (hc2.mono hb1.size))
  ·obtain rfl:k=n+1:=by omega
   have HN:=yoM (HG.out.symm.trans (ynT (n+1) (n+1) A _ (Nat.le_refl _)))
   go_wp2
   go_ret2
   exact zcX HN.out (hb1.trans (hbw.mono hb1.size))
def goS:Int→List (List UInt8)→Int×Bool
 |A,[]=>(A,true)
 |A,p::r=>if (decZ p 255).2=true then goS (A*256+(decZ p 255).1) r else (0,false)
def zbU (l:List UInt8):Int×Bool:=if (zaU l).length=4 then goS 0 (zaU l) else (0,false)
theorem zoT (l:List UInt8) (m:Int) (hm:0≤m):0≤(decZ l m).1∧(decZ l m).1≤m:=by
 unfold decZ
 split
 ·exact ⟨Int.le_refl _,hm⟩
 ·rename_i h
  split
  ·exact ⟨Int.le_refl _,hm⟩
  ·refine ⟨zoA l ?_,by show decN l≤m;omega⟩
   cases hd:zbR 10 l with
   |true=>rfl
   |false=>rw [hd] at h;simp at h
theorem z1Y (k:Nat) (ps:List (List UInt8)) (h:k<ps.length):ps.drop k=ps.getD k []::ps.drop (k+1):=by
 rw [List.drop_eq_getElem_cons h,List.getD,List.getElem?_eq_getElem h]
 rfl
theorem ylK (k:Nat) (A:Int) (ps:List (List UInt8)) (p:List UInt8) (x:Int) (h:k<ps.length) (hp:ps.getD k []=p) (hx:decZ p 255=(x,true)):goS A (ps.drop k)=goS (A*256+x) (ps.drop (k+1)):=by
 rw [z1Y k ps h,hp]
 show (if _ then _ else _)=_
 rw [hx,if_pos rfl]
theorem goS_no (k:Nat) (A:Int) (ps:List (List UInt8)) (p:List UInt8) (x:Int) (h:k<ps.length) (hp:ps.getD k []=p) (hx:decZ p 255=(x,false)):goS A (ps.drop k)=(0,false):=by
 rw [z1Y k ps h,hp]
 show (if _ then _ else _)=_
 rw [hx]
 rfl
theorem ylF (k:Nat) (A:Int) (ps:List (List UInt8)) (h:ps.length≤k):goS A (ps.drop k)=(A,true):=by
 rw [List.drop_eq_nil_of_le h]
 rfl
theorem zvZ {l:List UInt8} (h:(zaU l).length=4):zbU l=goS 0 ((zaU l).drop 0):=by
 unfold zbU;rw [if_pos h];rfl
theorem z4R {l:List UInt8} (h:(zaU l).length≠4):zbU l=(0,false):=by
 unfold zbU;rw [if_neg h]
theorem zlK (s:ByteArray) (w:World) (hs:s.size≤1073741824):
  Calls Tryz.prog 224 #[.string s] w (zxW w (zbU s.data.toList)):=by
 by_cases hl:(zaU s.data.toList).length=4
 ·have HL:=yoM hl
  have HZ:=yoM (zvZ hl)
  clear hl
  go_enter Tryz.func224,Tryz.ntmps224
  go_wp2_with fail
  refine (zdN s _ _ hs).mono ?_
  rintro e w1 ⟨v,rfl,hp,hb1⟩
  have hp':zbA w.heap.size w1 v (zaU s.data.toList):=hp
  obtain ⟨g,cap,rfl,hcap,hg,hcell⟩:=hp'.form2 (by rw [HL.out];omega)
  rw [HL.out] at hcap hcell ⊢
  have HCELL:=yoM hcell
  clear hp hp' hcell
  go_wp2
  go_loopw [5,17] (fun v i wr=> ∃(k:Nat) (A:Int),k≤4∧i= .int .i64 k∧v= .int .u32 A∧0≤A∧Hid (A<256^k)∧Hid (goS A ((zaU s.data.toList).drop k)=zbU s.data.toList)∧Below w1.heap.size w1 wr) (fun _ i _=>4 - (intOf i).toNat)
  case atStart=>exact ⟨0,0,by omega,rfl,rfl,by omega,(by show (0:Int)<256^0;decide),HZ.out.symm,Below.refl _ _⟩
  case round=>
   obtain ⟨k,A,hk,rfl,rfl,hA0,HM,HG,hbw⟩:=hrel
   by_cases hk4:k<4
   ·obtain ⟨p,hpk⟩: ∃p,(zaU s.data.toList).getD k []=p:=⟨_,rfl⟩
    have hcx:=HCELL.out k hk4
    rw [hpk] at hcx
    have hcx2:wr.cell? ⟨g,k,none⟩=some (.string ⟨p.toArray⟩):=(hbw.cell (p:=⟨g,k,none⟩) hg).trans hcx
    have hpl:p.length≤s.size:=by rw [←hpk,←zaN];exact ziU _ _ _
    obtain ⟨x,b,hpz⟩: ∃x b,decZ p 255=(x,b):=⟨_,_,rfl⟩
    have hx:0≤x∧x≤255:=by have h9:=zoT p 255 (by decide);rw [hpz] at h9;exact h9
    obtain ⟨hx0,hx1⟩:=hx
    have hA1:A<16777216:=by
     have h1:=HM.out
     rcases (show k=0∨k=1∨k=2∨k=3 from by omega) with rfl|rfl|rfl|rfl
     all_goals
      simp at h1
      omega
    have hA2:A*256+x<256^(k+1):=by
     have h1:=HM.out
     rcases (show k=0∨k=1∨k=2∨k=3 from by omega) with rfl|rfl|rfl|rfl
     all_goals
      simp at h1 ⊢
      omega
    have HA2:=yoM hA2
    have hor:bits .or .u32 (A*256) x=A*256+x:=z0C 8 _ _ (by omega) (by omega) (by omega) (by omega) (by omega) (by omega)
    have HP:=yoM hpk
    have HPZ:=yoM hpz
    clear hpk hpz hcx hA2
    cases b with
    |true=>
     have hgo:=HG.out
     rw [ylK k A _ p x (by rw [HL.out];exact hk4) HP.out HPZ.out] at hgo
     have HG2:=yoM hgo
     clear hgo
     go_wp2_with fail
     refine (zmQ ⟨p.toArray⟩ 255 _ (by rw [zaB];omega) (by decide) (by decide)).mono ?_
     rw [zaL,HPZ.out]
     rintro e w2 ⟨rfl,hb2⟩
     have hc2:Below w1.heap.size w1 w2:=hbw.trans (hb2.mono hbw.size)
     clear hb2
     go_wp2
     go_roundw
     case rel=>exact ⟨k+1,A*256+x,by omega,by go_num,rfl,by omega,HA2,HG2,hc2⟩
     case measure=>simp [intOf];omega
    |false=>
     have HN:=yoM (HG.out.symm.trans (goS_no k A _ p x (by rw [HL.out];exact hk4) HP.out HPZ.out))
     go_wp2_with fail
     refine (zmQ ⟨p.toArray⟩ 255 _ (by rw [zaB];omega) (by decide) (by decide)).mono ?_
     rw [zaL,HPZ.out]
     rintro e w2 ⟨rfl,hb2⟩
     have hc2:Below w1.heap.size w1 w2:=hbw.trans (hb2.mono hbw.size)
     clear hb2
     go_wp2
     go_ret2
     exact zcX HN.out (hb1.trans (hc2.mono hb1.size))
   ·have hfin:=HG.out
    rw [ylF k A _ (by rw [HL.out];omega)] at hfin
    have HF:=yoM hfin.symm
    clear hfin
    go_wp2
    go_ret2
    exact zcX HF.out (hb1.trans (hbw.mono hb1.size))
 ·obtain ⟨m,hm⟩: ∃m,(zaU s.data.toList).length=m:=⟨_,rfl⟩
  have HZ:=yoM (z4R hl)
  have h0:0<(zaU s.data.toList).length:=zkH _ _
  rw [hm] at hl h0
  have hmb:m≤1073741825:=by
   have h1:=zdK (hasB [46]) s.data.toList
   rw [zaN] at h1
   have h2:=hm
   unfold zaU at h2
   omega
  have hne:((m:Int) !=4)=true:=by rw [bne_iff_ne];omega
  have HM:=yoM hm
  clear hm hl
  go_enter Tryz.func224,Tryz.ntmps224
  go_wp2_with fail
  refine (zdN s _ _ hs).mono ?_
  rintro e w1 ⟨v,rfl,hp,hb1⟩
  have hp':zbA w.heap.size w1 v (zaU s.data.toList):=hp
  obtain ⟨g,cap,rfl,hcap,hg,hcell⟩:=hp'.form2 (by rw [HM.out];omega)
  rw [HM.out]
  clear hp hp' hcell hcap
  go_wp2
  go_ret2
  exact zcX HZ.out hb1
def dec3 (u:Nat):List UInt8:=
 if u<10 then [UInt8.ofNat (48+u)] else if u<100 then [UInt8.ofNat (48+u/10),UInt8.ofNat (48+u % 10)] else [UInt8.ofNat (48+u/100),UInt8.ofNat (48+u/10 % 10),UInt8.ofNat (48+u % 10)]
theorem zpF (u:Nat) (h:u<1000):Lib.decDigits u=dec3 u:=by
 unfold dec3
 by_cases h1:u<10
 ·rw [if_pos h1,Lib.decDigits,dif_pos h1]
 ·rw [if_neg h1,Lib.decDigits,dif_neg h1,Lib.decDigits]
  by_cases h2:u<100
  ·rw [if_pos h2,dif_pos (by omega)];rfl
  ·rw [if_neg h2,dif_neg (by omega),Lib.decDigits,dif_pos (by omega),show u/10/10=u/100 from by omega];rfl
theorem ycJ (n:Int) (h0:0≤n) (h1:n<1000):Lib.itoa n=dec3 n.toNat:=by
 unfold Lib.itoa
 rw [if_neg (by omega),zpF _ (by omega)]
theorem z8D: ∀u:Fin 256,(dec3 u.val).all (fun c=> !hasB [46] c)=true:=by decide+kernel
theorem yhJ: ∀u:Fin 256,(dec3 u.val).isEmpty=false:=by decide+kernel
theorem zmE (u:Nat) (h:u<256): ∀c∈dec3 u,hasB [46] c=false:=by
 intro c hc
 have:=List.all_eq_true.1 (z8D ⟨u,h⟩) c hc
 simpa using this
theorem yeQ (u:Nat) (h:u<256):dec3 u≠[]:=by
 intro e
 have:=yhJ ⟨u,h⟩
 simp only at this
 rw [e] at this
 cases this
theorem zbP (u:Nat):(dec3 u).length≤3:=by
 unfold dec3
 repeat' split
 all_goals simp
theorem z9N (p:UInt8→Bool) (l:List UInt8): ∀(xs:List (List UInt8)) (t:List UInt8),l.foldl (zaT p) (xs,t)=(xs++(l.foldl (zaT p) ([],t)).1,(l.foldl (zaT p) ([],t)).2):=by
 induction l with
 |nil=>intro xs t;simp
 |cons c l ih=>
  intro xs t
  simp only [List.foldl_cons,zaT]
  by_cases hp:p c=true
  ·simp only [hp,if_true]
   rw [ih (xs++[t]) [],ih ([]++[t]) []]
   simp
  ·have hf:p c=false:=by simpa using hp
   simp only [hf]
   rw [show (if false=true then (xs++[t],([]:List UInt8)) else (xs,t++[c]))=(xs,t++[c]) from rfl,ih xs (t++[c])]
   rfl
theorem zjM (a r:List UInt8) (h: ∀c∈a,hasB [46] c=false):zaU (a++[46]++r)=a::zaU r:=by
 unfold zaU zbG spl
 rw [List.foldl_append,List.foldl_append,z1U _ a [] [] h]
 have e:[46].foldl (zaT (hasB [46])) (([]:List (List UInt8)),([]:List UInt8)++a)=([a],[]):=by simp [zaT,has46]
 rw [e,z9N _ r [a] []]
 simp
theorem z4G (a:List UInt8) (h: ∀c∈a,hasB [46] c=false):zaU a=[a]:=by
 unfold zaU zbG spl
 rw [z1U _ a [] [] h]
 simp
def txt (a b c d:Nat):List UInt8:=dec3 a++[46]++(dec3 b++[46]++(dec3 c++[46]++dec3 d))
theorem z3D (a b c d:Nat) (ha:a<256) (hb:b<256) (hc:c<256) (hd:d<256):zaU (txt a b c d)=[dec3 a,dec3 b,dec3 c,dec3 d]:=by
 unfold txt
 rw [zjM _ _ (zmE a ha),zjM _ _ (zmE b hb),zjM _ _ (zmE c hc),z4G _ (zmE d hd)]
def txtZ (n:Int):List UInt8:=txt (n/16777216).toNat (n/65536 % 256).toNat (n/256 % 256).toNat (n % 256).toNat
theorem yhN (n:Int):(txtZ n).length≤15:=by
 unfold txtZ txt
 have h1:=zbP (n/16777216).toNat
 have h2:=zbP (n/65536 % 256).toNat
 have h3:=zbP (n/256 % 256).toNat
 have h4:=zbP (n % 256).toNat
 simp only [List.length_append,List.length_cons,List.length_nil]
 omega
abbrev PowTab (w:World):Prop:=Lib.TabIs Tryz.prog w "internal/strconv.uint64pow10" .u64 Lib.pow10Tab
theorem zaD {w w':World} (h:PowTab w) (hb:Below w.heap.size w w'):PowTab w':=
 Lib.tabBelow_of_tabIs h w' hb
theorem zmG (n:Int) (w:World) (h0:0≤n) (h1:n≤255) (htab:PowTab w):
  Calls Tryz.prog 87 #[.int .i64 n] w fun e w'=>e= .returned (.string ⟨(dec3 n.toNat).toArray⟩)∧Below w.heap.size w w':=by
 refine (Tryz.strconv_Itoa n (by omega) (by omega) w htab).mono ?_
 rintro e w' ⟨rfl,k,os,rfl⟩
 rw [ycJ n h0 (by omega)]
 exact ⟨rfl,Lib.below_grow _ _ (Nat.le_refl _) _ _⟩
theorem zsL (x:Int) (_h:0≤x):IntKind.u8.wrap x=x % 256:=by rw [IntKind.wrap_u8]
theorem z4O (n:Int) (w:World) (h0:0≤n) (h1:n≤4294967295):
  Calls Tryz.prog 338 #[.int .u32 n] w fun e w'=>e= .returned (.agg #[.int .u8 (n/16777216),.int .u8 (n/65536 % 256),.int .u8 (n/256 % 256),.int .u8 (n % 256)])∧Below w.heap.size w w':=by
 have e1:IntKind.u8.wrap (n/16777216)=n/16777216:=by rw [zsL _ (by omega)];omega
 have e2:IntKind.u8.wrap (n/65536)=n/65536 % 256:=zsL _ (by omega)
 have e3:IntKind.u8.wrap (n/256)=n/256 % 256:=zsL _ (by omega)
 have e4:IntKind.u8.wrap n=n % 256:=zsL _ (by omega)
 go_enter Tryz.func338,Tryz.ntmps338
 go_wp2
 exact bodyPost_ret (v:= .agg #[.int .u8 (n/16777216),.int .u8 (n/65536 % 256),.int .u8 (n/256 % 256),.int .u8 (n % 256)]) (by simp [results,Tryz.results338,go_sem]) rfl ⟨rfl,(Below.refl _ _).alloc (Nat.le_refl _) _⟩
theorem yjD (i:Nat) (x y:Int) (hx0:0≤x) (hx:x % 2^i=0) (hx1:x<18446744073709551616) (hy0:0≤y) (hy:y<2^i) (hy1:y<18446744073709551616):bits .or .u64 x y=x+y:=
 bits_join .u64 64 (by decide) (fun n h0 h1=>by rw [IntKind.wrap_u64];omega) i x y hx0 hx hx1 hy0 hy hy1
theorem cat2 (x y:List UInt8):ByteArray.mk x.toArray++ByteArray.mk y.toArray=ByteArray.mk (x++y).toArray:=zkZ x y
theorem cat3 (x y:List UInt8):ByteArray.mk x.toArray++ByteArray.mk #[46]++ByteArray.mk y.toArray=ByteArray.mk (x++[46]++y).toArray:=by
 rw [show (ByteArray.mk #[46])=ByteArray.mk [46].toArray from rfl,zkZ,zkZ]
theorem yfJ (W:World) (a b c d:Int):(Instr.index 298 (.agg #[.int .u8 a,.int .u8 b,.int .u8 c,.int .u8 d]) (.int .i64 0)).run Tryz.prog W= .ok (.int .u8 a) W:=by
 simp [Instr.index,run_underlying Tryz.underlying298,asIntOf,go_sem,Tryz.sizeOf5,Tryz.isAgg5]
theorem yhO (W:World) (a b c d:Int):(Instr.index 298 (.agg #[.int .u8 a,.int .u8 b,.int .u8 c,.int .u8 d]) (.int .i64 1)).run Tryz.prog W= .ok (.int .u8 b) W:=by
 simp [Instr.index,run_underlying Tryz.underlying298,asIntOf,go_sem,Tryz.sizeOf5,Tryz.isAgg5]
theorem yhL (W:World) (a b c d:Int):(Instr.index 298 (.agg #[.int .u8 a,.int .u8 b,.int .u8 c,.int .u8 d]) (.int .i64 2)).run Tryz.prog W= .ok (.int .u8 c) W:=by
 simp [Instr.index,run_underlying Tryz.underlying298,asIntOf,go_sem,Tryz.sizeOf5,Tryz.isAgg5]
theorem yjA (W:World) (a b c d:Int):(Instr.index 298 (.agg #[.int .u8 a,.int .u8 b,.int .u8 c,.int .u8 d]) (.int .i64 3)).run Tryz.prog W= .ok (.int .u8 d) W:=by
 simp [Instr.index,run_underlying Tryz.underlying298,asIntOf,go_sem,Tryz.sizeOf5,Tryz.isAgg5]
def yaM (b0 b1 b2 b3:Int):Nat→List UInt8
 |0=>[]
 |1=>dec3 b0.toNat
 |2=>dec3 b0.toNat++[46]++dec3 b1.toNat
 |3=>dec3 b0.toNat++[46]++dec3 b1.toNat++[46]++dec3 b2.toNat
 |_=>dec3 b0.toNat++[46]++dec3 b1.toNat++[46]++dec3 b2.toNat++[46]++dec3 b3.toNat
theorem zkQ (b0 b1 b2 b3:Int) (k:Nat):(yaM b0 b1 b2 b3 k).length≤15:=by
 have h1:=zbP b0.toNat
 have h2:=zbP b1.toNat
 have h3:=zbP b2.toNat
 have h4:=zbP b3.toNat
 unfold yaM
 split
 all_goals first|(simp;done)|(simp;omega)|omega
theorem yaU (n:Int):yaM (n/16777216) (n/65536 % 256) (n/256 % 256) (n % 256) 4=txtZ n:=by
 simp [yaM,txtZ,txt]
def zdT (w:World) (l:List UInt8) (e:Ending) (w':World):Prop:=e= .returned (.string ⟨l.toArray⟩)∧Below w.heap.size w w'
theorem ycY (n:Int) (w:World) (h0:0≤n) (h1:n≤4294967295) (htab:PowTab w):
  Calls Tryz.prog 336 #[.int .u32 n] w (zdT w (txtZ n)):=by
 have HT0:=yoM htab
 have HE:=yoM (yaU n)
 clear htab
 go_enter Tryz.func336,Tryz.ntmps336
 go_wp2_with fail
 refine (z4O n _ h0 h1).mono ?_
 rintro e w1 ⟨rfl,hb1⟩
 obtain ⟨b0,hb0⟩: ∃b,n/16777216=b:=⟨_,rfl⟩
 obtain ⟨b1,hb1'⟩: ∃b,n/65536 % 256=b:=⟨_,rfl⟩
 obtain ⟨b2,hb2'⟩: ∃b,n/256 % 256=b:=⟨_,rfl⟩
 obtain ⟨b3,hb3'⟩: ∃b,n % 256=b:=⟨_,rfl⟩
 have l0:0≤b0:=by omega
 have l1:0≤b1:=by omega
 have l2:0≤b2:=by omega
 have l3:0≤b3:=by omega
 have m0:b0≤255:=by omega
 have m1:b1≤255:=by omega
 have m2:b2≤255:=by omega
 have m3:b3≤255:=by omega
 rw [hb0,hb1',hb2',hb3']
 have he:=HE.out
 rw [hb0,hb1',hb2',hb3'] at he
 have HE2:=yoM he
 clear he hb0 hb1' hb2' hb3'
 have HT1:=yoM (zaD HT0.out hb1)
 go_wp2
 go_loopw [3,8] (fun v i wr=> ∃(k:Nat),k≤4∧i= .int .i64 k∧v= .string ⟨(yaM b0 b1 b2 b3 k).toArray⟩∧Hid (PowTab wr)∧Below w.heap.size w wr) (fun _ i _=>4 - (intOf i).toNat)
 case atStart=>exact ⟨0,by omega,rfl,rfl,HT1,hb1⟩
 case round=>
  obtain ⟨k,hk,rfl,rfl,HT,hbw⟩:=hrel
  rcases (show k=0∨k=1∨k=2∨k=3∨k=4 from by omega) with rfl|rfl|rfl|rfl|rfl
  ·try rw [show ((0:Nat):Int)=0 from rfl]
   have hix:=fun W=>yfJ W b0 b1 b2 b3
   have q1:=zbP b0.toNat
   have q2:=zkQ b0 b1 b2 b3 0
   go_wp2_with fail
   refine (zmG b0 _ (by omega) (by omega) HT.out).mono ?_
   rintro e w2 ⟨rfl,hb2⟩
   have hc2:Below w.heap.size w w2:=hbw.trans (hb2.mono hbw.size)
   have HT2:=yoM (zaD HT.out hb2)
   clear hb2
   go_wp2
   go_roundw
   case rel=>exact ⟨1,by omega,(by first|rfl|go_num),(by first|rfl|exact yoO Value.string (cat3 _ _)|exact yoO Value.string (cat2 _ _)),HT2,hc2⟩
   case measure=>first|(simp [intOf];done)|(simp [intOf];omega)
  ·try rw [show ((1:Nat):Int)=1 from rfl]
   have hix:=fun W=>yhO W b0 b1 b2 b3
   have q1:=zbP b1.toNat
   have q2:=zkQ b0 b1 b2 b3 1
   go_wp2_with fail
   refine (zmG b1 _ (by omega) (by omega) HT.out).mono ?_
   rintro e w2 ⟨rfl,hb2⟩
   have hc2:Below w.heap.size w w2:=hbw.trans (hb2.mono hbw.size)
   have HT2:=yoM (zaD HT.out hb2)
   clear hb2
   go_wp2
   go_roundw
   case rel=>exact ⟨2,by omega,(by first|rfl|go_num),(by first|rfl|exact yoO Value.string (cat3 _ _)|exact yoO Value.string (cat2 _ _)),HT2,hc2⟩
   case measure=>first|(simp [intOf];done)|(simp [intOf];omega)
  ·try rw [show ((2:Nat):Int)=2 from rfl]
   have hix:=fun W=>yhL W b0 b1 b2 b3
   have q1:=zbP b2.toNat
   have q2:=zkQ b0 b1 b2 b3 2
   go_wp2_with fail
   refine (zmG b2 _ (by omega) (by omega) HT.out).mono ?_
   rintro e w2 ⟨rfl,hb2⟩
   have hc2:Below w.heap.size w w2:=hbw.trans (hb2.mono hbw.size)
   have HT2:=yoM (zaD HT.out hb2)
   clear hb2
   go_wp2
   go_roundw
   case rel=>exact ⟨3,by omega,(by first|rfl|go_num),(by first|rfl|exact yoO Value.string (cat3 _ _)|exact yoO Value.string (cat2 _ _)),HT2,hc2⟩
   case measure=>first|(simp [intOf];done)|(simp [intOf];omega)
  ·try rw [show ((3:Nat):Int)=3 from rfl]
   have hix:=fun W=>yjA W b0 b1 b2 b3
   have q1:=zbP b3.toNat
   have q2:=zkQ b0 b1 b2 b3 3
   go_wp2_with fail
   refine (zmG b3 _ (by omega) (by omega) HT.out).mono ?_
   rintro e w2 ⟨rfl,hb2⟩
   have hc2:Below w.heap.size w w2:=hbw.trans (hb2.mono hbw.size)
   have HT2:=yoM (zaD HT.out hb2)
   clear hb2
   go_wp2
   go_roundw
   case rel=>exact ⟨4,by omega,(by first|rfl|go_num),(by first|rfl|exact yoO Value.string (cat3 _ _)|exact yoO Value.string (cat2 _ _)),HT2,hc2⟩
   case measure=>first|(simp [intOf];done)|(simp [intOf];omega)
  ·try rw [show ((4:Nat):Int)=4 from rfl]
   go_wp2
   go_ret
   exact ⟨yoO (fun l:List UInt8=>Ending.returned (.string ⟨l.toArray⟩)) HE2.out,hbw⟩
theorem dec3_1: ∀i:Fin 10,dec3 i.val=[UInt8.ofNat (48+i.val)]:=by decide+kernel
theorem dec3_2: ∀i j:Fin 10,i.val≠0→dec3 (i.val*10+j.val)=[UInt8.ofNat (48+i.val),UInt8.ofNat (48+j.val)]:=by decide+kernel
theorem dec3_3: ∀i j k:Fin 10,i.val≠0→dec3 ((i.val*10+j.val)*10+k.val)=[UInt8.ofNat (48+i.val),UInt8.ofNat (48+j.val),UInt8.ofNat (48+k.val)]:=by decide+kernel
theorem zeF (c:UInt8) (h:digC 10 c=true): ∃i:Nat,i<10∧c=UInt8.ofNat (48+i)∧c.toNat=48+i∧valZ (c.toNat:Int)=(i:Int):=by
 rw [zjO] at h
 obtain ⟨h1,h2⟩:=zuG h
 refine ⟨c.toNat - 48,by omega,?_,by omega,?_⟩
 ·apply UInt8.toNat_inj.1
  rw [show 48+(c.toNat - 48)=c.toNat from by omega]
  simp
 ·rw [zqJ h1 h2];omega
theorem zkW (p:List UInt8) (x:Int) (h:decZ p 255=(x,true)):0≤x∧x≤255∧p=dec3 x.toNat:=by
 have hb:=zoT p 255 (by decide)
 rw [h] at hb
 refine ⟨hb.1,hb.2,?_⟩
 unfold decZ at h
 split at h
 ·exact absurd (yoO Prod.snd h) (by simp)
 ·rename_i hc
  split at h
  ·exact absurd (yoO Prod.snd h) (by simp)
  ·rename_i hm
   have hx:decN p=x:=yoO Prod.fst h
   have hd:zbR 10 p=true:=by
    cases hd:zbR 10 p with
    |true=>rfl
    |false=>rw [hd] at hc;simp at hc
   rw [hd] at hc
   have hall: ∀c∈p,digC 10 c=true:=List.all_eq_true.1 hd
   match p,hx,hc,hall,hm,hd with
   |[],_,hc,_,_,_=>simp at hc
   |[a],hx,_,hall,_,_=>
    obtain ⟨i,hi,ha,_,hv⟩:=zeF a (hall a (by simp))
    have:x=(i:Int):=by rw [←hx];simp [decN,hv]
    rw [this,ha]
    exact (dec3_1 ⟨i,hi⟩).symm
   |[a,b],hx,hc,hall,_,_=>
    obtain ⟨i,hi,ha,hna,hva⟩:=zeF a (hall a (by simp))
    obtain ⟨j,hj,hb',_,hvb⟩:=zeF b (hall b (by simp))
    have hi0:i≠0:=by
     intro e
     apply hc
     simp [hna,e]
    have:x=((i*10+j:Nat):Int):=by rw [←hx];simp [decN,hva,hvb]
    rw [this,ha,hb']
    exact (dec3_2 ⟨i,hi⟩ ⟨j,hj⟩ hi0).symm
   |[a,b,c],hx,hc,hall,_,_=>
    obtain ⟨i,hi,ha,hna,hva⟩:=zeF a (hall a (by simp))
    obtain ⟨j,hj,hb',_,hvb⟩:=zeF b (hall b (by simp))
    obtain ⟨k,hk,hc',_,hvc⟩:=zeF c (hall c (by simp))
    have hi0:i≠0:=by
     intro e
     apply hc
     simp [hna,e]
    have:x=(((i*10+j)*10+k:Nat):Int):=by rw [←hx];simp [decN,hva,hvb,hvc]
    rw [this,ha,hb',hc']
    exact (dec3_3 ⟨i,hi⟩ ⟨j,hj⟩ ⟨k,hk⟩ hi0).symm
   |a::b::c::d::r,hx,hc,hall,hm,hd=>
    exfalso
    obtain ⟨i,hi,ha,hna,hva⟩:=zeF a (hall a (by simp))
    obtain ⟨j,hj,_,_,hvb⟩:=zeF b (hall b (by simp))
    obtain ⟨k,hk,_,_,hvc⟩:=zeF c (hall c (by simp))
    obtain ⟨l,hl,_,_,hvd⟩:=zeF d (hall d (by simp))
    have hi0:i≠0:=by
     intro e
     apply hc
     simp [hna,e]
    have h4:=zlZ (a::b::c::d::r) 4 hd
    have e4:decN ((a::b::c::d::r).take 4)=(((i:Int)*10+j)*10+k)*10+l:=by simp [decN,hva,hvb,hvc,hvd]
    omega
theorem z7W (l:List (List UInt8)): ∀(A x:Int),goS A l=(x,false)→x=0:=by
 induction l with
 |nil=>intro A x h;exact absurd (yoO Prod.snd h) (by simp [goS])
 |cons p r ih=>
  intro A x h
  unfold goS at h
  split at h
  ·exact ih _ _ h
  ·exact (yoO Prod.fst h).symm
theorem zvU (l:List UInt8) (x:Int) (h:zbU l=(x,false)):x=0:=by
 unfold zbU at h
 split at h
 ·exact z7W _ _ _ h
 ·exact (yoO Prod.fst h).symm
theorem zmF {A x:Int} {p:List UInt8} {r:List (List UInt8)} (h:goS A (p::r)=(x,true)): ∃y,decZ p 255=(y,true)∧goS (A*256+y) r=(x,true):=by
 unfold goS at h
 split at h
 ·rename_i hp
  refine ⟨(decZ p 255).1,?_,h⟩
  rw [←hp]
 ·exact absurd (yoO Prod.snd h) (by simp)
theorem zyB (l:List UInt8) (x:Int) (h:zbU l=(x,true)):0≤x∧x≤4294967295∧l=txtZ x:=by
 unfold zbU at h
 split at h
 ·rename_i hl
  have hj:Lib.join (zaU l) [46]=l:=z3B l 46
  match hd:zaU l,hl,h,hj with
  |[p0,p1,p2,p3],_,h,hj=>
   obtain ⟨x0,d0,h⟩:=zmF h
   obtain ⟨x1,d1,h⟩:=zmF h
   obtain ⟨x2,d2,h⟩:=zmF h
   obtain ⟨x3,d3,h⟩:=zmF h
   have hx:(((0*256+x0)*256+x1)*256+x2)*256+x3=x:=yoO Prod.fst h
   obtain ⟨a0,b0,rfl⟩:=zkW p0 x0 d0
   obtain ⟨a1,b1,rfl⟩:=zkW p1 x1 d1
   obtain ⟨a2,b2,rfl⟩:=zkW p2 x2 d2
   obtain ⟨a3,b3,rfl⟩:=zkW p3 x3 d3
   refine ⟨by omega,by omega,?_⟩
   rw [←hj]
   have e0:x/16777216=x0:=by omega
   have e1:x/65536 % 256=x1:=by omega
   have e2:x/256 % 256=x2:=by omega
   have e3:x % 256=x3:=by omega
   unfold txtZ
   rw [e0,e1,e2,e3]
   simp [Lib.join,txt,List.intercalate]
 ·exact absurd (yoO Prod.snd h) (by simp)
def valP (b:Int) (L:List UInt8):Int:=L.foldl (fun n c=>n*b+valZ (c.toNat:Int)) 0
def dgt (d:Nat):UInt8:=if d<10 then UInt8.ofNat (48+d) else UInt8.ofNat (87+d)
theorem yhD: ∀d:Fin 16,valZ ((dgt d.val).toNat:Int)=(d.val:Int):=by decide+kernel
theorem ynB (d:Nat) (h:d<16):valZ ((dgt d).toNat:Int)=(d:Int):=yhD ⟨d,h⟩
theorem z9O (b:Int) (L:List UInt8): ∀a:Int,L.foldl (fun n c=>n*b+valZ (c.toNat:Int)) a=a*b^L.length+valP b L:=by
 unfold valP
 induction L with
 |nil=>intro a;simp
 |cons c L ih=>
  intro a
  simp only [List.foldl_cons,List.length_cons]
  rw [ih,ih (0*b+_),Int.pow_succ]
  rw [Int.zero_mul,Int.zero_add,Int.add_mul,Int.mul_assoc,Int.mul_comm b (b^L.length),Int.add_assoc]
theorem zuL (b:Int) (c:UInt8) (L:List UInt8):valP b (c::L)=valZ (c.toNat:Int)*b^L.length+valP b L:=by
 show (c::L).foldl _ 0=_
 rw [List.foldl_cons,z9O,Int.zero_mul,Int.zero_add]
theorem yaG (b:Nat) (v:Nat) (T:List UInt8) (u:Int) (hd:v % b<16) (h:(v:Int)*(b:Int)^T.length+valP b T=u):
  ((v/b:Nat):Int)*(b:Int)^(dgt (v % b)::T).length+valP b (dgt (v % b)::T)=u:=by
 rw [zuL,ynB _ hd,←h,List.length_cons,Int.pow_succ]
 have e:(v:Int)=((v/b:Nat):Int)*b+((v % b:Nat):Int):=by
  have:=Nat.div_add_mod v b
  have h2:v=(v/b)*b+v % b:=by rw [Nat.mul_comm];exact this.symm
  exact_mod_cast h2
 conv=>rhs;rw [e]
 rw [Int.add_mul,Int.mul_assoc,Int.mul_comm (b:Int) ((b:Int)^T.length)]
 omega
theorem zoC (b:Int) (hb:0≤b) (L:List UInt8) (hd:zbR b L=true):0≤valP b L:=by
 have key: ∀(L:List UInt8) (n:Int),0≤n→zbR b L=true→0≤L.foldl (fun n c=>n*b+valZ (c.toNat:Int)) n:=by
  intro L
  induction L with
  |nil=>intro n h _;exact h
  |cons c L ih=>
   intro n h hd
   have h2:digC b c=true∧zbR b L=true:=by simpa [zbR] using hd
   have h3:=of_decide_eq_true h2.1
   have hp:0≤n*b:=Int.mul_nonneg h hb
   exact ih (n*b+valZ (c.toNat:Int)) (by omega) h2.2
 exact key L 0 (Int.le_refl _) hd
end
section
open Go.RowKit Go.Sort Go.Lib
def bruTab:List Int:=[0,1,56,2,57,49,28,3,61,58,42,50,38,29,17,4,62,47,59,36,45,43,51,22,53,39,33,30,24,18,12,5,63,55,48,27,60,41,37,16,46,35,44,21,52,32,23,11,54,26,40,15,34,20,31,10,25,14,19,9,13,8,7,6]
abbrev BruTab (w:World):Prop:=Lib.TabIs Tryz.prog w "math/bits.deBruijn64tab" .u8 bruTab
theorem zaC {w w':World} (h:BruTab w) (hb:Below w.heap.size w w'):BruTab w':=
 Lib.tabBelow_of_tabIs h w' hb
theorem ykJ (w:World) (h:BruTab w) (i:Nat) (hi:i<64):w.cell? ⟨5,i,none⟩=some (.int .u8 (bruTab.getD i 0)):=
 Lib.TabIs.cell h (by kernel_rfl) i (by simpa [bruTab] using hi)
theorem tz64_8 (w:World) (h:BruTab w):Calls Tryz.prog 251 #[.int .u64 8] w fun e w'=>e= .returned (.int .i64 3)∧w=w':=by
 have hc:w.cell? ⟨5,7,none⟩=some (.int .u8 3):=ykJ w h 7 (by decide)
 have e1:IntKind.u64.wrap (-8)=18446744073709551608:=by decide
 have e2:bits .and .u64 8 18446744073709551608=8:=by decide
 clear h
 go_enter Tryz.func251,Tryz.ntmps251
 go_wp2
 go_ret
 exact ⟨rfl,rfl⟩
theorem z6G (w:World) (h:BruTab w):Calls Tryz.prog 251 #[.int .u64 16] w fun e w'=>e= .returned (.int .i64 4)∧w=w':=by
 have hc:w.cell? ⟨5,15,none⟩=some (.int .u8 4):=ykJ w h 15 (by decide)
 have e1:IntKind.u64.wrap (-16)=18446744073709551600:=by decide
 have e2:bits .and .u64 16 18446744073709551600=16:=by decide
 clear h
 go_enter Tryz.func251,Tryz.ntmps251
 go_wp2
 go_ret
 exact ⟨rfl,rfl⟩
theorem tz_16 (w:World) (h:BruTab w):Calls Tryz.prog 238 #[.int .u64 16] w fun e w'=>e= .returned (.int .i64 4)∧w=w':=by
 have HT:=yoM h
 clear h
 go_enter Tryz.func238,Tryz.ntmps238
 go_wp2_with (go_at_call 251;refine (z6G _ HT.out).mono ?_;rintro e w' ⟨rfl,rfl⟩)
 go_ret
 exact ⟨rfl,rfl⟩
theorem ynP (w:World):Calls Tryz.prog 237 #[.int .i64 16] w fun e w'=>e= .returned (.bool true)∧w=w':=by
 have e1:bits .and .i64 16 15=0:=by decide
 go_enter Tryz.func237,Tryz.ntmps237
 go_wp2
 go_ret
 exact ⟨rfl,rfl⟩
def z8B:Array Value:= #[.int .u8 0,.int .u8 0,.int .u8 0,.int .u8 0,.int .u8 0,.int .u8 0,.int .u8 0,.int .u8 0,.int .u8 0,.int .u8 0,.int .u8 0,.int .u8 0,.int .u8 0,.int .u8 0,.int .u8 0,.int .u8 0,.int .u8 0,.int .u8 0,.int .u8 0,.int .u8 0,.int .u8 0,.int .u8 0,.int .u8 0,.int .u8 0,.int .u8 0,.int .u8 0,.int .u8 0,.int .u8 0,.int .u8 0,.int .u8 0,.int .u8 0,.int .u8 0,.int .u8 0,.int .u8 0,.int .u8 0,.int .u8 0,.int .u8 0,.int .u8 0,.int .u8 0,.int .u8 0,.int .u8 0,.int .u8 0,.int .u8 0,.int .u8 0,.int .u8 0,.int .u8 0,.int .u8 0,.int .u8 0,.int .u8 0,.int .u8 0,.int .u8 0,.int .u8 0,.int .u8 0,.int .u8 0,.int .u8 0,.int .u8 0,.int .u8 0,.int .u8 0,.int .u8 0,.int .u8 0,.int .u8 0,.int .u8 0,.int .u8 0,.int .u8 0,.int .u8 0]
def zfJ (B i:Nat) (T:List UInt8) (w:World):Prop:=
 ∃cur:Array Value,w.heap[B]? =some (.cells cur 218 (0,0))∧cur.size=65∧i+T.length=65∧ ∀j x,T[j]? =some x→cur[i+j]? =some (.int .u8 (x.toNat:Int))
theorem zrI (w:World):zfJ w.heap.size 65 [] (w.alloc (.cells z8B 218)):=
 ⟨z8B,heap_alloc_new w _,rfl,rfl,fun j x h=>by simp at h⟩
theorem zfJ.cell {B i:Nat} {T:List UInt8} {w:World} (h:zfJ B i T w) (k:Nat) (hk:k<65): ∃u,w.cell? ⟨B,k,none⟩=some u:=by
 obtain ⟨cur,h1,h2,_,_⟩:=h
 rw [cell_of_row w B k cur _ _ h1]
 exact ⟨_,Array.getElem?_eq_getElem (by omega)⟩
theorem zfJ.frozen {B i:Nat} {T:List UInt8} {w:World} (h:zfJ B i T w) (k:Nat):w.frozen? ⟨B,k,none⟩=false:=by
 obtain ⟨cur,h1,_,_,_⟩:=h
 simp [World.frozen?,h1]
theorem zfJ.put {B i:Nat} {T:List UInt8} {w:World} (h:zfJ B (i+1) T w) (c:UInt8):zfJ B i (c::T) (w.setCell ⟨B,i,none⟩ (.int .u8 (c.toNat:Int))):=by
 obtain ⟨cur,h1,h2,h3,h4⟩:=h
 refine ⟨cur.setIfInBounds i (.int .u8 (c.toNat:Int)),?_,by simpa using h2,by simp;omega,fun j x hj=> ?_⟩
 ·simp [World.setCell,Array.getElem?_modify,h1]
 ·rw [Array.getElem?_setIfInBounds]
  cases j with
  |zero=>
   simp at hj
   subst hj
   rw [if_pos (by omega),if_pos (by omega)]
  |succ j=>
   rw [if_neg (by omega),show i+(j+1)=i+1+j from by omega]
   exact h4 j x (by simpa using hj)
theorem zfJ.conv {B i:Nat} {T:List UInt8} {w:World} (h:zfJ B i T w):
  (convert 119 9 (.slice (some ⟨B,i,none⟩) (65 - i) (65 - i))).run Tryz.prog w= .ok (.string ⟨T.toArray⟩) w:=by
 refine zeY w _ _ 5 _ _ ?_ Tryz.underlying119 Tryz.underlying5 Tryz.underlying9
 obtain ⟨cur,h1,h2,h3,h4⟩:=h
 refine ⟨_,65 - i,by rw [Lib.byteCells_length,show 65 - i=T.length from by omega],fun j u hj=>⟨_,rfl,?_⟩⟩
 rw [Lib.add_plain,cell_of_row w B (i+j) cur _ _ h1]
 have hx: ∃x,T[j]? =some x∧u= .int .u8 (x.toNat:Int):=by
  simp only [Lib.byteCells,List.getElem?_map,Option.map_eq_some_iff] at hj
  obtain ⟨x,hx,rfl⟩:=hj
  exact ⟨x,hx,rfl⟩
 obtain ⟨x,hx,rfl⟩:=hx
 exact h4 j x hx
theorem dig36': ∀d:Fin 16,(ByteArray.mk #[48,49,50,51,52,53,54,55,56,57,97,98,99,100,101,102,103,104,105,106,107,108,109,110,111,112,113,114,115,116,117,118,119,120,121,122])[d.val]? =some (dgt d.val):=by decide+kernel
theorem dig36 (W:World) (d:Nat) (h:d<16):(Instr.index 9 (.string ⟨#[48,49,50,51,52,53,54,55,56,57,97,98,99,100,101,102,103,104,105,106,107,108,109,110,111,112,113,114,115,116,117,118,119,120,121,122]⟩) (.int .u64 (d:Int))).run Tryz.prog W= .ok (.int .u8 ((dgt d).toNat:Int)) W:=by
 rw [run_index_string W 9 _ .u64 (d:Int) Tryz.underlying9,dif_pos ⟨by omega,by show (d:Int)<36;omega⟩]
 have e:=dig36' ⟨d,h⟩
 have e2:(ByteArray.mk #[48,49,50,51,52,53,54,55,56,57,97,98,99,100,101,102,103,104,105,106,107,108,109,110,111,112,113,114,115,116,117,118,119,120,121,122])[((d:Int)).toNat]'(by show _<36;omega)=dgt d:=by
  rw [ByteArray.getElem?_lt' _ _ (by show d<36;omega)] at e
  exact Option.some.inj e
 rw [e2]
theorem yeT (v l:Nat) (h:v<2^(64 - l)) (h8:8≤v):l≤60:=by
 by_cases hl:l≤60
 ·exact hl
 ·exfalso
  have:2^(64 - l)≤2^3:=Nat.pow_le_pow_right (by decide) (by omega)
  omega
theorem ygX (v l b:Nat) (h:v<2^(64 - l)) (hl:l≤60) (hb:2≤b):v/b<2^(64 - (l+1)):=by
 have e:64 - l=(64 - (l+1))+1:=by omega
 rw [e,Nat.pow_succ] at h
 rw [Nat.div_lt_iff_lt_mul (by omega)]
 exact Nat.lt_of_lt_of_le h (Nat.mul_le_mul_left _ hb)
end
end
end Go.Proofs.YtmjappnpedjlnaaGreatDoor
