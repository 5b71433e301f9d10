/-
  What the law AuthorityStrict leans on, and its walk (3 of 35).
-/
import Derived.Laws.BitsLemmas
import Derived.Deep.DeepCutAuto
import Derived.Lib.ItoaNum
import Derived.Test.YtmjappnpedjlnaaGreatDoorShelf
import Derived.Lib.AppendIntMem
import Derived.Lib.SmallJoins
import Derived.Test.YtmjappnpedjlnaaGreatDoorAuthorityStrictPkB
import Derived.Test.YtmjappnpedjlnaaGreatDoorAuthorityStrictPkA
namespace Go.Proofs.YtmjappnpedjlnaaGreatDoor
set_option maxRecDepth 100000
set_option maxHeartbeats 16000000
abbrev zzJ := @Lib.hid
abbrev zzK := @decide_eq_false
abbrev zzL := @decide_eq_true
abbrev zzM := @congrArg
section
section
open Go.RowKit
def limZ (n i:Nat):Int:=if i+1=n then 256^(5 - n) else 256
def wtZ (n i:Nat):Int:=if i+1=n then 1 else 256^(3 - i)
def goF (n:Nat):Nat→Int→List (List UInt8)→Int×Bool
 |_,A,[]=>(A,true)
 |i,A,p::r=>if (zbG p).2=true∧(zbG p).1<limZ n i then goF n (i+1) (A+(zbG p).1*wtZ n i) r else (0,false)
def zeU (ps:List (List UInt8)):Nat:=if 1<ps.length∧ps.getD (ps.length - 1) []=[] then ps.length - 1 else ps.length
def zxA (ps:List (List UInt8)):Int×Bool:=if 4<zeU ps then (0,false) else goF (zeU ps) 0 0 (ps.take (zeU ps))
def zeV (l:List UInt8):Int×Bool:=zxA (zaH l)
theorem znL (b:Int) (hb:0≤b) (l:List UInt8) (hd:zaQ b l=true):0≤numZ b l∧numZ b l≤1099511627776:=by
 have key: ∀(l:List UInt8) (n:Int),0≤n→n≤1099511627776→zaQ b l=true→0≤l.foldl (znZ b) n∧l.foldl (znZ b) n≤1099511627776:=by
  intro l
  induction l with
  |nil=>intro n h0 h1 _;exact ⟨h0,h1⟩
  |cons c l ih=>
   intro n h0 h1 hd
   have h2:digC b c=true∧zaQ b l=true:=by simpa [zaQ] using hd
   have h3:=of_decide_eq_true h2.1
   have hp:0≤n*b:=Int.mul_nonneg h0 hb
   refine ih _ ?_ (zyR _) h2.2
   unfold znZ capZ
   split<;>omega
 exact key l 0 (Int.le_refl _) (by omega) hd
theorem zeK (l:List UInt8):0≤(zbG l).1∧(zbG l).1≤1099511627776:=by
 unfold zbG
 split
 ·exact ⟨Int.le_refl _,by show (0:Int)≤_;omega⟩
 ·split
  ·have hb:=zjG l
   exact znL _ (by omega) _ (by assumption)
  ·exact ⟨Int.le_refl _,by show (0:Int)≤_;omega⟩
theorem zrM (n k:Nat) (A:Int) (ps:List (List UInt8)) (h:n≤k):goF n k A ((ps.take n).drop k)=(A,true):=by
 rw [List.drop_eq_nil_of_le (by simp;omega)]
 rfl
theorem zkT (n k:Nat) (ps:List (List UInt8)) (h:k<n) (hn:n≤ps.length):(ps.take n).drop k=ps.getD k []::(ps.take n).drop (k+1):=by
 rw [List.drop_eq_getElem_cons (by simp;omega)]
 congr 1
 rw [List.getElem_take,List.getD,List.getElem?_eq_getElem (by omega)]
 rfl
theorem znY (n k:Nat) (A:Int) (ps:List (List UInt8)) (p:List UInt8) (x:Int) (h:k<n) (hn:n≤ps.length) (hp:ps.getD k []=p) (hx:zbG p=(x,true)) (hl:x<limZ n k):
  goF n k A ((ps.take n).drop k)=goF n (k+1) (A+x*wtZ n k) ((ps.take n).drop (k+1)):=by
 rw [zkT n k ps h hn,hp]
 show (if _ then _ else _)=_
 rw [hx,if_pos ⟨rfl,hl⟩]
theorem zkR (n k:Nat) (A:Int) (ps:List (List UInt8)) (p:List UInt8) (x:Int) (b:Bool) (h:k<n) (hn:n≤ps.length) (hp:ps.getD k []=p) (hx:zbG p=(x,b)) (hl:b=false∨limZ n k≤x):
  goF n k A ((ps.take n).drop k)=(0,false):=by
 rw [zkT n k ps h hn,hp]
 show (if _ then _ else _)=_
 rw [hx,if_neg]
 rintro ⟨h1,h2⟩
 rcases hl with h3|h3
 ·rw [h3] at h1;cases h1
 ·exact absurd h2 (by show ¬x<_;omega)
theorem zrE (n:Nat) (ps:List (List UInt8)) (h:ps.length=n+1) (hc:n=0∨ps.getD n []≠[]):zeU ps=n+1:=by
 unfold zeU
 rw [h,Nat.add_sub_cancel,if_neg]
 rintro ⟨h1,h2⟩
 rcases hc with h3|h3
 ·omega
 ·exact h3 h2
theorem zlZ (n:Nat) (ps:List (List UInt8)) (h:ps.length=n+2) (hx:ps.getD (n+1) []=[]):zeU ps=n+1:=by
 unfold zeU
 rw [h,show n+2 - 1=n+1 from rfl,hx,if_pos ⟨by omega,rfl⟩]
theorem zoD {l:List UInt8} {n:Nat} (hk:zeU (zaH l)=n) (h:n≤4):zeV l=goF n 0 0 (((zaH l).take n).drop 0):=by
 unfold zeV zxA
 rw [hk,if_neg (by omega)]
 rfl
theorem zjK {l:List UInt8} {n:Nat} (hk:zeU (zaH l)=n) (h:4<n):zeV l=(0,false):=by
 unfold zeV zxA
 rw [hk,if_pos h]
theorem zoY (i:Nat) (x y:Int) (hx0:0≤x) (hx:x % 2^i=0) (hx1:x<4294967296) (hy0:0≤y) (hy:y<2^i) (hy1:y<4294967296):bits .or .u32 x y=x+y:=
 bits_join .u32 32 (by decide) (fun n h0 h1=>by rw [IntKind.wrap_u32];omega) i x y hx0 hx hx1 hy0 hy hy1
theorem zbY.form2 {B:Nat} {w:World} {v:Value} {ps:List (List UInt8)} (h:zbY B w v ps) (hn:0<ps.length):
  ∃g cap,v= .slice (some ⟨g,0,none⟩) ps.length cap∧ps.length≤cap∧g<w.heap.size∧ ∀j,j<ps.length→w.cell? ⟨g,j,none⟩=some (.string ⟨(ps.getD j []).toArray⟩):=by
 obtain ⟨g,c,rfl,hg,hc⟩:=h.form hn
 refine ⟨g,c,rfl,?_,hg,hc⟩
 unfold zbY at h
 rcases h.2 with ⟨h0,_⟩|⟨g',cap,cur,hv,_,_,hle,_⟩
 ·cases h0
 ·cases hv;exact hle
def ziJ (w:World) (x:Int×Bool) (e:Ending) (w':World):Prop:=e= .returned (.tuple #[.int .u32 x.1,.bool x.2])∧Below w.heap.size w w'
theorem zaX {w w':World} {x:Int×Bool} {n:Int} {b:Bool} (h:x=(n,b)) (hb:Below w.heap.size w w'):ziJ w x (.returned (.tuple #[.int .u32 n,.bool b])) w':=by
 subst h;exact ⟨rfl,hb⟩
theorem zfH (l:List UInt8): ∃L x,(zaH l).length=L+1∧(zaH l).getD L []=x∧L≤l.length∧(0<L∧x=[]∧zeU (zaH l)=L∨(L=0∨x≠[])∧zeU (zaH l)=L+1):=by
 have h0:0<(zaH l).length:=zdN _ _
 have hl:=zbS (hasB [46]) l
 obtain ⟨L,hL⟩: ∃L,(zaH l).length=L+1:=⟨(zaH l).length - 1,by omega⟩
 refine ⟨L,_,hL,rfl,by unfold zaH at hL;omega,?_⟩
 by_cases h:0<L∧(zaH l).getD L []=[]
 ·obtain ⟨h1,h2⟩:=h
  refine .inl ⟨h1,h2,?_⟩
  obtain ⟨n,rfl⟩: ∃n,L=n+1:=⟨L - 1,by omega⟩
  exact zlZ n _ hL h2
 ·have hc:L=0∨(zaH l).getD L []≠[]:=by
   by_cases e:L=0
   ·exact .inl e
   ·exact .inr fun e2=>h ⟨by omega,e2⟩
  exact .inr ⟨hc,zrE L _ hL hc⟩
theorem zxW (k n:Nat) (A x V:Int) (hk:k≤n) (hn:n≤3) (hA0:0≤A) (hA1:A<4294967296) (hA:A % 2^(32 - 8*k)=0) (hx0:0≤x) (hx:x<limZ (n+1) k)
  (hV:V=if k=n then x % 4294967296 else x % 4294967296*2^(24 - 8*k) % 4294967296):
  bits .or .u32 A V=A+x*wtZ (n+1) k∧0≤A+x*wtZ (n+1) k∧A+x*wtZ (n+1) k<4294967296∧(k+1≤n→(A+x*wtZ (n+1) k) % 2^(32 - 8*(k+1))=0):=by
 have key: ∀(i:Nat) (W:Int),A % 2^i=0→V=x*W→0≤x*W→x*W<2^i→x*W<4294967296→bits .or .u32 A V=A+x*W:=fun i W h1 h2 h3 h4 h5=>by rw [h2];exact zoY i A _ hA0 h1 hA1 h3 h4 h5
 obtain ⟨W,hW⟩: ∃W,wtZ (n+1) k=W:=⟨_,rfl⟩
 rw [hW]
 rcases (show n=0∨n=1∨n=2∨n=3 from by omega) with rfl|rfl|rfl|rfl<;>
  rcases (show k=0∨k=1∨k=2∨k=3 from by omega) with rfl|rfl|rfl|rfl<;>
  first
  |omega
  |(simp [limZ] at hx
    simp at hV hA
    simp [wtZ] at hW
    subst hW
    refine ⟨?_,by omega,by omega,fun h=>by first|omega|(simp;omega)⟩
    first
    |exact key 32 _ (by simpa using hA) (by omega) (by omega) (by omega) (by omega)
    |exact key 24 _ (by simpa using hA) (by omega) (by omega) (by omega) (by omega)
    |exact key 16 _ (by simpa using hA) (by omega) (by omega) (by omega) (by omega)
    |exact key 8 _ (by simpa using hA) (by omega) (by omega) (by omega) (by omega))
theorem lim4 (k n:Nat) (x:Int) (hk:k≤n) (hn:n≤3) (hx0:0≤x):(if k=n then x/2^(32 - 8*k) else x/256)=0↔x<limZ (n+1) k:=by
 rcases (show n=0∨n=1∨n=2∨n=3 from by omega) with rfl|rfl|rfl|rfl<;>
  rcases (show k=0∨k=1∨k=2∨k=3 from by omega) with rfl|rfl|rfl|rfl<;>
  first
  |omega
  |(simp [limZ];omega)
theorem zqZ (s:ByteArray) (w:World) (hs:s.size≤1073741824):
  Calls Tryz.prog 128 #[.string s] w (ziJ w (zeV s.data.toList)):=by
 obtain ⟨L,x,hL,hx,hLl,hc⟩:=zfH s.data.toList
 rw [zaB] at hLl
 go_enter Tryz.func128,Tryz.ntmps128
 go_wp2_with fail
 refine (zdD s _ _ hs).mono ?_
 rintro e w1 ⟨v,rfl,hp,hb1⟩
 have hp':zbY w.heap.size w1 v (zaH s.data.toList):=hp
 obtain ⟨g,cap,rfl,hcap,hg,hcell⟩:=hp'.form2 (by omega)
 rw [hL] at hcap ⊢
 have hcx:=hcell L (by omega)
 rw [hx] at hcx
 have HC:=zzJ hcell
 have HL:=zzJ hL
 clear hcell hp hp' hL hx
 obtain ⟨b,hb⟩: ∃b,decide (0<L∧x=[])=b:=⟨_,rfl⟩
 have hcb:zeU (zaH s.data.toList)=(if b=true then L else L+1)∧(b=true→0<L):=by
  rcases hc with ⟨h1,h2,hk⟩|⟨h,hk⟩
  ·rw [←hb,zzL ⟨h1,h2⟩];exact ⟨hk,fun _=>h1⟩
  ·rw [←hb,zzK (by rintro ⟨h1,h2⟩;rcases h with h|h;omega;exact h h2)];exact ⟨hk,fun e=>by cases e⟩
 have HB:=zzJ hb
 have HK:=zzJ hcb
 clear hb hcb
 go_upto_region 3 with fail
 go_cut [26] (fun v wc=>v= .bool b∧wc=w1)
 case first=>
  rcases hc with ⟨h1,rfl,hk⟩|⟨rfl|hne,hk⟩
  ·have hb:b=true:=by rw [←HB.out];exact zzL ⟨h1,rfl⟩
   have hd:(0:Int)<(L:Int):=by omega
   clear hk
   go_wp2
   go_meet
   exact ⟨by rw [hb],rfl⟩
  ·have hb:b=false:=by rw [←HB.out];exact zzK (by omega)
   clear hk
   go_wp2
   go_meet
   exact ⟨by rw [hb],rfl⟩
  ·have hb:b=false:=by rw [←HB.out];exact zzK (fun h=>hne h.2)
   have hxe:x.isEmpty=false:=zbF hne
   clear hk hne
   go_wp2
   all_goals
    go_meet
    exact ⟨by rw [hb],rfl⟩
 case rest=>
 obtain ⟨rfl,rfl⟩:=hcut
 rename World=>w2
 clear hcx hc
 go_upto_if 26 with fail
 go_cut [5] (fun v wc=> ∃n:Nat,v= .int .i64 n∧n≤L∧wc=w2∧Hid (zeU (zaH s.data.toList)=n+1))
 case first=>
  cases b with
  |true=>
   have h0:=HK.out.2 rfl
   obtain ⟨n,rfl⟩: ∃n,L=n+1:=⟨L - 1,by omega⟩
   clear h0
   go_wp2
   go_meet
   exact ⟨n,zzM (Value.int .i64) (by omega),by omega,rfl,HK.out.1⟩
  |false=>
   go_wp2
   go_meet
   exact ⟨L,zzM (Value.int .i64) (by omega),Nat.le_refl _,rfl,HK.out.1⟩
 case rest=>
 obtain ⟨n,rfl,hn,rfl,HK⟩:=hcut
 rename World=>w1
 by_cases h3:3<n
 ·have hd:decide ((3:Int)<(n:Int))=true:=zzL (by omega)
  have HZ:=zzJ (zjK HK.out (by omega))
  go_wp2
  go_ret2
  exact zaX HZ.out hb1
 have hd:decide ((3:Int)<(n:Int))=false:=zzK (by omega)
 have HZ:=zzJ (zoD HK.out (by omega))
 have hnc:(n:Int)+1≤(cap:Int):=by omega
 go_wp2
 clear hd
 go_loopw [6,36] (fun v i wr=> ∃(k:Nat) (A:Int),k≤n+1∧i= .int .i64 k∧v= .int .u32 A∧0≤A∧A<4294967296∧Hid (k≤n→A % 2^(32 - 8*k)=0)∧Hid (goF (n+1) k A (((zaH s.data.toList).take (n+1)).drop k)=zeV s.data.toList)∧Below w1.heap.size w1 wr) (fun _ i _=>n+1 - (intOf i).toNat)
 case atStart=>exact ⟨0,0,by omega,rfl,rfl,by omega,by omega,fun _=>rfl,HZ.out.symm,Below.refl _ _⟩
 case round=>
  obtain ⟨k,A,hk,rfl,rfl,hA0,hA1,HM,HG,hbw⟩:=hrel
  by_cases hkn:k≤n
  ·obtain ⟨p,hp⟩: ∃p,(zaH s.data.toList).getD k []=p:=⟨_,rfl⟩
   have hcx:=(hbw.cell (p:=⟨g,k,none⟩) hg).trans (HC.out k (by rw [HL.out];omega))
   rw [hp] at hcx
   obtain ⟨x,b,hpz⟩: ∃x b,zbG p=(x,b):=⟨_,_,rfl⟩
   have hx0:=zeK p
   have hpl:p.length≤s.size:=by rw [←hp,←zaB];exact zcI _ _ _
   rw [hpz] at hx0
   have HPP:=zzJ (fun W=>zgL ⟨p.toArray⟩ W (by rw [zaA];omega))
   rw [zaE,hpz] at HPP
   have HA:=zzJ (HM.out hkn)
   have HP:=zzJ hp
   have HPZ:=zzJ hpz
   obtain ⟨hx0,hx1⟩:=hx0
   clear hp hpz
   by_cases hlast:k=n
   ·have e1:((k:Int)==(n:Int))=true:=by rw [hlast];simp
    have HLA:=zzJ hlast
    clear hlast
    go_wp2_with fail
    refine (HPP.out _).mono ?_
    rintro e w2 ⟨rfl,hb2⟩
    have hc2:=hbw.trans (hb2.mono hbw.size)
    cases b with
    |false=>
     have HN:=zzJ (HG.out.symm.trans (zkR (n+1) k A _ p x false (by omega) (by rw [HL.out];omega) HP.out HPZ.out (.inl rfl)))
     go_wp2
     go_ret2
     exact zaX HN.out (hb1.trans (hc2.mono hb1.size))
    |true=>
     by_cases hxl:x<limZ (n+1) k
     ·have hq:(x/2^(32 - 8*k) !=0)=false:=by rw [bne_eq_false_iff_eq];have:=(lim4 k n x hkn (by omega) hx0).2 hxl;rwa [if_pos HLA.out] at this
      have hgo:=HG.out
      rw [znY (n+1) k A _ p x (by omega) (by rw [HL.out];omega) HP.out HPZ.out hxl] at hgo
      obtain ⟨j1,j2,j3,j4⟩:=zxW k n A x (x % 4294967296) hkn (by omega) hA0 hA1 HA.out hx0 hxl (by rw [if_pos HLA.out])
      have HJ:=zzJ j1
      have HG2:=zzJ hgo
      clear hgo j1
      go_wp2
      go_roundw
      case rel=>exact ⟨k+1,A+x*wtZ (n+1) k,by omega,by go_num,by rw [HJ.out],j2,j3,j4,HG2.out,hc2⟩
      case measure=>simp [intOf];omega
     ·have hq:(x/2^(32 - 8*k) !=0)=true:=by rw [bne_iff_ne];have:=fun h=>hxl ((lim4 k n x hkn (by omega) hx0).1 h);rwa [if_pos HLA.out] at this
      have HN:=zzJ (HG.out.symm.trans (zkR (n+1) k A _ p x true (by omega) (by rw [HL.out];omega) HP.out HPZ.out (.inr (by omega))))
      go_wp2
      go_ret2
      exact zaX HN.out (hb1.trans (hc2.mono hb1.size))
   ·have e1:((k:Int)==(n:Int))=false:=beq_eq_false_iff_ne.2 (by omega)
    have HLA:=zzJ hlast
    have hkn':(k:Int)<(n:Int):=by omega
    clear hlast
    go_wp2_with fail
    refine (HPP.out _).mono ?_
    rintro e w2 ⟨rfl,hb2⟩
    have hc2:=hbw.trans (hb2.mono hbw.size)
    cases b with
    |false=>
     have HN:=zzJ (HG.out.symm.trans (zkR (n+1) k A _ p x false (by omega) (by rw [HL.out];omega) HP.out HPZ.out (.inl rfl)))
     go_wp2
     go_ret2
     exact zaX HN.out (hb1.trans (hc2.mono hb1.size))
    |true=>
     by_cases hxl:x<limZ (n+1) k
     ·have hq:(x/256 !=0)=false:=by rw [bne_eq_false_iff_eq];have:=(lim4 k n x hkn (by omega) hx0).2 hxl;rwa [if_neg HLA.out] at this
      have hgo:=HG.out
      rw [znY (n+1) k A _ p x (by omega) (by rw [HL.out];omega) HP.out HPZ.out hxl] at hgo
      obtain ⟨j1,j2,j3,j4⟩:=zxW k n A x (x % 4294967296*2^(24 - 8*k) % 4294967296) hkn (by omega) hA0 hA1 HA.out hx0 hxl (by rw [if_neg HLA.out])
      have HJ:=zzJ j1
      have HG2:=zzJ hgo
      clear hgo j1
      go_wp2
      go_roundw
      case rel=>exact ⟨k+1,A+x*wtZ (n+1) k,by omega,by go_num,by rw [HJ.out],j2,j3,j4,HG2.out,hc2⟩
      case measure=>simp [intOf];omega
     ·have hq:(x/256 !=0)=true:=by rw [bne_iff_ne];have:=fun h=>hxl ((lim4 k n x hkn (by omega) hx0).1 h);rwa [if_neg HLA.out] at this
      have HN:=zzJ (HG.out.symm.trans (zkR (n+1) k A _ p x true (by omega) (by rw [HL.out];omega) HP.out HPZ.out (.inr (by omega))))
      go_wp2
      go_ret2
      exact zaX HN.out (hb1.trans (hc2.mono hb1.size))
  ·obtain rfl:k=n+1:=by omega
   have HN:=zzJ (HG.out.symm.trans (zrM (n+1) (n+1) A _ (Nat.le_refl _)))
   go_wp2
   go_ret2
   exact zaX HN.out (hb1.trans (hbw.mono hb1.size))
theorem zkB (j v:Int) (w:World) (h:(j=0∧v=1)∨(j=1∧v=256)∨(j=2∧v=65536)∨(j=3∧v=16777216)∨(j=4∧v=4294967296)):
  Calls Tryz.prog 187 #[.int .i64 j] w fun e w'=>e= .returned (.int .u64 v)∧w=w':=by
 obtain ⟨n,hj,hv,hn⟩: ∃n:Nat,j=n∧v=256^n∧n≤4:=by
  rcases h with ⟨rfl,rfl⟩|⟨rfl,rfl⟩|⟨rfl,rfl⟩|⟨rfl,rfl⟩|⟨rfl,rfl⟩
  ·exact ⟨0,rfl,rfl,by omega⟩
  ·exact ⟨1,rfl,rfl,by omega⟩
  ·exact ⟨2,rfl,rfl,by omega⟩
  ·exact ⟨3,rfl,rfl,by omega⟩
  ·exact ⟨4,rfl,rfl,by omega⟩
 subst hj
 have HV:=zzJ hv
 clear hv h
 go_enter Tryz.func187,Tryz.ntmps187
 go_wp2
 go_loop [3,4] (fun o i=> ∃(k:Nat) (A:Int),k≤n∧i= .int .i64 k∧o= .int .u64 A∧Hid (A=256^k)) (fun _ i=>n - (intOf i).toNat)
 case atStart=>exact ⟨0,1,Nat.zero_le _,rfl,rfl,rfl⟩
 case round=>
  obtain ⟨k,A,hk,rfl,rfl,HA⟩:=hrel
  by_cases hlt:k<n
  ·have hA:0≤A∧A≤16777216:=by
    have h1:=HA.out
    rcases (show k=0∨k=1∨k=2∨k=3 from by omega) with rfl|rfl|rfl|rfl<;>(rw [h1];decide)
   obtain ⟨hA0,hA1⟩:=hA
   go_wp2
   go_round
   case rel=>exact ⟨k+1,A*256,by omega,by go_num,rfl,(by show _=_;rw [HA.out,Int.pow_succ])⟩
   case measure=>simp [intOf];omega
  ·obtain rfl:k=n:=by omega
   go_wp2
   go_ret
   exact ⟨zbC (by rw [HA.out,HV.out]),rfl⟩
theorem ref4 (k n:Nat) (A x:Int) (hk:k≤n) (hn:n≤3) (hA0:0≤A) (hA1:A<4294967296) (hA:A % 2^(32 - 8*k)=0) (hx0:0≤x) (hx:x<limZ (n+1) k):
  0≤A+x*wtZ (n+1) k∧A+x*wtZ (n+1) k<4294967296∧(k+1≤n→(A+x*wtZ (n+1) k) % 2^(32 - 8*(k+1))=0):=
 (zxW k n A x _ hk hn hA0 hA1 hA hx0 hx rfl).2
theorem limP (n:Nat) (hn:n≤3):(n=0∧limZ (n+1) n=4294967296∨n=1∧limZ (n+1) n=16777216∨n=2∧limZ (n+1) n=65536∨n=3∧limZ (n+1) n=256)∧wtZ (n+1) n=1:=by
 rcases (show n=0∨n=1∨n=2∨n=3 from by omega) with rfl|rfl|rfl|rfl
 ·exact ⟨.inl ⟨rfl,rfl⟩,rfl⟩
 ·exact ⟨.inr (.inl ⟨rfl,rfl⟩),rfl⟩
 ·exact ⟨.inr (.inr (.inl ⟨rfl,rfl⟩)),rfl⟩
 ·exact ⟨.inr (.inr (.inr ⟨rfl,rfl⟩)),rfl⟩
theorem limQ (k n:Nat) (hk:k<n) (hn:n≤3):limZ (n+1) k=256∧(k=0∧wtZ (n+1) k=16777216∨k=1∧wtZ (n+1) k=65536∨k=2∧wtZ (n+1) k=256):=by
 unfold limZ wtZ
 rw [if_neg (by omega),if_neg (by omega)]
 refine ⟨rfl,?_⟩
 rcases (show k=0∨k=1∨k=2 from by omega) with rfl|rfl|rfl
 ·exact .inl ⟨rfl,rfl⟩
 ·exact .inr (.inl ⟨rfl,rfl⟩)
 ·exact .inr (.inr ⟨rfl,rfl⟩)
theorem zkG (s:ByteArray) (w:World) (hs:s.size≤1073741824):
  Calls Tryz.prog 133 #[.string s] w (ziJ w (zeV s.data.toList)):=by
 obtain ⟨L,x,hL,hx,hLl,hc⟩:=zfH s.data.toList
 rw [zaB] at hLl
 go_enter Tryz.func133,Tryz.ntmps133
 go_wp2_with fail
 refine (zbT s _ _ hs (by decide)).mono ?_
 rintro e w1 ⟨v,rfl,hp,hb1⟩
 have hp':zbY w.heap.size w1 v (zaH s.data.toList):=hp
 obtain ⟨g,cap,rfl,hcap,hg,hcell⟩:=hp'.form2 (by omega)
 rw [hL] at hcap ⊢
 have hcx:=hcell L (by omega)
 rw [hx] at hcx
 have HC:=zzJ hcell
 have HL:=zzJ hL
 clear hcell hp hp' hL hx
 obtain ⟨b,hb⟩: ∃b,decide (0<L∧x=[])=b:=⟨_,rfl⟩
 have hcb:zeU (zaH s.data.toList)=(if b=true then L else L+1)∧(b=true→0<L):=by
  rcases hc with ⟨h1,h2,hk⟩|⟨h,hk⟩
  ·rw [←hb,zzL ⟨h1,h2⟩];exact ⟨hk,fun _=>h1⟩
  ·rw [←hb,zzK (by rintro ⟨h1,h2⟩;rcases h with h|h;omega;exact h h2)];exact ⟨hk,fun e=>by cases e⟩
 have HB:=zzJ hb
 have HK:=zzJ hcb
 clear hb hcb
 go_upto_region 2 with fail
 go_cut [23] (fun v wc=>v= .bool b∧wc=w1)
 case first=>
  rcases hc with ⟨h1,rfl,hk⟩|⟨rfl|hne,hk⟩
  ·have hb:b=true:=by rw [←HB.out];exact zzL ⟨h1,rfl⟩
   have hd:(1:Int)<(L:Int)+1:=by omega
   clear hk
   go_wp2
   go_meet
   exact ⟨by rw [hb],rfl⟩
  ·have hb:b=false:=by rw [←HB.out];exact zzK (by omega)
   clear hk
   go_wp2
   go_meet
   exact ⟨by rw [hb],rfl⟩
  ·have hb:b=false:=by rw [←HB.out];exact zzK (fun h=>hne h.2)
   have hxe:x.isEmpty=false:=zbF hne
   clear hk hne
   go_wp2
   all_goals
    go_meet
    exact ⟨by rw [hb],rfl⟩
 case rest=>
 obtain ⟨rfl,rfl⟩:=hcut
 rename World=>w2
 clear hcx hc
 go_upto_if 23 with fail
 go_cut [4] (fun v wc=> ∃n:Nat,v= .slice (some ⟨g,0,none⟩) (n+1) cap∧n≤L∧wc=w2∧Hid (zeU (zaH s.data.toList)=n+1))
 case first=>
  cases b with
  |true=>
   have h0:=HK.out.2 rfl
   obtain ⟨n,rfl⟩: ∃n,L=n+1:=⟨L - 1,by omega⟩
   clear h0
   go_wp2
   go_meet
   exact ⟨n,rfl,by omega,rfl,HK.out.1⟩
  |false=>
   go_wp2
   go_meet
   exact ⟨L,rfl,Nat.le_refl _,rfl,HK.out.1⟩
 case rest=>
 obtain ⟨n,rfl,hn,rfl,HK⟩:=hcut
 rename World=>w1
 by_cases h3:4<n+1
 ·have hd:(4:Int)<(n:Int)+1:=by omega
  have HZ:=zzJ (zjK HK.out h3)
  go_wp2
  go_ret2
  exact zaX HZ.out hb1
 have hd: ¬(4:Int)<(n:Int)+1:=by omega
 have HZ:=zzJ (zoD HK.out (by omega))
 go_wp2
 go_loopw [6,7] (fun v i wr=> ∃(k:Nat) (A:Int),k≤n+1∧i= .int .i64 k∧v= .int .u64 A∧0≤A∧A<4294967296∧Hid (k≤n→A % 2^(32 - 8*k)=0)∧Hid (goF (n+1) k A (((zaH s.data.toList).take (n+1)).drop k)=zeV s.data.toList)∧Below w1.heap.size w1 wr) (fun _ i _=>n+1 - (intOf i).toNat)
 case atStart=>exact ⟨0,0,by omega,rfl,rfl,by omega,by omega,fun _=>rfl,HZ.out.symm,Below.refl _ _⟩
 case round=>
  obtain ⟨k,A,hk,rfl,rfl,hA0,hA1,HM,HG,hbw⟩:=hrel
  by_cases hkn:k≤n
  ·obtain ⟨p,hp⟩: ∃p,(zaH s.data.toList).getD k []=p:=⟨_,rfl⟩
   have hcx:=(hbw.cell (p:=⟨g,k,none⟩) hg).trans (HC.out k (by rw [HL.out];omega))
   rw [hp] at hcx
   obtain ⟨x,b,hpz⟩: ∃x b,zbG p=(x,b):=⟨_,_,rfl⟩
   have hx0:=zeK p
   have hpl:p.length≤s.size:=by rw [←hp,←zaB];exact zcI _ _ _
   rw [hpz] at hx0
   have HPP:=zzJ (fun W=>zbU ⟨p.toArray⟩ W (by rw [zaA];omega))
   rw [zaE,hpz] at HPP
   have HA:=zzJ (HM.out hkn)
   have HP:=zzJ hp
   have HPZ:=zzJ hpz
   obtain ⟨hx0,hx1⟩:=hx0
   clear hp hpz
   have HNO:Hid (b=false∨limZ (n+1) k≤x→zeV s.data.toList=(0,false)):=fun h=>HG.out.symm.trans (zkR (n+1) k A _ p x b (by omega) (by rw [HL.out];omega) HP.out HPZ.out h)
   go_wp2_with fail
   refine (HPP.out _).mono ?_
   rintro e w2 ⟨rfl,hb2⟩
   have hc2:=hbw.trans (hb2.mono hbw.size)
   clear hb2 HPP
   cases b with
   |false=>
    have HN:=zzJ (HNO.out (.inl rfl))
    go_wp2
    go_ret2
    exact zaX HN.out (hb1.trans (hc2.mono hb1.size))
   |true=>
    have hgy:=fun h=>HG.out.symm.trans (znY (n+1) k A _ p x (by omega) (by rw [HL.out];omega) HP.out HPZ.out h)
    have hrf:=fun h=>ref4 k n A x hkn (by omega) hA0 hA1 HA.out hx0 h
    by_cases hlast:k=n
    ·subst hlast
     obtain ⟨hlp,hwt⟩:=limP k (by omega)
     rw [hwt,Int.mul_one] at hgy hrf
     generalize limZ (k+1) k=P at*
     by_cases hxl:x<P
     ·have HG2:=zzJ (hgy hxl)
      obtain ⟨j2,j3,j4⟩:=hrf hxl
      have HJ4:=zzJ j4
      have hd:decide (P≤x)=false:=zzK (by omega)
      clear hgy hrf j4
      go_wp2_with fail
      refine (zkB _ P _ (by omega)).mono ?_
      rintro e w' ⟨rfl,rfl⟩
      clear hlp
      go_wp2
      go_roundw
      case rel=>exact ⟨k+1,A+x,by omega,by go_num,rfl,j2,j3,HJ4.out,HG2.out.symm,hc2⟩
      case measure=>first|(simp [intOf];done)|(simp [intOf];omega)
     ·have HN:=zzJ (HNO.out (.inr (by omega)))
      have hd:decide (P≤x)=true:=zzL (by omega)
      clear hgy hrf
      go_wp2_with fail
      refine (zkB _ P _ (by omega)).mono ?_
      rintro e w' ⟨rfl,rfl⟩
      clear hlp
      go_wp2
      go_ret2
      exact zaX HN.out (hb1.trans (hc2.mono hb1.size))
    ·obtain ⟨hlim,hwt⟩:=limQ k n (by omega) (by omega)
     rw [hlim] at hgy hrf HNO
     generalize wtZ (n+1) k=Q at*
     by_cases hxl:x<256
     ·have HG2:=zzJ (hgy hxl)
      obtain ⟨j2,j3,j4⟩:=hrf hxl
      have HJ4:=zzJ j4
      have hd:decide (255<x)=false:=zzK (by omega)
      have hm0:0≤x*Q:=Int.mul_nonneg hx0 (by omega)
      have hkn':(k:Int)<(n:Int):=by omega
      have hne:((k:Int)==(n:Int))=false:=beq_eq_false_iff_ne.2 (by omega)
      clear hgy hrf j4 hlim
      go_wp2_with fail
      refine (zkB _ Q _ (by omega)).mono ?_
      rintro e w' ⟨rfl,rfl⟩
      clear hwt
      go_wp2
      go_roundw
      case rel=>exact ⟨k+1,A+x*Q,by omega,by go_num,rfl,j2,j3,HJ4.out,HG2.out.symm,hc2⟩
      case measure=>first|(simp [intOf];done)|(simp [intOf];omega)
     ·have HN:=zzJ (HNO.out (.inr (by omega)))
      have hd:decide (255<x)=true:=zzL (by omega)
      have hkn':(k:Int)<(n:Int):=by omega
      clear hgy hrf
      go_wp2
      go_ret2
      exact zaX HN.out (hb1.trans (hc2.mono hb1.size))
  ·obtain rfl:k=n+1:=by omega
   have HN:=zzJ (HG.out.symm.trans (zrM (n+1) (n+1) A _ (Nat.le_refl _)))
   have hw:IntKind.u32.wrap A=A:=by rw [IntKind.wrap_u32];omega
   go_wp2
   go_ret2
   exact zaX HN.out (hb1.trans (hbw.mono hb1.size))
def goS:Int→List (List UInt8)→Int×Bool
 |A,[]=>(A,true)
 |A,p::r=>if (decZ p 255).2=true then goS (A*256+(decZ p 255).1) r else (0,false)
def zaT (l:List UInt8):Int×Bool:=if (zaH l).length=4 then goS 0 (zaH l) else (0,false)
theorem zfV (l:List UInt8) (m:Int) (hm:0≤m):0≤(decZ l m).1∧(decZ l m).1≤m:=by
 unfold decZ
 split
 ·exact ⟨Int.le_refl _,hm⟩
 ·rename_i h
  split
  ·exact ⟨Int.le_refl _,hm⟩
  ·refine ⟨ziN l ?_,by show decN l≤m;omega⟩
   cases hd:zaQ 10 l with
   |true=>rfl
   |false=>rw [hd] at h;simp at h
theorem zpL (k:Nat) (ps:List (List UInt8)) (h:k<ps.length):ps.drop k=ps.getD k []::ps.drop (k+1):=by
 rw [List.drop_eq_getElem_cons h,List.getD,List.getElem?_eq_getElem h]
 rfl
theorem ztR (k:Nat) (A:Int) (ps:List (List UInt8)) (p:List UInt8) (x:Int) (h:k<ps.length) (hp:ps.getD k []=p) (hx:decZ p 255=(x,true)):goS A (ps.drop k)=goS (A*256+x) (ps.drop (k+1)):=by
 rw [zpL k ps h,hp]
 show (if _ then _ else _)=_
 rw [hx,if_pos rfl]
theorem zxU (k:Nat) (A:Int) (ps:List (List UInt8)) (p:List UInt8) (x:Int) (h:k<ps.length) (hp:ps.getD k []=p) (hx:decZ p 255=(x,false)):goS A (ps.drop k)=(0,false):=by
 rw [zpL k ps h,hp]
 show (if _ then _ else _)=_
 rw [hx]
 rfl
theorem zuI (k:Nat) (A:Int) (ps:List (List UInt8)) (h:ps.length≤k):goS A (ps.drop k)=(A,true):=by
 rw [List.drop_eq_nil_of_le h]
 rfl
theorem zhI {l:List UInt8} (h:(zaH l).length=4):zaT l=goS 0 ((zaH l).drop 0):=by
 unfold zaT;rw [if_pos h];rfl
theorem zjA {l:List UInt8} (h:(zaH l).length≠4):zaT l=(0,false):=by
 unfold zaT;rw [if_neg h]
theorem zgY (s:ByteArray) (w:World) (hs:s.size≤1073741824):
  Calls Tryz.prog 224 #[.string s] w (ziJ w (zaT s.data.toList)):=by
 by_cases hl:(zaH s.data.toList).length=4
 ·have HL:=zzJ hl
  have HZ:=zzJ (zhI hl)
  clear hl
  go_enter Tryz.func224,Tryz.ntmps224
  go_wp2_with fail
  refine (zdD s _ _ hs).mono ?_
  rintro e w1 ⟨v,rfl,hp,hb1⟩
  have hp':zbY w.heap.size w1 v (zaH s.data.toList):=hp
  obtain ⟨g,cap,rfl,hcap,hg,hcell⟩:=hp'.form2 (by rw [HL.out];omega)
  rw [HL.out] at hcap hcell ⊢
  have HCELL:=zzJ hcell
  clear hp hp' hcell
  go_wp2
  go_loopw [5,17] (fun v i wr=> ∃(k:Nat) (A:Int),k≤4∧i= .int .i64 k∧v= .int .u32 A∧0≤A∧Hid (A<256^k)∧Hid (goS A ((zaH s.data.toList).drop k)=zaT s.data.toList)∧Below w1.heap.size w1 wr) (fun _ i _=>4 - (intOf i).toNat)
  case atStart=>exact ⟨0,0,by omega,rfl,rfl,by omega,(by show (0:Int)<256^0;decide),HZ.out.symm,Below.refl _ _⟩
  case round=>
   obtain ⟨k,A,hk,rfl,rfl,hA0,HM,HG,hbw⟩:=hrel
   by_cases hk4:k<4
   ·obtain ⟨p,hpk⟩: ∃p,(zaH s.data.toList).getD k []=p:=⟨_,rfl⟩
    have hcx:=HCELL.out k hk4
    rw [hpk] at hcx
    have hcx2:wr.cell? ⟨g,k,none⟩=some (.string ⟨p.toArray⟩):=(hbw.cell (p:=⟨g,k,none⟩) hg).trans hcx
    have hpl:p.length≤s.size:=by rw [←hpk,←zaB];exact zcI _ _ _
    obtain ⟨x,b,hpz⟩: ∃x b,decZ p 255=(x,b):=⟨_,_,rfl⟩
    have hx:0≤x∧x≤255:=by have h9:=zfV p 255 (by decide);rw [hpz] at h9;exact h9
    obtain ⟨hx0,hx1⟩:=hx
    have hA1:A<16777216:=by
     have h1:=HM.out
     rcases (show k=0∨k=1∨k=2∨k=3 from by omega) with rfl|rfl|rfl|rfl
     all_goals
      simp at h1
      omega
    have hA2:A*256+x<256^(k+1):=by
     have h1:=HM.out
     rcases (show k=0∨k=1∨k=2∨k=3 from by omega) with rfl|rfl|rfl|rfl
     all_goals
      simp at h1 ⊢
      omega
    have HA2:=zzJ hA2
    have hor:bits .or .u32 (A*256) x=A*256+x:=zoY 8 _ _ (by omega) (by omega) (by omega) (by omega) (by omega) (by omega)
    have HP:=zzJ hpk
    have HPZ:=zzJ hpz
    clear hpk hpz hcx hA2
    cases b with
    |true=>
     have hgo:=HG.out
     rw [ztR k A _ p x (by rw [HL.out];exact hk4) HP.out HPZ.out] at hgo
     have HG2:=zzJ hgo
     clear hgo
     go_wp2_with fail
     refine (ziF ⟨p.toArray⟩ 255 _ (by rw [zaA];omega) (by decide) (by decide)).mono ?_
     rw [zaE,HPZ.out]
     rintro e w2 ⟨rfl,hb2⟩
     have hc2:Below w1.heap.size w1 w2:=hbw.trans (hb2.mono hbw.size)
     clear hb2
     go_wp2
     go_roundw
     case rel=>exact ⟨k+1,A*256+x,by omega,by go_num,rfl,by omega,HA2,HG2,hc2⟩
     case measure=>simp [intOf];omega
    |false=>
     have HN:=zzJ (HG.out.symm.trans (zxU k A _ p x (by rw [HL.out];exact hk4) HP.out HPZ.out))
     go_wp2_with fail
     refine (ziF ⟨p.toArray⟩ 255 _ (by rw [zaA];omega) (by decide) (by decide)).mono ?_
     rw [zaE,HPZ.out]
     rintro e w2 ⟨rfl,hb2⟩
     have hc2:Below w1.heap.size w1 w2:=hbw.trans (hb2.mono hbw.size)
     clear hb2
     go_wp2
     go_ret2
     exact zaX HN.out (hb1.trans (hc2.mono hb1.size))
   ·have hfin:=HG.out
    rw [zuI k A _ (by rw [HL.out];omega)] at hfin
    have HF:=zzJ hfin.symm
    clear hfin
    go_wp2
    go_ret2
    exact zaX HF.out (hb1.trans (hbw.mono hb1.size))
 ·obtain ⟨m,hm⟩: ∃m,(zaH s.data.toList).length=m:=⟨_,rfl⟩
  have HZ:=zzJ (zjA hl)
  have h0:0<(zaH s.data.toList).length:=zdN _ _
  rw [hm] at hl h0
  have hmb:m≤1073741825:=by
   have h1:=zbS (hasB [46]) s.data.toList
   rw [zaB] at h1
   have h2:=hm
   unfold zaH at h2
   omega
  have hne:((m:Int) !=4)=true:=by rw [bne_iff_ne];omega
  have HM:=zzJ hm
  clear hm hl
  go_enter Tryz.func224,Tryz.ntmps224
  go_wp2_with fail
  refine (zdD s _ _ hs).mono ?_
  rintro e w1 ⟨v,rfl,hp,hb1⟩
  have hp':zbY w.heap.size w1 v (zaH s.data.toList):=hp
  obtain ⟨g,cap,rfl,hcap,hg,hcell⟩:=hp'.form2 (by rw [HM.out];omega)
  rw [HM.out]
  clear hp hp' hcell hcap
  go_wp2
  go_ret2
  exact zaX HZ.out hb1
theorem zaM (s:ByteArray) (w:World) (hs:s.size≤1073741824):
  Calls Tryz.prog 201 #[.string s] w (ziJ w (zaT s.data.toList)):=by
 by_cases hl:(zaH s.data.toList).length=4
 ·have HL:=zzJ hl
  have HZ:=zzJ (zhI hl)
  clear hl
  go_enter Tryz.func201,Tryz.ntmps201
  go_wp2_with fail
  refine (zbT s _ _ hs (by decide)).mono ?_
  rintro e w1 ⟨v,rfl,hp,hb1⟩
  have hp':zbY w.heap.size w1 v (zaH s.data.toList):=hp
  obtain ⟨g,cap,rfl,hcap,hg,hcell⟩:=hp'.form2 (by rw [HL.out];omega)
  rw [HL.out] at hcap hcell ⊢
  have HCELL:=zzJ hcell
  clear hp hp' hcell
  go_wp2
  go_loopw [5,6] (fun v i wr=> ∃(k:Nat) (A:Int),k≤4∧i= .int .i64 k∧v= .int .u32 A∧0≤A∧Hid (A<256^k)∧Hid (goS A ((zaH s.data.toList).drop k)=zaT s.data.toList)∧Below w1.heap.size w1 wr) (fun _ i _=>4 - (intOf i).toNat)
  case atStart=>exact ⟨0,0,by omega,rfl,rfl,by omega,(by show (0:Int)<256^0;decide),HZ.out.symm,Below.refl _ _⟩
  case round=>
   obtain ⟨k,A,hk,rfl,rfl,hA0,HM,HG,hbw⟩:=hrel
   by_cases hk4:k<4
   ·obtain ⟨p,hpk⟩: ∃p,(zaH s.data.toList).getD k []=p:=⟨_,rfl⟩
    have hcx:=HCELL.out k hk4
    rw [hpk] at hcx
    have hcx2:wr.cell? ⟨g,k,none⟩=some (.string ⟨p.toArray⟩):=(hbw.cell (p:=⟨g,k,none⟩) hg).trans hcx
    have hpl:p.length≤s.size:=by rw [←hpk,←zaB];exact zcI _ _ _
    obtain ⟨x,b,hpz⟩: ∃x b,decZ p 255=(x,b):=⟨_,_,rfl⟩
    have hx:0≤x∧x≤255:=by have h9:=zfV p 255 (by decide);rw [hpz] at h9;exact h9
    obtain ⟨hx0,hx1⟩:=hx
    have hA1:A<16777216:=by
     have h1:=HM.out
     rcases (show k=0∨k=1∨k=2∨k=3 from by omega) with rfl|rfl|rfl|rfl
     all_goals
      simp at h1
      omega
    have hA2:A*256+x<256^(k+1):=by
     have h1:=HM.out
     rcases (show k=0∨k=1∨k=2∨k=3 from by omega) with rfl|rfl|rfl|rfl
     all_goals
      simp at h1 ⊢
      omega
    have HA2:=zzJ hA2
    have HP:=zzJ hpk
    have HPZ:=zzJ hpz
    clear hpk hpz hcx hA2
    cases b with
    |true=>
     have hgo:=HG.out
     rw [ztR k A _ p x (by rw [HL.out];exact hk4) HP.out HPZ.out] at hgo
     have HG2:=zzJ hgo
     clear hgo
     go_wp2_with fail
     refine (zfM ⟨p.toArray⟩ 255 _ (by rw [zaA];omega) (by decide) (by decide)).mono ?_
     rw [zaE,HPZ.out]
     rintro e w2 ⟨rfl,hb2⟩
     have hc2:Below w1.heap.size w1 w2:=hbw.trans (hb2.mono hbw.size)
     clear hb2
     go_wp2
     go_roundw
     case rel=>exact ⟨k+1,A*256+x,by omega,by go_num,rfl,by omega,HA2,HG2,hc2⟩
     case measure=>simp [intOf];omega
    |false=>
     have HN:=zzJ (HG.out.symm.trans (zxU k A _ p x (by rw [HL.out];exact hk4) HP.out HPZ.out))
     go_wp2_with fail
     refine (zfM ⟨p.toArray⟩ 255 _ (by rw [zaA];omega) (by decide) (by decide)).mono ?_
     rw [zaE,HPZ.out]
     rintro e w2 ⟨rfl,hb2⟩
     have hc2:Below w1.heap.size w1 w2:=hbw.trans (hb2.mono hbw.size)
     clear hb2
     go_wp2
     go_ret2
     exact zaX HN.out (hb1.trans (hc2.mono hb1.size))
   ·have hfin:=HG.out
    rw [zuI k A _ (by rw [HL.out];omega)] at hfin
    have HF:=zzJ hfin.symm
    clear hfin
    go_wp2
    go_ret2
    exact zaX HF.out (hb1.trans (hbw.mono hb1.size))
 ·obtain ⟨m,hm⟩: ∃m,(zaH s.data.toList).length=m:=⟨_,rfl⟩
  have HZ:=zzJ (zjA hl)
  have h0:0<(zaH s.data.toList).length:=zdN _ _
  rw [hm] at hl h0
  have hmb:m≤1073741825:=by
   have h1:=zbS (hasB [46]) s.data.toList
   rw [zaB] at h1
   have h2:=hm
   unfold zaH at h2
   omega
  have hne:((m:Int) !=4)=true:=by rw [bne_iff_ne];omega
  have HM:=zzJ hm
  clear hm hl
  go_enter Tryz.func201,Tryz.ntmps201
  go_wp2_with fail
  refine (zbT s _ _ hs (by decide)).mono ?_
  rintro e w1 ⟨v,rfl,hp,hb1⟩
  have hp':zbY w.heap.size w1 v (zaH s.data.toList):=hp
  obtain ⟨g,cap,rfl,hcap,hg,hcell⟩:=hp'.form2 (by rw [HM.out];omega)
  rw [HM.out]
  clear hp hp' hcell hcap
  go_wp2
  go_ret2
  exact zaX HZ.out hb1
def dec3 (u:Nat):List UInt8:=
 if u<10 then [UInt8.ofNat (48+u)] else if u<100 then [UInt8.ofNat (48+u/10),UInt8.ofNat (48+u % 10)] else [UInt8.ofNat (48+u/100),UInt8.ofNat (48+u/10 % 10),UInt8.ofNat (48+u % 10)]
def txt (a b c d:Nat):List UInt8:=dec3 a++[46]++(dec3 b++[46]++(dec3 c++[46]++dec3 d))
def txtZ (n:Int):List UInt8:=txt (n/16777216).toNat (n/65536 % 256).toNat (n/256 % 256).toNat (n % 256).toNat
abbrev PowTab (w:World):Prop:=Lib.TabIs Tryz.prog w "internal/strconv.uint64pow10" .u64 Lib.pow10Tab
theorem zaF {w w':World} (h:PowTab w) (hb:Below w.heap.size w w'):PowTab w':=
 Lib.tabBelow_of_tabIs h w' hb
theorem zwE (i:Nat) (x y:Int) (hx0:0≤x) (hx:x % 2^i=0) (hx1:x<18446744073709551616) (hy0:0≤y) (hy:y<2^i) (hy1:y<18446744073709551616):bits .or .u64 x y=x+y:=
 bits_join .u64 64 (by decide) (fun n h0 h1=>by rw [IntKind.wrap_u64];omega) i x y hx0 hx hx1 hy0 hy hy1
theorem dec3_1: ∀i:Fin 10,dec3 i.val=[UInt8.ofNat (48+i.val)]:=by decide+kernel
theorem dec3_2: ∀i j:Fin 10,i.val≠0→dec3 (i.val*10+j.val)=[UInt8.ofNat (48+i.val),UInt8.ofNat (48+j.val)]:=by decide+kernel
theorem dec3_3: ∀i j k:Fin 10,i.val≠0→dec3 ((i.val*10+j.val)*10+k.val)=[UInt8.ofNat (48+i.val),UInt8.ofNat (48+j.val),UInt8.ofNat (48+k.val)]:=by decide+kernel
theorem zdA (c:UInt8) (h:digC 10 c=true): ∃i:Nat,i<10∧c=UInt8.ofNat (48+i)∧c.toNat=48+i∧valZ (c.toNat:Int)=(i:Int):=by
 rw [zfT] at h
 obtain ⟨h1,h2⟩:=ziC h
 refine ⟨c.toNat - 48,by omega,?_,by omega,?_⟩
 ·apply UInt8.toNat_inj.1
  rw [show 48+(c.toNat - 48)=c.toNat from by omega]
  simp
 ·rw [zgQ h1 h2];omega
theorem zgE (p:List UInt8) (x:Int) (h:decZ p 255=(x,true)):0≤x∧x≤255∧p=dec3 x.toNat:=by
 have hb:=zfV p 255 (by decide)
 rw [h] at hb
 refine ⟨hb.1,hb.2,?_⟩
 unfold decZ at h
 split at h
 ·exact absurd (zzM Prod.snd h) (by simp)
 ·rename_i hc
  split at h
  ·exact absurd (zzM Prod.snd h) (by simp)
  ·rename_i hm
   have hx:decN p=x:=zzM Prod.fst h
   have hd:zaQ 10 p=true:=by
    cases hd:zaQ 10 p with
    |true=>rfl
    |false=>rw [hd] at hc;simp at hc
   rw [hd] at hc
   have hall: ∀c∈p,digC 10 c=true:=List.all_eq_true.1 hd
   match p,hx,hc,hall,hm,hd with
   |[],_,hc,_,_,_=>simp at hc
   |[a],hx,_,hall,_,_=>
    obtain ⟨i,hi,ha,_,hv⟩:=zdA a (hall a (by simp))
    have:x=(i:Int):=by rw [←hx];simp [decN,hv]
    rw [this,ha]
    exact (dec3_1 ⟨i,hi⟩).symm
   |[a,b],hx,hc,hall,_,_=>
    obtain ⟨i,hi,ha,hna,hva⟩:=zdA a (hall a (by simp))
    obtain ⟨j,hj,hb',_,hvb⟩:=zdA b (hall b (by simp))
    have hi0:i≠0:=by
     intro e
     apply hc
     simp [hna,e]
    have:x=((i*10+j:Nat):Int):=by rw [←hx];simp [decN,hva,hvb]
    rw [this,ha,hb']
    exact (dec3_2 ⟨i,hi⟩ ⟨j,hj⟩ hi0).symm
   |[a,b,c],hx,hc,hall,_,_=>
    obtain ⟨i,hi,ha,hna,hva⟩:=zdA a (hall a (by simp))
    obtain ⟨j,hj,hb',_,hvb⟩:=zdA b (hall b (by simp))
    obtain ⟨k,hk,hc',_,hvc⟩:=zdA c (hall c (by simp))
    have hi0:i≠0:=by
     intro e
     apply hc
     simp [hna,e]
    have:x=(((i*10+j)*10+k:Nat):Int):=by rw [←hx];simp [decN,hva,hvb,hvc]
    rw [this,ha,hb',hc']
    exact (dec3_3 ⟨i,hi⟩ ⟨j,hj⟩ ⟨k,hk⟩ hi0).symm
   |a::b::c::d::r,hx,hc,hall,hm,hd=>
    exfalso
    obtain ⟨i,hi,ha,hna,hva⟩:=zdA a (hall a (by simp))
    obtain ⟨j,hj,_,_,hvb⟩:=zdA b (hall b (by simp))
    obtain ⟨k,hk,_,_,hvc⟩:=zdA c (hall c (by simp))
    obtain ⟨l,hl,_,_,hvd⟩:=zdA d (hall d (by simp))
    have hi0:i≠0:=by
     intro e
     apply hc
     simp [hna,e]
    have h4:=zhJ (a::b::c::d::r) 4 hd
    have e4:decN ((a::b::c::d::r).take 4)=(((i:Int)*10+j)*10+k)*10+l:=by simp [decN,hva,hvb,hvc,hvd]
    omega
theorem zuE (l:List (List UInt8)): ∀(A x:Int),goS A l=(x,false)→x=0:=by
 induction l with
 |nil=>intro A x h;exact absurd (zzM Prod.snd h) (by simp [goS])
 |cons p r ih=>
  intro A x h
  unfold goS at h
  split at h
  ·exact ih _ _ h
  ·exact (zzM Prod.fst h).symm
theorem zmS (l:List UInt8) (x:Int) (h:zaT l=(x,false)):x=0:=by
 unfold zaT at h
 split at h
 ·exact zuE _ _ _ h
 ·exact (zzM Prod.fst h).symm
theorem zhP {A x:Int} {p:List UInt8} {r:List (List UInt8)} (h:goS A (p::r)=(x,true)): ∃y,decZ p 255=(y,true)∧goS (A*256+y) r=(x,true):=by
 unfold goS at h
 split at h
 ·rename_i hp
  refine ⟨(decZ p 255).1,?_,h⟩
  rw [←hp]
 ·exact absurd (zzM Prod.snd h) (by simp)
theorem znX (l:List UInt8) (x:Int) (h:zaT l=(x,true)):0≤x∧x≤4294967295∧l=txtZ x:=by
 unfold zaT at h
 split at h
 ·rename_i hl
  have hj:Lib.join (zaH l) [46]=l:=zrD l 46
  match hd:zaH l,hl,h,hj with
  |[p0,p1,p2,p3],_,h,hj=>
   obtain ⟨x0,d0,h⟩:=zhP h
   obtain ⟨x1,d1,h⟩:=zhP h
   obtain ⟨x2,d2,h⟩:=zhP h
   obtain ⟨x3,d3,h⟩:=zhP h
   have hx:(((0*256+x0)*256+x1)*256+x2)*256+x3=x:=zzM Prod.fst h
   obtain ⟨a0,b0,rfl⟩:=zgE p0 x0 d0
   obtain ⟨a1,b1,rfl⟩:=zgE p1 x1 d1
   obtain ⟨a2,b2,rfl⟩:=zgE p2 x2 d2
   obtain ⟨a3,b3,rfl⟩:=zgE p3 x3 d3
   refine ⟨by omega,by omega,?_⟩
   rw [←hj]
   have e0:x/16777216=x0:=by omega
   have e1:x/65536 % 256=x1:=by omega
   have e2:x/256 % 256=x2:=by omega
   have e3:x % 256=x3:=by omega
   unfold txtZ
   rw [e0,e1,e2,e3]
   simp [Lib.join,txt,List.intercalate]
 ·exact absurd (zzM Prod.snd h) (by simp)
def valP (b:Int) (L:List UInt8):Int:=L.foldl (fun n c=>n*b+valZ (c.toNat:Int)) 0
theorem ztZ (b:Int) (L:List UInt8): ∀a:Int,L.foldl (fun n c=>n*b+valZ (c.toNat:Int)) a=a*b^L.length+valP b L:=by
 unfold valP
 induction L with
 |nil=>intro a;simp
 |cons c L ih=>
  intro a
  simp only [List.foldl_cons,List.length_cons]
  rw [ih,ih (0*b+_),Int.pow_succ]
  rw [Int.zero_mul,Int.zero_add,Int.add_mul,Int.mul_assoc,Int.mul_comm b (b^L.length),Int.add_assoc]
theorem zuO (b:Int) (c:UInt8) (L:List UInt8):valP b (c::L)=valZ (c.toNat:Int)*b^L.length+valP b L:=by
 show (c::L).foldl _ 0=_
 rw [List.foldl_cons,ztZ,Int.zero_mul,Int.zero_add]
theorem ziA (b:Int) (hb:0≤b) (L:List UInt8) (hd:zaQ b L=true):0≤valP b L:=by
 have key: ∀(L:List UInt8) (n:Int),0≤n→zaQ b L=true→0≤L.foldl (fun n c=>n*b+valZ (c.toNat:Int)) n:=by
  intro L
  induction L with
  |nil=>intro n h _;exact h
  |cons c L ih=>
   intro n h hd
   have h2:digC b c=true∧zaQ b L=true:=by simpa [zaQ] using hd
   have h3:=of_decide_eq_true h2.1
   have hp:0≤n*b:=Int.mul_nonneg h hb
   exact ih (n*b+valZ (c.toNat:Int)) (by omega) h2.2
 exact key L 0 (Int.le_refl _) hd
end
section
open Go.RowKit Go.Sort Go.Lib
def bruTab:List Int:=[0,1,56,2,57,49,28,3,61,58,42,50,38,29,17,4,62,47,59,36,45,43,51,22,53,39,33,30,24,18,12,5,63,55,48,27,60,41,37,16,46,35,44,21,52,32,23,11,54,26,40,15,34,20,31,10,25,14,19,9,13,8,7,6]
abbrev BruTab (w:World):Prop:=Lib.TabIs Tryz.prog w "math/bits.deBruijn64tab" .u8 bruTab
theorem zaD {w w':World} (h:BruTab w) (hb:Below w.heap.size w w'):BruTab w':=
 Lib.tabBelow_of_tabIs h w' hb
theorem zxR (w:World) (h:BruTab w) (i:Nat) (hi:i<64):w.cell? ⟨5,i,none⟩=some (.int .u8 (bruTab.getD i 0)):=
 Lib.TabIs.cell h (by kernel_rfl) i (by simpa [bruTab] using hi)
theorem tz64_8 (w:World) (h:BruTab w):Calls Tryz.prog 251 #[.int .u64 8] w fun e w'=>e= .returned (.int .i64 3)∧w=w':=by
 have hc:w.cell? ⟨5,7,none⟩=some (.int .u8 3):=zxR w h 7 (by decide)
 have e1:IntKind.u64.wrap (-8)=18446744073709551608:=by decide
 have e2:bits .and .u64 8 18446744073709551608=8:=by decide
 clear h
 go_enter Tryz.func251,Tryz.ntmps251
 go_wp2
 go_ret
 exact ⟨rfl,rfl⟩
theorem zyL (w:World) (h:BruTab w):Calls Tryz.prog 251 #[.int .u64 16] w fun e w'=>e= .returned (.int .i64 4)∧w=w':=by
 have hc:w.cell? ⟨5,15,none⟩=some (.int .u8 4):=zxR w h 15 (by decide)
 have e1:IntKind.u64.wrap (-16)=18446744073709551600:=by decide
 have e2:bits .and .u64 16 18446744073709551600=16:=by decide
 clear h
 go_enter Tryz.func251,Tryz.ntmps251
 go_wp2
 go_ret
 exact ⟨rfl,rfl⟩
end
end
end Go.Proofs.YtmjappnpedjlnaaGreatDoor
