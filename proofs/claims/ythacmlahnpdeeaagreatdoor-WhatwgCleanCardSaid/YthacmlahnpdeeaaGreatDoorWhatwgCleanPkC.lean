/-
  What the law WhatwgClean leans on, and its walk (3 of 31).
-/
import Derived.Laws.BitsLemmas
import Derived.Deep.DeepCutAuto
import Derived.Lib.ItoaNum
import Derived.Test.YthacmlahnpdeeaaGreatDoorWhatwgCleanPkS
import Derived.Lib.AppendIntMem
import Derived.Lib.SmallJoins
import Derived.Test.YthacmlahnpdeeaaGreatDoorWhatwgCleanPkB
import Derived.Test.YthacmlahnpdeeaaGreatDoorWhatwgCleanPkA
namespace Go.Proofs.YthacmlahnpdeeaaGreatDoor
set_option maxRecDepth 100000
set_option maxHeartbeats 16000000
section
section
open Go.RowKit
def limZ (n i:Nat):Int:=if i+1=n then 256^(5 - n) else 256
def wtZ (n i:Nat):Int:=if i+1=n then 1 else 256^(3 - i)
def goF (n:Nat):Nat→Int→List (List UInt8)→Int×Bool
 |_,A,[]=>(A,true)
 |i,A,p::r=>if (zcP p).2=true∧(zcP p).1<limZ n i then goF n (i+1) (A+(zcP p).1*wtZ n i) r else (0,false)
/-- how many parts count -/
def zgF (ps:List (List UInt8)):Nat:=if 1<ps.length∧ps.getD (ps.length - 1) []=[] then ps.length - 1 else ps.length
def yhQ (ps:List (List UInt8)):Int×Bool:=if 4<zgF ps then (0,false) else goF (zgF ps) 0 0 (ps.take (zgF ps))
def zhP (l:List UInt8):Int×Bool:=yhQ (zaQ l)
theorem z0H (b:Int) (hb:0≤b) (l:List UInt8) (hd:zcD b l=true):0≤numZ b l∧numZ b l≤1099511627776:=by
 have key: ∀(l:List UInt8) (n:Int),0≤n→n≤1099511627776→zcD b l=true→0≤l.foldl (zzF b) n∧l.foldl (zzF b) n≤1099511627776:=by
  intro l
  induction l with
  |nil=>intro n h0 h1 _;exact ⟨h0,h1⟩
  |cons c l ih=>
   intro n h0 h1 hd
   have h2:digC b c=true∧zcD b l=true:=by simpa [zcD] using hd
   have h3:=of_decide_eq_true h2.1
   have hp:0≤n*b:=Int.mul_nonneg h0 hb
   refine ih _ ?_ (ylL _) h2.2
   unfold zzF capZ
   split<;>omega
 exact key l 0 (Int.le_refl _) (by omega) hd
theorem zkT (l:List UInt8):0≤(zcP l).1∧(zcP l).1≤1099511627776:=by
 unfold zcP
 split
 ·exact ⟨Int.le_refl _,by show (0:Int)≤_;omega⟩
 ·split
  ·have hb:=zrI l
   exact z0H _ (by omega) _ (by assumption)
  ·exact ⟨Int.le_refl _,by show (0:Int)≤_;omega⟩
theorem ykE (n k:Nat) (A:Int) (ps:List (List UInt8)) (h:n≤k):goF n k A ((ps.take n).drop k)=(A,true):=by
 rw [List.drop_eq_nil_of_le (by simp;omega)]
 rfl
theorem zuG (n k:Nat) (ps:List (List UInt8)) (h:k<n) (hn:n≤ps.length):(ps.take n).drop k=ps.getD k []::(ps.take n).drop (k+1):=by
 rw [List.drop_eq_getElem_cons (by simp;omega)]
 congr 1
 rw [List.getElem_take,List.getD,List.getElem?_eq_getElem (by omega)]
 rfl
theorem z9C (n k:Nat) (A:Int) (ps:List (List UInt8)) (p:List UInt8) (x:Int) (h:k<n) (hn:n≤ps.length) (hp:ps.getD k []=p) (hx:zcP p=(x,true)) (hl:x<limZ n k):
  goF n k A ((ps.take n).drop k)=goF n (k+1) (A+x*wtZ n k) ((ps.take n).drop (k+1)):=by
 rw [zuG n k ps h hn,hp]
 show (if _ then _ else _)=_
 rw [hx,if_pos ⟨rfl,hl⟩]
theorem z2L (n k:Nat) (A:Int) (ps:List (List UInt8)) (p:List UInt8) (x:Int) (b:Bool) (h:k<n) (hn:n≤ps.length) (hp:ps.getD k []=p) (hx:zcP p=(x,b)) (hl:b=false∨limZ n k≤x):
  goF n k A ((ps.take n).drop k)=(0,false):=by
 rw [zuG n k ps h hn,hp]
 show (if _ then _ else _)=_
 rw [hx,if_neg]
 rintro ⟨h1,h2⟩
 rcases hl with h3|h3
 ·rw [h3] at h1;cases h1
 ·exact absurd h2 (by show ¬x<_;omega)
theorem zlO (n:Nat) (ps:List (List UInt8)) (h:ps.length=n+1) (hc:n=0∨ps.getD n []≠[]):zgF ps=n+1:=by
 unfold zgF
 rw [h,Nat.add_sub_cancel,if_neg]
 rintro ⟨h1,h2⟩
 rcases hc with h3|h3
 ·omega
 ·exact h3 h2
theorem zvU (n:Nat) (ps:List (List UInt8)) (h:ps.length=n+2) (hx:ps.getD (n+1) []=[]):zgF ps=n+1:=by
 unfold zgF
 rw [h,show n+2 - 1=n+1 from rfl,hx,if_pos ⟨by omega,rfl⟩]
theorem yiB {l:List UInt8} {n:Nat} (hk:zgF (zaQ l)=n) (h:n≤4):zhP l=goF n 0 0 (((zaQ l).take n).drop 0):=by
 unfold zhP yhQ
 rw [hk,if_neg (by omega)]
 rfl
theorem z4F {l:List UInt8} {n:Nat} (hk:zgF (zaQ l)=n) (h:4<n):zhP l=(0,false):=by
 unfold zhP yhQ
 rw [hk,if_pos h]
theorem zkF (i:Nat) (x y:Int) (hx0:0≤x) (hx:x % 2^i=0) (hx1:x<4294967296) (hy0:0≤y) (hy:y<2^i) (hy1:y<4294967296):bits .or .u32 x y=x+y:=
 bits_join .u32 32 (by decide) (fun n h0 h1=>by rw [IntKind.wrap_u32];omega) i x y hx0 hx hx1 hy0 hy hy1
theorem zbA.form2 {B:Nat} {w:World} {v:Value} {ps:List (List UInt8)} (h:zbA B w v ps) (hn:0<ps.length):
  ∃g cap,v= .slice (some ⟨g,0,none⟩) ps.length cap∧ps.length≤cap∧g<w.heap.size∧ ∀j,j<ps.length→w.cell? ⟨g,j,none⟩=some (.string ⟨(ps.getD j []).toArray⟩):=by
 obtain ⟨g,c,rfl,hg,hc⟩:=h.form hn
 refine ⟨g,c,rfl,?_,hg,hc⟩
 unfold zbA at h
 rcases h.2 with ⟨h0,_⟩|⟨g',cap,cur,hv,_,_,hle,_⟩
 ·cases h0
 ·cases hv;exact hle
def zzV (w:World) (x:Int×Bool) (e:Ending) (w':World):Prop:=e= .returned (.tuple #[.int .u32 x.1,.bool x.2])∧Below w.heap.size w w'
theorem zdG {w w':World} {x:Int×Bool} {n:Int} {b:Bool} (h:x=(n,b)) (hb:Below w.heap.size w w'):zzV w x (.returned (.tuple #[.int .u32 n,.bool b])) w':=by
 subst h;exact ⟨rfl,hb⟩
end
section
open Go.RowKit
theorem zqF (l:List UInt8): ∃L x,(zaQ l).length=L+1∧(zaQ l).getD L []=x∧L≤l.length∧(0<L∧x=[]∧zgF (zaQ l)=L∨(L=0∨x≠[])∧zgF (zaQ l)=L+1):=by
 have h0:0<(zaQ l).length:=zkB _ _
 have hl:=zdE (hasB [46]) l
 obtain ⟨L,hL⟩: ∃L,(zaQ l).length=L+1:=⟨(zaQ l).length - 1,by omega⟩
 refine ⟨L,_,hL,rfl,by unfold zaQ at hL;omega,?_⟩
 by_cases h:0<L∧(zaQ l).getD L []=[]
 ·obtain ⟨h1,h2⟩:=h
  refine .inl ⟨h1,h2,?_⟩
  obtain ⟨n,rfl⟩: ∃n,L=n+1:=⟨L - 1,by omega⟩
  exact zvU n _ hL h2
 ·have hc:L=0∨(zaQ l).getD L []≠[]:=by
   by_cases e:L=0
   ·exact .inl e
   ·exact .inr fun e2=>h ⟨by omega,e2⟩
  exact .inr ⟨hc,zlO L _ hL hc⟩
theorem step4 (k n:Nat) (A x V:Int) (hk:k≤n) (hn:n≤3) (hA0:0≤A) (hA1:A<4294967296) (hA:A % 2^(32 - 8*k)=0) (hx0:0≤x) (hx:x<limZ (n+1) k)
  (hV:V=if k=n then x % 4294967296 else x % 4294967296*2^(24 - 8*k) % 4294967296):
  bits .or .u32 A V=A+x*wtZ (n+1) k∧0≤A+x*wtZ (n+1) k∧A+x*wtZ (n+1) k<4294967296∧(k+1≤n→(A+x*wtZ (n+1) k) % 2^(32 - 8*(k+1))=0):=by
 have key: ∀(i:Nat) (W:Int),A % 2^i=0→V=x*W→0≤x*W→x*W<2^i→x*W<4294967296→bits .or .u32 A V=A+x*W:=fun i W h1 h2 h3 h4 h5=>by rw [h2];exact zkF i A _ hA0 h1 hA1 h3 h4 h5
 obtain ⟨W,hW⟩: ∃W,wtZ (n+1) k=W:=⟨_,rfl⟩
 rw [hW]
 rcases (show n=0∨n=1∨n=2∨n=3 from by omega) with rfl|rfl|rfl|rfl<;>
  rcases (show k=0∨k=1∨k=2∨k=3 from by omega) with rfl|rfl|rfl|rfl<;>
  first
  |omega
  |(simp [limZ] at hx
    simp at hV hA
    simp [wtZ] at hW
    subst hW
    refine ⟨?_,by omega,by omega,fun h=>by first|omega|(simp;omega)⟩
    first
    |exact key 32 _ (by simpa using hA) (by omega) (by omega) (by omega) (by omega)
    |exact key 24 _ (by simpa using hA) (by omega) (by omega) (by omega) (by omega)
    |exact key 16 _ (by simpa using hA) (by omega) (by omega) (by omega) (by omega)
    |exact key 8 _ (by simpa using hA) (by omega) (by omega) (by omega) (by omega))
theorem lim4 (k n:Nat) (x:Int) (hk:k≤n) (hn:n≤3) (hx0:0≤x):(if k=n then x/2^(32 - 8*k) else x/256)=0↔x<limZ (n+1) k:=by
 rcases (show n=0∨n=1∨n=2∨n=3 from by omega) with rfl|rfl|rfl|rfl<;>
  rcases (show k=0∨k=1∨k=2∨k=3 from by omega) with rfl|rfl|rfl|rfl<;>
  first
  |omega
  |(simp [limZ];omega)
theorem ziO (s:ByteArray) (w:World) (hs:s.size≤1073741824):
  Calls Tryz.prog 101 #[.string s] w (zzV w (zhP s.data.toList)):=by
 obtain ⟨L,x,hL,hx,hLl,hc⟩:=zqF s.data.toList
 rw [zaU] at hLl
 go_enter Tryz.func101,Tryz.ntmps101
 go_wp2_with fail
 refine (zdV s _ _ hs).mono ?_
 rintro e w1 ⟨v,rfl,hp,hb1⟩
 have hp':zbA w.heap.size w1 v (zaQ s.data.toList):=hp
 obtain ⟨g,cap,rfl,hcap,hg,hcell⟩:=hp'.form2 (by omega)
 rw [hL] at hcap ⊢
 have hcx:=hcell L (by omega)
 rw [hx] at hcx
 have HC:=Lib.hid hcell
 have HL:=Lib.hid hL
 clear hcell hp hp' hL hx
 obtain ⟨b,hb⟩: ∃b,decide (0<L∧x=[])=b:=⟨_,rfl⟩
 have hcb:zgF (zaQ s.data.toList)=(if b=true then L else L+1)∧(b=true→0<L):=by
  rcases hc with ⟨h1,h2,hk⟩|⟨h,hk⟩
  ·rw [←hb,decide_eq_true ⟨h1,h2⟩];exact ⟨hk,fun _=>h1⟩
  ·rw [←hb,decide_eq_false (by rintro ⟨h1,h2⟩;rcases h with h|h;omega;exact h h2)];exact ⟨hk,fun e=>by cases e⟩
 have HB:=Lib.hid hb
 have HK:=Lib.hid hcb
 clear hb hcb
 go_upto_region 3 with fail
 go_cut [26] (fun v wc=>v= .bool b∧wc=w1)
 case first=>
  rcases hc with ⟨h1,rfl,hk⟩|⟨rfl|hne,hk⟩
  ·have hb:b=true:=by rw [←HB.out];exact decide_eq_true ⟨h1,rfl⟩
   have hd:(0:Int)<(L:Int):=by omega
   clear hk
   go_wp2
   go_meet
   exact ⟨by rw [hb],rfl⟩
  ·have hb:b=false:=by rw [←HB.out];exact decide_eq_false (by omega)
   clear hk
   go_wp2
   go_meet
   exact ⟨by rw [hb],rfl⟩
  ·have hb:b=false:=by rw [←HB.out];exact decide_eq_false (fun h=>hne h.2)
   have hxe:x.isEmpty=false:=zeU hne
   clear hk hne
   go_wp2
   all_goals
    go_meet
    exact ⟨by rw [hb],rfl⟩
 case rest=>
 obtain ⟨rfl,rfl⟩:=hcut
 rename World=>w2
 clear hcx hc
 go_upto_if 26 with fail
 go_cut [5] (fun v wc=> ∃n:Nat,v= .int .i64 n∧n≤L∧wc=w2∧Hid (zgF (zaQ s.data.toList)=n+1))
 case first=>
  cases b with
  |true=>
   have h0:=HK.out.2 rfl
   obtain ⟨n,rfl⟩: ∃n,L=n+1:=⟨L - 1,by omega⟩
   clear h0
   go_wp2
   go_meet
   exact ⟨n,congrArg (Value.int .i64) (by omega),by omega,rfl,HK.out.1⟩
  |false=>
   go_wp2
   go_meet
   exact ⟨L,congrArg (Value.int .i64) (by omega),Nat.le_refl _,rfl,HK.out.1⟩
 case rest=>
 obtain ⟨n,rfl,hn,rfl,HK⟩:=hcut
 rename World=>w1
 by_cases h3:3<n
 ·have hd:decide ((3:Int)<(n:Int))=true:=decide_eq_true (by omega)
  have HZ:=Lib.hid (z4F HK.out (by omega))
  go_wp2
  go_ret2
  exact zdG HZ.out hb1
 have hd:decide ((3:Int)<(n:Int))=false:=decide_eq_false (by omega)
 have HZ:=Lib.hid (yiB HK.out (by omega))
 have hnc:(n:Int)+1≤(cap:Int):=by omega
 go_wp2
 clear hd
 go_loopw [6,36] (fun v i wr=> ∃(k:Nat) (A:Int),k≤n+1∧i= .int .i64 k∧v= .int .u32 A∧0≤A∧A<4294967296∧Hid (k≤n→A % 2^(32 - 8*k)=0)∧Hid (goF (n+1) k A (((zaQ s.data.toList).take (n+1)).drop k)=zhP s.data.toList)∧Below w1.heap.size w1 wr) (fun _ i _=>n+1 - (intOf i).toNat)
 case atStart=>exact ⟨0,0,by omega,rfl,rfl,by omega,by omega,fun _=>rfl,HZ.out.symm,Below.refl _ _⟩
 case round=>
  obtain ⟨k,A,hk,rfl,rfl,hA0,hA1,HM,HG,hbw⟩:=hrel
  by_cases hkn:k≤n
  ·obtain ⟨p,hp⟩: ∃p,(zaQ s.data.toList).getD k []=p:=⟨_,rfl⟩
   have hcx:=(hbw.cell (p:=⟨g,k,none⟩) hg).trans (HC.out k (by rw [HL.out];omega))
   rw [hp] at hcx
   obtain ⟨x,b,hpz⟩: ∃x b,zcP p=(x,b):=⟨_,_,rfl⟩
   have hx0:=zkT p
   have hpl:p.length≤s.size:=by rw [←hp,←zaU];exact ziT _ _ _
   rw [hpz] at hx0
   have HPP:=Lib.hid (fun W=>zfM ⟨p.toArray⟩ W (by rw [zaJ];omega))
   rw [zaW,hpz] at HPP
   have HA:=Lib.hid (HM.out hkn)
   have HP:=Lib.hid hp
   have HPZ:=Lib.hid hpz
   obtain ⟨hx0,hx1⟩:=hx0
   clear hp hpz
   by_cases hlast:k=n
   ·have e1:((k:Int)==(n:Int))=true:=by rw [hlast];simp
    have HLA:=Lib.hid hlast
    clear hlast
    go_wp2_with fail
    refine (HPP.out _).mono ?_
    rintro e w2 ⟨rfl,hb2⟩
    have hc2:=hbw.trans (hb2.mono hbw.size)
    cases b with
    |false=>
     have HN:=Lib.hid (HG.out.symm.trans (z2L (n+1) k A _ p x false (by omega) (by rw [HL.out];omega) HP.out HPZ.out (.inl rfl)))
     go_wp2
     go_ret2
     exact zdG HN.out (hb1.trans (hc2.mono hb1.size))
    |true=>
     by_cases hxl:x<limZ (n+1) k
     ·have hq:(x/2^(32 - 8*k) !=0)=false:=by rw [bne_eq_false_iff_eq];have:=(lim4 k n x hkn (by omega) hx0).2 hxl;rwa [if_pos HLA.out] at this
      have hgo:=HG.out
      rw [z9C (n+1) k A _ p x (by omega) (by rw [HL.out];omega) HP.out HPZ.out hxl] at hgo
      obtain ⟨j1,j2,j3,j4⟩:=step4 k n A x (x % 4294967296) hkn (by omega) hA0 hA1 HA.out hx0 hxl (by rw [if_pos HLA.out])
      have HJ:=Lib.hid j1
      have HG2:=Lib.hid hgo
      clear hgo j1
      go_wp2
      go_roundw
      case rel=>exact ⟨k+1,A+x*wtZ (n+1) k,by omega,by go_num,by rw [HJ.out],j2,j3,j4,HG2.out,hc2⟩
      case measure=>simp [intOf];omega
     ·have hq:(x/2^(32 - 8*k) !=0)=true:=by rw [bne_iff_ne];have:=fun h=>hxl ((lim4 k n x hkn (by omega) hx0).1 h);rwa [if_pos HLA.out] at this
      have HN:=Lib.hid (HG.out.symm.trans (z2L (n+1) k A _ p x true (by omega) (by rw [HL.out];omega) HP.out HPZ.out (.inr (by omega))))
      go_wp2
      go_ret2
      exact zdG HN.out (hb1.trans (hc2.mono hb1.size))
   ·have e1:((k:Int)==(n:Int))=false:=beq_eq_false_iff_ne.2 (by omega)
    have HLA:=Lib.hid hlast
    have hkn':(k:Int)<(n:Int):=by omega
    clear hlast
    go_wp2_with fail
    refine (HPP.out _).mono ?_
    rintro e w2 ⟨rfl,hb2⟩
    have hc2:=hbw.trans (hb2.mono hbw.size)
    cases b with
    |false=>
     have HN:=Lib.hid (HG.out.symm.trans (z2L (n+1) k A _ p x false (by omega) (by rw [HL.out];omega) HP.out HPZ.out (.inl rfl)))
     go_wp2
     go_ret2
     exact zdG HN.out (hb1.trans (hc2.mono hb1.size))
    |true=>
     by_cases hxl:x<limZ (n+1) k
     ·have hq:(x/256 !=0)=false:=by rw [bne_eq_false_iff_eq];have:=(lim4 k n x hkn (by omega) hx0).2 hxl;rwa [if_neg HLA.out] at this
      have hgo:=HG.out
      rw [z9C (n+1) k A _ p x (by omega) (by rw [HL.out];omega) HP.out HPZ.out hxl] at hgo
      obtain ⟨j1,j2,j3,j4⟩:=step4 k n A x (x % 4294967296*2^(24 - 8*k) % 4294967296) hkn (by omega) hA0 hA1 HA.out hx0 hxl (by rw [if_neg HLA.out])
      have HJ:=Lib.hid j1
      have HG2:=Lib.hid hgo
      clear hgo j1
      go_wp2
      go_roundw
      case rel=>exact ⟨k+1,A+x*wtZ (n+1) k,by omega,by go_num,by rw [HJ.out],j2,j3,j4,HG2.out,hc2⟩
      case measure=>simp [intOf];omega
     ·have hq:(x/256 !=0)=true:=by rw [bne_iff_ne];have:=fun h=>hxl ((lim4 k n x hkn (by omega) hx0).1 h);rwa [if_neg HLA.out] at this
      have HN:=Lib.hid (HG.out.symm.trans (z2L (n+1) k A _ p x true (by omega) (by rw [HL.out];omega) HP.out HPZ.out (.inr (by omega))))
      go_wp2
      go_ret2
      exact zdG HN.out (hb1.trans (hc2.mono hb1.size))
  ·obtain rfl:k=n+1:=by omega
   have HN:=Lib.hid (HG.out.symm.trans (ykE (n+1) (n+1) A _ (Nat.le_refl _)))
   go_wp2
   go_ret2
   exact zdG HN.out (hb1.trans (hbw.mono hb1.size))
end
section
open Go.RowKit
end
section
open Go.RowKit
end
section
open Go.RowKit
/-- four decimal parts of at most 255 each -/
def goS:Int→List (List UInt8)→Int×Bool
 |A,[]=>(A,true)
 |A,p::r=>if (decZ p 255).2=true then goS (A*256+(decZ p 255).1) r else (0,false)
def zaN (l:List UInt8):Int×Bool:=if (zaQ l).length=4 then goS 0 (zaQ l) else (0,false)
theorem zhM (l:List UInt8) (m:Int) (hm:0≤m):0≤(decZ l m).1∧(decZ l m).1≤m:=by
 unfold decZ
 split
 ·exact ⟨Int.le_refl _,hm⟩
 ·rename_i h
  split
  ·exact ⟨Int.le_refl _,hm⟩
  ·refine ⟨znF l ?_,by show decN l≤m;omega⟩
   cases hd:zcD 10 l with
   |true=>rfl
   |false=>rw [hd] at h;simp at h
theorem z2T (k:Nat) (ps:List (List UInt8)) (h:k<ps.length):ps.drop k=ps.getD k []::ps.drop (k+1):=by
 rw [List.drop_eq_getElem_cons h,List.getD,List.getElem?_eq_getElem h]
 rfl
theorem yjP (k:Nat) (A:Int) (ps:List (List UInt8)) (p:List UInt8) (x:Int) (h:k<ps.length) (hp:ps.getD k []=p) (hx:decZ p 255=(x,true)):goS A (ps.drop k)=goS (A*256+x) (ps.drop (k+1)):=by
 rw [z2T k ps h,hp]
 show (if _ then _ else _)=_
 rw [hx,if_pos rfl]
theorem goS_no (k:Nat) (A:Int) (ps:List (List UInt8)) (p:List UInt8) (x:Int) (h:k<ps.length) (hp:ps.getD k []=p) (hx:decZ p 255=(x,false)):goS A (ps.drop k)=(0,false):=by
 rw [z2T k ps h,hp]
 show (if _ then _ else _)=_
 rw [hx]
 rfl
theorem ykN (k:Nat) (A:Int) (ps:List (List UInt8)) (h:ps.length≤k):goS A (ps.drop k)=(A,true):=by
 rw [List.drop_eq_nil_of_le h]
 rfl
theorem zwP {l:List UInt8} (h:(zaQ l).length=4):zaN l=goS 0 ((zaQ l).drop 0):=by
 unfold zaN;rw [if_pos h];rfl
theorem z3T {l:List UInt8} (h:(zaQ l).length≠4):zaN l=(0,false):=by
 unfold zaN;rw [if_neg h]
theorem zgQ (s:ByteArray) (w:World) (hs:s.size≤1073741824):
  Calls Tryz.prog 200 #[.string s] w (zzV w (zaN s.data.toList)):=by
 by_cases hl:(zaQ s.data.toList).length=4
 ·have HL:=Lib.hid hl
  have HZ:=Lib.hid (zwP hl)
  clear hl
  go_enter Tryz.func200,Tryz.ntmps200
  go_wp2_with fail
  refine (zdV s _ _ hs).mono ?_
  rintro e w1 ⟨v,rfl,hp,hb1⟩
  have hp':zbA w.heap.size w1 v (zaQ s.data.toList):=hp
  obtain ⟨g,cap,rfl,hcap,hg,hcell⟩:=hp'.form2 (by rw [HL.out];omega)
  rw [HL.out] at hcap hcell ⊢
  have HCELL:=Lib.hid hcell
  clear hp hp' hcell
  go_wp2
  go_loopw [5,17] (fun v i wr=> ∃(k:Nat) (A:Int),k≤4∧i= .int .i64 k∧v= .int .u32 A∧0≤A∧Hid (A<256^k)∧Hid (goS A ((zaQ s.data.toList).drop k)=zaN s.data.toList)∧Below w1.heap.size w1 wr) (fun _ i _=>4 - (intOf i).toNat)
  case atStart=>exact ⟨0,0,by omega,rfl,rfl,by omega,(by show (0:Int)<256^0;decide),HZ.out.symm,Below.refl _ _⟩
  case round=>
   obtain ⟨k,A,hk,rfl,rfl,hA0,HM,HG,hbw⟩:=hrel
   by_cases hk4:k<4
   ·obtain ⟨p,hpk⟩: ∃p,(zaQ s.data.toList).getD k []=p:=⟨_,rfl⟩
    have hcx:=HCELL.out k hk4
    rw [hpk] at hcx
    have hcx2:wr.cell? ⟨g,k,none⟩=some (.string ⟨p.toArray⟩):=(hbw.cell (p:=⟨g,k,none⟩) hg).trans hcx
    have hpl:p.length≤s.size:=by rw [←hpk,←zaU];exact ziT _ _ _
    obtain ⟨x,b,hpz⟩: ∃x b,decZ p 255=(x,b):=⟨_,_,rfl⟩
    have hx:0≤x∧x≤255:=by have h9:=zhM p 255 (by decide);rw [hpz] at h9;exact h9
    obtain ⟨hx0,hx1⟩:=hx
    have hA1:A<16777216:=by
     have h1:=HM.out
     rcases (show k=0∨k=1∨k=2∨k=3 from by omega) with rfl|rfl|rfl|rfl
     all_goals
      simp at h1
      omega
    have hA2:A*256+x<256^(k+1):=by
     have h1:=HM.out
     rcases (show k=0∨k=1∨k=2∨k=3 from by omega) with rfl|rfl|rfl|rfl
     all_goals
      simp at h1 ⊢
      omega
    have HA2:=Lib.hid hA2
    have hor:bits .or .u32 (A*256) x=A*256+x:=zkF 8 _ _ (by omega) (by omega) (by omega) (by omega) (by omega) (by omega)
    have HP:=Lib.hid hpk
    have HPZ:=Lib.hid hpz
    clear hpk hpz hcx hA2
    cases b with
    |true=>
     have hgo:=HG.out
     rw [yjP k A _ p x (by rw [HL.out];exact hk4) HP.out HPZ.out] at hgo
     have HG2:=Lib.hid hgo
     clear hgo
     go_wp2_with fail
     refine (zcO ⟨p.toArray⟩ 255 _ (by rw [zaJ];omega) (by decide) (by decide)).mono ?_
     rw [zaW,HPZ.out]
     rintro e w2 ⟨rfl,hb2⟩
     have hc2:Below w1.heap.size w1 w2:=hbw.trans (hb2.mono hbw.size)
     clear hb2
     go_wp2
     go_roundw
     case rel=>exact ⟨k+1,A*256+x,by omega,by go_num,rfl,by omega,HA2,HG2,hc2⟩
     case measure=>simp [intOf];omega
    |false=>
     have HN:=Lib.hid (HG.out.symm.trans (goS_no k A _ p x (by rw [HL.out];exact hk4) HP.out HPZ.out))
     go_wp2_with fail
     refine (zcO ⟨p.toArray⟩ 255 _ (by rw [zaJ];omega) (by decide) (by decide)).mono ?_
     rw [zaW,HPZ.out]
     rintro e w2 ⟨rfl,hb2⟩
     have hc2:Below w1.heap.size w1 w2:=hbw.trans (hb2.mono hbw.size)
     clear hb2
     go_wp2
     go_ret2
     exact zdG HN.out (hb1.trans (hc2.mono hb1.size))
   ·have hfin:=HG.out
    rw [ykN k A _ (by rw [HL.out];omega)] at hfin
    have HF:=Lib.hid hfin.symm
    clear hfin
    go_wp2
    go_ret2
    exact zdG HF.out (hb1.trans (hbw.mono hb1.size))
 ·obtain ⟨m,hm⟩: ∃m,(zaQ s.data.toList).length=m:=⟨_,rfl⟩
  have HZ:=Lib.hid (z3T hl)
  have h0:0<(zaQ s.data.toList).length:=zkB _ _
  rw [hm] at hl h0
  have hmb:m≤1073741825:=by
   have h1:=zdE (hasB [46]) s.data.toList
   rw [zaU] at h1
   have h2:=hm
   unfold zaQ at h2
   omega
  have hne:((m:Int) !=4)=true:=by rw [bne_iff_ne];omega
  have HM:=Lib.hid hm
  clear hm hl
  go_enter Tryz.func200,Tryz.ntmps200
  go_wp2_with fail
  refine (zdV s _ _ hs).mono ?_
  rintro e w1 ⟨v,rfl,hp,hb1⟩
  have hp':zbA w.heap.size w1 v (zaQ s.data.toList):=hp
  obtain ⟨g,cap,rfl,hcap,hg,hcell⟩:=hp'.form2 (by rw [HM.out];omega)
  rw [HM.out]
  clear hp hp' hcell hcap
  go_wp2
  go_ret2
  exact zdG HZ.out hb1
theorem znK (a b c d:Int) (w:World) (ha:0≤a∧a≤255) (hb:0≤b∧b≤255) (hc:0≤c∧c≤255) (hd:0≤d∧d≤255):
  Calls Tryz.prog 154 #[.int .u8 a,.int .u8 b,.int .u8 c,.int .u8 d] w fun e w'=>e= .returned (.int .u32 (a*16777216+b*65536+c*256+d))∧w=w':=by
 obtain ⟨ha0,ha1⟩:=ha
 obtain ⟨hb0,hb1⟩:=hb
 obtain ⟨hc0,hc1⟩:=hc
 obtain ⟨hd0,hd1⟩:=hd
 have h1:bits .or .u32 (a*16777216) (b*65536)=a*16777216+b*65536:=zkF 24 _ _ (by omega) (by omega) (by omega) (by omega) (by omega) (by omega)
 have h2:bits .or .u32 (a*16777216+b*65536) (c*256)=a*16777216+b*65536+c*256:=zkF 16 _ _ (by omega) (by omega) (by omega) (by omega) (by omega) (by omega)
 have h3:bits .or .u32 (a*16777216+b*65536+c*256) d=a*16777216+b*65536+c*256+d:=zkF 8 _ _ (by omega) (by omega) (by omega) (by omega) (by omega) (by omega)
 go_enter Tryz.func154,Tryz.ntmps154
 go_wp2
 go_ret
 exact ⟨zgH (by omega),rfl⟩
end
section
open Go.RowKit
end
section
open Go.RowKit
theorem p4_a:zhP [48,120,55,102,46,49]=(2130706433,true):=by decide+kernel
theorem p4_b:zhP [49,46,50,46,51,46,50,53,54]=(0,false):=by decide+kernel
theorem p4_c:zhP [50,53,54]=(256,true):=by decide+kernel
theorem zzG (w:World):
  Calls Tryz.prog 280 #[] w fun e w'=>e= .returned (.bool true)∧Below w.heap.size w w':=by
 go_enter Tryz.func280,Tryz.ntmps280
 go_wp2_with fail
 refine (ziO _ _ (by decide)).mono ?_
 rw [show zhP (ByteArray.mk #[48,120,55,102,46,49]).data.toList=(2130706433,true) from p4_a]
 rintro e w1 ⟨rfl,hb1⟩
 go_wp2_with fail
 refine (ziO _ _ (by decide)).mono ?_
 rw [show zhP (ByteArray.mk #[49,46,50,46,51,46,50,53,54]).data.toList=(0,false) from p4_b]
 rintro e w2 ⟨rfl,hb2⟩
 have hc2:Below w.heap.size w w2:=hb1.trans (hb2.mono hb1.size)
 clear hb1 hb2
 go_wp2_with fail
 refine (ziO _ _ (by decide)).mono ?_
 rw [show zhP (ByteArray.mk #[50,53,54]).data.toList=(256,true) from p4_c]
 rintro e w3 ⟨rfl,hb3⟩
 have hc3:Below w.heap.size w w3:=hc2.trans (hb3.mono hc2.size)
 clear hc2 hb3
 go_wp2_with fail
 refine (z5I _).mono ?_
 rintro e w4 ⟨rfl,hb4⟩
 have hc4:Below w.heap.size w w4:=hc3.trans (hb4.mono hc3.size)
 clear hc3 hb4
 go_wp2_with fail
 refine (znK 127 0 0 1 _ (by decide) (by decide) (by decide) (by decide)).mono ?_
 rintro e w' ⟨rfl,rfl⟩
 go_wp2_with fail
 refine (znK 0 0 1 0 _ (by decide) (by decide) (by decide) (by decide)).mono ?_
 rintro e w' ⟨rfl,rfl⟩
 go_wp2
 go_ret
 exact ⟨by first|rfl|exact zaT (by decide),hc4⟩
end
section
open Go.RowKit
def dec3 (u:Nat):List UInt8:=
 if u<10 then [UInt8.ofNat (48+u)] else if u<100 then [UInt8.ofNat (48+u/10),UInt8.ofNat (48+u % 10)] else [UInt8.ofNat (48+u/100),UInt8.ofNat (48+u/10 % 10),UInt8.ofNat (48+u % 10)]
theorem zpV (u:Nat) (h:u<1000):Lib.decDigits u=dec3 u:=by
 unfold dec3
 by_cases h1:u<10
 ·rw [if_pos h1,Lib.decDigits,dif_pos h1]
 ·rw [if_neg h1,Lib.decDigits,dif_neg h1,Lib.decDigits]
  by_cases h2:u<100
  ·rw [if_pos h2,dif_pos (by omega)];rfl
  ·rw [if_neg h2,dif_neg (by omega),Lib.decDigits,dif_pos (by omega),show u/10/10=u/100 from by omega];rfl
theorem z9B (n:Int) (h0:0≤n) (h1:n<1000):Lib.itoa n=dec3 n.toNat:=by
 unfold Lib.itoa
 rw [if_neg (by omega),zpV _ (by omega)]
theorem zfX (u:Nat):(dec3 u).length≤3:=by
 unfold dec3
 repeat' split
 all_goals simp
theorem yaE (p:UInt8→Bool) (l:List UInt8): ∀(xs:List (List UInt8)) (t:List UInt8),l.foldl (zaR p) (xs,t)=(xs++(l.foldl (zaR p) ([],t)).1,(l.foldl (zaR p) ([],t)).2):=by
 induction l with
 |nil=>intro xs t;simp
 |cons c l ih=>
  intro xs t
  simp only [List.foldl_cons,zaR]
  by_cases hp:p c=true
  ·simp only [hp,if_true]
   rw [ih (xs++[t]) [],ih ([]++[t]) []]
   simp
  ·have hf:p c=false:=by simpa using hp
   simp only [hf]
   rw [show (if false=true then (xs++[t],([]:List UInt8)) else (xs,t++[c]))=(xs,t++[c]) from rfl,ih xs (t++[c])]
   rfl
theorem z5D (a:List UInt8) (h: ∀c∈a,hasB [46] c=false):zaQ a=[a]:=by
 unfold zaQ splitB spl
 rw [yeR _ a [] [] h]
 simp
def txt (a b c d:Nat):List UInt8:=dec3 a++[46]++(dec3 b++[46]++(dec3 c++[46]++dec3 d))
/-- the text of a number of 32 bits -/
def txtZ (n:Int):List UInt8:=txt (n/16777216).toNat (n/65536 % 256).toNat (n/256 % 256).toNat (n % 256).toNat
end
section
open Go.RowKit
abbrev PowTab (w:World):Prop:=Lib.TabIs Tryz.prog w "internal/strconv.uint64pow10" .u64 Lib.pow10Tab
theorem zbB {w w':World} (h:PowTab w) (hb:Below w.heap.size w w'):PowTab w':=
 Lib.tabBelow_of_tabIs h w' hb
theorem znE (n:Int) (w:World) (h0:0≤n) (h1:n≤255) (htab:PowTab w):
  Calls Tryz.prog 108 #[.int .i64 n] w fun e w'=>e= .returned (.string ⟨(dec3 n.toNat).toArray⟩)∧Below w.heap.size w w':=by
 refine (Tryz.strconv_Itoa n (by omega) (by omega) w htab).mono ?_
 rintro e w' ⟨rfl,k,os,rfl⟩
 rw [z9B n h0 (by omega)]
 exact ⟨rfl,Lib.below_grow _ _ (Nat.le_refl _) _ _⟩
theorem zrV (x:Int) (_h:0≤x):IntKind.u8.wrap x=x % 256:=by rw [IntKind.wrap_u8]
theorem z3O (n:Int) (w:World) (h0:0≤n) (h1:n≤4294967295):
  Calls Tryz.prog 306 #[.int .u32 n] w fun e w'=>e= .returned (.agg #[.int .u8 (n/16777216),.int .u8 (n/65536 % 256),.int .u8 (n/256 % 256),.int .u8 (n % 256)])∧Below w.heap.size w w':=by
 have e1:IntKind.u8.wrap (n/16777216)=n/16777216:=by rw [zrV _ (by omega)];omega
 have e2:IntKind.u8.wrap (n/65536)=n/65536 % 256:=zrV _ (by omega)
 have e3:IntKind.u8.wrap (n/256)=n/256 % 256:=zrV _ (by omega)
 have e4:IntKind.u8.wrap n=n % 256:=zrV _ (by omega)
 go_enter Tryz.func306,Tryz.ntmps306
 go_wp2
 exact bodyPost_ret (v:= .agg #[.int .u8 (n/16777216),.int .u8 (n/65536 % 256),.int .u8 (n/256 % 256),.int .u8 (n % 256)]) (by simp [results,Tryz.results306,go_sem]) rfl ⟨rfl,(Below.refl _ _).alloc (Nat.le_refl _) _⟩
theorem z1D (i:Nat) (x y:Int) (hx0:0≤x) (hx:x % 2^i=0) (hx1:x<18446744073709551616) (hy0:0≤y) (hy:y<2^i) (hy1:y<18446744073709551616):bits .or .u64 x y=x+y:=
 bits_join .u64 64 (by decide) (fun n h0 h1=>by rw [IntKind.wrap_u64];omega) i x y hx0 hx hx1 hy0 hy hy1
theorem ztI (n:Int) (w:World) (h0:0≤n) (h1:n≤4294967295):
  Calls Tryz.prog 305 #[.int .u32 n] w fun e w'=>e= .returned (.tuple #[.int .u64 0,.int .u64 (281470681743360+n)])∧w=w':=by
 have hor:bits .or .u64 281470681743360 n=281470681743360+n:=z1D 32 _ _ (by omega) (by decide) (by omega) h0 (by omega) (by omega)
 go_enter Tryz.func305,Tryz.ntmps305
 go_wp2
 go_ret2
 exact ⟨rfl,rfl⟩
end
section
open Go.RowKit
theorem cat2 (x y:List UInt8):ByteArray.mk x.toArray++ByteArray.mk y.toArray=ByteArray.mk (x++y).toArray:=zkD x y
theorem cat3 (x y:List UInt8):ByteArray.mk x.toArray++ByteArray.mk #[46]++ByteArray.mk y.toArray=ByteArray.mk (x++[46]++y).toArray:=by
 rw [show (ByteArray.mk #[46])=ByteArray.mk [46].toArray from rfl,zkD,zkD]
theorem ygB (W:World) (a b c d:Int):(Instr.index 290 (.agg #[.int .u8 a,.int .u8 b,.int .u8 c,.int .u8 d]) (.int .i64 0)).run Tryz.prog W= .ok (.int .u8 a) W:=by
 simp [Instr.index,run_underlying Tryz.underlying290,asIntOf,go_sem,Tryz.sizeOf5,Tryz.isAgg5]
theorem yiF (W:World) (a b c d:Int):(Instr.index 290 (.agg #[.int .u8 a,.int .u8 b,.int .u8 c,.int .u8 d]) (.int .i64 1)).run Tryz.prog W= .ok (.int .u8 b) W:=by
 simp [Instr.index,run_underlying Tryz.underlying290,asIntOf,go_sem,Tryz.sizeOf5,Tryz.isAgg5]
theorem yeY (W:World) (a b c d:Int):(Instr.index 290 (.agg #[.int .u8 a,.int .u8 b,.int .u8 c,.int .u8 d]) (.int .i64 2)).run Tryz.prog W= .ok (.int .u8 c) W:=by
 simp [Instr.index,run_underlying Tryz.underlying290,asIntOf,go_sem,Tryz.sizeOf5,Tryz.isAgg5]
theorem yhR (W:World) (a b c d:Int):(Instr.index 290 (.agg #[.int .u8 a,.int .u8 b,.int .u8 c,.int .u8 d]) (.int .i64 3)).run Tryz.prog W= .ok (.int .u8 d) W:=by
 simp [Instr.index,run_underlying Tryz.underlying290,asIntOf,go_sem,Tryz.sizeOf5,Tryz.isAgg5]
def z9D (b0 b1 b2 b3:Int):Nat→List UInt8
 |0=>[]
 |1=>dec3 b0.toNat
 |2=>dec3 b0.toNat++[46]++dec3 b1.toNat
 |3=>dec3 b0.toNat++[46]++dec3 b1.toNat++[46]++dec3 b2.toNat
 |_=>dec3 b0.toNat++[46]++dec3 b1.toNat++[46]++dec3 b2.toNat++[46]++dec3 b3.toNat
theorem zjX (b0 b1 b2 b3:Int) (k:Nat):(z9D b0 b1 b2 b3 k).length≤15:=by
 have h1:=zfX b0.toNat
 have h2:=zfX b1.toNat
 have h3:=zfX b2.toNat
 have h4:=zfX b3.toNat
 unfold z9D
 split
 all_goals first|(simp;done)|(simp;omega)|omega
theorem ybD (n:Int):z9D (n/16777216) (n/65536 % 256) (n/256 % 256) (n % 256) 4=txtZ n:=by
 simp [z9D,txtZ,txt]
def zeB (w:World) (l:List UInt8) (e:Ending) (w':World):Prop:=e= .returned (.string ⟨l.toArray⟩)∧Below w.heap.size w w'
theorem z7Q (n:Int) (w:World) (h0:0≤n) (h1:n≤4294967295) (htab:PowTab w):
  Calls Tryz.prog 304 #[.int .u32 n] w (zeB w (txtZ n)):=by
 have HT0:=Lib.hid htab
 have HE:=Lib.hid (ybD n)
 clear htab
 go_enter Tryz.func304,Tryz.ntmps304
 go_wp2_with fail
 refine (z3O n _ h0 h1).mono ?_
 rintro e w1 ⟨rfl,hb1⟩
 obtain ⟨b0,hb0⟩: ∃b,n/16777216=b:=⟨_,rfl⟩
 obtain ⟨b1,hb1'⟩: ∃b,n/65536 % 256=b:=⟨_,rfl⟩
 obtain ⟨b2,hb2'⟩: ∃b,n/256 % 256=b:=⟨_,rfl⟩
 obtain ⟨b3,hb3'⟩: ∃b,n % 256=b:=⟨_,rfl⟩
 have l0:0≤b0:=by omega
 have l1:0≤b1:=by omega
 have l2:0≤b2:=by omega
 have l3:0≤b3:=by omega
 have m0:b0≤255:=by omega
 have m1:b1≤255:=by omega
 have m2:b2≤255:=by omega
 have m3:b3≤255:=by omega
 rw [hb0,hb1',hb2',hb3']
 have he:=HE.out
 rw [hb0,hb1',hb2',hb3'] at he
 have HE2:=Lib.hid he
 clear he hb0 hb1' hb2' hb3'
 have HT1:=Lib.hid (zbB HT0.out hb1)
 go_wp2
 go_loopw [3,8] (fun v i wr=> ∃(k:Nat),k≤4∧i= .int .i64 k∧v= .string ⟨(z9D b0 b1 b2 b3 k).toArray⟩∧Hid (PowTab wr)∧Below w.heap.size w wr) (fun _ i _=>4 - (intOf i).toNat)
 case atStart=>exact ⟨0,by omega,rfl,rfl,HT1,hb1⟩
 case round=>
  obtain ⟨k,hk,rfl,rfl,HT,hbw⟩:=hrel
  rcases (show k=0∨k=1∨k=2∨k=3∨k=4 from by omega) with rfl|rfl|rfl|rfl|rfl
  ·try rw [show ((0:Nat):Int)=0 from rfl]
   have hix:=fun W=>ygB W b0 b1 b2 b3
   have q1:=zfX b0.toNat
   have q2:=zjX b0 b1 b2 b3 0
   go_wp2_with fail
   refine (znE b0 _ (by omega) (by omega) HT.out).mono ?_
   rintro e w2 ⟨rfl,hb2⟩
   have hc2:Below w.heap.size w w2:=hbw.trans (hb2.mono hbw.size)
   have HT2:=Lib.hid (zbB HT.out hb2)
   clear hb2
   go_wp2
   go_roundw
   case rel=>exact ⟨1,by omega,(by first|rfl|go_num),(by first|rfl|exact congrArg Value.string (cat3 _ _)|exact congrArg Value.string (cat2 _ _)),HT2,hc2⟩
   case measure=>first|(simp [intOf];done)|(simp [intOf];omega)
  ·try rw [show ((1:Nat):Int)=1 from rfl]
   have hix:=fun W=>yiF W b0 b1 b2 b3
   have q1:=zfX b1.toNat
   have q2:=zjX b0 b1 b2 b3 1
   go_wp2_with fail
   refine (znE b1 _ (by omega) (by omega) HT.out).mono ?_
   rintro e w2 ⟨rfl,hb2⟩
   have hc2:Below w.heap.size w w2:=hbw.trans (hb2.mono hbw.size)
   have HT2:=Lib.hid (zbB HT.out hb2)
   clear hb2
   go_wp2
   go_roundw
   case rel=>exact ⟨2,by omega,(by first|rfl|go_num),(by first|rfl|exact congrArg Value.string (cat3 _ _)|exact congrArg Value.string (cat2 _ _)),HT2,hc2⟩
   case measure=>first|(simp [intOf];done)|(simp [intOf];omega)
  ·try rw [show ((2:Nat):Int)=2 from rfl]
   have hix:=fun W=>yeY W b0 b1 b2 b3
   have q1:=zfX b2.toNat
   have q2:=zjX b0 b1 b2 b3 2
   go_wp2_with fail
   refine (znE b2 _ (by omega) (by omega) HT.out).mono ?_
   rintro e w2 ⟨rfl,hb2⟩
   have hc2:Below w.heap.size w w2:=hbw.trans (hb2.mono hbw.size)
   have HT2:=Lib.hid (zbB HT.out hb2)
   clear hb2
   go_wp2
   go_roundw
   case rel=>exact ⟨3,by omega,(by first|rfl|go_num),(by first|rfl|exact congrArg Value.string (cat3 _ _)|exact congrArg Value.string (cat2 _ _)),HT2,hc2⟩
   case measure=>first|(simp [intOf];done)|(simp [intOf];omega)
  ·try rw [show ((3:Nat):Int)=3 from rfl]
   have hix:=fun W=>yhR W b0 b1 b2 b3
   have q1:=zfX b3.toNat
   have q2:=zjX b0 b1 b2 b3 3
   go_wp2_with fail
   refine (znE b3 _ (by omega) (by omega) HT.out).mono ?_
   rintro e w2 ⟨rfl,hb2⟩
   have hc2:Below w.heap.size w w2:=hbw.trans (hb2.mono hbw.size)
   have HT2:=Lib.hid (zbB HT.out hb2)
   clear hb2
   go_wp2
   go_roundw
   case rel=>exact ⟨4,by omega,(by first|rfl|go_num),(by first|rfl|exact congrArg Value.string (cat3 _ _)|exact congrArg Value.string (cat2 _ _)),HT2,hc2⟩
   case measure=>first|(simp [intOf];done)|(simp [intOf];omega)
  ·try rw [show ((4:Nat):Int)=4 from rfl]
   go_wp2
   go_ret
   exact ⟨congrArg (fun l:List UInt8=>Ending.returned (.string ⟨l.toArray⟩)) HE2.out,hbw⟩
end
section
open Go.RowKit
theorem dec3_1: ∀i:Fin 10,dec3 i.val=[UInt8.ofNat (48+i.val)]:=by decide+kernel
theorem dec3_2: ∀i j:Fin 10,i.val≠0→dec3 (i.val*10+j.val)=[UInt8.ofNat (48+i.val),UInt8.ofNat (48+j.val)]:=by decide+kernel
theorem dec3_3: ∀i j k:Fin 10,i.val≠0→dec3 ((i.val*10+j.val)*10+k.val)=[UInt8.ofNat (48+i.val),UInt8.ofNat (48+j.val),UInt8.ofNat (48+k.val)]:=by decide+kernel
theorem zeH (c:UInt8) (h:digC 10 c=true): ∃i:Nat,i<10∧c=UInt8.ofNat (48+i)∧c.toNat=48+i∧valZ (c.toNat:Int)=(i:Int):=by
 rw [zjK] at h
 obtain ⟨h1,h2⟩:=zxF h
 refine ⟨c.toNat - 48,by omega,?_,by omega,?_⟩
 ·apply UInt8.toNat_inj.1
  rw [show 48+(c.toNat - 48)=c.toNat from by omega]
  simp
 ·rw [zqL h1 h2];omega
theorem zkI (p:List UInt8) (x:Int) (h:decZ p 255=(x,true)):0≤x∧x≤255∧p=dec3 x.toNat:=by
 have hb:=zhM p 255 (by decide)
 rw [h] at hb
 refine ⟨hb.1,hb.2,?_⟩
 unfold decZ at h
 split at h
 ·exact absurd (congrArg Prod.snd h) (by simp)
 ·rename_i hc
  split at h
  ·exact absurd (congrArg Prod.snd h) (by simp)
  ·rename_i hm
   have hx:decN p=x:=congrArg Prod.fst h
   have hd:zcD 10 p=true:=by
    cases hd:zcD 10 p with
    |true=>rfl
    |false=>rw [hd] at hc;simp at hc
   rw [hd] at hc
   have hall: ∀c∈p,digC 10 c=true:=List.all_eq_true.1 hd
   match p,hx,hc,hall,hm,hd with
   |[],_,hc,_,_,_=>simp at hc
   |[a],hx,_,hall,_,_=>
    obtain ⟨i,hi,ha,_,hv⟩:=zeH a (hall a (by simp))
    have:x=(i:Int):=by rw [←hx];simp [decN,hv]
    rw [this,ha]
    exact (dec3_1 ⟨i,hi⟩).symm
   |[a,b],hx,hc,hall,_,_=>
    obtain ⟨i,hi,ha,hna,hva⟩:=zeH a (hall a (by simp))
    obtain ⟨j,hj,hb',_,hvb⟩:=zeH b (hall b (by simp))
    have hi0:i≠0:=by
     intro e
     apply hc
     simp [hna,e]
    have:x=((i*10+j:Nat):Int):=by rw [←hx];simp [decN,hva,hvb]
    rw [this,ha,hb']
    exact (dec3_2 ⟨i,hi⟩ ⟨j,hj⟩ hi0).symm
   |[a,b,c],hx,hc,hall,_,_=>
    obtain ⟨i,hi,ha,hna,hva⟩:=zeH a (hall a (by simp))
    obtain ⟨j,hj,hb',_,hvb⟩:=zeH b (hall b (by simp))
    obtain ⟨k,hk,hc',_,hvc⟩:=zeH c (hall c (by simp))
    have hi0:i≠0:=by
     intro e
     apply hc
     simp [hna,e]
    have:x=(((i*10+j)*10+k:Nat):Int):=by rw [←hx];simp [decN,hva,hvb,hvc]
    rw [this,ha,hb',hc']
    exact (dec3_3 ⟨i,hi⟩ ⟨j,hj⟩ ⟨k,hk⟩ hi0).symm
   |a::b::c::d::r,hx,hc,hall,hm,hd=>
    exfalso
    obtain ⟨i,hi,ha,hna,hva⟩:=zeH a (hall a (by simp))
    obtain ⟨j,hj,_,_,hvb⟩:=zeH b (hall b (by simp))
    obtain ⟨k,hk,_,_,hvc⟩:=zeH c (hall c (by simp))
    obtain ⟨l,hl,_,_,hvd⟩:=zeH d (hall d (by simp))
    have hi0:i≠0:=by
     intro e
     apply hc
     simp [hna,e]
    have h4:=zmE (a::b::c::d::r) 4 hd
    have e4:decN ((a::b::c::d::r).take 4)=(((i:Int)*10+j)*10+k)*10+l:=by simp [decN,hva,hvb,hvc,hvd]
    omega
theorem z8I (l:List (List UInt8)): ∀(A x:Int),goS A l=(x,false)→x=0:=by
 induction l with
 |nil=>intro A x h;exact absurd (congrArg Prod.snd h) (by simp [goS])
 |cons p r ih=>
  intro A x h
  unfold goS at h
  split at h
  ·exact ih _ _ h
  ·exact (congrArg Prod.fst h).symm
theorem zvY (l:List UInt8) (x:Int) (h:zaN l=(x,false)):x=0:=by
 unfold zaN at h
 split at h
 ·exact z8I _ _ _ h
 ·exact (congrArg Prod.fst h).symm
theorem znB {A x:Int} {p:List UInt8} {r:List (List UInt8)} (h:goS A (p::r)=(x,true)): ∃y,decZ p 255=(y,true)∧goS (A*256+y) r=(x,true):=by
 unfold goS at h
 split at h
 ·rename_i hp
  refine ⟨(decZ p 255).1,?_,h⟩
  rw [←hp]
 ·exact absurd (congrArg Prod.snd h) (by simp)
theorem zzT (l:List UInt8) (x:Int) (h:zaN l=(x,true)):0≤x∧x≤4294967295∧l=txtZ x:=by
 unfold zaN at h
 split at h
 ·rename_i hl
  have hj:Lib.join (zaQ l) [46]=l:=z3S l 46
  match hd:zaQ l,hl,h,hj with
  |[p0,p1,p2,p3],_,h,hj=>
   obtain ⟨x0,d0,h⟩:=znB h
   obtain ⟨x1,d1,h⟩:=znB h
   obtain ⟨x2,d2,h⟩:=znB h
   obtain ⟨x3,d3,h⟩:=znB h
   have hx:(((0*256+x0)*256+x1)*256+x2)*256+x3=x:=congrArg Prod.fst h
   obtain ⟨a0,b0,rfl⟩:=zkI p0 x0 d0
   obtain ⟨a1,b1,rfl⟩:=zkI p1 x1 d1
   obtain ⟨a2,b2,rfl⟩:=zkI p2 x2 d2
   obtain ⟨a3,b3,rfl⟩:=zkI p3 x3 d3
   refine ⟨by omega,by omega,?_⟩
   rw [←hj]
   have e0:x/16777216=x0:=by omega
   have e1:x/65536 % 256=x1:=by omega
   have e2:x/256 % 256=x2:=by omega
   have e3:x % 256=x3:=by omega
   unfold txtZ
   rw [e0,e1,e2,e3]
   simp [Lib.join,txt,List.intercalate]
 ·exact absurd (congrArg Prod.snd h) (by simp)
end
section
open Go.RowKit
def valP (b:Int) (L:List UInt8):Int:=L.foldl (fun n c=>n*b+valZ (c.toNat:Int)) 0
def dgt (d:Nat):UInt8:=if d<10 then UInt8.ofNat (48+d) else UInt8.ofNat (87+d)
theorem ygK: ∀d:Fin 16,valZ ((dgt d.val).toNat:Int)=(d.val:Int):=by decide+kernel
theorem yjJ (d:Nat) (h:d<16):valZ ((dgt d).toNat:Int)=(d:Int):=ygK ⟨d,h⟩
theorem ybT (b:Int) (L:List UInt8): ∀a:Int,L.foldl (fun n c=>n*b+valZ (c.toNat:Int)) a=a*b^L.length+valP b L:=by
 unfold valP
 induction L with
 |nil=>intro a;simp
 |cons c L ih=>
  intro a
  simp only [List.foldl_cons,List.length_cons]
  rw [ih,ih (0*b+_),Int.pow_succ]
  rw [Int.zero_mul,Int.zero_add,Int.add_mul,Int.mul_assoc,Int.mul_comm b (b^L.length),Int.add_assoc]
theorem zwR (b:Int) (c:UInt8) (L:List UInt8):valP b (c::L)=valZ (c.toNat:Int)*b^L.length+valP b L:=by
 show (c::L).foldl _ 0=_
 rw [List.foldl_cons,ybT,Int.zero_mul,Int.zero_add]
theorem ydM (b:Nat) (v:Nat) (T:List UInt8) (u:Int) (hd:v % b<16) (h:(v:Int)*(b:Int)^T.length+valP b T=u):
  ((v/b:Nat):Int)*(b:Int)^(dgt (v % b)::T).length+valP b (dgt (v % b)::T)=u:=by
 rw [zwR,yjJ _ hd,←h,List.length_cons,Int.pow_succ]
 have e:(v:Int)=((v/b:Nat):Int)*b+((v % b:Nat):Int):=by
  have:=Nat.div_add_mod v b
  have h2:v=(v/b)*b+v % b:=by rw [Nat.mul_comm];exact this.symm
  exact_mod_cast h2
 conv=>rhs;rw [e]
 rw [Int.add_mul,Int.mul_assoc,Int.mul_comm (b:Int) ((b:Int)^T.length)]
 omega
theorem zoG (b:Int) (hb:0≤b) (L:List UInt8) (hd:zcD b L=true):0≤valP b L:=by
 have key: ∀(L:List UInt8) (n:Int),0≤n→zcD b L=true→0≤L.foldl (fun n c=>n*b+valZ (c.toNat:Int)) n:=by
  intro L
  induction L with
  |nil=>intro n h _;exact h
  |cons c L ih=>
   intro n h hd
   have h2:digC b c=true∧zcD b L=true:=by simpa [zcD] using hd
   have h3:=of_decide_eq_true h2.1
   have hp:0≤n*b:=Int.mul_nonneg h hb
   exact ih (n*b+valZ (c.toNat:Int)) (by omega) h2.2
 exact key L 0 (Int.le_refl _) hd
end
section
open Go.RowKit Go.Sort Go.Lib
end
section
open Go.RowKit Go.Sort Go.Lib
def bruTab:List Int:=[0,1,56,2,57,49,28,3,61,58,42,50,38,29,17,4,62,47,59,36,45,43,51,22,53,39,33,30,24,18,12,5,63,55,48,27,60,41,37,16,46,35,44,21,52,32,23,11,54,26,40,15,34,20,31,10,25,14,19,9,13,8,7,6]
abbrev BruTab (w:World):Prop:=Lib.TabIs Tryz.prog w "math/bits.deBruijn64tab" .u8 bruTab
theorem zaL {w w':World} (h:BruTab w) (hb:Below w.heap.size w w'):BruTab w':=
 Lib.tabBelow_of_tabIs h w' hb
theorem bru_at (w:World) (h:BruTab w) (i:Nat) (hi:i<64):w.cell? ⟨5,i,none⟩=some (.int .u8 (bruTab.getD i 0)):=
 Lib.TabIs.cell h (by kernel_rfl) i (by simpa [bruTab] using hi)
theorem yjE (w:World) (h:BruTab w):Calls Tryz.prog 232 #[.int .u64 16] w fun e w'=>e= .returned (.int .i64 4)∧w=w':=by
 have hc:w.cell? ⟨5,15,none⟩=some (.int .u8 4):=bru_at w h 15 (by decide)
 have e1:IntKind.u64.wrap (-16)=18446744073709551600:=by decide
 have e2:bits .and .u64 16 18446744073709551600=16:=by decide
 clear h
 go_enter Tryz.func232,Tryz.ntmps232
 go_wp2
 go_ret
 exact ⟨rfl,rfl⟩
theorem tz_16 (w:World) (h:BruTab w):Calls Tryz.prog 223 #[.int .u64 16] w fun e w'=>e= .returned (.int .i64 4)∧w=w':=by
 have HT:=Lib.hid h
 clear h
 go_enter Tryz.func223,Tryz.ntmps223
 go_wp2_with (go_at_call 232;refine (yjE _ HT.out).mono ?_;rintro e w' ⟨rfl,rfl⟩)
 go_ret
 exact ⟨rfl,rfl⟩
theorem ylZ (w:World):Calls Tryz.prog 222 #[.int .i64 16] w fun e w'=>e= .returned (.bool true)∧w=w':=by
 have e1:bits .and .i64 16 15=0:=by decide
 go_enter Tryz.func222,Tryz.ntmps222
 go_wp2
 go_ret
 exact ⟨rfl,rfl⟩
def ydE:Array Value:= #[.int .u8 0,.int .u8 0,.int .u8 0,.int .u8 0,.int .u8 0,.int .u8 0,.int .u8 0,.int .u8 0,.int .u8 0,.int .u8 0,.int .u8 0,.int .u8 0,.int .u8 0,.int .u8 0,.int .u8 0,.int .u8 0,.int .u8 0,.int .u8 0,.int .u8 0,.int .u8 0,.int .u8 0,.int .u8 0,.int .u8 0,.int .u8 0,.int .u8 0,.int .u8 0,.int .u8 0,.int .u8 0,.int .u8 0,.int .u8 0,.int .u8 0,.int .u8 0,.int .u8 0,.int .u8 0,.int .u8 0,.int .u8 0,.int .u8 0,.int .u8 0,.int .u8 0,.int .u8 0,.int .u8 0,.int .u8 0,.int .u8 0,.int .u8 0,.int .u8 0,.int .u8 0,.int .u8 0,.int .u8 0,.int .u8 0,.int .u8 0,.int .u8 0,.int .u8 0,.int .u8 0,.int .u8 0,.int .u8 0,.int .u8 0,.int .u8 0,.int .u8 0,.int .u8 0,.int .u8 0,.int .u8 0,.int .u8 0,.int .u8 0,.int .u8 0,.int .u8 0]
/-- the array's bytes from i on are T -/
def zfN (B i:Nat) (T:List UInt8) (w:World):Prop:=
 ∃cur:Array Value,w.heap[B]? =some (.cells cur 211 (0,0))∧cur.size=65∧i+T.length=65∧ ∀j x,T[j]? =some x→cur[i+j]? =some (.int .u8 (x.toNat:Int))
theorem zsM (w:World):zfN w.heap.size 65 [] (w.alloc (.cells ydE 211)):=
 ⟨ydE,heap_alloc_new w _,rfl,rfl,fun j x h=>by simp at h⟩
theorem zfN.cell {B i:Nat} {T:List UInt8} {w:World} (h:zfN B i T w) (k:Nat) (hk:k<65): ∃u,w.cell? ⟨B,k,none⟩=some u:=by
 obtain ⟨cur,h1,h2,_,_⟩:=h
 rw [cell_of_row w B k cur _ _ h1]
 exact ⟨_,Array.getElem?_eq_getElem (by omega)⟩
theorem zfN.frozen {B i:Nat} {T:List UInt8} {w:World} (h:zfN B i T w) (k:Nat):w.frozen? ⟨B,k,none⟩=false:=by
 obtain ⟨cur,h1,_,_,_⟩:=h
 simp [World.frozen?,h1]
theorem zfN.put {B i:Nat} {T:List UInt8} {w:World} (h:zfN B (i+1) T w) (c:UInt8):zfN B i (c::T) (w.setCell ⟨B,i,none⟩ (.int .u8 (c.toNat:Int))):=by
 obtain ⟨cur,h1,h2,h3,h4⟩:=h
 refine ⟨cur.setIfInBounds i (.int .u8 (c.toNat:Int)),?_,by simpa using h2,by simp;omega,fun j x hj=> ?_⟩
 ·simp [World.setCell,Array.getElem?_modify,h1]
 ·rw [Array.getElem?_setIfInBounds]
  cases j with
  |zero=>
   simp at hj
   subst hj
   rw [if_pos (by omega),if_pos (by omega)]
  |succ j=>
   rw [if_neg (by omega),show i+(j+1)=i+1+j from by omega]
   exact h4 j x (by simpa using hj)
theorem zfN.conv {B i:Nat} {T:List UInt8} {w:World} (h:zfN B i T w):
  (convert 73 9 (.slice (some ⟨B,i,none⟩) (65 - i) (65 - i))).run Tryz.prog w= .ok (.string ⟨T.toArray⟩) w:=by
 refine zeZ w _ _ 5 _ _ ?_ Tryz.underlying73 Tryz.underlying5 Tryz.underlying9
 obtain ⟨cur,h1,h2,h3,h4⟩:=h
 refine ⟨_,65 - i,by rw [Lib.byteCells_length,show 65 - i=T.length from by omega],fun j u hj=>⟨_,rfl,?_⟩⟩
 rw [Lib.add_plain,cell_of_row w B (i+j) cur _ _ h1]
 have hx: ∃x,T[j]? =some x∧u= .int .u8 (x.toNat:Int):=by
  simp only [Lib.byteCells,List.getElem?_map,Option.map_eq_some_iff] at hj
  obtain ⟨x,hx,rfl⟩:=hj
  exact ⟨x,hx,rfl⟩
 obtain ⟨x,hx,rfl⟩:=hx
 exact h4 j x hx
theorem dig36': ∀d:Fin 16,(ByteArray.mk #[48,49,50,51,52,53,54,55,56,57,97,98,99,100,101,102,103,104,105,106,107,108,109,110,111,112,113,114,115,116,117,118,119,120,121,122])[d.val]? =some (dgt d.val):=by decide+kernel
theorem dig36 (W:World) (d:Nat) (h:d<16):(Instr.index 9 (.string ⟨#[48,49,50,51,52,53,54,55,56,57,97,98,99,100,101,102,103,104,105,106,107,108,109,110,111,112,113,114,115,116,117,118,119,120,121,122]⟩) (.int .u64 (d:Int))).run Tryz.prog W= .ok (.int .u8 ((dgt d).toNat:Int)) W:=by
 rw [run_index_string W 9 _ .u64 (d:Int) Tryz.underlying9,dif_pos ⟨by omega,by show (d:Int)<36;omega⟩]
 have e:=dig36' ⟨d,h⟩
 have e2:(ByteArray.mk #[48,49,50,51,52,53,54,55,56,57,97,98,99,100,101,102,103,104,105,106,107,108,109,110,111,112,113,114,115,116,117,118,119,120,121,122])[((d:Int)).toNat]'(by show _<36;omega)=dgt d:=by
  rw [ByteArray.getElem?_lt' _ _ (by show d<36;omega)] at e
  exact Option.some.inj e
 rw [e2]
theorem z6Z (v l:Nat) (h:v<2^(64 - l)) (h8:8≤v):l≤60:=by
 by_cases hl:l≤60
 ·exact hl
 ·exfalso
  have:2^(64 - l)≤2^3:=Nat.pow_le_pow_right (by decide) (by omega)
  omega
theorem yfQ (v l b:Nat) (h:v<2^(64 - l)) (hl:l≤60) (hb:2≤b):v/b<2^(64 - (l+1)):=by
 have e:64 - l=(64 - (l+1))+1:=by omega
 rw [e,Nat.pow_succ] at h
 rw [Nat.div_lt_iff_lt_mul (by omega)]
 exact Nat.lt_of_lt_of_le h (Nat.mul_le_mul_left _ hb)
end
end

end Go.Proofs.YthacmlahnpdeeaaGreatDoor
