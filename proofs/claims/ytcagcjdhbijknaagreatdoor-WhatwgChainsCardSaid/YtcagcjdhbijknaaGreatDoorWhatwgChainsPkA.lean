/-
  What the law WhatwgChains leans on, and its walk (1 of 33).
-/
import Derived.Test.YtcagcjdhbijknaaGreatDoorChecked
import Derived.WalkKit
import Derived.WalkLawsBesides
import Derived.BigQuiet
import Derived.Deep.QuietTactic
import Derived.Lib.Hide
import Derived.Lib.OthersKept
import Derived.Lib.RuneBytes
import Derived.Test.YtcagcjdhbijknaaGreatDoorWhatwgChainsPkS
import Derived.OpenShut
import Derived.Lib.ConvBytes
import Derived.WalkSpells
import Derived.Lib.Join
namespace Go.Proofs.YtcagcjdhbijknaaGreatDoor
set_option maxRecDepth 100000
set_option maxHeartbeats 16000000
abbrev ygI := @Lib.hid
abbrev ygJ := @Nat.le_refl
abbrev ygK := @decide_eq_false
abbrev ygL := @decide_eq_true
abbrev ygM := @Go.RowKit.Below.refl
abbrev ygN := @congrArg
section
section
open Go.RowKit
theorem zaD {a b:Bool} (h:a=b):Ending.returned (.bool a)= .returned (.bool b):=by rw [h]
def zjD (s:ByteArray):Bool:=s.data.toList.all fun c=>decide (c.toNat<128)
theorem zlU (s:ByteArray) (k:Nat) (h:k<s.size) (hc:128≤(s[k]'h).toNat):zjD s=false:=by
 unfold zjD
 rw [List.all_eq_false]
 refine ⟨s[k]'h,?_,by simp;omega⟩
 show s.data[k]∈_
 simp
theorem znT (s:ByteArray) (h: ∀k (h:k<s.size),(s[k]'h).toNat<128):zjD s=true:=by
 unfold zjD
 rw [List.all_eq_true]
 intro c hc
 obtain ⟨k,hk,rfl⟩:=List.getElem_of_mem hc
 have:=h k (by simpa using hk)
 simp only [decide_eq_true_eq]
 exact this
theorem zmH (s:ByteArray) (w:World) (hs:s.size≤1073741824):
  Calls Tryz.prog 143 #[.string s] w fun e w'=>e= .returned (.bool (zjD s))∧w=w':=by
 go_enter Tryz.func143,Tryz.ntmps143
 go_wp2
 go_loop [3] (fun i=> ∃k:Nat,k≤s.size∧i= .int .i64 k∧Hid (∀j (h:j<s.size),j<k→(s[j]'h).toNat<128)) (fun i=>s.size - (intOf i).toNat)
 case atStart=>exact ⟨0,Nat.zero_le _,rfl,fun j _ h=>by omega⟩
 case round=>
  obtain ⟨k,hk,rfl,H⟩:=hrel
  by_cases hlt:k<s.size
  ·go_wp2
   ·have hc:(128:Int)≤(s[k].toNat:Int):=by assumption
    go_ret
    exact ⟨zaD (zlU s k hlt (by omega)).symm,rfl⟩
   ·have hc:(s[k].toNat:Int)<128:=by first|assumption|omega
    go_round
    case rel=>
     refine ⟨k+1,by omega,by go_num,fun j hj hjk=> ?_⟩
     by_cases e:j=k
     ·subst e;omega
     ·exact H.out j hj (by omega)
    case measure=>simp [intOf];omega
  ·have hf:=znT s (fun j hj=>H.out j hj (by omega))
   have HF:=ygI hf
   clear hf
   go_wp2
   go_ret
   exact ⟨zaD HF.out.symm,rfl⟩
def RowR (w:World) (v:Value) (xs:List Value):Prop:=
 ∃ao c,v= .slice ao xs.length c∧ ∀j u,xs[j]? =some u→ ∃ad,ao=some ad∧w.cell? (ad.add j)=some u
theorem RowR.of_own {w:World} {base:Nat} {e:TypeId} {v:Value} {xs:List Value} (h:w.ownsRow base e 1 v xs.length xs):RowR w v xs:=by
 rcases h.2 with ⟨rfl,h0⟩|⟨g,cap,cur,rfl,_,hg,hn,_,hs,ht⟩
 ·refine ⟨none,0,by rw [h0],fun j u hj=> ?_⟩
  have:=List.length_eq_zero_iff.1 h0
  subst this
  simp at hj
 ·refine ⟨some ⟨g,0,none⟩,cap,rfl,fun j u hj=>⟨_,rfl,?_⟩⟩
  have hlt:j<xs.length:=(List.getElem?_eq_some_iff.1 hj).1
  have e1:(Addr.add ⟨g,0,none⟩ j)=⟨g,j,none⟩:=by
   unfold Addr.add;split<;>simp_all
  rw [e1,cell_of_row w g j cur e (0,0) hg]
  rw [←ht,List.getElem?_take] at hj
  rw [if_pos (by omega)] at hj
  simpa using hj
def zaK (s:ByteArray) (i:Nat):Nat:=(s.get! i).toNat
theorem zhR (s:ByteArray) (i:Nat) (h:i<s.size):zaK s i=(s[i]'h).toNat:=by
 unfold zaK
 rw [show s.get! i=s.get! (i+0) from rfl,get_at s i h]
theorem zgI (s:ByteArray) (i:Nat):zaK s i<256:=(s.get! i).toNat_lt
def accN (s:ByteArray) (i:Nat) (r0:Nat):Nat→Nat
 |0=>r0
 |k+1=>accN s i r0 k*64+zaK s (i+k+1) % 64
def zjE:Nat→Nat:=fun n=>if n=2 then 128 else if n=3 then 2048 else 65536
def zkC:Nat→Nat:=fun n=>if n=2 then 192 else if n=3 then 224 else 240
def topN:Nat→Nat:=fun n=>if n=2 then 224 else if n=3 then 240 else 248
def isB (r:Int):Bool:=decide (0≤r∧r≤1114111∧(r<55296∨57343<r))
theorem znM (r:Nat):Utf8.valid (r:Int)=isB (r:Int):=by
 unfold Utf8.valid isB
 rw [Bool.eq_iff_iff]
 simp only [Bool.or_eq_true,Bool.and_eq_true,decide_eq_true_eq]
 omega
theorem zwE (s:ByteArray) (i:Nat):Utf8.decode s i=
  if zaK s i<128 then (zaK s i,1)
  else if (zaK s i/32==6&&(decide (i+1<s.size)&&zaK s (i+1)/64==2))=true then
   if 128≤zaK s i % 32*64+zaK s (i+1) % 64 then (zaK s i % 32*64+zaK s (i+1) % 64,2) else (65533,1)
  else if (zaK s i/16==14&&(decide (i+1<s.size)&&zaK s (i+1)/64==2)&&(decide (i+2<s.size)&&zaK s (i+2)/64==2))=true then
   if (decide (2048≤zaK s i % 16*4096+zaK s (i+1) % 64*64+zaK s (i+2) % 64)&&isB (zaK s i % 16*4096+zaK s (i+1) % 64*64+zaK s (i+2) % 64:Nat))=true
   then (zaK s i % 16*4096+zaK s (i+1) % 64*64+zaK s (i+2) % 64,3) else (65533,1)
  else if (zaK s i/8==30&&(decide (i+1<s.size)&&zaK s (i+1)/64==2)&&(decide (i+2<s.size)&&zaK s (i+2)/64==2)&&(decide (i+3<s.size)&&zaK s (i+3)/64==2))=true then
   if (decide (65536≤zaK s i % 8*262144+zaK s (i+1) % 64*4096+zaK s (i+2) % 64*64+zaK s (i+3) % 64)&&isB (zaK s i % 8*262144+zaK s (i+1) % 64*4096+zaK s (i+2) % 64*64+zaK s (i+3) % 64:Nat))=true
   then (zaK s i % 8*262144+zaK s (i+1) % 64*4096+zaK s (i+2) % 64*64+zaK s (i+3) % 64,4) else (65533,1)
  else (65533,1):=by
 rw [←znM,←znM]
 rfl
theorem zeI (s:ByteArray) (i:Nat):Utf8.decode s i=
  if zaK s i<128 then (zaK s i,1)
  else if zaK s i/32=6∧(i+1<s.size∧zaK s (i+1)/64=2) then
   if 128≤zaK s i % 32*64+zaK s (i+1) % 64 then (zaK s i % 32*64+zaK s (i+1) % 64,2) else (65533,1)
  else if (zaK s i/16=14∧(i+1<s.size∧zaK s (i+1)/64=2))∧(i+2<s.size∧zaK s (i+2)/64=2) then
   if 2048≤zaK s i % 16*4096+zaK s (i+1) % 64*64+zaK s (i+2) % 64∧isB (zaK s i % 16*4096+zaK s (i+1) % 64*64+zaK s (i+2) % 64:Nat)=true
   then (zaK s i % 16*4096+zaK s (i+1) % 64*64+zaK s (i+2) % 64,3) else (65533,1)
  else if ((zaK s i/8=30∧(i+1<s.size∧zaK s (i+1)/64=2))∧(i+2<s.size∧zaK s (i+2)/64=2))∧(i+3<s.size∧zaK s (i+3)/64=2) then
   if 65536≤zaK s i % 8*262144+zaK s (i+1) % 64*4096+zaK s (i+2) % 64*64+zaK s (i+3) % 64∧isB (zaK s i % 8*262144+zaK s (i+1) % 64*4096+zaK s (i+2) % 64*64+zaK s (i+3) % 64:Nat)=true
   then (zaK s i % 8*262144+zaK s (i+1) % 64*4096+zaK s (i+2) % 64*64+zaK s (i+3) % 64,4) else (65533,1)
  else (65533,1):=by
 rw [zwE]
 simp only [beq_iff_eq,Bool.and_eq_true,decide_eq_true_eq]
theorem zxT (s:ByteArray) (i:Nat) (h1:128≤zaK s i) (h2:zaK s i<192∨248≤zaK s i):Utf8.decode s i=(65533,1):=by
 have hb:=zgI s i
 rw [zeI,if_neg (by omega),if_neg (by omega),if_neg (by omega),if_neg (by omega)]
theorem zlQ (s:ByteArray) (i n k:Nat) (hn:n=2∨n=3∨n=4) (h1:zkC n≤zaK s i) (h2:zaK s i<topN n) (hk0:1≤k) (hk:k<n)
  (h:s.size≤i+k∨zaK s (i+k)<128∨192≤zaK s (i+k)):Utf8.decode s i=(65533,1):=by
 have hbk:=zgI s (i+k)
 rcases hn with rfl|rfl|rfl
 ·obtain rfl:k=1:=by omega
  simp only [show zkC 2=192 from rfl,show topN 2=224 from rfl] at h1 h2
  rw [zeI,if_neg (by omega),if_neg (by omega),if_neg (by omega),if_neg (by omega)]
 ·have hk':k=1∨k=2:=by omega
  simp only [show zkC 3=224 from rfl,show topN 3=240 from rfl] at h1 h2
  rcases hk' with rfl|rfl<;>rw [zeI,if_neg (by omega),if_neg (by omega),if_neg (by omega),if_neg (by omega)]
 ·have hk':k=1∨k=2∨k=3:=by omega
  simp only [show zkC 4=240 from rfl,show topN 4=248 from rfl] at h1 h2
  rcases hk' with rfl|rfl|rfl<;>rw [zeI,if_neg (by omega),if_neg (by omega),if_neg (by omega),if_neg (by omega)]
theorem zkX (s:ByteArray) (i n:Nat) (hn:n=2∨n=3∨n=4) (h1:zkC n≤zaK s i) (h2:zaK s i<topN n)
  (hc: ∀k,1≤k→k<n→i+k<s.size∧128≤zaK s (i+k)∧zaK s (i+k)<192):
  Utf8.decode s i=if zjE n≤accN s i (zaK s i - zkC n) (n - 1)∧isB (accN s i (zaK s i - zkC n) (n - 1):Nat)=true then (accN s i (zaK s i - zkC n) (n - 1),n) else (65533,1):=by
 rw [zeI]
 rcases hn with rfl|rfl|rfl
 ·obtain ⟨s1,c1,d1⟩:=hc 1 (by omega) (by omega)
  have ea:accN s i (zaK s i - 192) 1=(zaK s i - 192)*64+zaK s (i+1) % 64:=rfl
  simp only [show zkC 2=192 from rfl,show topN 2=224 from rfl,show zjE 2=128 from rfl,show 2 - 1=1 from rfl,ea] at*
  generalize zaK s i=b0 at*
  generalize zaK s (i+1)=b1 at*
  have hv:isB (((b0 - 192)*64+b1 % 64:Nat):Int)=true:=by unfold isB;apply ygL;omega
  rw [if_neg (by omega),if_pos ⟨by omega,s1,by omega⟩,show b0 % 32=b0 - 192 from by omega]
  simp only [hv,and_true]
 ·obtain ⟨s1,c1,d1⟩:=hc 1 (by omega) (by omega)
  obtain ⟨s2,c2,d2⟩:=hc 2 (by omega) (by omega)
  have ea:accN s i (zaK s i - 224) 2=((zaK s i - 224)*64+zaK s (i+1) % 64)*64+zaK s (i+2) % 64:=rfl
  simp only [show zkC 3=224 from rfl,show topN 3=240 from rfl,show zjE 3=2048 from rfl,show 3 - 1=2 from rfl,ea] at*
  generalize zaK s i=b0 at*
  generalize zaK s (i+1)=b1 at*
  generalize zaK s (i+2)=b2 at*
  rw [if_neg (by omega),if_neg (by omega),if_pos ⟨⟨by omega,s1,by omega⟩,s2,by omega⟩,show b0 % 16*4096+b1 % 64*64+b2 % 64=((b0 - 224)*64+b1 % 64)*64+b2 % 64 from by omega]
 ·obtain ⟨s1,c1,d1⟩:=hc 1 (by omega) (by omega)
  obtain ⟨s2,c2,d2⟩:=hc 2 (by omega) (by omega)
  obtain ⟨s3,c3,d3⟩:=hc 3 (by omega) (by omega)
  have ea:accN s i (zaK s i - 240) 3=(((zaK s i - 240)*64+zaK s (i+1) % 64)*64+zaK s (i+2) % 64)*64+zaK s (i+3) % 64:=rfl
  simp only [show zkC 4=240 from rfl,show topN 4=248 from rfl,show zjE 4=65536 from rfl,show 4 - 1=3 from rfl,ea] at*
  generalize zaK s i=b0 at*
  generalize zaK s (i+1)=b1 at*
  generalize zaK s (i+2)=b2 at*
  generalize zaK s (i+3)=b3 at*
  rw [if_neg (by omega),if_neg (by omega),if_neg (by omega),if_pos ⟨⟨⟨by omega,s1,by omega⟩,s2,by omega⟩,s3,by omega⟩,show b0 % 8*262144+b1 % 64*4096+b2 % 64*64+b3 % 64=(((b0 - 240)*64+b1 % 64)*64+b2 % 64)*64+b3 % 64 from by omega]
theorem zgH (r:Int) (w:World):
  Calls Tryz.prog 139 #[.int .i32 r] w fun e w'=>e= .returned (.bool (isB r))∧w=w':=by
 by_cases h0:0≤r
 ·by_cases h1:r≤1114111
  ·by_cases h2:r<55296
   ·have hf:isB r=true:=ygL ⟨h0,h1,.inl h2⟩
    have HF:=ygI hf
    clear hf
    go_enter Tryz.func139,Tryz.ntmps139
    go_wp2
    go_ret
    exact ⟨zaD HF.out.symm,rfl⟩
   ·by_cases h3:57343<r
    ·have hf:isB r=true:=ygL ⟨h0,h1,.inr h3⟩
     have HF:=ygI hf
     clear hf
     go_enter Tryz.func139,Tryz.ntmps139
     go_wp2
     go_ret
     exact ⟨zaD HF.out.symm,rfl⟩
    ·have hf:isB r=false:=ygK (by omega)
     have HF:=ygI hf
     clear hf
     go_enter Tryz.func139,Tryz.ntmps139
     go_wp2
     go_ret
     exact ⟨zaD HF.out.symm,rfl⟩
  ·have hf:isB r=false:=ygK (by omega)
   have HF:=ygI hf
   clear hf
   go_enter Tryz.func139,Tryz.ntmps139
   go_wp2
   go_ret
   exact ⟨zaD HF.out.symm,rfl⟩
 ·have hf:isB r=false:=ygK (by omega)
  have HF:=ygI hf
  clear hf
  go_enter Tryz.func139,Tryz.ntmps139
  go_wp2
  go_ret
  exact ⟨zaD HF.out.symm,rfl⟩
def zkV (s:ByteArray) (i:Nat) (w:World) (e:Ending) (w':World):Prop:=
 e= .returned (.tuple #[.int .i32 ((Utf8.decode s i).1:Int),.int .i64 ((Utf8.decode s i).2:Int)])∧w=w'
theorem zbA {s:ByteArray} {i:Nat} {w:World} {e:Ending} {a b:Int} (r n:Nat) (he:e= .returned (.tuple #[.int .i32 a,.int .i64 b])) (h:Utf8.decode s i=(r,n)) (ha:a=r) (hb:b=n):zkV s i w e w:=by
 refine ⟨?_,rfl⟩
 rw [he,h,ha,hb]
theorem zxD (s:ByteArray) (i r0:Nat) (h:r0<32): ∀k,k≤3→accN s i r0 k<8388608
 |0,_=>by simp [accN];omega
 |1,_=>by simp only [accN];omega
 |2,_=>by simp only [accN];omega
 |3,_=>by simp only [accN];omega
 |k+4,h=>by omega
theorem z1F (s:ByteArray) (i b:Nat) (w:World) (hi:i<s.size) (hs:s.size≤1073741824) (hb:s[i].toNat=b) (hbn:zaK s i=b) (hlo:192≤b) (hhi:b<224):
  Calls Tryz.prog 138 #[.string s,.int .i64 i] w (zkV s i w):=by
 have hbad:=fun k hk0 hk h=>zlQ s i 2 k (.inl rfl) (by rw [hbn];exact hlo) (by rw [hbn];exact hhi) hk0 hk h
 have hall:=fun hc=>zkX s i 2 (.inl rfl) (by rw [hbn];exact hlo) (by rw [hbn];exact hhi) hc
 rw [hbn,show zkC 2=192 from rfl] at hall
 have HBAD:=ygI hbad
 have HALL:=ygI hall
 clear hbad hall hbn
 by_cases hend:s.size<i+2
 ·have HD:=ygI (HBAD.out 1 (by omega) (by omega) (.inl (by omega)))
  go_enter Tryz.func138,Tryz.ntmps138
  go_wp2
  go_ret2
  exact zbA 65533 1 rfl HD.out rfl rfl
 ·go_enter Tryz.func138,Tryz.ntmps138
  go_wp2
  go_loop [9,10] (fun r k=> ∃j A:Nat,1≤j∧j≤2∧k= .int .i64 j∧r= .int .i32 A∧A<8388608∧Hid (A=accN s i (b - 192) (j - 1))∧Hid (∀m,1≤m→m<j→i+m<s.size∧128≤zaK s (i+m)∧zaK s (i+m)<192)) (fun _ k=>2 - (intOf k).toNat)
  case atStart=>exact ⟨1,b - 192,by omega,by omega,rfl,by congr 1;omega,by omega,rfl,fun m h1 h2=>by omega⟩
  case round=>
   obtain ⟨j,A,hj1,hjn,rfl,rfl,hA,HA,HC⟩:=hrel
   by_cases hjlt:j<2
   ·have hij:i+j<s.size:=by omega
    obtain ⟨c,hc⟩: ∃c,(s[i+j]'hij).toNat=c:=⟨_,rfl⟩
    have hcn:zaK s (i+j)=c:=by rw [zhR s (i+j) hij,hc]
    have hc256:c<256:=by rw [←hcn];exact zgI s (i+j)
    have HCN:=ygI hcn
    clear hcn
    by_cases hc1:c<128
    ·have HD:=ygI (HBAD.out j hj1 hjlt (.inr (.inl (by rw [HCN.out];exact hc1))))
     go_wp2
     go_ret2
     exact zbA 65533 1 rfl HD.out rfl rfl
    ·by_cases hc2:192≤c
     ·have HD:=ygI (HBAD.out j hj1 hjlt (.inr (.inr (by rw [HCN.out];exact hc2))))
      go_wp2
      go_ret2
      exact zbA 65533 1 rfl HD.out rfl rfl
     ·have hA2:A*64+(c - 128)=accN s i (b - 192) j:=by
       obtain ⟨j',rfl⟩: ∃j',j=j'+1:=⟨j - 1,by omega⟩
       have h1:accN s i (b - 192) (j'+1)=accN s i (b - 192) j'*64+zaK s (i+j'+1) % 64:=rfl
       have h2:=HA.out
       have h3:=HCN.out
       rw [show i+(j'+1)=i+j'+1 from rfl] at h3
       rw [h1,h3,h2,Nat.add_sub_cancel]
       omega
      have hA3:A*64+(c - 128)<8388608:=by
       rw [hA2];exact zxD s i _ (by omega) j (by omega)
      have HA2:=ygI hA2
      clear hA2
      go_wp2
      go_round
      case rel=>
       refine ⟨j+1,A*64+(c - 128),by omega,by omega,by go_num,by congr 1;omega,hA3,HA2.out,fun m hm1 hm2=> ?_⟩
       by_cases e:m=j
       ·subst e;rw [HCN.out];exact ⟨hij,by omega,by omega⟩
       ·exact HC.out m hm1 (by omega)
      case measure=>simp [intOf];omega
   ·obtain rfl:j=2:=by omega
    have hd:=HALL.out HC.out
    have h0:=HA.out
    rw [show 2 - 1=1 from rfl] at hd h0
    rw [←h0] at hd
    have HD:=ygI hd
    clear hd h0
    by_cases hl:A<128
    ·have HE:=ygI (HD.out.trans (if_neg (fun h=>by have:=h.1;rw [show zjE 2=128 from rfl] at this;omega)))
     go_wp2_with (go_at_call 139;refine (zgH _ _).mono ?_;rintro e w' ⟨rfl,rfl⟩)
     go_ret2
     exact zbA 65533 1 rfl HE.out rfl rfl
    ·by_cases hv:isB (A:Int)=true
     ·have HE:=ygI (HD.out.trans (if_pos ⟨by rw [show zjE 2=128 from rfl];omega,hv⟩))
      go_wp2_with (go_at_call 139;refine (zgH _ _).mono ?_;rintro e w' ⟨rfl,rfl⟩)
      go_ret2
      exact zbA A 2 rfl HE.out rfl rfl
     ·have hv':isB (A:Int)=false:=by simpa using hv
      have HE:=ygI (HD.out.trans (if_neg (fun h=>hv h.2)))
      clear hv
      go_wp2_with (go_at_call 139;refine (zgH _ _).mono ?_;rintro e w' ⟨rfl,rfl⟩)
      go_ret2
      exact zbA 65533 1 rfl HE.out rfl rfl
theorem z2M (s:ByteArray) (i b:Nat) (w:World) (hi:i<s.size) (hs:s.size≤1073741824) (hb:s[i].toNat=b) (hbn:zaK s i=b) (hlo:224≤b) (hhi:b<240):
  Calls Tryz.prog 138 #[.string s,.int .i64 i] w (zkV s i w):=by
 have hbad:=fun k hk0 hk h=>zlQ s i 3 k (.inr (.inl rfl)) (by rw [hbn];exact hlo) (by rw [hbn];exact hhi) hk0 hk h
 have hall:=fun hc=>zkX s i 3 (.inr (.inl rfl)) (by rw [hbn];exact hlo) (by rw [hbn];exact hhi) hc
 rw [hbn,show zkC 3=224 from rfl] at hall
 have HBAD:=ygI hbad
 have HALL:=ygI hall
 clear hbad hall hbn
 by_cases hend:s.size<i+3
 ·have HD:=ygI (HBAD.out 2 (by omega) (by omega) (.inl (by omega)))
  go_enter Tryz.func138,Tryz.ntmps138
  go_wp2
  go_ret2
  exact zbA 65533 1 rfl HD.out rfl rfl
 ·go_enter Tryz.func138,Tryz.ntmps138
  go_wp2
  go_loop [9,10] (fun r k=> ∃j A:Nat,1≤j∧j≤3∧k= .int .i64 j∧r= .int .i32 A∧A<8388608∧Hid (A=accN s i (b - 224) (j - 1))∧Hid (∀m,1≤m→m<j→i+m<s.size∧128≤zaK s (i+m)∧zaK s (i+m)<192)) (fun _ k=>3 - (intOf k).toNat)
  case atStart=>exact ⟨1,b - 224,by omega,by omega,rfl,by congr 1;omega,by omega,rfl,fun m h1 h2=>by omega⟩
  case round=>
   obtain ⟨j,A,hj1,hjn,rfl,rfl,hA,HA,HC⟩:=hrel
   by_cases hjlt:j<3
   ·have hij:i+j<s.size:=by omega
    obtain ⟨c,hc⟩: ∃c,(s[i+j]'hij).toNat=c:=⟨_,rfl⟩
    have hcn:zaK s (i+j)=c:=by rw [zhR s (i+j) hij,hc]
    have hc256:c<256:=by rw [←hcn];exact zgI s (i+j)
    have HCN:=ygI hcn
    clear hcn
    by_cases hc1:c<128
    ·have HD:=ygI (HBAD.out j hj1 hjlt (.inr (.inl (by rw [HCN.out];exact hc1))))
     go_wp2
     go_ret2
     exact zbA 65533 1 rfl HD.out rfl rfl
    ·by_cases hc2:192≤c
     ·have HD:=ygI (HBAD.out j hj1 hjlt (.inr (.inr (by rw [HCN.out];exact hc2))))
      go_wp2
      go_ret2
      exact zbA 65533 1 rfl HD.out rfl rfl
     ·have hA2:A*64+(c - 128)=accN s i (b - 224) j:=by
       obtain ⟨j',rfl⟩: ∃j',j=j'+1:=⟨j - 1,by omega⟩
       have h1:accN s i (b - 224) (j'+1)=accN s i (b - 224) j'*64+zaK s (i+j'+1) % 64:=rfl
       have h2:=HA.out
       have h3:=HCN.out
       rw [show i+(j'+1)=i+j'+1 from rfl] at h3
       rw [h1,h3,h2,Nat.add_sub_cancel]
       omega
      have hA3:A*64+(c - 128)<8388608:=by
       rw [hA2];exact zxD s i _ (by omega) j (by omega)
      have HA2:=ygI hA2
      clear hA2
      go_wp2
      go_round
      case rel=>
       refine ⟨j+1,A*64+(c - 128),by omega,by omega,by go_num,by congr 1;omega,hA3,HA2.out,fun m hm1 hm2=> ?_⟩
       by_cases e:m=j
       ·subst e;rw [HCN.out];exact ⟨hij,by omega,by omega⟩
       ·exact HC.out m hm1 (by omega)
      case measure=>simp [intOf];omega
   ·obtain rfl:j=3:=by omega
    have hd:=HALL.out HC.out
    have h0:=HA.out
    rw [show 3 - 1=2 from rfl] at hd h0
    rw [←h0] at hd
    have HD:=ygI hd
    clear hd h0
    by_cases hl:A<2048
    ·have HE:=ygI (HD.out.trans (if_neg (fun h=>by have:=h.1;rw [show zjE 3=2048 from rfl] at this;omega)))
     go_wp2_with (go_at_call 139;refine (zgH _ _).mono ?_;rintro e w' ⟨rfl,rfl⟩)
     go_ret2
     exact zbA 65533 1 rfl HE.out rfl rfl
    ·by_cases hv:isB (A:Int)=true
     ·have HE:=ygI (HD.out.trans (if_pos ⟨by rw [show zjE 3=2048 from rfl];omega,hv⟩))
      go_wp2_with (go_at_call 139;refine (zgH _ _).mono ?_;rintro e w' ⟨rfl,rfl⟩)
      go_ret2
      exact zbA A 3 rfl HE.out rfl rfl
     ·have hv':isB (A:Int)=false:=by simpa using hv
      have HE:=ygI (HD.out.trans (if_neg (fun h=>hv h.2)))
      clear hv
      go_wp2_with (go_at_call 139;refine (zgH _ _).mono ?_;rintro e w' ⟨rfl,rfl⟩)
      go_ret2
      exact zbA 65533 1 rfl HE.out rfl rfl
theorem z0Z (s:ByteArray) (i b:Nat) (w:World) (hi:i<s.size) (hs:s.size≤1073741824) (hb:s[i].toNat=b) (hbn:zaK s i=b) (hlo:240≤b) (hhi:b<248):
  Calls Tryz.prog 138 #[.string s,.int .i64 i] w (zkV s i w):=by
 have hbad:=fun k hk0 hk h=>zlQ s i 4 k (.inr (.inr rfl)) (by rw [hbn];exact hlo) (by rw [hbn];exact hhi) hk0 hk h
 have hall:=fun hc=>zkX s i 4 (.inr (.inr rfl)) (by rw [hbn];exact hlo) (by rw [hbn];exact hhi) hc
 rw [hbn,show zkC 4=240 from rfl] at hall
 have HBAD:=ygI hbad
 have HALL:=ygI hall
 clear hbad hall hbn
 have d1:decide ((b:Int)<128)=false:=ygK (by omega)
 have d2:decide ((b:Int)<224)=false:=ygK (by omega)
 have d3:decide ((b:Int)<240)=false:=ygK (by omega)
 have d4:decide ((b:Int)<248)=true:=ygL (by omega)
 by_cases hend:s.size<i+4
 ·have HD:=ygI (HBAD.out 3 (by omega) (by omega) (.inl (by omega)))
  go_enter Tryz.func138,Tryz.ntmps138
  go_wp2
  go_ret2
  exact zbA 65533 1 rfl HD.out rfl rfl
 ·go_enter Tryz.func138,Tryz.ntmps138
  go_wp2
  go_loop [9,10] (fun r k=> ∃j A:Nat,1≤j∧j≤4∧k= .int .i64 j∧r= .int .i32 A∧A<8388608∧Hid (A=accN s i (b - 240) (j - 1))∧Hid (∀m,1≤m→m<j→i+m<s.size∧128≤zaK s (i+m)∧zaK s (i+m)<192)) (fun _ k=>4 - (intOf k).toNat)
  case atStart=>exact ⟨1,b - 240,by omega,by omega,rfl,by congr 1;omega,by omega,rfl,fun m h1 h2=>by omega⟩
  case round=>
   obtain ⟨j,A,hj1,hjn,rfl,rfl,hA,HA,HC⟩:=hrel
   by_cases hjlt:j<4
   ·have hij:i+j<s.size:=by omega
    obtain ⟨c,hc⟩: ∃c,(s[i+j]'hij).toNat=c:=⟨_,rfl⟩
    have hcn:zaK s (i+j)=c:=by rw [zhR s (i+j) hij,hc]
    have hc256:c<256:=by rw [←hcn];exact zgI s (i+j)
    have HCN:=ygI hcn
    clear hcn
    by_cases hc1:c<128
    ·have HD:=ygI (HBAD.out j hj1 hjlt (.inr (.inl (by rw [HCN.out];exact hc1))))
     go_wp2
     go_ret2
     exact zbA 65533 1 rfl HD.out rfl rfl
    ·by_cases hc2:192≤c
     ·have HD:=ygI (HBAD.out j hj1 hjlt (.inr (.inr (by rw [HCN.out];exact hc2))))
      go_wp2
      go_ret2
      exact zbA 65533 1 rfl HD.out rfl rfl
     ·have hA2:A*64+(c - 128)=accN s i (b - 240) j:=by
       obtain ⟨j',rfl⟩: ∃j',j=j'+1:=⟨j - 1,by omega⟩
       have h1:accN s i (b - 240) (j'+1)=accN s i (b - 240) j'*64+zaK s (i+j'+1) % 64:=rfl
       have h2:=HA.out
       have h3:=HCN.out
       rw [show i+(j'+1)=i+j'+1 from rfl] at h3
       rw [h1,h3,h2,Nat.add_sub_cancel]
       omega
      have hA3:A*64+(c - 128)<8388608:=by
       rw [hA2];exact zxD s i _ (by omega) j (by omega)
      have HA2:=ygI hA2
      clear hA2
      go_wp2
      go_round
      case rel=>
       first
        |refine ⟨j+1,A*64+(c - 128),by omega,by omega,by go_num,by congr 1;omega,hA3,HA2.out,fun m hm1 hm2=> ?_⟩
        |(refine ⟨trivial,?_⟩;(repeat apply Exists.intro);refine And.intro ?_ rfl;refine ⟨j+1,A*64+(c - 128),by omega,by omega,by go_num,by congr 1;omega,hA3,HA2.out,fun m hm1 hm2=> ?_⟩)
       by_cases e:m=j
       ·subst e;rw [HCN.out];exact ⟨hij,by omega,by omega⟩
       ·exact HC.out m hm1 (by omega)
      case measure=>simp [intOf];omega
   ·obtain rfl:j=4:=by omega
    have hd:=HALL.out HC.out
    have h0:=HA.out
    rw [show 4 - 1=3 from rfl] at hd h0
    rw [←h0] at hd
    have HD:=ygI hd
    clear hd h0
    by_cases hl:A<65536
    ·have HE:=ygI (HD.out.trans (if_neg (fun h=>by have:=h.1;rw [show zjE 4=65536 from rfl] at this;omega)))
     go_wp2_with (go_at_call 139;refine (zgH _ _).mono ?_;rintro e w' ⟨rfl,rfl⟩)
     go_ret2
     exact zbA 65533 1 rfl HE.out rfl rfl
    ·have hl':decide ((A:Int)<65536)=false:=ygK (by omega)
     by_cases hv:isB (A:Int)=true
     ·have HE:=ygI (HD.out.trans (if_pos ⟨by rw [show zjE 4=65536 from rfl];omega,hv⟩))
      go_wp2_with (go_at_call 139;refine (zgH _ _).mono ?_;rintro e w' ⟨rfl,rfl⟩)
      go_ret2
      exact zbA A 4 rfl HE.out rfl rfl
     ·have hv':isB (A:Int)=false:=by simpa using hv
      have HE:=ygI (HD.out.trans (if_neg (fun h=>hv h.2)))
      clear hv
      go_wp2_with (go_at_call 139;refine (zgH _ _).mono ?_;rintro e w' ⟨rfl,rfl⟩)
      go_ret2
      exact zbA 65533 1 rfl HE.out rfl rfl
theorem ybR (s:ByteArray) (i:Nat) (w:World) (hi:i<s.size) (hs:s.size≤1073741824):
  Calls Tryz.prog 138 #[.string s,.int .i64 i] w (zkV s i w):=by
 obtain ⟨b,hb⟩: ∃b,s[i].toNat=b:=⟨_,rfl⟩
 have hbn:zaK s i=b:=by rw [zhR s i hi,hb]
 have hb256:b<256:=by rw [←hbn];exact zgI s i
 by_cases h128:b<128
 ·have hd:Utf8.decode s i=(b,1):=by rw [zeI,hbn,if_pos h128]
  have HD:=ygI hd
  clear hd hbn
  go_enter Tryz.func138,Tryz.ntmps138
  go_wp2
  go_ret2
  exact zbA b 1 rfl HD.out rfl rfl
 ·by_cases hno:b<192∨248≤b
  ·have hd:Utf8.decode s i=(65533,1):=zxT s i (by omega) (by omega)
   have HD:=ygI hd
   clear hd hbn
   rcases hno with hno|hno
   ·go_enter Tryz.func138,Tryz.ntmps138
    go_wp2
    go_ret2
    exact zbA 65533 1 rfl HD.out rfl rfl
   ·go_enter Tryz.func138,Tryz.ntmps138
    go_wp2
    go_ret2
    exact zbA 65533 1 rfl HD.out rfl rfl
  ·have hcl:(192≤b∧b<224)∨(224≤b∧b<240)∨(240≤b∧b<248):=by omega
   rcases hcl with ⟨hlo,hhi⟩|⟨hlo,hhi⟩|⟨hlo,hhi⟩
   ·exact z1F s i b w hi hs hb hbn hlo hhi
   ·exact z2M s i b w hi hs hb hbn hlo hhi
   ·exact z0Z s i b w hi hs hb hbn hlo hhi
theorem Tryz.infoRune:(Tryz.prog.info? 21).map (fun i=>(i.zero,i.size,i.bytes))=some (some (.int .i32 0),1,4):=by kernel_rfl
def zlA (s:ByteArray):Nat→Nat→List Int
 |0,_=>[]
 |f+1,p=>if p<s.size then ((Utf8.decode s p).1:Int)::zlA s f (p+(Utf8.decode s p).2) else []
def scal (s:ByteArray):List Int:=zlA s s.size 0
theorem znY (s:ByteArray) (p:Nat) (h:p<s.size):1≤(Utf8.decode s p).2:=by
 by_cases ha:(s[p]'h).toNat<128
 ·rw [decode_ascii s p h ha];exact ygJ _
 ·exact (decode_high s p h (by omega)).2
theorem zyQ (s:ByteArray) (p:Nat):(Utf8.decode s p).2≤4:=by
 rw [zeI]
 repeat' split
 all_goals simp
theorem zjT (s:ByteArray) (f p:Nat) (h: ¬p<s.size):zlA s f p=[]:=by
 cases f with
 |zero=>rfl
 |succ f=>simp [zlA,h]
theorem ziT (s:ByteArray) (f p:Nat) (h:p<s.size):zlA s (f+1) p=((Utf8.decode s p).1:Int)::zlA s f (p+(Utf8.decode s p).2):=by
 simp [zlA,h]
theorem zuL (s:ByteArray): ∀f p,(zlA s f p).length≤f
 |0,_=>by simp [zlA]
 |f+1,p=>by
  by_cases h:p<s.size
  ·rw [ziT s f p h];have:=zuL s f (p+(Utf8.decode s p).2);simp;omega
  ·rw [zjT s _ p h];simp
theorem zzI (s:ByteArray):(scal s).length≤s.size:=zuL s _ _
def RetRow (base:Nat) (t:TypeId) (xs:List Value) (w:World) (e:Ending) (w':World):Prop:=
 ∃v,e= .returned v∧w'.ownsRow base t 1 v xs.length xs∧Below base w w'
theorem zsB (w:World) (u:Value) (t:TypeId): ∀j x,[u][j]? =some x→(w.alloc (.cells #[u] t)).cell? ((⟨w.heap.size,0,none⟩:Addr).add j)=some x:=by
 intro j x hj
 match j,hj with
 |0,hj=>simp at hj;subst hj;simp [Addr.add]
theorem zpI (s:ByteArray) (w:World) (hs:s.size≤1073741824):
  Calls Tryz.prog 95 #[.string s] w (RetRow w.heap.size 21 ((scal s).map (Value.int .i32)) w):=by
 obtain ⟨i0,hi,hz0,hz1,hz2⟩:=info_parts Tryz.infoRune
 go_enter Tryz.func95,Tryz.ntmps95
 go_wp2
 go_loopw [3,4] (fun v i wr=> ∃(pos fuel:Nat) (acc:List Int),wr.ownsRow w.heap.size 21 1 v acc.length (acc.map (Value.int .i32))∧i= .int .i64 pos∧Below w.heap.size w wr∧Hid (acc++zlA s fuel pos=scal s)∧s.size≤pos+fuel∧acc.length≤pos∧pos≤s.size+4) (fun _ i _=>s.size - (intOf i).toNat)
 case atStart=>
  exact ⟨0,s.size,[],World.ownsRow_nil _ _ _ _,rfl,ygM _ w,rfl,by omega,by simp,by omega⟩
 case round=>
  obtain ⟨pos,fuel,acc,hown,rfl,hbw,HA,hfu,hal,hpo⟩:=hrel
  by_cases hp:pos<s.size
  ·have hwd:=znY s pos hp
   have hwl:=zyQ s pos
   have hd1:=decode_le s pos
   obtain ⟨f,rfl⟩: ∃f,fuel=f+1:=⟨fuel - 1,by omega⟩
   have hA2:=HA.out
   rw [ziT s f pos hp] at hA2
   have HA2:=ygI hA2
   clear hA2
   have hsz:=hbw.size
   go_wp2_with (first
    |(go_at_call 138;refine (ybR _ _ _ hp hs).mono ?_;rintro e w' ⟨rfl,rfl⟩)
    |(at_builtin;refine wpList_append_own _ rfl _ _ 121 rfl w.heap.size 21 i0 (.int .i32 0) 1 4 Tryz.underlying121 hi hz0 hz1 hz2 rfl (by decide) _ _ _ rfl (hown.alloc _) ⟨wr.heap.size,0,none⟩ 1 1 [.int .i32 ((Utf8.decode s pos).1:Int)] rfl rfl ?c1 ?c2 ?c3 ?c4 ?c5 ?_))
   case c1=>exact zsB _ _ _
   case c2=>intro u hu;simp at hu;subst hu;rfl
   case c3=>unfold maxLen;omega
   case c4=>omega
   case c5=>simp;omega
   intro v' w1 hown' hgrow _
   have hbw3:Below w.heap.size w w1:=(hbw.alloc (by omega) _).grown hgrow (by simp;omega) (fun k hk=>by have:=hown.lt k hk;omega)
   clear hgrow hown
   go_wp2
   go_roundw
   case rel=>
    refine ⟨pos+(Utf8.decode s pos).2,f,acc++[((Utf8.decode s pos).1:Int)],?_,by go_num,hbw3,?_,by omega,by simp;omega,by omega⟩
    ·simpa using hown'
    ·show (acc++[_])++_=_
     rw [List.append_assoc];exact HA2.out
   case measure=>
    simp [intOf]
    omega
  ·go_wp2
   go_ret
   have he:=HA.out
   rw [zjT s fuel pos hp,List.append_nil] at he
   subst he
   exact ⟨_,rfl,by rw [List.length_map];exact hown,hbw⟩
theorem zaU {B:Nat} {a w:World} (h:Below B a w) (n:Nat):Below B a (w.drewN n):=⟨h.os,h.tape,h.output,h.size,h.block⟩
theorem zbK {w w':World} {B:Nat} {t:TypeId} {v:Value} {n:Nat} {xs:List Value} (h:w.ownsRow B t 1 v n xs) (hb:Below w.heap.size w w'):w'.ownsRow B t 1 v n xs:=by
 refine ⟨h.1,?_⟩
 rcases h.2 with h2|⟨g,cap,cur,h1,h2,h3,h4⟩
 ·exact .inl h2
 ·exact .inr ⟨g,cap,cur,h1,h2,(hb.block g (Array.getElem?_eq_some_iff.1 h3).1).trans h3,h4⟩
theorem z2J (l:List UInt8): ∀b:ByteArray,(l.map fun c=>(c.toNat:Int)).foldl (fun r n=>r.push (UInt8.ofNat n.toNat)) b=⟨(b.data.toList++l).toArray⟩:=by
 induction l with
 |nil=>intro b;simp
 |cons c l ih=>
  intro b
  simp only [List.map_cons,List.foldl_cons]
  rw [ih]
  simp [ByteArray.push]
theorem zgW {P:Program} (w:World) (src dst e:TypeId) (v:Value) (l:List UInt8) (hr:RowR w v (Lib.byteCells l))
  (hs:P.underlying src=some (.slice e)) (he:P.underlying e=some (.int .u8)) (hd:P.underlying dst=some .string):
  (convert src dst v).run P w= .ok (.string ⟨l.toArray⟩) w:=by
 obtain ⟨ao,c,rfl,hc⟩:=hr
 rw [run_convert_bytes_string w src dst e ao _ c hs he hd]
 cases ao with
 |none=>
  have hl:l=[]:=by
   cases l with
   |nil=>rfl
   |cons x l=>
    obtain ⟨ad,h,_⟩:=hc 0 (.int .u8 x.toNat) rfl
    cases h
  subst hl
  rfl
 |some a=>
  have h1:=run_loadCells_list (P:=P) (w:=w) a (Lib.byteCells l) (fun j u hj=>by
   obtain ⟨ad,h,hx⟩:=hc j u hj
   cases h
   exact hx)
  have h2:Lib.byteCells l=(l.map fun c=>(c.toNat:Int)).map (Value.int .u8):=by simp [Lib.byteCells]
  rw [run_bytesToString w a _ c (l.map fun c=>(c.toNat:Int)) (by rw [h1,h2]),z2J]
  rfl
def zfM (l:List Int):List UInt8:=l.map fun x=>x.toNat.toUInt8
theorem ziR {P:Program} (W:World) (src dst e:TypeId) (l:List Int) (hl: ∀x∈l,0≤x∧x<256)
  (hs:P.underlying src=some (.slice e)) (he:P.underlying e=some (.int .u8)) (hd:P.underlying dst=some .string):
  (convert src dst (.slice (some ⟨W.heap.size,0,none⟩) l.length l.length)).run P (W.alloc (.cells (l.map (Value.int .u8)).toArray e))= .ok (.string ⟨(zfM l).toArray⟩) (W.alloc (.cells (l.map (Value.int .u8)).toArray e)):=by
 have e1:Lib.byteCells (zfM l)=l.map (Value.int .u8):=by
  simp only [Lib.byteCells,zfM,List.map_map]
  apply List.map_congr_left
  intro x hx
  obtain ⟨h0,h1⟩:=hl x hx
  simp only [Function.comp]
  congr 1
  have:x.toNat % 256=x.toNat:=Nat.mod_eq_of_lt (by omega)
  simp [Nat.toUInt8,this]
  omega
 refine zgW _ src dst e _ (zfM l) ?_ hs he hd
 rw [e1]
 refine ⟨_,l.length,by rw [List.length_map],fun j u hj=>⟨_,rfl,?_⟩⟩
 rw [show (Addr.add ⟨W.heap.size,0,none⟩ j)=⟨W.heap.size,j,none⟩ from by unfold Addr.add;split<;>simp_all]
 rw [cell_of_row _ W.heap.size j _ e (0,0) (heap_alloc_new W _)]
 simpa using hj
theorem ydS (r:Int) (w:World) (h:isB r=false):
  Calls Tryz.prog 96 #[.int .i32 r] w fun e w'=>e= .returned (.string ⟨(Lib.encodeRune r).toArray⟩)∧Below w.heap.size w w':=by
 have HE:=ygI (show Lib.encodeRune r=zfM [239,191,189] from ygN zfM (Lib.encodeRuneZ_bad (by unfold isB at h;have:=of_decide_eq_false h;omega)))
 have hcv:=fun W:World=>ziR (P:=Tryz.prog) W 73 9 5 [239,191,189] (by decide) Tryz.underlying73 Tryz.underlying5 Tryz.underlying9
 simp only [List.map_cons,List.map_nil,List.length_cons,List.length_nil,Nat.zero_add,Nat.reduceAdd] at hcv
 go_enter Tryz.func96,Tryz.ntmps96
 go_wp2_with (go_at_call 139;refine (zgH _ _).mono ?_;rintro e w' ⟨rfl,rfl⟩)
 go_ret
 exact ⟨by rw [HE.out];rfl,(ygM _ _).alloc (ygJ _) _⟩
theorem ygF (r:Int) (w:World) (h0:0≤r) (h1:r<128):
  Calls Tryz.prog 96 #[.int .i32 r] w fun e w'=>e= .returned (.string ⟨(Lib.encodeRune r).toArray⟩)∧Below w.heap.size w w':=by
 have HE:=ygI (show Lib.encodeRune r=zfM [r] from ygN zfM (Lib.encodeRuneZ_one h0 (by omega)))
 have hcv:=fun W:World=>ziR (P:=Tryz.prog) W 73 9 5 [r] (by intro x hx;simp at hx;omega) Tryz.underlying73 Tryz.underlying5 Tryz.underlying9
 simp only [List.map_cons,List.map_nil,List.length_cons,List.length_nil,Nat.zero_add] at hcv
 have hv:isB r=true:=ygL (by omega)
 go_enter Tryz.func96,Tryz.ntmps96
 go_wp2_with (go_at_call 139;refine (zgH _ _).mono ?_;rintro e w' ⟨rfl,rfl⟩)
 go_ret
 exact ⟨by rw [HE.out];rfl,(ygM _ _).alloc (ygJ _) _⟩
theorem yfR (r:Int) (w:World) (h0:128≤r) (h1:r<2048):
  Calls Tryz.prog 96 #[.int .i32 r] w fun e w'=>e= .returned (.string ⟨(Lib.encodeRune r).toArray⟩)∧Below w.heap.size w w':=by
 have HE:=ygI (show Lib.encodeRune r=zfM [192+r/64,128+r % 64] from ygN zfM (Lib.encodeRuneZ_two h0 (by omega)))
 have hcv:=fun W:World=>ziR (P:=Tryz.prog) W 73 9 5 [192+r/64,128+r % 64] (by intro x hx;simp at hx;omega) Tryz.underlying73 Tryz.underlying5 Tryz.underlying9
 simp only [List.map_cons,List.map_nil,List.length_cons,List.length_nil,Nat.zero_add,Nat.reduceAdd] at hcv
 have hv:isB r=true:=ygL (by omega)
 go_enter Tryz.func96,Tryz.ntmps96
 go_wp2_with (go_at_call 139;refine (zgH _ _).mono ?_;rintro e w' ⟨rfl,rfl⟩)
 go_ret
 exact ⟨by rw [HE.out];rfl,(ygM _ _).alloc (ygJ _) _⟩
theorem z7Y (r:Int) (w:World) (h0:2048≤r) (h1:r<65536) (hs:r<55296∨57343<r):
  Calls Tryz.prog 96 #[.int .i32 r] w fun e w'=>e= .returned (.string ⟨(Lib.encodeRune r).toArray⟩)∧Below w.heap.size w w':=by
 have HE:=ygI (show Lib.encodeRune r=zfM [224+r/4096,128+r/64 % 64,128+r % 64] from ygN zfM (Lib.encodeRuneZ_three (by omega)))
 have hcv:=fun W:World=>ziR (P:=Tryz.prog) W 73 9 5 [224+r/4096,128+r/64 % 64,128+r % 64] (by intro x hx;simp at hx;omega) Tryz.underlying73 Tryz.underlying5 Tryz.underlying9
 simp only [List.map_cons,List.map_nil,List.length_cons,List.length_nil,Nat.zero_add,Nat.reduceAdd] at hcv
 have hv:isB r=true:=ygL (by omega)
 go_enter Tryz.func96,Tryz.ntmps96
 go_wp2_with (go_at_call 139;refine (zgH _ _).mono ?_;rintro e w' ⟨rfl,rfl⟩)
 go_ret
 exact ⟨by rw [HE.out];rfl,(ygM _ _).alloc (ygJ _) _⟩
theorem ybL (r:Int) (w:World) (h0:65536≤r) (h1:r≤1114111):
  Calls Tryz.prog 96 #[.int .i32 r] w fun e w'=>e= .returned (.string ⟨(Lib.encodeRune r).toArray⟩)∧Below w.heap.size w w':=by
 have HE:=ygI (show Lib.encodeRune r=zfM [240+r/262144,128+r/4096 % 64,128+r/64 % 64,128+r % 64] from ygN zfM (Lib.encodeRuneZ_four h0 h1))
 have hcv:=fun W:World=>ziR (P:=Tryz.prog) W 73 9 5 [240+r/262144,128+r/4096 % 64,128+r/64 % 64,128+r % 64] (by intro x hx;simp at hx;omega) Tryz.underlying73 Tryz.underlying5 Tryz.underlying9
 simp only [List.map_cons,List.map_nil,List.length_cons,List.length_nil,Nat.zero_add,Nat.reduceAdd] at hcv
 have hv:isB r=true:=ygL (by omega)
 go_enter Tryz.func96,Tryz.ntmps96
 go_wp2_with (go_at_call 139;refine (zgH _ _).mono ?_;rintro e w' ⟨rfl,rfl⟩)
 go_ret
 exact ⟨by rw [HE.out];rfl,(ygM _ _).alloc (ygJ _) _⟩
theorem ydN (r:Int) (w:World):
  Calls Tryz.prog 96 #[.int .i32 r] w fun e w'=>e= .returned (.string ⟨(Lib.encodeRune r).toArray⟩)∧Below w.heap.size w w':=by
 by_cases h:isB r=true
 ·have h':=of_decide_eq_true h
  by_cases a:r<128
  ·exact ygF r w h'.1 a
  ·by_cases b:r<2048
   ·exact yfR r w (by omega) b
   ·by_cases c:r<65536
    ·exact z7Y r w (by omega) c h'.2.2
    ·exact ybL r w (by omega) h'.2.1
 ·exact ydS r w (by simpa using h)
def zkG (l:List Int):List UInt8:=l.flatMap Lib.encodeRune
theorem zfP (r:Int):(Lib.encodeRune r).length≤4:=by
 simp only [Lib.encodeRune,List.length_map];exact (Lib.encodeRuneZ_length r).2
theorem zpJ (l:List Int) (k:Nat) (h:k<l.length):zkG (l.take (k+1))=zkG (l.take k)++Lib.encodeRune l[k]:=by
 unfold zkG
 rw [List.take_succ_eq_append_getElem h,List.flatMap_append]
 simp
theorem zjV (l:List Int): ∀k,(zkG (l.take k)).length≤4*k
 |0=>by simp [zkG]
 |k+1=>by
  have ih:=zjV l k
  by_cases h:k<l.length
  ·rw [zpJ l k h,List.length_append];have:=zfP l[k];omega
  ·rw [List.take_of_length_le (by omega)];rw [List.take_of_length_le (by omega)] at ih;omega
def Runes (l:List Int):Prop:= ∀x∈l,-2147483648≤x∧x≤2147483647
theorem yaY (v:Value) (l:List Int) (w:World) (h:RowR w v (l.map (Value.int .i32))) (hl:l.length≤268435456) (hw:Runes l):
  Calls Tryz.prog 135 #[v] w fun e w'=>e= .returned (.string ⟨(zkG l).toArray⟩)∧Below w.heap.size w w':=by
 obtain ⟨ao,c,rfl,hc⟩:=h
 simp only [List.length_map]
 have HC:=ygI hc
 have HW:=ygI hw
 clear hc hw
 go_enter Tryz.func135,Tryz.ntmps135
 go_wp2
 go_loopw [3,8] (fun v i wr=> ∃k:Nat,k≤l.length∧i= .int .i64 k∧wr.ownsRow w.heap.size 5 1 v (zkG (l.take k)).length (Lib.byteCells (zkG (l.take k)))∧Below w.heap.size w wr) (fun _ i _=>l.length - (intOf i).toNat)
 case atStart=>exact ⟨0,Nat.zero_le _,rfl,World.ownsRow_nil _ _ _ _,ygM _ _⟩
 case round=>
  obtain ⟨k,hk,rfl,hown,hbw⟩:=hrel
  have hsz:=hbw.size
  by_cases hlt:k<l.length
  ·have htl:=zjV l k
   obtain ⟨x,hx⟩: ∃x,x=l[k]:=⟨_,rfl⟩
   obtain ⟨d1,rfl,hd1⟩:=HC.out k (.int .i32 x) (by simp [hx,hlt])
   have hd2:wr.cell? (d1.add k)=some (.int .i32 x):=(hbw.cell (World.block_lt_of_cell? w _ hd1)).trans hd1
   have hxr:=HW.out x (by rw [hx];exact List.getElem_mem _)
   obtain ⟨hx0,hx1⟩:=hxr
   have hsn:=zpJ l k hlt
   rw [←hx] at hsn
   have HSN:=ygI hsn
   clear hsn hx
   generalize hT:zkG (l.take k)=T at*
   clear hT
   go_wp2_with (go_at_call 173;refine (Tryz.utf8_AppendRune_plain w.heap.size _ _ _ x hx0 hx1 wr hown (by omega) hsz).mono ?_)
   rintro e w1 ⟨v',rfl,hown1,o,hg⟩
   have hbw1:Below w.heap.size w w1:=(hbw.alloc hsz o).grown hg (by simp;omega) (fun b hb=>by have:=hown.lt b hb;omega)
   clear hg hown
   go_wp2
   go_roundw
   case rel=>
    refine ⟨k+1,by omega,by go_num,?_,hbw1⟩
    rw [HSN.out,Lib.byteCells_append,Lib.byteCells_encodeRune,List.length_append]
    have e1:(Lib.runeCells x).length=(Lib.encodeRune x).length:=by rw [←Lib.byteCells_encodeRune,Lib.byteCells_length]
    rw [←e1]
    exact hown1
   case measure=>simp [intOf];omega
  ·have hcv:=zgW (P:=Tryz.prog) wr 73 9 5 _ (zkG (l.take k)) (RowR.of_own (by rw [Lib.byteCells_length];exact hown)) Tryz.underlying73 Tryz.underlying5 Tryz.underlying9
   have hfin:zkG (l.take k)=zkG l:=by rw [List.take_of_length_le (by omega)]
   rw [hfin] at hcv
   have HF:=ygI hfin
   clear hfin
   go_wp2
   go_ret
   exact ⟨rfl,hbw⟩
theorem zuM (x y:List UInt8):(ByteArray.mk x.toArray++ByteArray.mk y.toArray)=ByteArray.mk (x++y).toArray:=ByteArray.mk_append_mk x y
theorem Tryz.infoByte:(Tryz.prog.info? 5).map (fun i=>(i.zero,i.size,i.bytes))=some (some (.int .u8 0),1,1):=by kernel_rfl
def lowC (c:UInt8):UInt8:=if 65≤c.toNat∧c.toNat≤90 then c+32 else c
def zaX (l:List UInt8):List UInt8:=l.map lowC
def z2S (c:UInt8):Bool:= !(c==9||c==10||c==13)
def zcF (l:List UInt8):List UInt8:=l.filter z2S
theorem zxB {c:UInt8} (h1:65≤c.toNat) (h2:c.toNat≤90):(lowC c).toNat=c.toNat+32:=by
 unfold lowC
 rw [if_pos ⟨h1,h2⟩,UInt8.toNat_add]
 simp
 omega
theorem zxO {c:UInt8} (h:c.toNat<65∨90<c.toNat):lowC c=c:=by
 unfold lowC
 rw [if_neg (by omega)]
theorem zdL (s:ByteArray) (k:Nat) (h:k<s.size):s.data.toList[k]? =some s[k]:=by
 rw [List.getElem?_eq_getElem (by simpa using h)]
 rfl
theorem zeA (s:ByteArray) (k:Nat) (h:k<s.size):s.data.toList.take (k+1)=s.data.toList.take k++[s[k]]:=by
 rw [List.take_succ_eq_append_getElem (by simpa using h)]
 rfl
theorem zdF (s:ByteArray) (k:Nat) (h: ¬k<s.size):s.data.toList.take k=s.data.toList:=List.take_of_length_le (by simpa using h)
theorem zaH (s:ByteArray):s.data.toList.length=s.size:=by simp
theorem z2G (s:ByteArray) (k:Nat) (h:k<s.size):zaX (s.data.toList.take (k+1))=zaX (s.data.toList.take k)++[lowC s[k]]:=by
 rw [zeA s k h];simp [zaX]
theorem ziF (l:List UInt8):(zaX l).length=l.length:=by simp [zaX]
theorem zsN (s:ByteArray) (k:Nat) (h:k<s.size) (hk:z2S s[k]=true):zcF (s.data.toList.take (k+1))=zcF (s.data.toList.take k)++[s[k]]:=by
 rw [zeA s k h];simp [zcF,hk]
theorem zwA (s:ByteArray) (k:Nat) (h:k<s.size) (hk:z2S s[k]=false):zcF (s.data.toList.take (k+1))=zcF (s.data.toList.take k):=by
 rw [zeA s k h];simp [zcF,hk]
theorem yaT (l:List UInt8):(zcF l).length≤l.length:=List.length_filter_le _ _
theorem zqR {c:UInt8} (h1:c.toNat≠9) (h2:c.toNat≠10) (h3:c.toNat≠13):z2S c=true:=by
 unfold z2S
 have e1:(c==9)=false:=beq_eq_false_iff_ne.2 fun e=>h1 (by rw [e];rfl)
 have e2:(c==10)=false:=beq_eq_false_iff_ne.2 fun e=>h2 (by rw [e];rfl)
 have e3:(c==13)=false:=beq_eq_false_iff_ne.2 fun e=>h3 (by rw [e];rfl)
 rw [e1,e2,e3];rfl
theorem zoX {c:UInt8} (h:c.toNat=9∨c.toNat=10∨c.toNat=13):z2S c=false:=by
 rcases h with h|h|h
 ·rw [show c=9 from UInt8.toNat_inj.1 h];rfl
 ·rw [show c=10 from UInt8.toNat_inj.1 h];rfl
 ·rw [show c=13 from UInt8.toNat_inj.1 h];rfl
theorem zlN (l:List UInt8) (c:UInt8) (n:Int) (h:(c.toNat:Int)=n):Lib.byteCells (l++[c])=Lib.byteCells l++[.int .u8 n]:=by
 rw [Lib.byteCells_append,←h];rfl
theorem zbN {P:Program} (w:World) {ops:Array Oper} {rest:List Oper} {o:Oper} {a:Act} {Q:Exit→Act→World→Prop} (hgd:o.guard=none) (s x:Operand) (t:TypeId)
  (ho:o.op= .call {callee:= .builtin .append,args:= #[s,x],argTypes:= #[t,t]})
  (base:Nat) (e:TypeId) (i:TypeInfo) (z:Value) (bytes:Nat) (ht:P.underlying t=some (.slice e)) (hi:P.info? e=some i) (hz:i.zero=some z)
  (hsize:i.size=1) (hby:i.bytes=bytes) (hzs:z.cells.size=1)
  (v:Value) (n:Nat) (xs:List Value) (hs:a.eval s=v) (hown:w.ownsRow base e 1 v n xs) (u:Value) (hx:a.eval x= .slice (some ⟨w.heap.size,0,none⟩) 1 1) (hu:u.oneCell'=true)
  (h63:n+1≤9223372036854775807) (hbytes:(n+1)*bytes≤140737488355328) (hbase:base≤w.heap.size)
  (h: ∀v' w',w'.ownsRow base e 1 v' (n+1) (xs++[u])→Below base w w'→wpList P ops Q rest (a.put o.dst v') w'):wpList P ops Q (o::rest) a (w.alloc (.cells #[u] e)):=by
 refine wpList_append_own (w.alloc (.cells #[u] e)) hgd s x t ho base e i z 1 bytes ht hi hz hsize hby hzs (by decide) v n xs hs (hown.alloc _) ⟨w.heap.size,0,none⟩ 1 1 [u] hx rfl (zsB w u e) ?_ h63 hbytes (by simp;omega) ?_
 ·intro y hy;simp at hy;subst hy;exact hu
 ·intro v' w1 hown' hgrow _
  exact h v' w1 hown' (((ygM base w).alloc hbase _).grown hgrow (by simp;omega) (fun k hk=>(hown.lt k hk).1))
def Gath (B:Nat) (w:World) (v:Value) (l:List UInt8):Prop:=w.ownsRow B 5 1 v l.length (Lib.byteCells l)
theorem Gath.conv {B:Nat} {w:World} {v:Value} {l:List UInt8} (h:Gath B w v l):(convert 73 9 v).run Tryz.prog w= .ok (.string ⟨l.toArray⟩) w:=
 zgW w _ _ 5 _ l (RowR.of_own (by rw [Lib.byteCells_length];exact h)) Tryz.underlying73 Tryz.underlying5 Tryz.underlying9
theorem Gath.nil (B:Nat) (w:World):Gath B w (.slice none 0 0) []:=World.ownsRow_nil _ _ _ _
theorem Gath.snoc {B:Nat} {w:World} {v:Value} {l:List UInt8} {c:UInt8} {n:Int} (h:w.ownsRow B 5 1 v (l.length+1) (Lib.byteCells l++[.int .u8 n])) (hn:(c.toNat:Int)=n):Gath B w v (l++[c]):=by
 unfold Gath
 rw [zlN l c n hn,List.length_append]
 exact h
theorem zlW (s:ByteArray) (w:World) (hs:s.size≤1073741824):
  Calls Tryz.prog 53 #[.string s] w fun e w'=>e= .returned (.string ⟨(zaX s.data.toList).toArray⟩)∧Below w.heap.size w w':=by
 obtain ⟨i0,hi,hz0,hz1,hz2⟩:=info_parts Tryz.infoByte
 go_enter Tryz.func53,Tryz.ntmps53
 go_wp2
 go_loopw [3,4] (fun v i wr=> ∃(k:Nat) (T:List UInt8),k≤s.size∧i= .int .i64 k∧Gath w.heap.size wr v T∧T.length≤k∧Hid (T=zaX (s.data.toList.take k))∧Below w.heap.size w wr) (fun _ i _=>s.size - (intOf i).toNat)
 case atStart=>exact ⟨0,[],Nat.zero_le _,rfl,Gath.nil _ _,by simp,rfl,ygM _ _⟩
 case round=>
  obtain ⟨k,T,hk,rfl,hown,hTl,HT,hbw⟩:=hrel
  have hsz:=hbw.size
  unfold Gath at hown
  by_cases hlt:k<s.size
  ·obtain ⟨c,hc⟩: ∃c,(s[k]'hlt).toNat=c:=⟨_,rfl⟩
   have hc256:c<256:=by rw [←hc];exact (s[k]'hlt).toNat_lt
   have hsn:=z2G s k hlt
   rw [←HT.out] at hsn
   obtain ⟨d,hd⟩: ∃d:UInt8,d=lowC s[k]:=⟨_,rfl⟩
   rw [←hd] at hsn
   have HSN:=ygI hsn
   by_cases hu:65≤c∧c≤90
   ·have hdc:d.toNat=c+32:=by rw [hd,zxB (by omega) (by omega),hc]
    have HDC:=ygI hdc
    obtain ⟨hu1,hu2⟩:=hu
    clear hd hdc hsn
    go_wp2_with (first|(at_builtin;refine zbN _ rfl _ _ 73 rfl w.heap.size 5 i0 (.int .u8 0) 1 Tryz.underlying73 hi hz0 hz1 hz2 rfl _ _ _ rfl hown (.int .u8 ((c:Int)+32)) rfl rfl (by omega) (by omega) hsz ?_;intro v' w1 hown' hk'))
    go_roundw
    case rel=>exact ⟨k+1,T++[d],by omega,by go_num,Gath.snoc hown' (by rw [HDC.out];omega),by simp;omega,HSN.out.symm,hbw.trans hk'⟩
    case measure=>simp [intOf];omega
   ·have hdc:d.toNat=c:=by rw [hd,zxO (by omega),hc]
    have HDC:=ygI hdc
    clear hd hdc hsn
    go_wp2_with (first|(at_builtin;refine zbN _ rfl _ _ 73 rfl w.heap.size 5 i0 (.int .u8 0) 1 Tryz.underlying73 hi hz0 hz1 hz2 rfl _ _ _ rfl hown (.int .u8 (c:Int)) rfl rfl (by omega) (by omega) hsz ?_;intro v' w1 hown' hk'))
    all_goals
     go_roundw
     case rel=>exact ⟨k+1,T++[d],by omega,by go_num,Gath.snoc hown' (by rw [HDC.out]),by simp;omega,HSN.out.symm,hbw.trans hk'⟩
     case measure=>simp [intOf];omega
  ·have hcv:=Gath.conv hown
   have hfin:zaX s.data.toList=T:=by rw [HT.out,zdF s k hlt]
   have HF:=ygI hfin
   clear hfin
   go_wp2
   go_ret
   exact ⟨by rw [HF.out];rfl,hbw⟩
theorem zzQ (s:ByteArray) (w:World) (hs:s.size≤1073741824):
  Calls Tryz.prog 18 #[.string s] w fun e w'=>e= .returned (.string ⟨(zcF s.data.toList).toArray⟩)∧Below w.heap.size w w':=by
 obtain ⟨i0,hi,hz0,hz1,hz2⟩:=info_parts Tryz.infoByte
 go_enter Tryz.func18,Tryz.ntmps18
 go_wp2
 go_loopw [3,8] (fun v i wr=> ∃(k:Nat) (T:List UInt8),k≤s.size∧i= .int .i64 k∧Gath w.heap.size wr v T∧T.length≤k∧Hid (T=zcF (s.data.toList.take k))∧Below w.heap.size w wr) (fun _ i _=>s.size - (intOf i).toNat)
 case atStart=>exact ⟨0,[],Nat.zero_le _,rfl,Gath.nil _ _,by simp,rfl,ygM _ _⟩
 case round=>
  obtain ⟨k,T,hk,rfl,hown,hTl,HT,hbw⟩:=hrel
  have hsz:=hbw.size
  unfold Gath at hown
  by_cases hlt:k<s.size
  ·obtain ⟨c,hc⟩: ∃c,(s[k]'hlt).toNat=c:=⟨_,rfl⟩
   have hc256:c<256:=by rw [←hc];exact (s[k]'hlt).toNat_lt
   by_cases hu:c=9∨c=10∨c=13
   ·have hsn:=zwA s k hlt (zoX (by omega))
    rw [←HT.out] at hsn
    have HSN:=ygI hsn
    clear hsn
    rcases hu with rfl|rfl|rfl
    all_goals
     go_wp2
     go_roundw
     case rel=>exact ⟨k+1,T,by omega,by go_num,hown,by omega,HSN.out.symm,hbw⟩
     case measure=>simp [intOf];omega
   ·have hsn:=zsN s k hlt (zqR (by omega) (by omega) (by omega))
    rw [←HT.out] at hsn
    have HSN:=ygI hsn
    have HDC:=ygI hc
    have b1:((c:Int) !=9)=true:=by rw [bne_iff_ne];omega
    have b2:((c:Int) !=10)=true:=by rw [bne_iff_ne];omega
    have b3:((c:Int) !=13)=true:=by rw [bne_iff_ne];omega
    clear hsn hu
    go_wp2_with (first|(at_builtin;refine zbN _ rfl _ _ 73 rfl w.heap.size 5 i0 (.int .u8 0) 1 Tryz.underlying73 hi hz0 hz1 hz2 rfl _ _ _ rfl hown (.int .u8 (c:Int)) rfl rfl (by omega) (by omega) hsz ?_;intro v' w1 hown' hk'))
    go_roundw
    case rel=>exact ⟨k+1,T++[s[k]],by omega,by go_num,Gath.snoc hown' (by rw [HDC.out]),by simp;omega,HSN.out.symm,hbw.trans hk'⟩
    case measure=>simp [intOf];omega
  ·have hcv:=Gath.conv hown
   have hfin:zcF s.data.toList=T:=by rw [HT.out,zdF s k hlt]
   have HF:=ygI hfin
   clear hfin
   go_wp2
   go_ret
   exact ⟨by rw [HF.out];rfl,hbw⟩
theorem zcV (s:ByteArray) (w:World) (hs:s.size≤1073741824):
  Calls Tryz.prog 27 #[.string s] w fun e w'=>e= .returned (.string ⟨(zcF s.data.toList).toArray⟩)∧Below w.heap.size w w':=by
 obtain ⟨i0,hi,hz0,hz1,hz2⟩:=info_parts Tryz.infoByte
 go_enter Tryz.func27,Tryz.ntmps27
 go_wp2
 go_loopw [3,4] (fun v i wr=> ∃(k:Nat) (T:List UInt8),k≤s.size∧i= .int .i64 k∧Gath w.heap.size wr v T∧T.length≤k∧Hid (T=zcF (s.data.toList.take k))∧Below w.heap.size w wr) (fun _ i _=>s.size - (intOf i).toNat)
 case atStart=>exact ⟨0,[],Nat.zero_le _,rfl,Gath.nil _ _,by simp,rfl,ygM _ _⟩
 case round=>
  obtain ⟨k,T,hk,rfl,hown,hTl,HT,hbw⟩:=hrel
  have hsz:=hbw.size
  unfold Gath at hown
  by_cases hlt:k<s.size
  ·obtain ⟨c,hc⟩: ∃c,(s[k]'hlt).toNat=c:=⟨_,rfl⟩
   have hc256:c<256:=by rw [←hc];exact (s[k]'hlt).toNat_lt
   by_cases hu:c=9∨c=10∨c=13
   ·have hsn:=zwA s k hlt (zoX (by omega))
    rw [←HT.out] at hsn
    have HSN:=ygI hsn
    clear hsn
    rcases hu with rfl|rfl|rfl
    all_goals
     go_wp2
     go_roundw
     case rel=>exact ⟨k+1,T,by omega,by go_num,hown,by omega,HSN.out.symm,hbw⟩
     case measure=>simp [intOf];omega
   ·have hsn:=zsN s k hlt (zqR (by omega) (by omega) (by omega))
    rw [←HT.out] at hsn
    have HSN:=ygI hsn
    have HDC:=ygI hc
    have b1:((c:Int) !=9)=true:=by rw [bne_iff_ne];omega
    have b2:((c:Int) !=10)=true:=by rw [bne_iff_ne];omega
    have b3:((c:Int) !=13)=true:=by rw [bne_iff_ne];omega
    clear hsn hu
    go_wp2_with (first|(at_builtin;refine zbN _ rfl _ _ 73 rfl w.heap.size 5 i0 (.int .u8 0) 1 Tryz.underlying73 hi hz0 hz1 hz2 rfl _ _ _ rfl hown (.int .u8 (c:Int)) rfl rfl (by omega) (by omega) hsz ?_;intro v' w1 hown' hk'))
    go_roundw
    case rel=>exact ⟨k+1,T++[s[k]],by omega,by go_num,Gath.snoc hown' (by rw [HDC.out]),by simp;omega,HSN.out.symm,hbw.trans hk'⟩
    case measure=>simp [intOf];omega
  ·have hcv:=Gath.conv hown
   have hfin:zcF s.data.toList=T:=by rw [HT.out,zdF s k hlt]
   have HF:=ygI hfin
   clear hfin
   go_wp2
   go_ret
   exact ⟨by rw [HF.out];rfl,hbw⟩
def zgC (B:Nat) (s:ByteArray) (k cap:Nat) (w:World):Prop:=
 ∃cur:Array Value,w.heap[B]? =some (.cells cur 5 (cap,cap+1))∧cur.size=cap∧s.size≤cap∧
  ∀j (h:j<s.size),cur[j]? =some (.int .u8 ((if j<k then lowC s[j] else s[j]).toNat:Int))
theorem zvR (w:World) (s:ByteArray):zgC w.heap.size s 0 (grownCap w s.size 0 5) (Lib.bytesWorld w 5 s):=by
 have hge:s.size≤grownCap w s.size 0 5:=grownCap_ge _ _ _ _
 have hsz:(Lib.bytesCells w 5 s).size=grownCap w s.size 0 5:=by
  unfold Lib.bytesCells
  have:s.data.size=s.size:=rfl
  simp [this];omega
 refine ⟨Lib.bytesCells w 5 s,?_,hsz,hge,?_⟩
 ·rw [Lib.bytesWorld_at_new,hsz]
 ·intro j h
  have hj:j<s.data.size:=h
  rw [if_neg (by omega)]
  unfold Lib.bytesCells
  rw [Array.getElem?_append_left (by simpa using hj)]
  simp
  exact ⟨s.data[j],Array.getElem?_eq_getElem hj,rfl⟩
theorem zgC.cell {B:Nat} {s:ByteArray} {k cap:Nat} {w:World} (h:zgC B s k cap w) (hk:k<s.size):w.cell? ⟨B,k,none⟩=some (.int .u8 (s[k].toNat:Int)):=by
 obtain ⟨cur,h1,_,_,h4⟩:=h
 rw [cell_of_row w B k cur _ _ h1,h4 k hk,if_neg (by omega)]
theorem zgC.frozen {B:Nat} {s:ByteArray} {k cap:Nat} {w:World} (h:zgC B s k cap w) (hk:k<s.size):w.frozen? ⟨B,k,none⟩=false:=by
 obtain ⟨cur,h1,_,h3,_⟩:=h
 simp [World.frozen?,h1]
 omega
theorem zgC.same {B:Nat} {s:ByteArray} {k cap:Nat} {w:World} (h:zgC B s k cap w) (hk:k<s.size) (he:lowC s[k]=s[k]):zgC B s (k+1) cap w:=by
 obtain ⟨cur,h1,h2,h3,h4⟩:=h
 refine ⟨cur,h1,h2,h3,fun j hj=> ?_⟩
 rw [h4 j hj]
 by_cases e:j=k
 ·subst e;rw [if_neg (by omega),if_pos (by omega),he]
 ·by_cases e2:j<k
  ·rw [if_pos e2,if_pos (by omega)]
  ·rw [if_neg e2,if_neg (by omega)]
theorem zgC.put {B:Nat} {s:ByteArray} {k cap:Nat} {w:World} (h:zgC B s k cap w) (hk:k<s.size) (n:Int) (hn:n=((lowC s[k]).toNat:Int)):zgC B s (k+1) cap (w.setCell ⟨B,k,none⟩ (.int .u8 n)):=by
 obtain ⟨cur,h1,h2,h3,h4⟩:=h
 refine ⟨cur.setIfInBounds k (.int .u8 n),?_,by simpa using h2,h3,fun j hj=> ?_⟩
 ·simp [World.setCell,Array.getElem?_modify,h1]
 ·rw [Array.getElem?_setIfInBounds]
  by_cases e:k=j
  ·subst e;rw [if_pos rfl,if_pos (by omega),if_pos (by omega),hn]
  ·rw [if_neg e,h4 j hj]
   by_cases e2:j<k
   ·rw [if_pos e2,if_pos (by omega)]
   ·rw [if_neg e2,if_neg (by omega)]
theorem zgC.conv {B:Nat} {s:ByteArray} {cap:Nat} {w:World} {k:Nat} (h:zgC B s k cap w) (hk: ¬k<s.size):
  (convert 73 9 (.slice (some ⟨B,0,none⟩) s.size cap)).run Tryz.prog w= .ok (.string ⟨(zaX s.data.toList).toArray⟩) w:=by
 refine zgW w _ _ 5 _ _ ?_ Tryz.underlying73 Tryz.underlying5 Tryz.underlying9
 obtain ⟨cur,h1,h2,h3,h4⟩:=h
 have hl:(Lib.byteCells (zaX s.data.toList)).length=s.size:=by rw [Lib.byteCells_length,ziF,zaH]
 refine ⟨_,cap,by rw [hl],fun j u hj=>⟨_,rfl,?_⟩⟩
 have hlt:j<s.size:=by rw [←hl];exact (List.getElem?_eq_some_iff.1 hj).1
 rw [show (Addr.add ⟨B,0,none⟩ j)=⟨B,j,none⟩ from by unfold Addr.add;split<;>simp_all]
 rw [cell_of_row w B j cur _ _ h1,h4 j hlt,if_pos (by omega),←hj]
 simp only [Lib.byteCells,zaX,List.map_map,List.getElem?_map,zdL s j hlt]
 rfl
theorem zuK (s:ByteArray) (w:World) (hs:s.size≤1073741824):
  Calls Tryz.prog 44 #[.string s] w fun e w'=>e= .returned (.string ⟨(zaX s.data.toList).toArray⟩)∧Below w.heap.size w w':=by
 have hcv0:=Lib.run_convert_string_bytes (P:=Tryz.prog) w 9 73 5 s Tryz.underlying9 Tryz.underlying73 Tryz.underlying5
 have hst:=zvR w s
 have hb0:Below w.heap.size w (Lib.bytesWorld w 5 s):=⟨rfl,rfl,rfl,by rw [Lib.bytesWorld_size];omega,fun k hk=>Lib.bytesWorld_at_old w _ s k hk⟩
 have HST:=ygI hst
 clear hst
 generalize hcap:grownCap w s.size 0 5=cap at*
 generalize Lib.bytesWorld w 5 s=wb at*
 clear hcap
 go_enter Tryz.func44,Tryz.ntmps44
 go_wp2
 clear hcv0
 go_loopw [10] (fun i wr=> ∃k:Nat,k≤s.size∧i= .int .i64 k∧zgC w.heap.size s k cap wr∧Below w.heap.size w wr) (fun i _=>s.size - (intOf i).toNat)
 case atStart=>exact ⟨0,Nat.zero_le _,rfl,HST.out,hb0⟩
 case round=>
  obtain ⟨k,hk,rfl,hr,hbw⟩:=hrel
  by_cases hlt:k<s.size
  ·have hcell:=hr.cell hlt
   have hfr:=hr.frozen hlt
   obtain ⟨c,hc⟩: ∃c,(s[k]'hlt).toNat=c:=⟨_,rfl⟩
   have hc256:c<256:=by rw [←hc];exact (s[k]'hlt).toNat_lt
   rw [hc] at hcell
   by_cases hu:65≤c∧c≤90
   ·have hdc:((lowC s[k]).toNat:Int)=(c:Int)+32:=by rw [zxB (by omega) (by omega),hc];omega
    have hr2:=hr.put hlt ((c:Int)+32) hdc.symm
    have HR2:=ygI hr2
    have hbw2:=hbw.setCell (p:=⟨w.heap.size,k,none⟩) (ygJ _) (.int .u8 ((c:Int)+32))
    have HC:=ygI hc
    obtain ⟨hu1,hu2⟩:=hu
    have ea:(c:Int) - 65+97=(c:Int)+32:=by omega
    clear hdc hr2 hc
    go_wp2
    go_roundw
    case rel=>exact ⟨k+1,by omega,by go_num,by first|exact HR2.out|(rw [ea];exact HR2.out),by first|exact hbw2|(rw [ea];exact hbw2)⟩
    case measure=>simp [intOf];omega
   ·have hr2:=hr.same hlt (zxO (by omega))
    have HR2:=ygI hr2
    clear hr2 hc
    go_wp2
    all_goals
     go_roundw
     case rel=>exact ⟨k+1,by omega,by go_num,HR2.out,hbw⟩
     case measure=>simp [intOf];omega
  ·have hcv:=hr.conv hlt
   go_wp2
   go_ret
   exact ⟨rfl,hbw⟩
def zcA (c:UInt8):Bool:=decide (c.toNat≤32)
theorem zhK {c:UInt8} (h:c.toNat≤32):zcA c=true:=ygL h
theorem zeU {c:UInt8} (h:32<c.toNat):zcA c=false:=ygK (by omega)
def zaV (l:List UInt8):List UInt8:=((l.dropWhile zcA).reverse.dropWhile zcA).reverse
theorem zgP (p:UInt8→Bool): ∀(l:List UInt8) (n:Nat),n≤l.length→(∀k x,l[k]? =some x→k<n→p x=true)→(n=l.length∨ ∃x,l[n]? =some x∧p x=false)→l.dropWhile p=l.drop n
 |[],n,h,_,_=>by simp
 |x::l,0,_,_,h2=>by
  rcases h2 with h2|⟨y,hy,hp⟩
  ·simp at h2
  ·simp at hy;subst hy;simp [hp]
 |x::l,n+1,h,h1,h2=>by
  have hx:p x=true:=h1 0 x rfl (by omega)
  rw [List.dropWhile_cons,if_pos hx,List.drop_succ_cons]
  exact zgP p l n (by simp at h;omega) (fun k y hk hkn=>h1 (k+1) y (by simpa using hk) (by omega)) (h2.imp (fun e=>by simp at e;exact e) (fun ⟨y,hy,hp⟩=>⟨y,by simpa using hy,hp⟩))
theorem z7W (l:List UInt8) (i j:Nat) (hij:i≤j) (hj:j≤l.length) (h1: ∀k x,l[k]? =some x→k<i→zcA x=true) (h2:i=l.length∨ ∃x,l[i]? =some x∧zcA x=false)
  (h3: ∀k x,l[k]? =some x→j≤k→zcA x=true) (h4:i=j∨(i<j∧ ∃x,l[j - 1]? =some x∧zcA x=false)):(l.drop i).take (j - i)=zaV l:=by
 unfold zaV
 rw [zgP zcA l i (by omega) h1 h2,zgP zcA (l.drop i).reverse (l.length - j) (by simp;omega),List.drop_reverse,List.reverse_reverse]
 ·congr 1
  simp
  omega
 ·intro k x hk hkn
  have hlt:k<(l.drop i).reverse.length:=(List.getElem?_eq_some_iff.1 hk).1
  simp at hlt
  rw [List.getElem?_reverse (by simpa using hlt),List.getElem?_drop] at hk
  exact h3 _ x hk (by simp;omega)
 ·rcases h4 with h4|⟨hlt,x,hx,hp⟩
  ·left;simp;omega
  ·right
   refine ⟨x,?_,hp⟩
   rw [List.getElem?_reverse (by simp;omega),List.getElem?_drop]
   rw [←hx]
   congr 1
   simp
   omega
theorem zmG (s:ByteArray) (k:Nat):s.extract k k=ByteArray.empty:=by
 apply ByteArray.ext
 apply Array.ext'
 rw [Lib.extract_data]
 simp
theorem zlZ (s:ByteArray) (k m:Nat) (h1:k≤m) (h2:m≤s.size) (H1: ∀j (h:j<s.size),j<k→zcA s[j]=true) (H2:k=s.size∨ ∃h:k<s.size,zcA s[k]=false)
  (h3: ∀j (h:j<s.size),m≤j→zcA s[j]=true) (h4:k=m∨ ∃h:m - 1<s.size,k<m∧zcA s[m - 1]=false):(s.extract k m)=⟨(zaV s.data.toList).toArray⟩:=by
 have at_: ∀j x,s.data.toList[j]? =some x→ ∃h:j<s.size,x=s[j]:=by
  intro j x hj
  have hlt:j<s.size:=by have:=(List.getElem?_eq_some_iff.1 hj).1;simpa using this
  rw [zdL s j hlt] at hj
  exact ⟨hlt,(Option.some.inj hj).symm⟩
 have e:=z7W s.data.toList k m h1 (by rw [zaH];exact h2)
  (fun j x hj hjk=>by obtain ⟨h,rfl⟩:=at_ j x hj;exact H1 j h hjk)
  (by rw [zaH];exact H2.imp id (fun ⟨h,hp⟩=>⟨_,zdL s k h,hp⟩))
  (fun j x hj hjk=>by obtain ⟨h,rfl⟩:=at_ j x hj;exact h3 j h hjk)
  (h4.imp id (fun ⟨h,hlt,hp⟩=>⟨hlt,_,zdL s (m - 1) h,hp⟩))
 rw [←e]
 apply ByteArray.ext
 apply Array.ext'
 rw [Lib.extract_data]
theorem zzC (s:ByteArray) (w:World) (hs:s.size≤1073741824):
  Calls Tryz.prog 19 #[.string s] w fun e w'=>e= .returned (.string ⟨(zaV s.data.toList).toArray⟩)∧w=w':=by
 go_enter Tryz.func19,Tryz.ntmps19
 go_wp2
 go_loop [3] (fun i=> ∃k:Nat,k≤s.size∧i= .int .i64 k∧Hid (∀j (h:j<s.size),j<k→zcA s[j]=true)) (fun i=>s.size - (intOf i).toNat)
 case atStart=>exact ⟨0,Nat.zero_le _,rfl,fun j _ h=>by omega⟩
 case round=>
  obtain ⟨k,hk,rfl,H1⟩:=hrel
  by_cases hgo: ∃h:k<s.size,(s[k]'h).toNat≤32
  ·obtain ⟨hlt,hb⟩:=hgo
   obtain ⟨c,hc⟩: ∃c,(s[k]'hlt).toNat=c:=⟨_,rfl⟩
   rw [hc] at hb
   have HC:=ygI hc
   go_wp2
   go_round
   case rel=>
    refine ⟨k+1,by omega,by go_num,fun j hj hjk=> ?_⟩
    by_cases e:j=k
    ·subst e;exact zhK (by rw [HC.out];exact hb)
    ·exact H1.out j hj (by omega)
   case measure=>simp [intOf];omega
  ·have H2:Hid (k=s.size∨ ∃h:k<s.size,zcA s[k]=false):=by
    by_cases hlt:k<s.size
    ·refine .inr ⟨hlt,?_⟩
     by_cases hb:(s[k]'hlt).toNat≤32
     ·exact absurd ⟨hlt,hb⟩ hgo
     ·exact zeU (by omega)
    ·exact .inl (by omega)
   have fin: ∀m:Nat,k≤m→m≤s.size→(∀j (h:j<s.size),m≤j→zcA s[j]=true)→(k=m∨ ∃h:m - 1<s.size,k<m∧zcA s[m - 1]=false)→(s.extract k m)=⟨(zaV s.data.toList).toArray⟩:=
    fun m h1 h2 h3 h4=>zlZ s k m h1 h2 H1.out H2.out h3 h4
   have FIN:=ygI fin
   clear fin
   by_cases hlt:k<s.size
   ·obtain ⟨c,hc⟩: ∃c,(s[k]'hlt).toNat=c:=⟨_,rfl⟩
    have hbc:32<c:=by
     by_cases hb:(s[k]'hlt).toNat≤32
     ·exact absurd ⟨hlt,hb⟩ hgo
     ·omega
    clear hgo
    go_wp2
    go_loop [4] (fun i=> ∃m:Nat,k≤m∧m≤s.size∧i= .int .i64 m∧Hid (∀j (h:j<s.size),m≤j→zcA s[j]=true)) (fun i=>(intOf i).toNat)
    case atStart=>exact ⟨s.size,by omega,ygJ _,rfl,fun j h1 h2=>by omega⟩
    case round=>
     obtain ⟨m,hkm,hms,rfl,H3⟩:=hrel
     by_cases hkm2:k<m
     ·have hm1:m - 1<s.size:=by omega
      obtain ⟨d,hd⟩: ∃d,(s[m - 1]'hm1).toNat=d:=⟨_,rfl⟩
      have HD:=ygI hd
      have ei:((m:Int) - 1).toNat=m - 1:=by omega
      have ej:(m:Int) - 1=((m - 1:Nat):Int):=by omega
      by_cases hb:d≤32
      ·go_wp2
       go_round
       case rel=>
        refine ⟨m - 1,by omega,by omega,by go_num,fun j hj hjm=> ?_⟩
        by_cases e:j=m - 1
        ·subst e;exact zhK (by rw [HD.out];exact hb)
        ·exact H3.out j hj (by omega)
       case measure=>simp [intOf];omega
      ·have HF:=ygI (FIN.out m hkm hms H3.out (.inr ⟨hm1,hkm2,zeU (by rw [HD.out];omega)⟩))
       go_wp2
       go_ret
       exact ⟨by rw [←HF.out];rfl,rfl⟩
     ·have hbad:False:=by
       have hlt2:=hlt
       have:=H3.out k hlt (by omega)
       rw [zeU (by omega)] at this
       cases this
      exact hbad.elim
   ·obtain rfl:k=s.size:=by omega
    have HF:=ygI (FIN.out s.size (ygJ _) (ygJ _) (fun j h1 h2=>by omega) (.inl rfl))
    clear hgo
    go_wp2
    refine wp_loop_rounds 1 ?_
    rw [rounds_succ]
    go_wp2
    go_ret
    exact ⟨ygN (fun b=>Ending.returned (Value.string b)) ((zmG s s.size).symm.trans HF.out),rfl⟩
theorem zcT (s:ByteArray) (w:World) (hs:s.size≤1073741824):
  Calls Tryz.prog 28 #[.string s] w fun e w'=>e= .returned (.string ⟨(zaV s.data.toList).toArray⟩)∧w=w':=by
 go_enter Tryz.func28,Tryz.ntmps28
 go_wp2
 go_loop [3] (fun i=> ∃k:Nat,k≤s.size∧i= .int .i64 k∧Hid (∀j (h:j<s.size),j<k→zcA s[j]=true)) (fun i=>s.size - (intOf i).toNat)
 case atStart=>exact ⟨0,Nat.zero_le _,rfl,fun j _ h=>by omega⟩
 case round=>
  obtain ⟨k,hk,rfl,H1⟩:=hrel
  by_cases hgo: ∃h:k<s.size,(s[k]'h).toNat≤32
  ·obtain ⟨hlt,hb⟩:=hgo
   obtain ⟨c,hc⟩: ∃c,(s[k]'hlt).toNat=c:=⟨_,rfl⟩
   rw [hc] at hb
   have HC:=ygI hc
   go_wp2
   go_round
   case rel=>
    refine ⟨k+1,by omega,by go_num,fun j hj hjk=> ?_⟩
    by_cases e:j=k
    ·subst e;exact zhK (by rw [HC.out];exact hb)
    ·exact H1.out j hj (by omega)
   case measure=>simp [intOf];omega
  ·have H2:Hid (k=s.size∨ ∃h:k<s.size,zcA s[k]=false):=by
    by_cases hlt:k<s.size
    ·refine .inr ⟨hlt,?_⟩
     by_cases hb:(s[k]'hlt).toNat≤32
     ·exact absurd ⟨hlt,hb⟩ hgo
     ·exact zeU (by omega)
    ·exact .inl (by omega)
   have fin: ∀m:Nat,k≤m→m≤s.size→(∀j (h:j<s.size),m≤j→zcA s[j]=true)→(k=m∨ ∃h:m - 1<s.size,k<m∧zcA s[m - 1]=false)→(s.extract k m)=⟨(zaV s.data.toList).toArray⟩:=
    fun m h1 h2 h3 h4=>zlZ s k m h1 h2 H1.out H2.out h3 h4
   have FIN:=ygI fin
   clear fin
   by_cases hlt:k<s.size
   ·obtain ⟨c,hc⟩: ∃c,(s[k]'hlt).toNat=c:=⟨_,rfl⟩
    have hbc:32<c:=by
     by_cases hb:(s[k]'hlt).toNat≤32
     ·exact absurd ⟨hlt,hb⟩ hgo
     ·omega
    clear hgo
    go_wp2
    go_loop [4] (fun i=> ∃m:Nat,k≤m∧m≤s.size∧i= .int .i64 m∧Hid (∀j (h:j<s.size),m≤j→zcA s[j]=true)) (fun i=>(intOf i).toNat)
    case atStart=>exact ⟨s.size,by omega,ygJ _,rfl,fun j h1 h2=>by omega⟩
    case round=>
     obtain ⟨m,hkm,hms,rfl,H3⟩:=hrel
     by_cases hkm2:k<m
     ·have hm1:m - 1<s.size:=by omega
      obtain ⟨d,hd⟩: ∃d,(s[m - 1]'hm1).toNat=d:=⟨_,rfl⟩
      have HD:=ygI hd
      have ei:((m:Int) - 1).toNat=m - 1:=by omega
      have ej:(m:Int) - 1=((m - 1:Nat):Int):=by omega
      by_cases hb:d≤32
      ·go_wp2
       go_round
       case rel=>
        refine ⟨m - 1,by omega,by omega,by go_num,fun j hj hjm=> ?_⟩
        by_cases e:j=m - 1
        ·subst e;exact zhK (by rw [HD.out];exact hb)
        ·exact H3.out j hj (by omega)
       case measure=>simp [intOf];omega
      ·have HF:=ygI (FIN.out m hkm hms H3.out (.inr ⟨hm1,hkm2,zeU (by rw [HD.out];omega)⟩))
       go_wp2
       go_ret
       exact ⟨by rw [←HF.out];rfl,rfl⟩
     ·have hbad:False:=by
       have hlt2:=hlt
       have:=H3.out k hlt (by omega)
       rw [zeU (by omega)] at this
       cases this
      exact hbad.elim
   ·obtain rfl:k=s.size:=by omega
    have HF:=ygI (FIN.out s.size (ygJ _) (ygJ _) (fun j h1 h2=>by omega) (.inl rfl))
    clear hgo
    go_wp2
    refine wp_loop_rounds 1 ?_
    rw [rounds_succ]
    go_wp2
    go_ret
    exact ⟨ygN (fun b=>Ending.returned (Value.string b)) ((zmG s s.size).symm.trans HF.out),rfl⟩
theorem Tryz.infoStr:(Tryz.prog.info? 9).map (fun i=>(i.zero,i.size,i.bytes))=some (some (.string ⟨#[]⟩),1,16):=by kernel_rfl
def hasB (l:List UInt8) (c:UInt8):Bool:=l.any (· ==c)
theorem zeV (l:List UInt8) (c:UInt8):(hasB l c=true→0≤Lib.indexByte l c)∧(hasB l c=false→Lib.indexByte l c= -1):=by
 induction l with
 |nil=>simp [hasB,Lib.indexByte]
 |cons b l ih=>
  have hge:=Lib.indexByte_ge l c
  by_cases e:b==c
  ·simp [hasB,Lib.indexByte,e]
  ·have e':(b==c)=false:=by simpa using e
   have h1:hasB (b::l) c=hasB l c:=by simp [hasB,e']
   simp only [Lib.indexByte,e',h1,Bool.false_eq_true,if_false]
   refine ⟨fun h=> ?_,fun h=> ?_⟩
   ·have h2:=ih.1 h
    rw [if_neg (by simp;omega)]
    omega
   ·have h2:=ih.2 h
    rw [if_pos (by simp [h2])]
theorem znD (c:UInt8):((c.toNat:Int).toNat).toUInt8=c:=by
 simp
theorem ib_yes (s:ByteArray) (c:UInt8) (w:World) (h:hasB s.data.toList c=true):
  Calls Tryz.prog 82 #[.string s,.int .u8 (c.toNat:Int)] w fun e w'=> ∃x:Int,e= .returned (.int .i64 x)∧0≤x∧w=w':=by
 refine (Tryz.strings_IndexByte s _ w).mono ?_
 rintro e w' ⟨rfl,rfl⟩
 rw [znD]
 exact ⟨_,rfl,(zeV _ _).1 h,rfl⟩
theorem ib_no (s:ByteArray) (c:UInt8) (w:World) (h:hasB s.data.toList c=false):
  Calls Tryz.prog 82 #[.string s,.int .u8 (c.toNat:Int)] w fun e w'=>e= .returned (.int .i64 (-1))∧w=w':=by
 refine (Tryz.strings_IndexByte s _ w).mono ?_
 rintro e w' ⟨rfl,rfl⟩
 rw [znD,(zeV _ _).2 h]
 exact ⟨rfl,rfl⟩
theorem yaE (s:ByteArray) (c:UInt8) (k:Nat) (h:k<s.size) (e:s[k].toNat=c.toNat):hasB s.data.toList c=true:=by
 unfold hasB
 rw [List.any_eq_true]
 refine ⟨s[k],?_,by simpa using UInt8.toNat_inj.1 e⟩
 show s.data[k]∈_
 simp
theorem z4Y (s:ByteArray) (c:UInt8) (h: ∀k (h:k<s.size),s[k].toNat≠c.toNat):hasB s.data.toList c=false:=by
 unfold hasB
 rw [List.any_eq_false]
 intro x hx
 obtain ⟨k,hk,rfl⟩:=List.getElem_of_mem hx
 have:=h k (by simpa using hk)
 intro e
 have e':s.data[k]=c:=by simpa using e
 exact this (ygN UInt8.toNat e')
theorem znO (s:ByteArray) (c:UInt8) (w:World) (hs:s.size≤1073741824):
  Calls Tryz.prog 94 #[.string s,.int .u8 (c.toNat:Int)] w fun e w'=>e= .returned (.bool (hasB s.data.toList c))∧w=w':=by
 obtain ⟨n,hn⟩: ∃n,c.toNat=n:=⟨_,rfl⟩
 have HN:=ygI hn
 rw [hn]
 clear hn
 go_enter Tryz.func94,Tryz.ntmps94
 go_wp2
 go_loop [5] (fun i=> ∃k:Nat,k≤s.size∧i= .int .i64 k∧Hid (∀j (h:j<s.size),j<k→s[j].toNat≠c.toNat)) (fun i=>s.size - (intOf i).toNat)
 case atStart=>exact ⟨0,Nat.zero_le _,rfl,fun j _ h=>by omega⟩
 case round=>
  obtain ⟨k,hk,rfl,H⟩:=hrel
  by_cases hlt:k<s.size
  ·obtain ⟨m,hm⟩: ∃m,(s[k]'hlt).toNat=m:=⟨_,rfl⟩
   by_cases e:m=n
   ·subst e
    have HF:=ygI (yaE s c k hlt (by rw [hm,HN.out]))
    go_wp2
    go_ret
    exact ⟨zaD HF.out.symm,rfl⟩
   ·have b1:((m:Int)==(n:Int))=false:=beq_eq_false_iff_ne.2 (by omega)
    have HM:=ygI hm
    go_wp2
    go_round
    case rel=>
     refine ⟨k+1,by omega,by go_num,fun j hj hjk=> ?_⟩
     by_cases e2:j=k
     ·subst e2;rw [HM.out,HN.out];exact e
     ·exact H.out j hj (by omega)
    case measure=>simp [intOf];omega
  ·have HF:=ygI (z4Y s c (fun j hj=>H.out j hj (by omega)))
   go_wp2
   go_ret
   exact ⟨zaD HF.out.symm,rfl⟩
theorem zkD {P:Program} (w:World) (t:TypeId) (s:ByteArray) (i j:Int) (a b:Nat) (hi:i=a) (hj:j=b) (hab:a≤b) (hb:b≤s.size) (h:P.underlying t=some .string):
  (Instr.slice t (.string s) (some (.int .i64 i)) (some (.int .i64 j)) none).run P w= .ok (.string (s.extract a b)) w:=by
 subst hi hj
 rw [run_slice_string_if w t s .i64 .i64 _ _ h,if_pos (by omega),if_pos (by omega)]
 simp
def zbY (p:UInt8→Bool) (st:List (List UInt8)×List UInt8) (c:UInt8):List (List UInt8)×List UInt8:=
 if p c then (st.1++[st.2],[]) else (st.1,st.2++[c])
def spl (p:UInt8→Bool) (l:List UInt8):List (List UInt8)×List UInt8:=l.foldl (zbY p) ([],[])
def zcL (p:UInt8→Bool) (l:List UInt8):List (List UInt8):=(spl p l).1++[(spl p l).2]
def strC (l:List UInt8):Value:= .string ⟨l.toArray⟩
def zdZ (l:List (List UInt8)):List Value:=l.map strC
theorem z3N (p:UInt8→Bool) (s:ByteArray) (k:Nat) (h:k<s.size) (hp:p s[k]=true):spl p (s.data.toList.take (k+1))=((spl p (s.data.toList.take k)).1++[(spl p (s.data.toList.take k)).2],[]):=by
 rw [zeA s k h]
 simp [spl,zbY,hp]
theorem ydB (p:UInt8→Bool) (s:ByteArray) (k:Nat) (h:k<s.size) (hp:p s[k]=false):spl p (s.data.toList.take (k+1))=((spl p (s.data.toList.take k)).1,(spl p (s.data.toList.take k)).2++[s[k]]):=by
 rw [zeA s k h]
 simp [spl,zbY,hp]
theorem zfS (s:ByteArray) (a b:Nat) (l:List UInt8) (h:(s.data.toList.drop a).take (b - a)=l):s.extract a b=⟨l.toArray⟩:=by
 apply ByteArray.ext
 apply Array.ext'
 rw [Lib.extract_data,h]
theorem zzV (s:ByteArray) (a k:Nat) (ha:a≤k) (h:k<s.size):(s.data.toList.drop a).take (k+1 - a)=(s.data.toList.drop a).take (k - a)++[s[k]]:=by
 rw [show k+1 - a=(k - a)+1 from by omega,List.take_succ_eq_append_getElem (by simp;omega)]
 congr 2
 rw [List.getElem_drop]
 have:a+(k - a)=k:=by omega
 simp only [this]
 rfl
def zaM (B:Nat) (w:World) (v:Value) (ps:List (List UInt8)):Prop:=w.ownsRow B 9 1 v ps.length (zdZ ps)
theorem zaM.nil (B:Nat) (w:World):zaM B w (.slice none 0 0) []:=World.ownsRow_nil _ _ _ _
theorem zaM.snoc {B:Nat} {w:World} {v:Value} {ps:List (List UInt8)} {x:ByteArray} {l:List UInt8} (h:w.ownsRow B 9 1 v (ps.length+1) (zdZ ps++[.string x])) (hx:x=⟨l.toArray⟩):zaM B w v (ps++[l]):=by
 unfold zaM zdZ
 rw [List.map_append,List.length_append]
 subst hx
 exact h
def zyM (B:Nat) (ps:List (List UInt8)) (w:World) (e:Ending) (w':World):Prop:= ∃v,e= .returned v∧zaM B w' v ps∧Below B w w'
theorem zfA (s at_:ByteArray) (w:World) (hs:s.size≤1073741824):
  Calls Tryz.prog 92 #[.string s,.string at_] w (zyM w.heap.size (zcL (hasB at_.data.toList) s.data.toList) w):=by
 obtain ⟨i0,hi,hz0,hz1,hz2⟩:=info_parts Tryz.infoStr
 go_enter Tryz.func92,Tryz.ntmps92
 go_wp2
 go_loopw [5,6,10] (fun v fr i wr=> ∃(k a:Nat) (ps:List (List UInt8)),k≤s.size∧a≤k∧i= .int .i64 k∧fr= .int .i64 a∧zaM w.heap.size wr v ps∧ps.length≤k∧Hid (spl (hasB at_.data.toList) (s.data.toList.take k)=(ps,(s.data.toList.drop a).take (k - a)))∧Below w.heap.size w wr) (fun _ _ i _=>s.size - (intOf i).toNat)
 case atStart=>exact ⟨0,0,[],Nat.zero_le _,Nat.zero_le _,rfl,rfl,zaM.nil _ _,by simp,rfl,ygM _ _⟩
 case round=>
  obtain ⟨k,a,ps,hk,ha,rfl,rfl,hown,hpl,HS,hbw⟩:=hrel
  have hsz:=hbw.size
  unfold zaM at hown
  by_cases hlt:k<s.size
  ·by_cases hp:hasB at_.data.toList s[k]=true
   ·have hsn:=z3N (hasB at_.data.toList) s k hlt hp
    rw [HS.out] at hsn
    have HSN:=ygI hsn
    have HP:=ygI hp
    clear hsn hp
    go_wp2_with (first|(go_at_call 82;refine (ib_yes _ _ _ HP.out).mono ?_;rintro e w' ⟨x,rfl,hx,rfl⟩)|(at_builtin;refine zbN _ rfl _ _ 22 rfl w.heap.size 9 i0 (.string ⟨#[]⟩) 16 Tryz.underlying22 hi hz0 hz1 hz2 rfl _ _ _ rfl hown (.string (s.extract a k)) rfl rfl (by omega) (by omega) hsz ?_;intro v' w1 hown' hk'))
    go_roundw
    case rel=>
     refine ⟨k+1,k+1,ps++[(s.data.toList.drop a).take (k - a)],by omega,by omega,by go_num,by go_num,zaM.snoc hown' (zfS s a k _ rfl),by simp;omega,?_,hbw.trans hk'⟩
     show _=_
     rw [HSN.out,Nat.sub_self,List.take_zero]
    case measure=>simp [intOf];omega
   ·have hp':hasB at_.data.toList s[k]=false:=by simpa using hp
    have hsn:=ydB (hasB at_.data.toList) s k hlt hp'
    rw [HS.out] at hsn
    have HSN:=ygI hsn
    have HP:=ygI hp'
    clear hsn hp hp'
    go_wp2_with (go_at_call 82;refine (ib_no _ _ _ HP.out).mono ?_;rintro e w' ⟨rfl,rfl⟩)
    go_roundw
    case rel=>
     refine ⟨k+1,a,ps,by omega,by omega,by go_num,rfl,hown,by omega,?_,hbw⟩
     show _=_
     rw [HSN.out,zzV s a k ha hlt]
    case measure=>simp [intOf];omega
  ·obtain rfl:k=s.size:=by omega
   have hfin:zcL (hasB at_.data.toList) s.data.toList=ps++[(s.data.toList.drop a).take (s.size - a)]:=by
    have:=HS.out
    rw [zdF s s.size hlt] at this
    unfold zcL
    rw [this]
   have HF:=ygI hfin
   clear hfin
   go_wp2_with (at_builtin;refine zbN _ rfl _ _ 22 rfl w.heap.size 9 i0 (.string ⟨#[]⟩) 16 Tryz.underlying22 hi hz0 hz1 hz2 rfl _ _ _ rfl hown (.string (s.extract a s.size)) rfl rfl (by omega) (by omega) hsz ?_;intro v' w1 hown' hk')
   go_ret
   exact ⟨v',rfl,by rw [HF.out];exact zaM.snoc hown' (zfS s a s.size _ rfl),hbw.trans hk'⟩
theorem zqN (T:List UInt8) (s:ByteArray) (k:Nat) (h:k<s.size):(ByteArray.mk T.toArray++s.extract k (k+1))=ByteArray.mk (T++[s[k]]).toArray:=by
 have e:s.extract k (k+1)=⟨[s[k]].toArray⟩:=by
  refine zfS s k (k+1) [s[k]] ?_
  have:=zzV s k k (ygJ _) h
  rw [this];simp
 rw [e,zuM]
theorem zdD (s at_:ByteArray) (w:World) (hs:s.size≤1073741824) (ha:at_.size≤1073741824):
  Calls Tryz.prog 149 #[.string s,.string at_] w (zyM w.heap.size (zcL (hasB at_.data.toList) s.data.toList) w):=by
 obtain ⟨i0,hi,hz0,hz1,hz2⟩:=info_parts Tryz.infoStr
 go_enter Tryz.func149,Tryz.ntmps149
 go_wp2
 go_loopw [5,6,7] (fun v pa i wr=> ∃(k:Nat) (ps:List (List UInt8)) (T:List UInt8),k≤s.size∧i= .int .i64 k∧pa= .string ⟨T.toArray⟩∧T.length≤k∧zaM w.heap.size wr v ps∧ps.length≤k∧Hid (spl (hasB at_.data.toList) (s.data.toList.take k)=(ps,T))∧Below w.heap.size w wr) (fun _ _ i _=>s.size - (intOf i).toNat)
 case atStart=>exact ⟨0,[],[],Nat.zero_le _,rfl,rfl,by simp,zaM.nil _ _,by simp,rfl,ygM _ _⟩
 case round=>
  obtain ⟨k,ps,T,hk,rfl,rfl,hTl,hown,hpl,HS,hbw⟩:=hrel
  have hsz:=hbw.size
  unfold zaM at hown
  by_cases hlt:k<s.size
  ·by_cases hp:hasB at_.data.toList s[k]=true
   ·have hsn:=z3N (hasB at_.data.toList) s k hlt hp
    rw [HS.out] at hsn
    have HSN:=ygI hsn
    clear hsn
    go_wp2_with (first|(go_at_call 94;refine (znO _ _ _ ha).mono ?_;rintro e w' ⟨rfl,rfl⟩)|(at_builtin;refine zbN _ rfl _ _ 22 rfl w.heap.size 9 i0 (.string ⟨#[]⟩) 16 Tryz.underlying22 hi hz0 hz1 hz2 rfl _ _ _ rfl hown (.string ⟨T.toArray⟩) rfl rfl (by omega) (by omega) hsz ?_;intro v' w1 hown' hk'))
    go_roundw
    case rel=>
     exact ⟨k+1,ps++[T],[],by omega,by go_num,rfl,by simp,zaM.snoc hown' rfl,by simp;omega,HSN.out,hbw.trans hk'⟩
    case measure=>simp [intOf];omega
   ·have hp':hasB at_.data.toList s[k]=false:=by simpa using hp
    have hsn:=ydB (hasB at_.data.toList) s k hlt hp'
    rw [HS.out] at hsn
    have HSN:=ygI hsn
    clear hsn hp
    have hsl:=fun W:World=>zkD (P:=Tryz.prog) W 9 s (k:Int) ((k:Int)+1) k (k+1) rfl (by omega) (by omega) (by omega) Tryz.underlying9
    go_wp2_with (go_at_call 94;refine (znO _ _ _ ha).mono ?_;rintro e w' ⟨rfl,rfl⟩)
    go_roundw
    case rel=>
     refine ⟨k+1,ps,T++[s[k]],by omega,by go_num,?_,by simp;omega,hown,by omega,HSN.out,hbw⟩
     rw [←zqN T s k hlt]
    case measure=>simp [intOf];omega
  ·have hfin:zcL (hasB at_.data.toList) s.data.toList=ps++[T]:=by
    have:=HS.out
    rw [zdF s k hlt] at this
    unfold zcL
    rw [this]
   have HF:=ygI hfin
   clear hfin
   go_wp2_with (at_builtin;refine zbN _ rfl _ _ 22 rfl w.heap.size 9 i0 (.string ⟨#[]⟩) 16 Tryz.underlying22 hi hz0 hz1 hz2 rfl _ _ _ rfl hown (.string ⟨T.toArray⟩) rfl rfl (by omega) (by omega) hsz ?_;intro v' w1 hown' hk')
   go_ret
   exact ⟨v',rfl,by rw [HF.out];exact zaM.snoc hown' rfl,hbw.trans hk'⟩
theorem zcJ {k:IntKind} {a b:Int} (h:a=b):Ending.returned (.int k a)= .returned (.int k b):=by rw [h]
def zbD (r:Int):Bool:=decide (48≤r∧r≤57)
def zcG (r:Int):Bool:=decide ((97≤r∧r≤122)∨(65≤r∧r≤90))
def valZ (r:Int):Int:=if 48≤r∧r≤57 then r - 48 else if 65≤r∧r≤70 then r - 55 else if 97≤r∧r≤102 then r - 87 else -1
theorem zdX (r:Int) (w:World):
  Calls Tryz.prog 42 #[.int .i32 r] w fun e w'=>e= .returned (.bool (zbD r))∧w=w':=by
 rcases (show r<48∨(48≤r∧r≤57)∨(57<r∧r<65)∨(65≤r∧r≤70)∨(70<r∧r≤90)∨(90<r∧r<97)∨(97≤r∧r≤102)∨(102<r∧r≤122)∨122<r from by omega) with hA|⟨hA,hB⟩|⟨hA,hB⟩|⟨hA,hB⟩|⟨hA,hB⟩|⟨hA,hB⟩|⟨hA,hB⟩|⟨hA,hB⟩|hA
 ·have HB:=ygI (show zbD r=false from ygK (by omega))
  go_enter Tryz.func42,Tryz.ntmps42
  go_wp2
  go_ret
  exact ⟨zaD (by first|exact HB.out.symm|(rw [HB.out];simp;omega)),rfl⟩
 ·have HB:=ygI (show zbD r=true from ygL (by omega))
  go_enter Tryz.func42,Tryz.ntmps42
  go_wp2
  go_ret
  exact ⟨zaD (by first|exact HB.out.symm|(rw [HB.out];simp;omega)),rfl⟩
 ·have HB:=ygI (show zbD r=false from ygK (by omega))
  go_enter Tryz.func42,Tryz.ntmps42
  go_wp2
  go_ret
  exact ⟨zaD (by first|exact HB.out.symm|(rw [HB.out];simp;omega)),rfl⟩
 ·have HB:=ygI (show zbD r=false from ygK (by omega))
  go_enter Tryz.func42,Tryz.ntmps42
  go_wp2
  go_ret
  exact ⟨zaD (by first|exact HB.out.symm|(rw [HB.out];simp;omega)),rfl⟩
 ·have HB:=ygI (show zbD r=false from ygK (by omega))
  go_enter Tryz.func42,Tryz.ntmps42
  go_wp2
  go_ret
  exact ⟨zaD (by first|exact HB.out.symm|(rw [HB.out];simp;omega)),rfl⟩
 ·have HB:=ygI (show zbD r=false from ygK (by omega))
  go_enter Tryz.func42,Tryz.ntmps42
  go_wp2
  go_ret
  exact ⟨zaD (by first|exact HB.out.symm|(rw [HB.out];simp;omega)),rfl⟩
 ·have HB:=ygI (show zbD r=false from ygK (by omega))
  go_enter Tryz.func42,Tryz.ntmps42
  go_wp2
  go_ret
  exact ⟨zaD (by first|exact HB.out.symm|(rw [HB.out];simp;omega)),rfl⟩
 ·have HB:=ygI (show zbD r=false from ygK (by omega))
  go_enter Tryz.func42,Tryz.ntmps42
  go_wp2
  go_ret
  exact ⟨zaD (by first|exact HB.out.symm|(rw [HB.out];simp;omega)),rfl⟩
 ·have HB:=ygI (show zbD r=false from ygK (by omega))
  go_enter Tryz.func42,Tryz.ntmps42
  go_wp2
  go_ret
  exact ⟨zaD (by first|exact HB.out.symm|(rw [HB.out];simp;omega)),rfl⟩
theorem zmF (r:Int) (w:World):
  Calls Tryz.prog 54 #[.int .u8 r] w fun e w'=>e= .returned (.bool (zbD r))∧w=w':=by
 rcases (show r<48∨(48≤r∧r≤57)∨(57<r∧r<65)∨(65≤r∧r≤70)∨(70<r∧r≤90)∨(90<r∧r<97)∨(97≤r∧r≤102)∨(102<r∧r≤122)∨122<r from by omega) with hA|⟨hA,hB⟩|⟨hA,hB⟩|⟨hA,hB⟩|⟨hA,hB⟩|⟨hA,hB⟩|⟨hA,hB⟩|⟨hA,hB⟩|hA
 ·have HB:=ygI (show zbD r=false from ygK (by omega))
  go_enter Tryz.func54,Tryz.ntmps54
  go_wp2
  go_ret
  exact ⟨zaD (by first|exact HB.out.symm|(rw [HB.out];simp;omega)),rfl⟩
 ·have HB:=ygI (show zbD r=true from ygL (by omega))
  go_enter Tryz.func54,Tryz.ntmps54
  go_wp2
  go_ret
  exact ⟨zaD (by first|exact HB.out.symm|(rw [HB.out];simp;omega)),rfl⟩
 ·have HB:=ygI (show zbD r=false from ygK (by omega))
  go_enter Tryz.func54,Tryz.ntmps54
  go_wp2
  go_ret
  exact ⟨zaD (by first|exact HB.out.symm|(rw [HB.out];simp;omega)),rfl⟩
 ·have HB:=ygI (show zbD r=false from ygK (by omega))
  go_enter Tryz.func54,Tryz.ntmps54
  go_wp2
  go_ret
  exact ⟨zaD (by first|exact HB.out.symm|(rw [HB.out];simp;omega)),rfl⟩
 ·have HB:=ygI (show zbD r=false from ygK (by omega))
  go_enter Tryz.func54,Tryz.ntmps54
  go_wp2
  go_ret
  exact ⟨zaD (by first|exact HB.out.symm|(rw [HB.out];simp;omega)),rfl⟩
 ·have HB:=ygI (show zbD r=false from ygK (by omega))
  go_enter Tryz.func54,Tryz.ntmps54
  go_wp2
  go_ret
  exact ⟨zaD (by first|exact HB.out.symm|(rw [HB.out];simp;omega)),rfl⟩
 ·have HB:=ygI (show zbD r=false from ygK (by omega))
  go_enter Tryz.func54,Tryz.ntmps54
  go_wp2
  go_ret
  exact ⟨zaD (by first|exact HB.out.symm|(rw [HB.out];simp;omega)),rfl⟩
 ·have HB:=ygI (show zbD r=false from ygK (by omega))
  go_enter Tryz.func54,Tryz.ntmps54
  go_wp2
  go_ret
  exact ⟨zaD (by first|exact HB.out.symm|(rw [HB.out];simp;omega)),rfl⟩
 ·have HB:=ygI (show zbD r=false from ygK (by omega))
  go_enter Tryz.func54,Tryz.ntmps54
  go_wp2
  go_ret
  exact ⟨zaD (by first|exact HB.out.symm|(rw [HB.out];simp;omega)),rfl⟩
theorem z6G (r:Int) (w:World):
  Calls Tryz.prog 41 #[.int .i32 r] w fun e w'=>e= .returned (.bool (zcG r))∧w=w':=by
 rcases (show r<48∨(48≤r∧r≤57)∨(57<r∧r<65)∨(65≤r∧r≤70)∨(70<r∧r≤90)∨(90<r∧r<97)∨(97≤r∧r≤102)∨(102<r∧r≤122)∨122<r from by omega) with hA|⟨hA,hB⟩|⟨hA,hB⟩|⟨hA,hB⟩|⟨hA,hB⟩|⟨hA,hB⟩|⟨hA,hB⟩|⟨hA,hB⟩|hA
 ·have HB:=ygI (show zcG r=false from ygK (by omega))
  go_enter Tryz.func41,Tryz.ntmps41
  go_wp2
  go_ret
  exact ⟨zaD (by first|exact HB.out.symm|(rw [HB.out];simp;omega)),rfl⟩
 ·have HB:=ygI (show zcG r=false from ygK (by omega))
  go_enter Tryz.func41,Tryz.ntmps41
  go_wp2
  go_ret
  exact ⟨zaD (by first|exact HB.out.symm|(rw [HB.out];simp;omega)),rfl⟩
 ·have HB:=ygI (show zcG r=false from ygK (by omega))
  go_enter Tryz.func41,Tryz.ntmps41
  go_wp2
  go_ret
  exact ⟨zaD (by first|exact HB.out.symm|(rw [HB.out];simp;omega)),rfl⟩
 ·have HB:=ygI (show zcG r=true from ygL (by omega))
  go_enter Tryz.func41,Tryz.ntmps41
  go_wp2
  go_ret
  exact ⟨zaD (by first|exact HB.out.symm|(rw [HB.out];simp;omega)),rfl⟩
 ·have HB:=ygI (show zcG r=true from ygL (by omega))
  go_enter Tryz.func41,Tryz.ntmps41
  go_wp2
  go_ret
  exact ⟨zaD (by first|exact HB.out.symm|(rw [HB.out];simp;omega)),rfl⟩
 ·have HB:=ygI (show zcG r=false from ygK (by omega))
  go_enter Tryz.func41,Tryz.ntmps41
  go_wp2
  go_ret
  exact ⟨zaD (by first|exact HB.out.symm|(rw [HB.out];simp;omega)),rfl⟩
 ·have HB:=ygI (show zcG r=true from ygL (by omega))
  go_enter Tryz.func41,Tryz.ntmps41
  go_wp2
  go_ret
  exact ⟨zaD (by first|exact HB.out.symm|(rw [HB.out];simp;omega)),rfl⟩
 ·have HB:=ygI (show zcG r=true from ygL (by omega))
  go_enter Tryz.func41,Tryz.ntmps41
  go_wp2
  go_ret
  exact ⟨zaD (by first|exact HB.out.symm|(rw [HB.out];simp;omega)),rfl⟩
 ·have HB:=ygI (show zcG r=false from ygK (by omega))
  go_enter Tryz.func41,Tryz.ntmps41
  go_wp2
  go_ret
  exact ⟨zaD (by first|exact HB.out.symm|(rw [HB.out];simp;omega)),rfl⟩
theorem zlT (r:Int) (w:World):
  Calls Tryz.prog 52 #[.int .u8 r] w fun e w'=>e= .returned (.bool (zcG r))∧w=w':=by
 rcases (show r<48∨(48≤r∧r≤57)∨(57<r∧r<65)∨(65≤r∧r≤70)∨(70<r∧r≤90)∨(90<r∧r<97)∨(97≤r∧r≤102)∨(102<r∧r≤122)∨122<r from by omega) with hA|⟨hA,hB⟩|⟨hA,hB⟩|⟨hA,hB⟩|⟨hA,hB⟩|⟨hA,hB⟩|⟨hA,hB⟩|⟨hA,hB⟩|hA
 ·have HB:=ygI (show zcG r=false from ygK (by omega))
  go_enter Tryz.func52,Tryz.ntmps52
  go_wp2
  go_ret
  exact ⟨zaD (by first|exact HB.out.symm|(rw [HB.out];simp;omega)),rfl⟩
 ·have HB:=ygI (show zcG r=false from ygK (by omega))
  go_enter Tryz.func52,Tryz.ntmps52
  go_wp2
  go_ret
  exact ⟨zaD (by first|exact HB.out.symm|(rw [HB.out];simp;omega)),rfl⟩
 ·have HB:=ygI (show zcG r=false from ygK (by omega))
  go_enter Tryz.func52,Tryz.ntmps52
  go_wp2
  go_ret
  exact ⟨zaD (by first|exact HB.out.symm|(rw [HB.out];simp;omega)),rfl⟩
 ·have HB:=ygI (show zcG r=true from ygL (by omega))
  go_enter Tryz.func52,Tryz.ntmps52
  go_wp2
  go_ret
  exact ⟨zaD (by first|exact HB.out.symm|(rw [HB.out];simp;omega)),rfl⟩
 ·have HB:=ygI (show zcG r=true from ygL (by omega))
  go_enter Tryz.func52,Tryz.ntmps52
  go_wp2
  go_ret
  exact ⟨zaD (by first|exact HB.out.symm|(rw [HB.out];simp;omega)),rfl⟩
 ·have HB:=ygI (show zcG r=false from ygK (by omega))
  go_enter Tryz.func52,Tryz.ntmps52
  go_wp2
  go_ret
  exact ⟨zaD (by first|exact HB.out.symm|(rw [HB.out];simp;omega)),rfl⟩
 ·have HB:=ygI (show zcG r=true from ygL (by omega))
  go_enter Tryz.func52,Tryz.ntmps52
  go_wp2
  go_ret
  exact ⟨zaD (by first|exact HB.out.symm|(rw [HB.out];simp;omega)),rfl⟩
 ·have HB:=ygI (show zcG r=true from ygL (by omega))
  go_enter Tryz.func52,Tryz.ntmps52
  go_wp2
  go_ret
  exact ⟨zaD (by first|exact HB.out.symm|(rw [HB.out];simp;omega)),rfl⟩
 ·have HB:=ygI (show zcG r=false from ygK (by omega))
  go_enter Tryz.func52,Tryz.ntmps52
  go_wp2
  go_ret
  exact ⟨zaD (by first|exact HB.out.symm|(rw [HB.out];simp;omega)),rfl⟩
theorem zdH (r:Int) (w:World):
  Calls Tryz.prog 132 #[.int .i32 r] w fun e w'=>e= .returned (.int .i64 (valZ r))∧w=w':=by
 rcases (show r<48∨(48≤r∧r≤57)∨(57<r∧r<65)∨(65≤r∧r≤70)∨(70<r∧r≤90)∨(90<r∧r<97)∨(97≤r∧r≤102)∨(102<r∧r≤122)∨122<r from by omega) with hA|⟨hA,hB⟩|⟨hA,hB⟩|⟨hA,hB⟩|⟨hA,hB⟩|⟨hA,hB⟩|⟨hA,hB⟩|⟨hA,hB⟩|hA
 ·have HV:=ygI (show valZ r= -1 from by unfold valZ;(repeat' split)<;>omega)
  go_enter Tryz.func132,Tryz.ntmps132
  go_wp2
  go_ret
  exact ⟨zcJ (by first|exact HV.out.symm|(rw [HV.out];omega)),rfl⟩
 ·have HV:=ygI (show valZ r=r - 48 from by unfold valZ;(repeat' split)<;>omega)
  go_enter Tryz.func132,Tryz.ntmps132
  go_wp2
  go_ret
  exact ⟨zcJ (by first|exact HV.out.symm|(rw [HV.out];omega)),rfl⟩
 ·have HV:=ygI (show valZ r= -1 from by unfold valZ;(repeat' split)<;>omega)
  go_enter Tryz.func132,Tryz.ntmps132
  go_wp2
  go_ret
  exact ⟨zcJ (by first|exact HV.out.symm|(rw [HV.out];omega)),rfl⟩
 ·have HV:=ygI (show valZ r=r - 55 from by unfold valZ;(repeat' split)<;>omega)
  go_enter Tryz.func132,Tryz.ntmps132
  go_wp2
  go_ret
  exact ⟨zcJ (by first|exact HV.out.symm|(rw [HV.out];omega)),rfl⟩
 ·have HV:=ygI (show valZ r= -1 from by unfold valZ;(repeat' split)<;>omega)
  go_enter Tryz.func132,Tryz.ntmps132
  go_wp2
  go_ret
  exact ⟨zcJ (by first|exact HV.out.symm|(rw [HV.out];omega)),rfl⟩
 ·have HV:=ygI (show valZ r= -1 from by unfold valZ;(repeat' split)<;>omega)
  go_enter Tryz.func132,Tryz.ntmps132
  go_wp2
  go_ret
  exact ⟨zcJ (by first|exact HV.out.symm|(rw [HV.out];omega)),rfl⟩
 ·have HV:=ygI (show valZ r=r - 87 from by unfold valZ;(repeat' split)<;>omega)
  go_enter Tryz.func132,Tryz.ntmps132
  go_wp2
  go_ret
  exact ⟨zcJ (by first|exact HV.out.symm|(rw [HV.out];omega)),rfl⟩
 ·have HV:=ygI (show valZ r= -1 from by unfold valZ;(repeat' split)<;>omega)
  go_enter Tryz.func132,Tryz.ntmps132
  go_wp2
  go_ret
  exact ⟨zcJ (by first|exact HV.out.symm|(rw [HV.out];omega)),rfl⟩
 ·have HV:=ygI (show valZ r= -1 from by unfold valZ;(repeat' split)<;>omega)
  go_enter Tryz.func132,Tryz.ntmps132
  go_wp2
  go_ret
  exact ⟨zcJ (by first|exact HV.out.symm|(rw [HV.out];omega)),rfl⟩
theorem zcM (r:Int) (w:World):
  Calls Tryz.prog 148 #[.int .i32 r] w fun e w'=>e= .returned (.int .i64 (valZ r))∧w=w':=by
 rcases (show r<48∨(48≤r∧r≤57)∨(57<r∧r<65)∨(65≤r∧r≤70)∨(70<r∧r≤90)∨(90<r∧r<97)∨(97≤r∧r≤102)∨(102<r∧r≤122)∨122<r from by omega) with hA|⟨hA,hB⟩|⟨hA,hB⟩|⟨hA,hB⟩|⟨hA,hB⟩|⟨hA,hB⟩|⟨hA,hB⟩|⟨hA,hB⟩|hA
 ·have HV:=ygI (show valZ r= -1 from by unfold valZ;(repeat' split)<;>omega)
  go_enter Tryz.func148,Tryz.ntmps148
  go_wp2
  go_ret
  exact ⟨zcJ (by first|exact HV.out.symm|(rw [HV.out];omega)),rfl⟩
 ·have HV:=ygI (show valZ r=r - 48 from by unfold valZ;(repeat' split)<;>omega)
  go_enter Tryz.func148,Tryz.ntmps148
  go_wp2
  go_ret
  exact ⟨zcJ (by first|exact HV.out.symm|(rw [HV.out];omega)),rfl⟩
 ·have HV:=ygI (show valZ r= -1 from by unfold valZ;(repeat' split)<;>omega)
  go_enter Tryz.func148,Tryz.ntmps148
  go_wp2
  go_ret
  exact ⟨zcJ (by first|exact HV.out.symm|(rw [HV.out];omega)),rfl⟩
 ·have HV:=ygI (show valZ r=r - 55 from by unfold valZ;(repeat' split)<;>omega)
  go_enter Tryz.func148,Tryz.ntmps148
  go_wp2
  go_ret
  exact ⟨zcJ (by first|exact HV.out.symm|(rw [HV.out];omega)),rfl⟩
 ·have HV:=ygI (show valZ r= -1 from by unfold valZ;(repeat' split)<;>omega)
  go_enter Tryz.func148,Tryz.ntmps148
  go_wp2
  go_ret
  exact ⟨zcJ (by first|exact HV.out.symm|(rw [HV.out];omega)),rfl⟩
 ·have HV:=ygI (show valZ r= -1 from by unfold valZ;(repeat' split)<;>omega)
  go_enter Tryz.func148,Tryz.ntmps148
  go_wp2
  go_ret
  exact ⟨zcJ (by first|exact HV.out.symm|(rw [HV.out];omega)),rfl⟩
 ·have HV:=ygI (show valZ r=r - 87 from by unfold valZ;(repeat' split)<;>omega)
  go_enter Tryz.func148,Tryz.ntmps148
  go_wp2
  go_ret
  exact ⟨zcJ (by first|exact HV.out.symm|(rw [HV.out];omega)),rfl⟩
 ·have HV:=ygI (show valZ r= -1 from by unfold valZ;(repeat' split)<;>omega)
  go_enter Tryz.func148,Tryz.ntmps148
  go_wp2
  go_ret
  exact ⟨zcJ (by first|exact HV.out.symm|(rw [HV.out];omega)),rfl⟩
 ·have HV:=ygI (show valZ r= -1 from by unfold valZ;(repeat' split)<;>omega)
  go_enter Tryz.func148,Tryz.ntmps148
  go_wp2
  go_ret
  exact ⟨zcJ (by first|exact HV.out.symm|(rw [HV.out];omega)),rfl⟩
theorem zaA (l:List UInt8):(ByteArray.mk l.toArray).size=l.length:=by simp [ByteArray.size]
theorem yeM (x:Int) (h0:0≤x) (h1:x<256):(x.toNat.toUInt8).toNat=x.toNat:=by
 have:x.toNat % 256=x.toNat:=Nat.mod_eq_of_lt (by omega)
 simp [Nat.toUInt8,this]
/-! ### parts,put together again -/
theorem zfU (p:UInt8→Bool) (l:List UInt8):0<(zcL p l).length:=by simp [zcL]
theorem zaM.form {B:Nat} {w:World} {v:Value} {ps:List (List UInt8)} (h:zaM B w v ps) (hn:0<ps.length):
  ∃g cap,v= .slice (some ⟨g,0,none⟩) ps.length cap∧g<w.heap.size∧ ∀j,j<ps.length→w.cell? ⟨g,j,none⟩=some (.string ⟨(ps.getD j []).toArray⟩):=by
 unfold zaM at h
 rcases h.2 with ⟨_,h0⟩|⟨g,cap,cur,hv,_,hg,hc,_,hs,ht⟩
 ·omega
 ·refine ⟨g,cap,hv,(Array.getElem?_eq_some_iff.1 hg).1,fun j hj=> ?_⟩
  rw [cell_of_row w g j cur _ _ hg]
  have h1:(zdZ ps)[j]? =some (strC (ps.getD j [])):=by
   simp [zdZ,List.getD,List.getElem?_eq_getElem hj]
  rw [←ht,List.getElem?_take,if_pos (by omega)] at h1
  simpa [strC] using h1
theorem zaM.below {B:Nat} {w w':World} {v:Value} {ps:List (List UInt8)} (h:zaM B w v ps) (hb:Below w.heap.size w w'):zaM B w' v ps:=zbK h hb
theorem zcN (p:UInt8→Bool) (l:List UInt8):(zcL p l).length≤l.length+1:=by
 have key: ∀(l:List UInt8) (st:List (List UInt8)×List UInt8),(l.foldl (zbY p) st).1.length≤st.1.length+l.length:=by
  intro l
  induction l with
  |nil=>intro st;simp
  |cons c l ih=>
   intro st
   rw [List.foldl_cons]
   have:=ih (zbY p st c)
   have h2:(zbY p st c).1.length≤st.1.length+1:=by unfold zbY;split<;>simp
   simp;omega
 have:=key l ([],[])
 simp [zcL,spl] at this ⊢
 omega
theorem zoF (ps:List (List UInt8)) (c sep:List UInt8):Lib.join (ps++[c]) sep=if ps=[] then c else Lib.join ps sep++sep++c:=by
 cases ps with
 |nil=>simp [Lib.join_one]
 |cons x r=>
  rw [if_neg (by simp),List.cons_append,Lib.join_cons,Lib.join_cons]
  simp [Lib.joinTail]
theorem z2Y (l:List UInt8) (c:UInt8):Lib.join (zcL (hasB [c]) l) [c]=l:=by
 have key: ∀(l:List UInt8) (st:List (List UInt8)×List UInt8),Lib.join ((l.foldl (zbY (hasB [c])) st).1++[(l.foldl (zbY (hasB [c])) st).2]) [c]=Lib.join (st.1++[st.2]) [c]++l:=by
  intro l
  induction l with
  |nil=>intro st;simp
  |cons x l ih=>
   intro st
   rw [List.foldl_cons,ih]
   have e:Lib.join ((zbY (hasB [c]) st x).1++[(zbY (hasB [c]) st x).2]) [c]=Lib.join (st.1++[st.2]) [c]++[x]:=by
    unfold zbY
    by_cases h:hasB [c] x=true
    ·have hx:c=x:=by simpa [hasB] using h
     rw [if_pos h,zoF (st.1++[st.2]) [] [c],if_neg (by simp),List.append_nil,hx]
    ·rw [if_neg h,zoF,zoF]
     split
     ·rfl
     ·simp
   rw [e];simp
 have:=key l ([],[])
 unfold zcL spl
 rw [this]
 simp [Lib.join_one]
/-! ### a second time -/
end
end
section
open Go.RowKit
theorem zuW (s:ByteArray) (w:World) (hs:s.size≤9223372036854775807):
  Calls Tryz.prog 108 #[.string s] w fun e w'=>e= .returned (.bool (zjD s))∧w=w':=by
 go_enter Tryz.func108,Tryz.ntmps108
 go_wp2
 go_loop [6] (fun i=> ∃k:Nat,k≤s.size∧i= .int .i64 k∧Hid (∀j (h:j<s.size),j<k→(s[j]'h).toNat<128)) (fun i=>s.size - (intOf i).toNat)
 case atStart=>exact ⟨0,Nat.zero_le _,rfl,fun j _ h=>by omega⟩
 case round=>
  obtain ⟨k,hk,rfl,H⟩:=hrel
  by_cases hlt:k<s.size
  ·go_wp2
   ·have hc:(128:Int)≤(s[k].toNat:Int):=by assumption
    go_ret
    exact ⟨zaD (zlU s k hlt (by omega)).symm,rfl⟩
   ·have hc:(s[k].toNat:Int)<128:=by first|assumption|omega
    go_round
    case rel=>
     refine ⟨k+1,by omega,by go_num,fun j hj hjk=> ?_⟩
     by_cases e:j=k
     ·subst e;omega
     ·exact H.out j hj (by omega)
    case measure=>simp [intOf];omega
  ·have hf:=znT s (fun j hj=>H.out j hj (by omega))
   have HF:=ygI hf
   clear hf
   go_wp2
   go_ret
   exact ⟨zaD HF.out.symm,rfl⟩
def zgD (f:UInt8→UInt8) (B:Nat) (s:ByteArray) (k cap:Nat) (w:World):Prop:=
 ∃cur:Array Value,w.heap[B]? =some (.cells cur 5 (cap,cap+1))∧cur.size=cap∧s.size≤cap∧
  ∀j (h:j<s.size),cur[j]? =some (.int .u8 ((if j<k then f s[j] else s[j]).toNat:Int))
theorem zuB (f:UInt8→UInt8) (w:World) (s:ByteArray):zgD f w.heap.size s 0 (grownCap w s.size 0 5) (Lib.bytesWorld w 5 s):=by
 have hge:s.size≤grownCap w s.size 0 5:=grownCap_ge _ _ _ _
 have hsz:(Lib.bytesCells w 5 s).size=grownCap w s.size 0 5:=by
  unfold Lib.bytesCells
  have:s.data.size=s.size:=rfl
  simp [this];omega
 refine ⟨Lib.bytesCells w 5 s,?_,hsz,hge,?_⟩
 ·rw [Lib.bytesWorld_at_new,hsz]
 ·intro j h
  have hj:j<s.data.size:=h
  rw [if_neg (by omega)]
  unfold Lib.bytesCells
  rw [Array.getElem?_append_left (by simpa using hj)]
  simp
  exact ⟨s.data[j],Array.getElem?_eq_getElem hj,rfl⟩
theorem zgD.cell {f:UInt8→UInt8} {B:Nat} {s:ByteArray} {k cap:Nat} {w:World} (h:zgD f B s k cap w) (hk:k<s.size):w.cell? ⟨B,k,none⟩=some (.int .u8 (s[k].toNat:Int)):=by
 obtain ⟨cur,h1,_,_,h4⟩:=h
 rw [cell_of_row w B k cur _ _ h1,h4 k hk,if_neg (by omega)]
theorem zgD.frozen {f:UInt8→UInt8} {B:Nat} {s:ByteArray} {k cap:Nat} {w:World} (h:zgD f B s k cap w) (hk:k<s.size):w.frozen? ⟨B,k,none⟩=false:=by
 obtain ⟨cur,h1,_,h3,_⟩:=h
 simp [World.frozen?,h1]
 omega
theorem zgD.same {f:UInt8→UInt8} {B:Nat} {s:ByteArray} {k cap:Nat} {w:World} (h:zgD f B s k cap w) (hk:k<s.size) (he:f s[k]=s[k]):zgD f B s (k+1) cap w:=by
 obtain ⟨cur,h1,h2,h3,h4⟩:=h
 refine ⟨cur,h1,h2,h3,fun j hj=> ?_⟩
 rw [h4 j hj]
 by_cases e:j=k
 ·subst e;rw [if_neg (by omega),if_pos (by omega),he]
 ·by_cases e2:j<k
  ·rw [if_pos e2,if_pos (by omega)]
  ·rw [if_neg e2,if_neg (by omega)]
theorem zgD.put {f:UInt8→UInt8} {B:Nat} {s:ByteArray} {k cap:Nat} {w:World} (h:zgD f B s k cap w) (hk:k<s.size) (n:Int) (hn:n=((f s[k]).toNat:Int)):zgD f B s (k+1) cap (w.setCell ⟨B,k,none⟩ (.int .u8 n)):=by
 obtain ⟨cur,h1,h2,h3,h4⟩:=h
 refine ⟨cur.setIfInBounds k (.int .u8 n),?_,by simpa using h2,h3,fun j hj=> ?_⟩
 ·simp [World.setCell,Array.getElem?_modify,h1]
 ·rw [Array.getElem?_setIfInBounds]
  by_cases e:k=j
  ·subst e;rw [if_pos rfl,if_pos (by omega),if_pos (by omega),hn]
  ·rw [if_neg e,h4 j hj]
   by_cases e2:j<k
   ·rw [if_pos e2,if_pos (by omega)]
   ·rw [if_neg e2,if_neg (by omega)]
theorem zgD.conv {f:UInt8→UInt8} {B:Nat} {s:ByteArray} {cap:Nat} {w:World} {k:Nat} (h:zgD f B s k cap w) (hk: ¬k<s.size):
  (convert 73 9 (.slice (some ⟨B,0,none⟩) s.size cap)).run Tryz.prog w= .ok (.string ⟨(s.data.toList.map f).toArray⟩) w:=by
 refine zgW w _ _ 5 _ _ ?_ Tryz.underlying73 Tryz.underlying5 Tryz.underlying9
 obtain ⟨cur,h1,h2,h3,h4⟩:=h
 have hl:(Lib.byteCells (s.data.toList.map f)).length=s.size:=by rw [Lib.byteCells_length,List.length_map,zaH]
 refine ⟨_,cap,by rw [hl],fun j u hj=>⟨_,rfl,?_⟩⟩
 have hlt:j<s.size:=by rw [←hl];exact (List.getElem?_eq_some_iff.1 hj).1
 rw [show (Addr.add ⟨B,0,none⟩ j)=⟨B,j,none⟩ from by unfold Addr.add;split<;>simp_all]
 rw [cell_of_row w B j cur _ _ h1,h4 j hlt,if_pos (by omega),←hj]
 simp only [Lib.byteCells,List.map_map,List.getElem?_map,zdL s j hlt]
 rfl
theorem z5N (s:ByteArray) (w:World) (hs:s.size≤9223372036854775807):
  Calls Tryz.prog 44 #[.string s] w fun e w'=>e= .returned (.string ⟨(zaX s.data.toList).toArray⟩)∧Below w.heap.size w w':=by
 have hcv0:=Lib.run_convert_string_bytes (P:=Tryz.prog) w 9 73 5 s Tryz.underlying9 Tryz.underlying73 Tryz.underlying5
 have hst:=zuB lowC w s
 have hb0:Below w.heap.size w (Lib.bytesWorld w 5 s):=⟨rfl,rfl,rfl,by rw [Lib.bytesWorld_size];omega,fun k hk=>Lib.bytesWorld_at_old w _ s k hk⟩
 have HST:=ygI hst
 clear hst
 generalize hcap:grownCap w s.size 0 5=cap at*
 generalize Lib.bytesWorld w 5 s=wb at*
 clear hcap
 go_enter Tryz.func44,Tryz.ntmps44
 go_wp2
 clear hcv0
 go_loopw [10] (fun i wr=> ∃k:Nat,k≤s.size∧i= .int .i64 k∧zgD lowC w.heap.size s k cap wr∧Below w.heap.size w wr) (fun i _=>s.size - (intOf i).toNat)
 case atStart=>exact ⟨0,Nat.zero_le _,rfl,HST.out,hb0⟩
 case round=>
  obtain ⟨k,hk,rfl,hr,hbw⟩:=hrel
  by_cases hlt:k<s.size
  ·have hcell:=hr.cell hlt
   have hfr:=hr.frozen hlt
   obtain ⟨c,hc⟩: ∃c,(s[k]'hlt).toNat=c:=⟨_,rfl⟩
   have hc256:c<256:=by rw [←hc];exact (s[k]'hlt).toNat_lt
   rw [hc] at hcell
   by_cases hu:65≤c∧c≤90
   ·have hdc:((lowC s[k]).toNat:Int)=(c:Int)+32:=by rw [zxB (by omega) (by omega),hc];omega
    have hr2:=hr.put hlt ((c:Int)+32) hdc.symm
    have HR2:=ygI hr2
    have hbw2:=hbw.setCell (p:=⟨w.heap.size,k,none⟩) (ygJ _) (.int .u8 ((c:Int)+32))
    have HC:=ygI hc
    obtain ⟨hu1,hu2⟩:=hu
    have ea:(c:Int) - 65+97=(c:Int)+32:=by omega
    clear hdc hr2 hc
    go_wp2
    go_roundw
    case rel=>exact ⟨k+1,by omega,by go_num,by first|exact HR2.out|(rw [ea];exact HR2.out),by first|exact hbw2|(rw [ea];exact hbw2)⟩
    case measure=>simp [intOf];omega
   ·have hr2:=hr.same hlt (zxO (by omega))
    have HR2:=ygI hr2
    clear hr2 hc
    go_wp2
    all_goals
     go_roundw
     case rel=>exact ⟨k+1,by omega,by go_num,HR2.out,hbw⟩
     case measure=>simp [intOf];omega
  ·have hcv:=hr.conv hlt
   go_wp2
   go_ret
   exact ⟨rfl,hbw⟩
end
end Go.Proofs.YtcagcjdhbijknaaGreatDoor
