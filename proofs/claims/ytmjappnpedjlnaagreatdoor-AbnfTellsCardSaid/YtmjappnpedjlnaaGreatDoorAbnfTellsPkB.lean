/-
  What the law AbnfTells leans on, and its walk (2 of 27).
-/
import Derived.IntWalk
import Derived.StillTailTactics
import Derived.Deep.RegionHeld3
import Derived.Deep.AppendLies
import Derived.Test.YtmjappnpedjlnaaGreatDoorAbnfTellsPkA
namespace Go.Proofs.YtmjappnpedjlnaaGreatDoor
set_option maxRecDepth 100000
set_option maxHeartbeats 16000000
abbrev zwV := @Lib.hid
abbrev zwW := @decide_eq_false
abbrev zwX := @decide_eq_true
abbrev zwY := @Go.RowKit.Below.refl
section
section
open Go.RowKit
def zgY:List UInt8→Option UInt8
 |c::a::b::_=>if c.toNat=37∧0≤valZ (a.toNat:Int)∧0≤valZ (b.toNat:Int) then some (UInt8.ofNat ((valZ (a.toNat:Int)*16+valZ (b.toNat:Int)).toNat)) else none
 |_=>none
theorem zcJ (s:ByteArray) (k:Nat) (h:k<s.size):s.data.toList.drop k=s[k]::s.data.toList.drop (k+1):=by
 rw [List.drop_eq_getElem_cons (by simpa using h)]
 rfl
theorem zdB (s:ByteArray) (k:Nat) (h: ¬k<s.size):s.data.toList.drop k=[]:=List.drop_eq_nil_of_le (by simpa using h)
theorem zoX (s:ByteArray) (k:Nat) (hk:k+2<s.size) (h37:s[k].toNat=37) (h1:0≤valZ (s[k+1].toNat:Int)) (h2:0≤valZ (s[k+2].toNat:Int)):
  zgY (s.data.toList.drop k)=some (UInt8.ofNat ((valZ (s[k+1].toNat:Int)*16+valZ (s[k+2].toNat:Int)).toNat)):=by
 rw [zcJ s k (by omega),zcJ s (k+1) (by omega),zcJ s (k+2) (by omega)]
 simp only [zgY]
 rw [if_pos ⟨h37,h1,h2⟩]
theorem zhK (s:ByteArray) (k:Nat) (hk:k+2<s.size) (h:s[k].toNat≠37∨valZ (s[k+1].toNat:Int)<0∨valZ (s[k+2].toNat:Int)<0):
  zgY (s.data.toList.drop k)=none:=by
 rw [zcJ s k (by omega),zcJ s (k+1) (by omega),zcJ s (k+2) (by omega)]
 simp only [zgY]
 rw [if_neg (by omega)]
theorem zlS (s:ByteArray) (k:Nat) (hk:s.size≤k+2):zgY (s.data.toList.drop k)=none:=by
 by_cases h0:k<s.size
 ·rw [zcJ s k h0]
  by_cases h1:k+1<s.size
  ·rw [zcJ s (k+1) h1,zdB s (k+2) (by omega)]
   rfl
  ·rw [zdB s (k+1) h1]
   rfl
 ·rw [zdB s k h0]
  rfl
theorem zoS (s:ByteArray) (k:Nat) (w:World) (hs:s.size≤1073741824) (hk:k<s.size):
  Calls Tryz.prog 55 #[.string s,.int .i64 k] w fun e w'=>e= .returned (.bool (zgY (s.data.toList.drop k)).isSome)∧w=w':=by
 obtain ⟨c0,hc0⟩: ∃c,s[k].toNat=c:=⟨_,rfl⟩
 by_cases h2:k+2<s.size
 ·obtain ⟨c1,hc1⟩: ∃c,s[k+1].toNat=c:=⟨_,rfl⟩
  obtain ⟨c2,hc2⟩: ∃c,s[k+2].toNat=c:=⟨_,rfl⟩
  have l1:c1<256:=by rw [←hc1];exact s[k+1].toNat_lt
  have l2:c2<256:=by rw [←hc2];exact s[k+2].toNat_lt
  by_cases h37:c0=37
  ·subst h37
   obtain ⟨v1,hv1⟩: ∃v,valZ (c1:Int)=v:=⟨_,rfl⟩
   obtain ⟨v2,hv2⟩: ∃v,valZ (c2:Int)=v:=⟨_,rfl⟩
   by_cases b5:0≤v1
   ·by_cases b6:0≤v2
    ·have HT:=zwV (congrArg Option.isSome (zoX s k h2 hc0 (by rw [hc1,hv1];exact b5) (by rw [hc2,hv2];exact b6)))
     go_enter Tryz.func55,Tryz.ntmps55
     go_wp2_with (go_at_call 108;refine (zbQ _ _).mono ?_;rintro e w' ⟨rfl,rfl⟩)
     go_ret
     exact ⟨zaB (by rw [HT.out];simp [*]),rfl⟩
    ·have HT:=zwV (congrArg Option.isSome (zhK s k h2 (by rw [hc1,hc2,hv1,hv2];omega)))
     go_enter Tryz.func55,Tryz.ntmps55
     go_wp2_with (go_at_call 108;refine (zbQ _ _).mono ?_;rintro e w' ⟨rfl,rfl⟩)
     go_ret
     exact ⟨zaB (by rw [HT.out];simp [*];try omega),rfl⟩
   ·have HT:=zwV (congrArg Option.isSome (zhK s k h2 (by rw [hc1,hc2,hv1,hv2];omega)))
    go_enter Tryz.func55,Tryz.ntmps55
    go_wp2_with (go_at_call 108;refine (zbQ _ _).mono ?_;rintro e w' ⟨rfl,rfl⟩)
    all_goals
     go_ret
     exact ⟨zaB (by rw [HT.out];simp [*];try omega),rfl⟩
  ·have HT:=zwV (congrArg Option.isSome (zhK s k h2 (.inl (by rw [hc0];exact h37))))
   have hb:((c0:Int)==37)=false:=beq_eq_false_iff_ne.2 (by omega)
   go_enter Tryz.func55,Tryz.ntmps55
   go_wp2
   go_ret
   exact ⟨zaB (by rw [HT.out];first|rfl|(simp [*];done)),rfl⟩
 ·have HT:=zwV (congrArg Option.isSome (zlS s k (by omega)))
  go_enter Tryz.func55,Tryz.ntmps55
  go_wp2
  go_ret
  exact ⟨zaB (by rw [HT.out];first|rfl|(simp;omega)),rfl⟩
def digC (b:Int) (c:UInt8):Bool:=decide (0≤valZ (c.toNat:Int)∧valZ (c.toNat:Int)<b)
def zbJ (b:Int) (l:List UInt8):Bool:=l.all (digC b)
theorem zpG (b:Int) (s:ByteArray) (k:Nat) (h:k<s.size):zbJ b (s.data.toList.take (k+1))=(zbJ b (s.data.toList.take k)&&digC b s[k]):=by
 rw [zdR s k h];simp [zbJ]
theorem zhD {b:Int} {c:UInt8} {v:Int} (hv:valZ (c.toNat:Int)=v) (h0:0≤v) (h1:v<b):digC b c=true:=zwX (by rw [hv];exact ⟨h0,h1⟩)
theorem zdV {b:Int} {c:UInt8} {v:Int} (hv:valZ (c.toNat:Int)=v) (h:v<0∨b≤v):digC b c=false:=zwW (by rw [hv];omega)
theorem zdY (b:Int) (s:ByteArray) (k:Nat) (h:k<s.size) (hc:digC b s[k]=false):zbJ b s.data.toList=false:=by
 unfold zbJ
 rw [List.all_eq_false]
 refine ⟨s[k],?_,by rw [hc];simp⟩
 show s.data[k]∈_
 simp
theorem zgL (b:Int) (s:ByteArray) (k:Nat) (h:k<s.size) (hp:zbJ b (s.data.toList.take k)=true) (hc:digC b s[k]=true):zbJ b (s.data.toList.take (k+1))=true:=by
 rw [zpG b s k h,hp,hc];rfl
theorem zkD (r:Int) (h:128≤r):valZ r= -1:=by
 unfold valZ;(repeat' split)<;>omega
theorem zmV (r:Int):valZ r<16:=by
 unfold valZ;(repeat' split)<;>omega
theorem zoY (s:ByteArray) (a:Nat):s.extract a s.size=⟨(s.data.toList.drop a).toArray⟩:=
 zdX s a s.size _ (List.take_of_length_le (by simp))
theorem zeD (s:ByteArray) (b:Int) (w:World) (hs:s.size≤1073741824):
  Calls Tryz.prog 186 #[.string s,.int .i64 b] w fun e w'=>e= .returned (.bool (zbJ b s.data.toList))∧w=w':=by
 go_enter Tryz.func186,Tryz.ntmps186
 go_wp2
 go_loop [5] (fun i=> ∃k:Nat,k≤s.size∧i= .int .i64 k∧Hid (zbJ b (s.data.toList.take k)=true)) (fun i=>s.size - (intOf i).toNat)
 case atStart=>exact ⟨0,Nat.zero_le _,rfl,rfl⟩
 case round=>
  obtain ⟨k,hk,rfl,H⟩:=hrel
  by_cases hlt:k<s.size
  ·obtain ⟨c,hc⟩: ∃c,(s[k]'hlt).toNat=c:=⟨_,rfl⟩
   have hc256:c<256:=by rw [←hc];exact (s[k]'hlt).toNat_lt
   obtain ⟨v,hv⟩: ∃v,valZ (c:Int)=v:=⟨_,rfl⟩
   have HV:Hid (valZ (s[k].toNat:Int)=v):=by show valZ (s[k].toNat:Int)=v;rw [hc];exact hv
   by_cases h0:v<0
   ·have HF:=zwV (zdY b s k hlt (zdV HV.out (.inl h0)))
    go_wp2_with (go_at_call 108;refine (zbQ _ _).mono ?_;rintro e w' ⟨rfl,rfl⟩)
    go_ret
    exact ⟨zaB HF.out.symm,rfl⟩
   ·by_cases h1:b≤v
    ·have HF:=zwV (zdY b s k hlt (zdV HV.out (.inr h1)))
     go_wp2_with (go_at_call 108;refine (zbQ _ _).mono ?_;rintro e w' ⟨rfl,rfl⟩)
     go_ret
     exact ⟨zaB HF.out.symm,rfl⟩
    ·have HF:=zwV (zgL b s k hlt H.out (zhD HV.out (by omega) (by omega)))
     go_wp2_with (go_at_call 108;refine (zbQ _ _).mono ?_;rintro e w' ⟨rfl,rfl⟩)
     go_round
     case rel=>exact ⟨k+1,by omega,by go_num,HF⟩
     case measure=>simp [intOf];omega
  ·have HF:Hid (zbJ b s.data.toList=true):=by
    show zbJ b s.data.toList=true
    have:=H.out
    rwa [zcP s k hlt] at this
   go_wp2
   go_ret
   exact ⟨zaB HF.out.symm,rfl⟩
theorem zwP (b:Int) (s:ByteArray) (k:Nat) (h:k<s.size) (hd:zbJ b s.data.toList=true):0≤valZ (s[k].toNat:Int)∧valZ (s[k].toNat:Int)<b:=by
 unfold zbJ at hd
 rw [List.all_eq_true] at hd
 have:=hd s[k] (by show s.data[k]∈_;simp)
 exact of_decide_eq_true this
theorem zmA (s:ByteArray) (h:s.size=0):s.data.toList=[]:=List.length_eq_zero_iff.1 (by rw [zaM];exact h)
theorem zdS (s:ByteArray) (h:s.size≠0):s.data.toList≠[]:=fun e=>h (by rw [←zaM,e];rfl)
theorem zaH (l:List UInt8):(ByteArray.mk l.toArray).data.toList=l:=by simp
theorem zcD (s:ByteArray) (h:s.size=0):s=⟨#[]⟩:=by
 apply ByteArray.ext
 apply Array.ext'
 exact zmA s h
theorem zdH (s:ByteArray) (h:s.size≠0):s.toList.isEmpty=false:=by
 rw [ByteArray.toList_eq]
 cases hd:s.data.toList with
 |nil=>exact absurd hd (zdS s h)
 |cons a l=>rfl
def decN (l:List UInt8):Int:=l.foldl (fun n c=>n*10+valZ (c.toNat:Int)) 0
def decZ (l:List UInt8) (m:Int):Int×Bool:=
 if (l.isEmpty||(decide (1<l.length)&&decide ((l.getD 0 0).toNat=48))|| !zbJ 10 l)=true then (0,false) else if m<decN l then (0,false) else (decN l,true)
theorem zkT (s:ByteArray) (k:Nat) (h:k<s.size):decN (s.data.toList.take (k+1))=decN (s.data.toList.take k)*10+valZ (s[k].toNat:Int):=by
 rw [zdR s k h];simp [decN]
theorem zkP (l:List UInt8): ∀a:Int,0≤a→zbJ 10 l=true→a≤l.foldl (fun n c=>n*10+valZ (c.toNat:Int)) a:=by
 induction l with
 |nil=>intro a _ _;exact Int.le_refl _
 |cons c l ih=>
  intro a ha hd
  have h1:digC 10 c=true∧zbJ 10 l=true:=by simpa [zbJ] using hd
  have h2:=of_decide_eq_true h1.1
  have:=ih (a*10+valZ (c.toNat:Int)) (by omega) h1.2
  exact Int.le_trans (by omega) this
theorem zgT (l:List UInt8) (hd:zbJ 10 l=true):0≤decN l:=zkP l 0 (Int.le_refl _) hd
theorem zoO (b:Int) (l:List UInt8) (k:Nat):zbJ b l=(zbJ b (l.take k)&&zbJ b (l.drop k)):=by
 unfold zbJ
 rw [←List.all_append,List.take_append_drop]
theorem zgG (l:List UInt8) (k:Nat) (hd:zbJ 10 l=true):decN (l.take k)≤decN l:=by
 have h:=zoO 10 l k
 rw [hd] at h
 have h2:zbJ 10 (l.take k)=true∧zbJ 10 (l.drop k)=true:=by simpa using h.symm
 have e:decN l=(l.drop k).foldl (fun n c=>n*10+valZ (c.toNat:Int)) (decN (l.take k)):=by
  unfold decN
  rw [←List.foldl_append,List.take_append_drop]
 rw [e]
 exact zkP _ _ (zgT _ h2.1) h2.2
theorem zfK (l:List UInt8) (m:Int) (h:l=[]∨(1<l.length∧(l.getD 0 0).toNat=48)):decZ l m=(0,false):=by
 unfold decZ
 rw [if_pos]
 rcases h with rfl|⟨h1,h2⟩
 ·rfl
 ·rw [zwX h1,zwX h2];simp
theorem zjK (l:List UInt8) (m:Int) (h:zbJ 10 l=false):decZ l m=(0,false):=by
 unfold decZ
 rw [if_pos (by rw [h];simp)]
theorem znL (l:List UInt8) (m:Int) (k:Nat) (h:m<decN (l.take k)):decZ l m=(0,false):=by
 by_cases hd:zbJ 10 l=true
 ·unfold decZ
  split
  ·rfl
  ·rw [if_pos]
   have:=zgG l k hd
   omega
 ·exact zjK l m (by simpa using hd)
theorem znN (l:List UInt8) (m:Int) (h0:l≠[]) (h1: ¬(1<l.length∧(l.getD 0 0).toNat=48)) (hd:zbJ 10 l=true) (hm:decN l≤m):decZ l m=(decN l,true):=by
 unfold decZ
 rw [if_neg,if_neg (by omega)]
 rw [hd]
 cases l with
 |nil=>exact absurd rfl h0
 |cons a r=>
  by_cases e1:1<(a::r).length
  ·rw [zwX e1,zwW (fun e=>h1 ⟨e1,e⟩)];simp
  ·rw [zwW e1];simp
theorem zfN (s:ByteArray) (h:0<s.size):(s.data.toList.getD 0 0).toNat=s[0].toNat:=by
 rw [List.getD,zdA s 0 h];rfl
theorem ziV (r:Int):zaP r=decide (0≤valZ r∧valZ r<10):=by
 unfold zaP valZ
 by_cases h:48≤r∧r≤57
 ·rw [if_pos h,zwX h,zwX (by omega)]
 ·rw [if_neg h,zwW h]
  refine (zwW ?_).symm
  repeat' split
  all_goals omega
theorem zjP (c:UInt8):digC 10 c=zaP (c.toNat:Int):=(ziV _).symm
theorem zgQ {r:Int} (h:zaP r=true):48≤r∧r≤57:=of_decide_eq_true h
theorem zgA {r:Int} (h1:48≤r) (h2:r≤57):valZ r=r - 48:=if_pos ⟨h1,h2⟩
theorem zgU (r:Int) (h:128≤r):zaP r=false:=zwW (by omega)
def zkQ (w:World) (x:Int×Bool) (e:Ending) (w':World):Prop:=e= .returned (.tuple #[.int .i64 x.1,.bool x.2])∧Below w.heap.size w w'
theorem zbS {w w':World} {x:Int×Bool} {n:Int} {b:Bool} (h:x=(n,b)) (hb:Below w.heap.size w w'):zkQ w x (.returned (.tuple #[.int .i64 n,.bool b])) w':=by
 subst h;exact ⟨rfl,hb⟩
theorem zkC (s:ByteArray) (m:Int) (w:World) (hs:s.size≤1073741824) (hm:m≤9223372036854775807) (hm0: -9223372036854775808≤m) (hn:1≤s.size) (hz: ¬(1<s.size∧s[0].toNat=48)):
  Calls Tryz.prog 245 #[.string s,.int .i64 m] w (zkQ w (decZ s.data.toList m)):=by
 have HNO:=zwV (zjK s.data.toList m)
 have HBIG:=zwV (znL s.data.toList m)
 have HYES:=zwV (znN s.data.toList m (zdS s (by omega)) (by rw [zaM,zfN s (by omega)];exact hz))
 have hse:=zdH s (by omega)
 have l0:0<s.size:=by omega
 obtain ⟨a,ha⟩: ∃a,s[0].toNat=a:=⟨_,rfl⟩
 rw [ha] at hz
 rcases (show s.size≤1∨(1<s.size∧((a:Int)==48)=false) from by
   by_cases h1:1<s.size
   ·exact .inr ⟨h1,beq_eq_false_iff_ne.2 (fun e=>hz ⟨h1,by omega⟩)⟩
   ·exact .inl (by omega)) with h1|⟨h1,hb1⟩
 all_goals
  clear hz
  go_enter Tryz.func245,Tryz.ntmps245
  go_wp2
  go_loopw [6] (fun n wr=> ∃(k:Nat) (A:Int),n= .int .i64 A∧0≤A∧(A=0∨A≤m)∧k≤s.size∧wr.heap[w.heap.size]? =some (.stringIter s k)∧Below w.heap.size w wr∧w.heap.size+1≤wr.heap.size∧Hid (A=decN (s.data.toList.take k))∧Hid (zbJ 10 (s.data.toList.take k)=true)∧Hid (1≤k→A≤m)) (fun _ wr=>s.size - wr.iterPos w.heap.size)
  case atStart=>exact ⟨0,0,rfl,by omega,.inl rfl,Nat.zero_le _,World.iter_heap w s 0,(zwY _ w).alloc (Nat.le_refl _) _,by simp [World.iter],rfl,rfl,fun h=>absurd h (by omega)⟩
  case round=>
   obtain ⟨k,A,rfl,hA0,hA1,hk,hit,hbw,hsz,HA,HDG,HK⟩:=hrel
   have hA2:A≤9223372036854775807:=by omega
   clear hA1
   by_cases hp:k<s.size
   ·obtain ⟨c,hc⟩: ∃c,(s[k]'hp).toNat=c:=⟨_,rfl⟩
    have hnx: ∀ty,(Instr.next (.pointer (some ⟨w.heap.size,0,none⟩)) true ty).run Tryz.prog wr=_:=fun ty=>Lib.run_next_any_at wr w.heap.size s k ty hit hp
    by_cases hc128:c<128
    ·have hdec:=decode_ascii s k hp (by omega)
     rw [hc] at hdec
     rw [hdec] at hnx
     have hit2:=Lib.iterAt_heap wr w.heap.size s k (k+1) hit
     have hbw2:=Lib.below_iterAt hbw (k:=w.heap.size) (Nat.le_refl _) s (k+1)
     have hsz2:w.heap.size+1≤(wr.iterAt w.heap.size s (k+1)).heap.size:=by rw [Lib.iterAt_size];exact hsz
     simp only at hnx
     generalize wr.iterAt w.heap.size s (k+1)=wi at*
     have HIT:=zwV hit
     have HC:=zwV hc
     clear hit hc hdec
     cases hdg:zaP (c:Int) with
     |false=>
      have HF:=zwV (HNO.out (zdY 10 s k hp (by rw [zjP,HC.out];exact hdg)))
      go_wp2_with (go_at_call 100;refine (zcU _ _).mono ?_;rintro e w' ⟨rfl,rfl⟩)
      go_ret2
      exact zbS HF.out hbw2
     |true=>
      obtain ⟨hc1,hc2⟩:=zgQ hdg
      have hv:valZ (c:Int)=(c:Int) - 48:=zgA hc1 hc2
      have HF:=zwV (zgL 10 s k hp HDG.out (by rw [zjP,HC.out];exact hdg))
      have hsn:=zkT s k hp
      rw [←HA.out,HC.out,hv] at hsn
      have HSN:=zwV hsn
      clear hsn
      obtain ⟨v,hvv⟩: ∃v:Int,(c:Int) - 48=v:=⟨_,rfl⟩
      have hv0:0≤v:=by omega
      have hv9:v≤9:=by omega
      rw [hvv] at hv
      have HVV:=zwV hvv
      clear hvv
      by_cases hg:m<A*10+v
      ·have HB:=zwV (HBIG.out (k+1) (by rw [HSN.out,HVV.out];exact hg))
       by_cases hg1:m<v
       ·go_wp2_with (first|(go_at_call 100;refine (zcU _ _).mono ?_;rintro e w' ⟨rfl,rfl⟩)|(go_at_call 129;refine (zdJ _ _).mono ?_;rintro e w' ⟨rfl,rfl⟩))
        go_ret2
        exact zbS HB.out hbw2
       ·have hg2:(m - v)/10<A:=by omega
        go_wp2_with (first|(go_at_call 100;refine (zcU _ _).mono ?_;rintro e w' ⟨rfl,rfl⟩)|(go_at_call 129;refine (zdJ _ _).mono ?_;rintro e w' ⟨rfl,rfl⟩))
        go_ret2
        exact zbS HB.out hbw2
      ·have hg1: ¬m<v:=by omega
       have hg2: ¬(m - v)/10<A:=by omega
       go_wp2_with (first|(go_at_call 100;refine (zcU _ _).mono ?_;rintro e w' ⟨rfl,rfl⟩)|(go_at_call 129;refine (zdJ _ _).mono ?_;rintro e w' ⟨rfl,rfl⟩))
       go_roundw
       case rel=>exact ⟨k+1,A*10+v,rfl,by omega,by omega,by omega,hit2,hbw2,hsz2,(by show _=_;rw [HSN.out,HVV.out]),HF,fun _=>by omega⟩
       case measure=>
        simp only [World.iterPos,hit2,HIT.out]
        omega
    ·have hh:=decode_high s k hp (by omega)
     obtain ⟨r,hr⟩: ∃r,(Utf8.decode s k).1=r:=⟨_,rfl⟩
     obtain ⟨wd,hwd⟩: ∃r,(Utf8.decode s k).2=r:=⟨_,rfl⟩
     have hrl:=decode_le s k
     rw [hr,hwd] at hnx
     rw [hr,hwd] at hh
     rw [hr] at hrl
     have hbw2:=Lib.below_iterAt hbw (k:=w.heap.size) (Nat.le_refl _) s (k+wd)
     generalize wr.iterAt w.heap.size s (k+wd)=wi at*
     have hv:zaP (r:Int)=false:=zgU _ (by omega)
     have HF:=zwV (HNO.out (zdY 10 s k hp (by rw [zjP];exact zgU _ (by omega))))
     clear hc hr hwd
     go_wp2_with (go_at_call 100;refine (zcU _ _).mono ?_;rintro e w' ⟨rfl,rfl⟩)
     go_ret2
     exact zbS HF.out hbw2
   ·have hnx: ∀ty,(Instr.next (.pointer (some ⟨w.heap.size,0,none⟩)) true ty).run Tryz.prog wr=_:=fun ty=>Lib.run_next_end_at wr w.heap.size s k ty hit hp
    have hdt:=HDG.out
    rw [zcP s k hp] at hdt
    have hat:=HA.out
    rw [zcP s k hp] at hat
    have HF:=zwV (HYES.out hdt (by rw [←hat];exact HK.out (by omega)))
    have HAT:=zwV hat
    clear hdt hat
    go_wp2
    go_ret2
    exact zbS (by rw [HF.out,HAT.out]) hbw
theorem zgW (s:ByteArray) (m:Int) (w:World) (hs:s.size≤1073741824) (hm:m≤9223372036854775807) (hm0: -9223372036854775808≤m):
  Calls Tryz.prog 245 #[.string s,.int .i64 m] w (zkQ w (decZ s.data.toList m)):=by
 by_cases hn:s.size=0
 ·obtain rfl:=zcD s hn
  have HF:=zwV (zfK (ByteArray.mk #[]).data.toList m (.inl rfl))
  clear hn hs
  go_enter Tryz.func245,Tryz.ntmps245
  go_wp2
  go_ret2
  exact zbS HF.out (zwY _ _)
 ·by_cases hz:1<s.size∧s[0].toNat=48
  ·obtain ⟨h1,h0⟩:=hz
   have HF:=zwV (zfK s.data.toList m (.inr ⟨by rw [zaM];exact h1,by rw [zfN s (by omega)];exact h0⟩))
   have hse:=zdH s hn
   have l0:0<s.size:=by omega
   go_enter Tryz.func245,Tryz.ntmps245
   go_wp2
   go_ret2
   exact zbS HF.out (zwY _ _)
  ·exact zkC s m w hs hm hm0 (by omega) hz
theorem zhP (s:ByteArray) (m:Int) (w:World) (hs:s.size≤1073741824) (hm:m≤9223372036854775807) (hm0: -9223372036854775808≤m) (hn:1≤s.size) (hz: ¬(1<s.size∧s[0].toNat=48)) (hd:zbJ 10 s.data.toList=true):
  Calls Tryz.prog 226 #[.string s,.int .i64 m] w (zkQ w (decZ s.data.toList m)):=by
 have HBIG:=zwV (znL s.data.toList m)
 have HYES:=zwV (znN s.data.toList m (zdS s (by omega)) (by rw [zaM,zfN s (by omega)];exact hz) hd)
 have HD:=zwV hd
 have l0:0<s.size:=by omega
 have hnb:((s.size:Int)==0)=false:=beq_eq_false_iff_ne.2 (by omega)
 obtain ⟨a,ha⟩: ∃a,s[0].toNat=a:=⟨_,rfl⟩
 rw [ha] at hz
 rcases (show s.size≤1∨(1<s.size∧((a:Int)==48)=false) from by
   by_cases h1:1<s.size
   ·exact .inr ⟨h1,beq_eq_false_iff_ne.2 (fun e=>hz ⟨h1,by omega⟩)⟩
   ·exact .inl (by omega)) with h1|⟨h1,hb1⟩
 all_goals
  clear hz hd
  go_enter Tryz.func226,Tryz.ntmps226
  go_wp2_with fail
  refine (zeD s 10 _ hs).mono ?_
  rw [HD.out]
  rintro e w' ⟨rfl,rfl⟩
  go_wp2
  go_loop [6,7] (fun n i=> ∃(k:Nat) (A:Int),k≤s.size∧i= .int .i64 k∧n= .int .i64 A∧0≤A∧A≤9223372036854775807∧Hid (A=decN (s.data.toList.take k))) (fun _ i=>s.size - (intOf i).toNat)
  case atStart=>exact ⟨0,0,Nat.zero_le _,rfl,rfl,by omega,by omega,rfl⟩
  case round=>
   obtain ⟨k,A,hk,rfl,rfl,hA0,hA1,HA⟩:=hrel
   by_cases hp:k<s.size
   ·obtain ⟨c,hc⟩: ∃c,(s[k]'hp).toNat=c:=⟨_,rfl⟩
    have hdk:=zwP 10 s k hp HD.out
    have hdg:zaP (c:Int)=true:=by rw [ziV,←hc];exact zwX hdk
    obtain ⟨hc1,hc2⟩:=zgQ hdg
    have hv:valZ (c:Int)=(c:Int) - 48:=zgA hc1 hc2
    have hsn:=zkT s k hp
    rw [←HA.out,hc,hv] at hsn
    have HSN:=zwV hsn
    clear hsn hdk hdg hv
    by_cases hg:(9223372036854775807 - ((c:Int) - 48))/10<A
    ·have HB:=zwV (HBIG.out (k+1) (by rw [HSN.out];omega))
     go_wp2
     go_ret2
     exact zbS HB.out (zwY _ _)
    ·go_wp2
     go_round
     case rel=>exact ⟨k+1,10*A+((c:Int) - 48),by omega,by go_num,rfl,by omega,by omega,(by show _=_;rw [HSN.out];omega)⟩
     case measure=>simp [intOf];omega
   ·have hat:=HA.out
    rw [zcP s k hp] at hat
    by_cases hg:m<A
    ·have HB:=zwV (HBIG.out k (by rw [←HA.out];exact hg))
     go_wp2
     go_ret2
     exact zbS HB.out (zwY _ _)
    ·have HF:=zwV (HYES.out (by rw [←hat];omega))
     have HAT:=zwV hat
     clear hat
     go_wp2
     go_ret2
     exact zbS (by rw [HF.out,HAT.out]) (zwY _ _)
theorem zeZ (s:ByteArray) (m:Int) (w:World) (hs:s.size≤1073741824) (hm:m≤9223372036854775807) (hm0: -9223372036854775808≤m):
  Calls Tryz.prog 226 #[.string s,.int .i64 m] w (zkQ w (decZ s.data.toList m)):=by
 by_cases hn:s.size=0
 ·obtain rfl:=zcD s hn
  have HF:=zwV (zfK (ByteArray.mk #[]).data.toList m (.inl rfl))
  clear hn hs
  go_enter Tryz.func226,Tryz.ntmps226
  go_wp2
  go_ret2
  exact zbS HF.out (zwY _ _)
 ·have hnb:((s.size:Int)==0)=false:=beq_eq_false_iff_ne.2 (by omega)
  cases hd:zbJ 10 s.data.toList with
  |false=>
   have HF:=zwV (zjK s.data.toList m hd)
   have HD:=zwV hd
   clear hd
   go_enter Tryz.func226,Tryz.ntmps226
   go_wp2_with fail
   refine (zeD s 10 _ hs).mono ?_
   rw [HD.out]
   rintro e w' ⟨rfl,rfl⟩
   go_wp2
   go_ret2
   exact zbS HF.out (zwY _ _)
  |true=>
   by_cases hz:1<s.size∧s[0].toNat=48
   ·obtain ⟨h1,h0⟩:=hz
    have HF:=zwV (zfK s.data.toList m (.inr ⟨by rw [zaM];exact h1,by rw [zfN s (by omega)];exact h0⟩))
    have l0:0<s.size:=by omega
    have HD:=zwV hd
    clear hd
    go_enter Tryz.func226,Tryz.ntmps226
    go_wp2_with fail
    refine (zeD s 10 _ hs).mono ?_
    rw [HD.out]
    rintro e w' ⟨rfl,rfl⟩
    go_wp2
    go_ret2
    exact zbS HF.out (zwY _ _)
   ·exact zhP s m w hs hm hm0 (by omega) hz hd
def zbH (w:World) (b:Bool) (e:Ending) (w':World):Prop:=e= .returned (.bool b)∧Below w.heap.size w w'
theorem zaF {w w':World} {x b:Bool} (h:x=b) (hb:Below w.heap.size w w'):zbH w x (.returned (.bool b)) w':=by
 subst h;exact ⟨rfl,hb⟩
def zbU (l:List UInt8):List (List UInt8):=zcI (hasB [46]) l
theorem zuY (p:UInt8→Bool) (l:List UInt8): ∀st:List (List UInt8)×List UInt8,(∀x∈(l.foldl (zbT p) st).1,x∈st.1∨x.length≤st.2.length+l.length)∧(l.foldl (zbT p) st).2.length≤st.2.length+l.length:=by
 induction l with
 |nil=>intro st;exact ⟨fun x hx=> .inl hx,by simp⟩
 |cons c l ih=>
  intro st
  simp only [List.foldl_cons,List.length_cons]
  have h:=ih (zbT p st c)
  by_cases hp:p c=true
  ·have e:zbT p st c=(st.1++[st.2],[]):=by simp [zbT,hp]
   rw [e] at h ⊢
   refine ⟨fun x hx=> ?_,by have:=h.2;simp at this;omega⟩
   rcases h.1 x hx with h1|h1
   ·simp at h1
    rcases h1 with h1|h1
    ·exact .inl h1
    ·subst h1;exact .inr (by omega)
   ·simp at h1;exact .inr (by omega)
  ·have e:zbT p st c=(st.1,st.2++[c]):=by simp [zbT,hp]
   rw [e] at h ⊢
   refine ⟨fun x hx=> ?_,by have:=h.2;simp at this;omega⟩
   rcases h.1 x hx with h1|h1
   ·exact .inl h1
   ·simp at h1;exact .inr (by omega)
theorem ztC (p:UInt8→Bool) (l x:List UInt8) (h:x∈zcI p l):x.length≤l.length:=by
 have k:=zuY p l ([],[])
 unfold zcI at h
 rcases List.mem_append.1 h with h|h
 ·rcases k.1 x h with h|h
  ·simp at h
  ·simpa using h
 ·simp at h
  subst h
  exact Nat.le_trans k.2 (by simp)
theorem zgN (p:UInt8→Bool) (l:List UInt8) (j:Nat):((zcI p l).getD j []).length≤l.length:=by
 by_cases h:j<(zcI p l).length
 ·refine ztC p l _ ?_
  rw [List.getD,List.getElem?_eq_getElem h]
  exact List.getElem_mem h
 ·rw [List.getD,List.getElem?_eq_none (by omega)]
  simp
end
end
end Go.Proofs.YtmjappnpedjlnaaGreatDoor
