/-
  What the law AbnfReads leans on, and its walk (2 of 27).
-/
import Derived.IntWalk
import Derived.StillTailTactics
import Derived.Deep.RegionHeld3
import Derived.Deep.AppendLies
import Derived.Test.YtmjappnpedjlnaaGreatDoorAbnfReadsPkA
namespace Go.Proofs.YtmjappnpedjlnaaGreatDoor
set_option maxRecDepth 100000
set_option maxHeartbeats 16000000
abbrev zwA := @Lib.hid
abbrev zwB := @decide_eq_false
abbrev zwC := @decide_eq_true
abbrev zwD := @Go.RowKit.Below.refl
section
section
open Go.RowKit
def zhD:List UInt8→Option UInt8
 |c::a::b::_=>if c.toNat=37∧0≤valZ (a.toNat:Int)∧0≤valZ (b.toNat:Int) then some (UInt8.ofNat ((valZ (a.toNat:Int)*16+valZ (b.toNat:Int)).toNat)) else none
 |_=>none
theorem zcH (s:ByteArray) (k:Nat) (h:k<s.size):s.data.toList.drop k=s[k]::s.data.toList.drop (k+1):=by
 rw [List.drop_eq_getElem_cons (by simpa using h)]
 rfl
theorem zcW (s:ByteArray) (k:Nat) (h: ¬k<s.size):s.data.toList.drop k=[]:=List.drop_eq_nil_of_le (by simpa using h)
theorem zoJ (s:ByteArray) (k:Nat) (hk:k+2<s.size) (h37:s[k].toNat=37) (h1:0≤valZ (s[k+1].toNat:Int)) (h2:0≤valZ (s[k+2].toNat:Int)):
  zhD (s.data.toList.drop k)=some (UInt8.ofNat ((valZ (s[k+1].toNat:Int)*16+valZ (s[k+2].toNat:Int)).toNat)):=by
 rw [zcH s k (by omega),zcH s (k+1) (by omega),zcH s (k+2) (by omega)]
 simp only [zhD]
 rw [if_pos ⟨h37,h1,h2⟩]
theorem zhP (s:ByteArray) (k:Nat) (hk:k+2<s.size) (h:s[k].toNat≠37∨valZ (s[k+1].toNat:Int)<0∨valZ (s[k+2].toNat:Int)<0):
  zhD (s.data.toList.drop k)=none:=by
 rw [zcH s k (by omega),zcH s (k+1) (by omega),zcH s (k+2) (by omega)]
 simp only [zhD]
 rw [if_neg (by omega)]
theorem zlQ (s:ByteArray) (k:Nat) (hk:s.size≤k+2):zhD (s.data.toList.drop k)=none:=by
 by_cases h0:k<s.size
 ·rw [zcH s k h0]
  by_cases h1:k+1<s.size
  ·rw [zcH s (k+1) h1,zcW s (k+2) (by omega)]
   rfl
  ·rw [zcW s (k+1) h1]
   rfl
 ·rw [zcW s k h0]
  rfl
theorem zoF (s:ByteArray) (k:Nat) (w:World) (hs:s.size≤1073741824) (hk:k<s.size):
  Calls Tryz.prog 55 #[.string s,.int .i64 k] w fun e w'=>e= .returned (.bool (zhD (s.data.toList.drop k)).isSome)∧w=w':=by
 obtain ⟨c0,hc0⟩: ∃c,s[k].toNat=c:=⟨_,rfl⟩
 by_cases h2:k+2<s.size
 ·obtain ⟨c1,hc1⟩: ∃c,s[k+1].toNat=c:=⟨_,rfl⟩
  obtain ⟨c2,hc2⟩: ∃c,s[k+2].toNat=c:=⟨_,rfl⟩
  have l1:c1<256:=by rw [←hc1];exact s[k+1].toNat_lt
  have l2:c2<256:=by rw [←hc2];exact s[k+2].toNat_lt
  by_cases h37:c0=37
  ·subst h37
   obtain ⟨v1,hv1⟩: ∃v,valZ (c1:Int)=v:=⟨_,rfl⟩
   obtain ⟨v2,hv2⟩: ∃v,valZ (c2:Int)=v:=⟨_,rfl⟩
   by_cases b5:0≤v1
   ·by_cases b6:0≤v2
    ·have HT:=zwA (congrArg Option.isSome (zoJ s k h2 hc0 (by rw [hc1,hv1];exact b5) (by rw [hc2,hv2];exact b6)))
     go_enter Tryz.func55,Tryz.ntmps55
     go_wp2_with (go_at_call 108;refine (zbK _ _).mono ?_;rintro e w' ⟨rfl,rfl⟩)
     go_ret
     exact ⟨zaA (by rw [HT.out];simp [*]),rfl⟩
    ·have HT:=zwA (congrArg Option.isSome (zhP s k h2 (by rw [hc1,hc2,hv1,hv2];omega)))
     go_enter Tryz.func55,Tryz.ntmps55
     go_wp2_with (go_at_call 108;refine (zbK _ _).mono ?_;rintro e w' ⟨rfl,rfl⟩)
     go_ret
     exact ⟨zaA (by rw [HT.out];simp [*];try omega),rfl⟩
   ·have HT:=zwA (congrArg Option.isSome (zhP s k h2 (by rw [hc1,hc2,hv1,hv2];omega)))
    go_enter Tryz.func55,Tryz.ntmps55
    go_wp2_with (go_at_call 108;refine (zbK _ _).mono ?_;rintro e w' ⟨rfl,rfl⟩)
    all_goals
     go_ret
     exact ⟨zaA (by rw [HT.out];simp [*];try omega),rfl⟩
  ·have HT:=zwA (congrArg Option.isSome (zhP s k h2 (.inl (by rw [hc0];exact h37))))
   have hb:((c0:Int)==37)=false:=beq_eq_false_iff_ne.2 (by omega)
   go_enter Tryz.func55,Tryz.ntmps55
   go_wp2
   go_ret
   exact ⟨zaA (by rw [HT.out];first|rfl|(simp [*];done)),rfl⟩
 ·have HT:=zwA (congrArg Option.isSome (zlQ s k (by omega)))
  go_enter Tryz.func55,Tryz.ntmps55
  go_wp2
  go_ret
  exact ⟨zaA (by rw [HT.out];first|rfl|(simp;omega)),rfl⟩
def digC (b:Int) (c:UInt8):Bool:=decide (0≤valZ (c.toNat:Int)∧valZ (c.toNat:Int)<b)
def zbF (b:Int) (l:List UInt8):Bool:=l.all (digC b)
theorem znZ (b:Int) (s:ByteArray) (k:Nat) (h:k<s.size):zbF b (s.data.toList.take (k+1))=(zbF b (s.data.toList.take k)&&digC b s[k]):=by
 rw [zdL s k h];simp [zbF]
theorem zhH {b:Int} {c:UInt8} {v:Int} (hv:valZ (c.toNat:Int)=v) (h0:0≤v) (h1:v<b):digC b c=true:=zwC (by rw [hv];exact ⟨h0,h1⟩)
theorem zdN {b:Int} {c:UInt8} {v:Int} (hv:valZ (c.toNat:Int)=v) (h:v<0∨b≤v):digC b c=false:=zwB (by rw [hv];omega)
theorem zdZ (b:Int) (s:ByteArray) (k:Nat) (h:k<s.size) (hc:digC b s[k]=false):zbF b s.data.toList=false:=by
 unfold zbF
 rw [List.all_eq_false]
 refine ⟨s[k],?_,by rw [hc];simp⟩
 show s.data[k]∈_
 simp
theorem zgI (b:Int) (s:ByteArray) (k:Nat) (h:k<s.size) (hp:zbF b (s.data.toList.take k)=true) (hc:digC b s[k]=true):zbF b (s.data.toList.take (k+1))=true:=by
 rw [znZ b s k h,hp,hc];rfl
theorem zkU (r:Int) (h:128≤r):valZ r= -1:=by
 unfold valZ;(repeat' split)<;>omega
theorem zmD (r:Int):valZ r<16:=by
 unfold valZ;(repeat' split)<;>omega
theorem znT (s:ByteArray) (a:Nat):s.extract a s.size=⟨(s.data.toList.drop a).toArray⟩:=
 zdR s a s.size _ (List.take_of_length_le (by simp))
theorem zdU (s:ByteArray) (b:Int) (w:World) (hs:s.size≤1073741824):
  Calls Tryz.prog 186 #[.string s,.int .i64 b] w fun e w'=>e= .returned (.bool (zbF b s.data.toList))∧w=w':=by
 go_enter Tryz.func186,Tryz.ntmps186
 go_wp2
 go_loop [5] (fun i=> ∃k:Nat,k≤s.size∧i= .int .i64 k∧Hid (zbF b (s.data.toList.take k)=true)) (fun i=>s.size - (intOf i).toNat)
 case atStart=>exact ⟨0,Nat.zero_le _,rfl,rfl⟩
 case round=>
  obtain ⟨k,hk,rfl,H⟩:=hrel
  by_cases hlt:k<s.size
  ·obtain ⟨c,hc⟩: ∃c,(s[k]'hlt).toNat=c:=⟨_,rfl⟩
   have hc256:c<256:=by rw [←hc];exact (s[k]'hlt).toNat_lt
   obtain ⟨v,hv⟩: ∃v,valZ (c:Int)=v:=⟨_,rfl⟩
   have HV:Hid (valZ (s[k].toNat:Int)=v):=by show valZ (s[k].toNat:Int)=v;rw [hc];exact hv
   by_cases h0:v<0
   ·have HF:=zwA (zdZ b s k hlt (zdN HV.out (.inl h0)))
    go_wp2_with (go_at_call 108;refine (zbK _ _).mono ?_;rintro e w' ⟨rfl,rfl⟩)
    go_ret
    exact ⟨zaA HF.out.symm,rfl⟩
   ·by_cases h1:b≤v
    ·have HF:=zwA (zdZ b s k hlt (zdN HV.out (.inr h1)))
     go_wp2_with (go_at_call 108;refine (zbK _ _).mono ?_;rintro e w' ⟨rfl,rfl⟩)
     go_ret
     exact ⟨zaA HF.out.symm,rfl⟩
    ·have HF:=zwA (zgI b s k hlt H.out (zhH HV.out (by omega) (by omega)))
     go_wp2_with (go_at_call 108;refine (zbK _ _).mono ?_;rintro e w' ⟨rfl,rfl⟩)
     go_round
     case rel=>exact ⟨k+1,by omega,by go_num,HF⟩
     case measure=>simp [intOf];omega
  ·have HF:Hid (zbF b s.data.toList=true):=by
    show zbF b s.data.toList=true
    have:=H.out
    rwa [zcL s k hlt] at this
   go_wp2
   go_ret
   exact ⟨zaA HF.out.symm,rfl⟩
theorem zvK (b:Int) (s:ByteArray) (k:Nat) (h:k<s.size) (hd:zbF b s.data.toList=true):0≤valZ (s[k].toNat:Int)∧valZ (s[k].toNat:Int)<b:=by
 unfold zbF at hd
 rw [List.all_eq_true] at hd
 have:=hd s[k] (by show s.data[k]∈_;simp)
 exact of_decide_eq_true this
theorem zlY (s:ByteArray) (h:s.size=0):s.data.toList=[]:=List.length_eq_zero_iff.1 (by rw [zaM];exact h)
theorem zdP (s:ByteArray) (h:s.size≠0):s.data.toList≠[]:=fun e=>h (by rw [←zaM,e];rfl)
theorem zaH (l:List UInt8):(ByteArray.mk l.toArray).data.toList=l:=by simp
theorem zcC (s:ByteArray) (h:s.size=0):s=⟨#[]⟩:=by
 apply ByteArray.ext
 apply Array.ext'
 exact zlY s h
theorem zdB (s:ByteArray) (h:s.size≠0):s.toList.isEmpty=false:=by
 rw [ByteArray.toList_eq]
 cases hd:s.data.toList with
 |nil=>exact absurd hd (zdP s h)
 |cons a l=>rfl
def decN (l:List UInt8):Int:=l.foldl (fun n c=>n*10+valZ (c.toNat:Int)) 0
def decZ (l:List UInt8) (m:Int):Int×Bool:=
 if (l.isEmpty||(decide (1<l.length)&&decide ((l.getD 0 0).toNat=48))|| !zbF 10 l)=true then (0,false) else if m<decN l then (0,false) else (decN l,true)
theorem zjJ (s:ByteArray) (k:Nat) (h:k<s.size):decN (s.data.toList.take (k+1))=decN (s.data.toList.take k)*10+valZ (s[k].toNat:Int):=by
 rw [zdL s k h];simp [decN]
theorem zjO (l:List UInt8): ∀a:Int,0≤a→zbF 10 l=true→a≤l.foldl (fun n c=>n*10+valZ (c.toNat:Int)) a:=by
 induction l with
 |nil=>intro a _ _;exact Int.le_refl _
 |cons c l ih=>
  intro a ha hd
  have h1:digC 10 c=true∧zbF 10 l=true:=by simpa [zbF] using hd
  have h2:=of_decide_eq_true h1.1
  have:=ih (a*10+valZ (c.toNat:Int)) (by omega) h1.2
  exact Int.le_trans (by omega) this
theorem zhI (l:List UInt8) (hd:zbF 10 l=true):0≤decN l:=zjO l 0 (Int.le_refl _) hd
theorem znU (b:Int) (l:List UInt8) (k:Nat):zbF b l=(zbF b (l.take k)&&zbF b (l.drop k)):=by
 unfold zbF
 rw [←List.all_append,List.take_append_drop]
theorem zgB (l:List UInt8) (k:Nat) (hd:zbF 10 l=true):decN (l.take k)≤decN l:=by
 have h:=znU 10 l k
 rw [hd] at h
 have h2:zbF 10 (l.take k)=true∧zbF 10 (l.drop k)=true:=by simpa using h.symm
 have e:decN l=(l.drop k).foldl (fun n c=>n*10+valZ (c.toNat:Int)) (decN (l.take k)):=by
  unfold decN
  rw [←List.foldl_append,List.take_append_drop]
 rw [e]
 exact zjO _ _ (zhI _ h2.1) h2.2
theorem zfD (l:List UInt8) (m:Int) (h:l=[]∨(1<l.length∧(l.getD 0 0).toNat=48)):decZ l m=(0,false):=by
 unfold decZ
 rw [if_pos]
 rcases h with rfl|⟨h1,h2⟩
 ·rfl
 ·rw [zwC h1,zwC h2];simp
theorem zjC (l:List UInt8) (m:Int) (h:zbF 10 l=false):decZ l m=(0,false):=by
 unfold decZ
 rw [if_pos (by rw [h];simp)]
theorem zmS (l:List UInt8) (m:Int) (k:Nat) (h:m<decN (l.take k)):decZ l m=(0,false):=by
 by_cases hd:zbF 10 l=true
 ·unfold decZ
  split
  ·rfl
  ·rw [if_pos]
   have:=zgB l k hd
   omega
 ·exact zjC l m (by simpa using hd)
theorem zmZ (l:List UInt8) (m:Int) (h0:l≠[]) (h1: ¬(1<l.length∧(l.getD 0 0).toNat=48)) (hd:zbF 10 l=true) (hm:decN l≤m):decZ l m=(decN l,true):=by
 unfold decZ
 rw [if_neg,if_neg (by omega)]
 rw [hd]
 cases l with
 |nil=>exact absurd rfl h0
 |cons a r=>
  by_cases e1:1<(a::r).length
  ·rw [zwC e1,zwB (fun e=>h1 ⟨e1,e⟩)];simp
  ·rw [zwB e1];simp
theorem zfK (s:ByteArray) (h:0<s.size):(s.data.toList.getD 0 0).toNat=s[0].toNat:=by
 rw [List.getD,zcX s 0 h];rfl
theorem zhY (r:Int):zaQ r=decide (0≤valZ r∧valZ r<10):=by
 unfold zaQ valZ
 by_cases h:48≤r∧r≤57
 ·rw [if_pos h,zwC h,zwC (by omega)]
 ·rw [if_neg h,zwB h]
  refine (zwB ?_).symm
  repeat' split
  all_goals omega
theorem ziT (c:UInt8):digC 10 c=zaQ (c.toNat:Int):=(zhY _).symm
theorem zhL {r:Int} (h:zaQ r=true):48≤r∧r≤57:=of_decide_eq_true h
theorem zfS {r:Int} (h1:48≤r) (h2:r≤57):valZ r=r - 48:=if_pos ⟨h1,h2⟩
theorem zgT (r:Int) (h:128≤r):zaQ r=false:=zwB (by omega)
def zjX (w:World) (x:Int×Bool) (e:Ending) (w':World):Prop:=e= .returned (.tuple #[.int .i64 x.1,.bool x.2])∧Below w.heap.size w w'
theorem zbQ {w w':World} {x:Int×Bool} {n:Int} {b:Bool} (h:x=(n,b)) (hb:Below w.heap.size w w'):zjX w x (.returned (.tuple #[.int .i64 n,.bool b])) w':=by
 subst h;exact ⟨rfl,hb⟩
theorem zjN (s:ByteArray) (m:Int) (w:World) (hs:s.size≤1073741824) (hm:m≤9223372036854775807) (hm0: -9223372036854775808≤m) (hn:1≤s.size) (hz: ¬(1<s.size∧s[0].toNat=48)):
  Calls Tryz.prog 245 #[.string s,.int .i64 m] w (zjX w (decZ s.data.toList m)):=by
 have HNO:=zwA (zjC s.data.toList m)
 have HBIG:=zwA (zmS s.data.toList m)
 have HYES:=zwA (zmZ s.data.toList m (zdP s (by omega)) (by rw [zaM,zfK s (by omega)];exact hz))
 have hse:=zdB s (by omega)
 have l0:0<s.size:=by omega
 obtain ⟨a,ha⟩: ∃a,s[0].toNat=a:=⟨_,rfl⟩
 rw [ha] at hz
 rcases (show s.size≤1∨(1<s.size∧((a:Int)==48)=false) from by
   by_cases h1:1<s.size
   ·exact .inr ⟨h1,beq_eq_false_iff_ne.2 (fun e=>hz ⟨h1,by omega⟩)⟩
   ·exact .inl (by omega)) with h1|⟨h1,hb1⟩
 all_goals
  clear hz
  go_enter Tryz.func245,Tryz.ntmps245
  go_wp2
  go_loopw [6] (fun n wr=> ∃(k:Nat) (A:Int),n= .int .i64 A∧0≤A∧(A=0∨A≤m)∧k≤s.size∧wr.heap[w.heap.size]? =some (.stringIter s k)∧Below w.heap.size w wr∧w.heap.size+1≤wr.heap.size∧Hid (A=decN (s.data.toList.take k))∧Hid (zbF 10 (s.data.toList.take k)=true)∧Hid (1≤k→A≤m)) (fun _ wr=>s.size - wr.iterPos w.heap.size)
  case atStart=>exact ⟨0,0,rfl,by omega,.inl rfl,Nat.zero_le _,World.iter_heap w s 0,(zwD _ w).alloc (Nat.le_refl _) _,by simp [World.iter],rfl,rfl,fun h=>absurd h (by omega)⟩
  case round=>
   obtain ⟨k,A,rfl,hA0,hA1,hk,hit,hbw,hsz,HA,HDG,HK⟩:=hrel
   have hA2:A≤9223372036854775807:=by omega
   clear hA1
   by_cases hp:k<s.size
   ·obtain ⟨c,hc⟩: ∃c,(s[k]'hp).toNat=c:=⟨_,rfl⟩
    have hnx: ∀ty,(Instr.next (.pointer (some ⟨w.heap.size,0,none⟩)) true ty).run Tryz.prog wr=_:=fun ty=>Lib.run_next_any_at wr w.heap.size s k ty hit hp
    by_cases hc128:c<128
    ·have hdec:=decode_ascii s k hp (by omega)
     rw [hc] at hdec
     rw [hdec] at hnx
     have hit2:=Lib.iterAt_heap wr w.heap.size s k (k+1) hit
     have hbw2:=Lib.below_iterAt hbw (k:=w.heap.size) (Nat.le_refl _) s (k+1)
     have hsz2:w.heap.size+1≤(wr.iterAt w.heap.size s (k+1)).heap.size:=by rw [Lib.iterAt_size];exact hsz
     simp only at hnx
     generalize wr.iterAt w.heap.size s (k+1)=wi at*
     have HIT:=zwA hit
     have HC:=zwA hc
     clear hit hc hdec
     cases hdg:zaQ (c:Int) with
     |false=>
      have HF:=zwA (HNO.out (zdZ 10 s k hp (by rw [ziT,HC.out];exact hdg)))
      go_wp2_with (go_at_call 100;refine (zcT _ _).mono ?_;rintro e w' ⟨rfl,rfl⟩)
      go_ret2
      exact zbQ HF.out hbw2
     |true=>
      obtain ⟨hc1,hc2⟩:=zhL hdg
      have hv:valZ (c:Int)=(c:Int) - 48:=zfS hc1 hc2
      have HF:=zwA (zgI 10 s k hp HDG.out (by rw [ziT,HC.out];exact hdg))
      have hsn:=zjJ s k hp
      rw [←HA.out,HC.out,hv] at hsn
      have HSN:=zwA hsn
      clear hsn
      obtain ⟨v,hvv⟩: ∃v:Int,(c:Int) - 48=v:=⟨_,rfl⟩
      have hv0:0≤v:=by omega
      have hv9:v≤9:=by omega
      rw [hvv] at hv
      have HVV:=zwA hvv
      clear hvv
      by_cases hg:m<A*10+v
      ·have HB:=zwA (HBIG.out (k+1) (by rw [HSN.out,HVV.out];exact hg))
       by_cases hg1:m<v
       ·go_wp2_with (first|(go_at_call 100;refine (zcT _ _).mono ?_;rintro e w' ⟨rfl,rfl⟩)|(go_at_call 129;refine (zdC _ _).mono ?_;rintro e w' ⟨rfl,rfl⟩))
        go_ret2
        exact zbQ HB.out hbw2
       ·have hg2:(m - v)/10<A:=by omega
        go_wp2_with (first|(go_at_call 100;refine (zcT _ _).mono ?_;rintro e w' ⟨rfl,rfl⟩)|(go_at_call 129;refine (zdC _ _).mono ?_;rintro e w' ⟨rfl,rfl⟩))
        go_ret2
        exact zbQ HB.out hbw2
      ·have hg1: ¬m<v:=by omega
       have hg2: ¬(m - v)/10<A:=by omega
       go_wp2_with (first|(go_at_call 100;refine (zcT _ _).mono ?_;rintro e w' ⟨rfl,rfl⟩)|(go_at_call 129;refine (zdC _ _).mono ?_;rintro e w' ⟨rfl,rfl⟩))
       go_roundw
       case rel=>exact ⟨k+1,A*10+v,rfl,by omega,by omega,by omega,hit2,hbw2,hsz2,(by show _=_;rw [HSN.out,HVV.out]),HF,fun _=>by omega⟩
       case measure=>
        simp only [World.iterPos,hit2,HIT.out]
        omega
    ·have hh:=decode_high s k hp (by omega)
     obtain ⟨r,hr⟩: ∃r,(Utf8.decode s k).1=r:=⟨_,rfl⟩
     obtain ⟨wd,hwd⟩: ∃r,(Utf8.decode s k).2=r:=⟨_,rfl⟩
     have hrl:=decode_le s k
     rw [hr,hwd] at hnx
     rw [hr,hwd] at hh
     rw [hr] at hrl
     have hbw2:=Lib.below_iterAt hbw (k:=w.heap.size) (Nat.le_refl _) s (k+wd)
     generalize wr.iterAt w.heap.size s (k+wd)=wi at*
     have hv:zaQ (r:Int)=false:=zgT _ (by omega)
     have HF:=zwA (HNO.out (zdZ 10 s k hp (by rw [ziT];exact zgT _ (by omega))))
     clear hc hr hwd
     go_wp2_with (go_at_call 100;refine (zcT _ _).mono ?_;rintro e w' ⟨rfl,rfl⟩)
     go_ret2
     exact zbQ HF.out hbw2
   ·have hnx: ∀ty,(Instr.next (.pointer (some ⟨w.heap.size,0,none⟩)) true ty).run Tryz.prog wr=_:=fun ty=>Lib.run_next_end_at wr w.heap.size s k ty hit hp
    have hdt:=HDG.out
    rw [zcL s k hp] at hdt
    have hat:=HA.out
    rw [zcL s k hp] at hat
    have HF:=zwA (HYES.out hdt (by rw [←hat];exact HK.out (by omega)))
    have HAT:=zwA hat
    clear hdt hat
    go_wp2
    go_ret2
    exact zbQ (by rw [HF.out,HAT.out]) hbw
theorem zhN (s:ByteArray) (m:Int) (w:World) (hs:s.size≤1073741824) (hm:m≤9223372036854775807) (hm0: -9223372036854775808≤m):
  Calls Tryz.prog 245 #[.string s,.int .i64 m] w (zjX w (decZ s.data.toList m)):=by
 by_cases hn:s.size=0
 ·obtain rfl:=zcC s hn
  have HF:=zwA (zfD (ByteArray.mk #[]).data.toList m (.inl rfl))
  clear hn hs
  go_enter Tryz.func245,Tryz.ntmps245
  go_wp2
  go_ret2
  exact zbQ HF.out (zwD _ _)
 ·by_cases hz:1<s.size∧s[0].toNat=48
  ·obtain ⟨h1,h0⟩:=hz
   have HF:=zwA (zfD s.data.toList m (.inr ⟨by rw [zaM];exact h1,by rw [zfK s (by omega)];exact h0⟩))
   have hse:=zdB s hn
   have l0:0<s.size:=by omega
   go_enter Tryz.func245,Tryz.ntmps245
   go_wp2
   go_ret2
   exact zbQ HF.out (zwD _ _)
  ·exact zjN s m w hs hm hm0 (by omega) hz
theorem zhJ (s:ByteArray) (m:Int) (w:World) (hs:s.size≤1073741824) (hm:m≤9223372036854775807) (hm0: -9223372036854775808≤m) (hn:1≤s.size) (hz: ¬(1<s.size∧s[0].toNat=48)) (hd:zbF 10 s.data.toList=true):
  Calls Tryz.prog 226 #[.string s,.int .i64 m] w (zjX w (decZ s.data.toList m)):=by
 have HBIG:=zwA (zmS s.data.toList m)
 have HYES:=zwA (zmZ s.data.toList m (zdP s (by omega)) (by rw [zaM,zfK s (by omega)];exact hz) hd)
 have HD:=zwA hd
 have l0:0<s.size:=by omega
 have hnb:((s.size:Int)==0)=false:=beq_eq_false_iff_ne.2 (by omega)
 obtain ⟨a,ha⟩: ∃a,s[0].toNat=a:=⟨_,rfl⟩
 rw [ha] at hz
 rcases (show s.size≤1∨(1<s.size∧((a:Int)==48)=false) from by
   by_cases h1:1<s.size
   ·exact .inr ⟨h1,beq_eq_false_iff_ne.2 (fun e=>hz ⟨h1,by omega⟩)⟩
   ·exact .inl (by omega)) with h1|⟨h1,hb1⟩
 all_goals
  clear hz hd
  go_enter Tryz.func226,Tryz.ntmps226
  go_wp2_with fail
  refine (zdU s 10 _ hs).mono ?_
  rw [HD.out]
  rintro e w' ⟨rfl,rfl⟩
  go_wp2
  go_loop [6,7] (fun n i=> ∃(k:Nat) (A:Int),k≤s.size∧i= .int .i64 k∧n= .int .i64 A∧0≤A∧A≤9223372036854775807∧Hid (A=decN (s.data.toList.take k))) (fun _ i=>s.size - (intOf i).toNat)
  case atStart=>exact ⟨0,0,Nat.zero_le _,rfl,rfl,by omega,by omega,rfl⟩
  case round=>
   obtain ⟨k,A,hk,rfl,rfl,hA0,hA1,HA⟩:=hrel
   by_cases hp:k<s.size
   ·obtain ⟨c,hc⟩: ∃c,(s[k]'hp).toNat=c:=⟨_,rfl⟩
    have hdk:=zvK 10 s k hp HD.out
    have hdg:zaQ (c:Int)=true:=by rw [zhY,←hc];exact zwC hdk
    obtain ⟨hc1,hc2⟩:=zhL hdg
    have hv:valZ (c:Int)=(c:Int) - 48:=zfS hc1 hc2
    have hsn:=zjJ s k hp
    rw [←HA.out,hc,hv] at hsn
    have HSN:=zwA hsn
    clear hsn hdk hdg hv
    by_cases hg:(9223372036854775807 - ((c:Int) - 48))/10<A
    ·have HB:=zwA (HBIG.out (k+1) (by rw [HSN.out];omega))
     go_wp2
     go_ret2
     exact zbQ HB.out (zwD _ _)
    ·go_wp2
     go_round
     case rel=>exact ⟨k+1,10*A+((c:Int) - 48),by omega,by go_num,rfl,by omega,by omega,(by show _=_;rw [HSN.out];omega)⟩
     case measure=>simp [intOf];omega
   ·have hat:=HA.out
    rw [zcL s k hp] at hat
    by_cases hg:m<A
    ·have HB:=zwA (HBIG.out k (by rw [←HA.out];exact hg))
     go_wp2
     go_ret2
     exact zbQ HB.out (zwD _ _)
    ·have HF:=zwA (HYES.out (by rw [←hat];omega))
     have HAT:=zwA hat
     clear hat
     go_wp2
     go_ret2
     exact zbQ (by rw [HF.out,HAT.out]) (zwD _ _)
theorem zeS (s:ByteArray) (m:Int) (w:World) (hs:s.size≤1073741824) (hm:m≤9223372036854775807) (hm0: -9223372036854775808≤m):
  Calls Tryz.prog 226 #[.string s,.int .i64 m] w (zjX w (decZ s.data.toList m)):=by
 by_cases hn:s.size=0
 ·obtain rfl:=zcC s hn
  have HF:=zwA (zfD (ByteArray.mk #[]).data.toList m (.inl rfl))
  clear hn hs
  go_enter Tryz.func226,Tryz.ntmps226
  go_wp2
  go_ret2
  exact zbQ HF.out (zwD _ _)
 ·have hnb:((s.size:Int)==0)=false:=beq_eq_false_iff_ne.2 (by omega)
  cases hd:zbF 10 s.data.toList with
  |false=>
   have HF:=zwA (zjC s.data.toList m hd)
   have HD:=zwA hd
   clear hd
   go_enter Tryz.func226,Tryz.ntmps226
   go_wp2_with fail
   refine (zdU s 10 _ hs).mono ?_
   rw [HD.out]
   rintro e w' ⟨rfl,rfl⟩
   go_wp2
   go_ret2
   exact zbQ HF.out (zwD _ _)
  |true=>
   by_cases hz:1<s.size∧s[0].toNat=48
   ·obtain ⟨h1,h0⟩:=hz
    have HF:=zwA (zfD s.data.toList m (.inr ⟨by rw [zaM];exact h1,by rw [zfK s (by omega)];exact h0⟩))
    have l0:0<s.size:=by omega
    have HD:=zwA hd
    clear hd
    go_enter Tryz.func226,Tryz.ntmps226
    go_wp2_with fail
    refine (zdU s 10 _ hs).mono ?_
    rw [HD.out]
    rintro e w' ⟨rfl,rfl⟩
    go_wp2
    go_ret2
    exact zbQ HF.out (zwD _ _)
   ·exact zhJ s m w hs hm hm0 (by omega) hz hd
def zbO (w:World) (b:Bool) (e:Ending) (w':World):Prop:=e= .returned (.bool b)∧Below w.heap.size w w'
theorem zaG {w w':World} {x b:Bool} (h:x=b) (hb:Below w.heap.size w w'):zbO w x (.returned (.bool b)) w':=by
 subst h;exact ⟨rfl,hb⟩
def zbS (l:List UInt8):List (List UInt8):=zcG (hasB [46]) l
theorem ztT (p:UInt8→Bool) (l:List UInt8): ∀st:List (List UInt8)×List UInt8,(∀x∈(l.foldl (zbR p) st).1,x∈st.1∨x.length≤st.2.length+l.length)∧(l.foldl (zbR p) st).2.length≤st.2.length+l.length:=by
 induction l with
 |nil=>intro st;exact ⟨fun x hx=> .inl hx,by simp⟩
 |cons c l ih=>
  intro st
  simp only [List.foldl_cons,List.length_cons]
  have h:=ih (zbR p st c)
  by_cases hp:p c=true
  ·have e:zbR p st c=(st.1++[st.2],[]):=by simp [zbR,hp]
   rw [e] at h ⊢
   refine ⟨fun x hx=> ?_,by have:=h.2;simp at this;omega⟩
   rcases h.1 x hx with h1|h1
   ·simp at h1
    rcases h1 with h1|h1
    ·exact .inl h1
    ·subst h1;exact .inr (by omega)
   ·simp at h1;exact .inr (by omega)
  ·have e:zbR p st c=(st.1,st.2++[c]):=by simp [zbR,hp]
   rw [e] at h ⊢
   refine ⟨fun x hx=> ?_,by have:=h.2;simp at this;omega⟩
   rcases h.1 x hx with h1|h1
   ·exact .inl h1
   ·simp at h1;exact .inr (by omega)
theorem zsX (p:UInt8→Bool) (l x:List UInt8) (h:x∈zcG p l):x.length≤l.length:=by
 have k:=ztT p l ([],[])
 unfold zcG at h
 rcases List.mem_append.1 h with h|h
 ·rcases k.1 x h with h|h
  ·simp at h
  ·simpa using h
 ·simp at h
  subst h
  exact Nat.le_trans k.2 (by simp)
theorem zgF (p:UInt8→Bool) (l:List UInt8) (j:Nat):((zcG p l).getD j []).length≤l.length:=by
 by_cases h:j<(zcG p l).length
 ·refine zsX p l _ ?_
  rw [List.getD,List.getElem?_eq_getElem h]
  exact List.getElem_mem h
 ·rw [List.getD,List.getElem?_eq_none (by omega)]
  simp
end
end
end Go.Proofs.YtmjappnpedjlnaaGreatDoor
