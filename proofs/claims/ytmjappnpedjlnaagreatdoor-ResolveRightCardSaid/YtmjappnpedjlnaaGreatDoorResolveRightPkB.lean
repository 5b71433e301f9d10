/-
  What the law ResolveRight leans on, and its walk (2 of 42).
-/
import Derived.IntWalk
import Derived.StillTailTactics
import Derived.Deep.RegionHeld3
import Derived.Deep.AppendLies
import Derived.Test.YtmjappnpedjlnaaGreatDoorResolveRightPkA
namespace Go.Proofs.YtmjappnpedjlnaaGreatDoor
set_option maxRecDepth 100000
set_option maxHeartbeats 16000000
abbrev zyJ := @Lib.hid
abbrev zyK := @decide_eq_false
abbrev zyL := @decide_eq_true
section
section
open Go.RowKit
theorem zhI (s:ByteArray) (k:Nat) (h:k<s.size):s.data.toList.drop k=s[k]::s.data.toList.drop (k+1):=by
 rw [List.drop_eq_getElem_cons (by simpa using h)]
 rfl
theorem zeF (s:ByteArray) (k:Nat) (h: ¬k<s.size):s.data.toList.drop k=[]:=List.drop_eq_nil_of_le (by simpa using h)
def digC (b:Int) (c:UInt8):Bool:=decide (0≤valZ (c.toNat:Int)∧valZ (c.toNat:Int)<b)
def zbL (b:Int) (l:List UInt8):Bool:=l.all (digC b)
theorem zpB (b:Int) (s:ByteArray) (k:Nat) (h:k<s.size):zbL b (s.data.toList.take (k+1))=(zbL b (s.data.toList.take k)&&digC b s[k]):=by
 rw [zdI s k h];simp [zbL]
theorem zqB {b:Int} {c:UInt8} {v:Int} (hv:valZ (c.toNat:Int)=v) (h0:0≤v) (h1:v<b):digC b c=true:=zyL (by rw [hv];exact ⟨h0,h1⟩)
theorem ziE {b:Int} {c:UInt8} {v:Int} (hv:valZ (c.toNat:Int)=v) (h:v<0∨b≤v):digC b c=false:=zyK (by rw [hv];omega)
theorem zgG (b:Int) (s:ByteArray) (k:Nat) (h:k<s.size) (hc:digC b s[k]=false):zbL b s.data.toList=false:=by
 unfold zbL
 rw [List.all_eq_false]
 refine ⟨s[k],?_,by rw [hc];simp⟩
 show s.data[k]∈_
 simp
theorem znR (b:Int) (s:ByteArray) (k:Nat) (h:k<s.size) (hp:zbL b (s.data.toList.take k)=true) (hc:digC b s[k]=true):zbL b (s.data.toList.take (k+1))=true:=by
 rw [zpB b s k h,hp,hc];rfl
theorem zkL (r:Int) (h:128≤r):valZ r= -1:=by
 unfold valZ;(repeat' split)<;>omega
theorem zwK (r:Int):valZ r<16:=by
 unfold valZ;(repeat' split)<;>omega
theorem zlU (s:ByteArray) (h:s.size=0):s.data.toList=[]:=List.length_eq_zero_iff.1 (by rw [zbC];exact h)
theorem zfR (s:ByteArray) (h:s.size≠0):s.data.toList≠[]:=fun e=>h (by rw [←zbC,e];rfl)
theorem zbB (l:List UInt8):(ByteArray.mk l.toArray).data.toList=l:=by simp
theorem zdS (s:ByteArray) (h:s.size=0):s=⟨#[]⟩:=by
 apply ByteArray.ext
 apply Array.ext'
 exact zlU s h
theorem zdQ (s:ByteArray) (h:s.size≠0):s.toList.isEmpty=false:=by
 rw [ByteArray.toList_eq]
 cases hd:s.data.toList with
 |nil=>exact absurd hd (zfR s h)
 |cons a l=>rfl
def decN (l:List UInt8):Int:=l.foldl (fun n c=>n*10+valZ (c.toNat:Int)) 0
def decZ (l:List UInt8) (m:Int):Int×Bool:=
 if (l.isEmpty||(decide (1<l.length)&&decide ((l.getD 0 0).toNat=48))|| !zbL 10 l)=true then (0,false) else if m<decN l then (0,false) else (decN l,true)
theorem zrW (s:ByteArray) (k:Nat) (h:k<s.size):decN (s.data.toList.take (k+1))=decN (s.data.toList.take k)*10+valZ (s[k].toNat:Int):=by
 rw [zdI s k h];simp [decN]
theorem zkF (l:List UInt8): ∀a:Int,0≤a→zbL 10 l=true→a≤l.foldl (fun n c=>n*10+valZ (c.toNat:Int)) a:=by
 induction l with
 |nil=>intro a _ _;exact Int.le_refl _
 |cons c l ih=>
  intro a ha hd
  have h1:digC 10 c=true∧zbL 10 l=true:=by simpa [zbL] using hd
  have h2:=of_decide_eq_true h1.1
  have:=ih (a*10+valZ (c.toNat:Int)) (by omega) h1.2
  exact Int.le_trans (by omega) this
theorem zhH (l:List UInt8) (hd:zbL 10 l=true):0≤decN l:=zkF l 0 (Int.le_refl _) hd
theorem zoS (b:Int) (l:List UInt8) (k:Nat):zbL b l=(zbL b (l.take k)&&zbL b (l.drop k)):=by
 unfold zbL
 rw [←List.all_append,List.take_append_drop]
theorem zgA (l:List UInt8) (k:Nat) (hd:zbL 10 l=true):decN (l.take k)≤decN l:=by
 have h:=zoS 10 l k
 rw [hd] at h
 have h2:zbL 10 (l.take k)=true∧zbL 10 (l.drop k)=true:=by simpa using h.symm
 have e:decN l=(l.drop k).foldl (fun n c=>n*10+valZ (c.toNat:Int)) (decN (l.take k)):=by
  unfold decN
  rw [←List.foldl_append,List.take_append_drop]
 rw [e]
 exact zkF _ _ (zhH _ h2.1) h2.2
theorem zjJ (l:List UInt8) (m:Int) (h:l=[]∨(1<l.length∧(l.getD 0 0).toNat=48)):decZ l m=(0,false):=by
 unfold decZ
 rw [if_pos]
 rcases h with rfl|⟨h1,h2⟩
 ·rfl
 ·rw [zyL h1,zyL h2];simp
theorem zmV (l:List UInt8) (m:Int) (h:zbL 10 l=false):decZ l m=(0,false):=by
 unfold decZ
 rw [if_pos (by rw [h];simp)]
theorem zwA (l:List UInt8) (m:Int) (k:Nat) (h:m<decN (l.take k)):decZ l m=(0,false):=by
 by_cases hd:zbL 10 l=true
 ·unfold decZ
  split
  ·rfl
  ·rw [if_pos]
   have:=zgA l k hd
   omega
 ·exact zmV l m (by simpa using hd)
theorem zwD (l:List UInt8) (m:Int) (h0:l≠[]) (h1: ¬(1<l.length∧(l.getD 0 0).toNat=48)) (hd:zbL 10 l=true) (hm:decN l≤m):decZ l m=(decN l,true):=by
 unfold decZ
 rw [if_neg,if_neg (by omega)]
 rw [hd]
 cases l with
 |nil=>exact absurd rfl h0
 |cons a r=>
  by_cases e1:1<(a::r).length
  ·rw [zyL e1,zyK (fun e=>h1 ⟨e1,e⟩)];simp
  ·rw [zyK e1];simp
theorem zjK (s:ByteArray) (h:0<s.size):(s.data.toList.getD 0 0).toNat=s[0].toNat:=by
 rw [List.getD,zfB s 0 h];rfl
theorem zpF (r:Int):zbD r=decide (0≤valZ r∧valZ r<10):=by
 unfold zbD valZ
 by_cases h:48≤r∧r≤57
 ·rw [if_pos h,zyL h,zyL (by omega)]
 ·rw [if_neg h,zyK h]
  refine (zyK ?_).symm
  repeat' split
  all_goals omega
theorem ziM (c:UInt8):digC 10 c=zbD (c.toNat:Int):=(zpF _).symm
theorem zjL {r:Int} (h:zbD r=true):48≤r∧r≤57:=of_decide_eq_true h
theorem ziF {r:Int} (h1:48≤r) (h2:r≤57):valZ r=r - 48:=if_pos ⟨h1,h2⟩
theorem zgU (r:Int) (h:128≤r):zbD r=false:=zyK (by omega)
def zsR (w:World) (x:Int×Bool) (e:Ending) (w':World):Prop:=e= .returned (.tuple #[.int .i64 x.1,.bool x.2])∧Below w.heap.size w w'
theorem zcX {w w':World} {x:Int×Bool} {n:Int} {b:Bool} (h:x=(n,b)) (hb:Below w.heap.size w w'):zsR w x (.returned (.tuple #[.int .i64 n,.bool b])) w':=by
 subst h;exact ⟨rfl,hb⟩
theorem zkX (s:ByteArray) (m:Int) (w:World) (hs:s.size≤1073741824) (hm:m≤9223372036854775807) (hm0: -9223372036854775808≤m) (hn:1≤s.size) (hz: ¬(1<s.size∧s[0].toNat=48)):
  Calls Tryz.prog 245 #[.string s,.int .i64 m] w (zsR w (decZ s.data.toList m)):=by
 have HNO:=zyJ (zmV s.data.toList m)
 have HBIG:=zyJ (zwA s.data.toList m)
 have HYES:=zyJ (zwD s.data.toList m (zfR s (by omega)) (by rw [zbC,zjK s (by omega)];exact hz))
 have hse:=zdQ s (by omega)
 have l0:0<s.size:=by omega
 obtain ⟨a,ha⟩: ∃a,s[0].toNat=a:=⟨_,rfl⟩
 rw [ha] at hz
 rcases (show s.size≤1∨(1<s.size∧((a:Int)==48)=false) from by
   by_cases h1:1<s.size
   ·exact .inr ⟨h1,beq_eq_false_iff_ne.2 (fun e=>hz ⟨h1,by omega⟩)⟩
   ·exact .inl (by omega)) with h1|⟨h1,hb1⟩
 all_goals
  clear hz
  go_enter Tryz.func245,Tryz.ntmps245
  go_wp2
  go_loopw [6] (fun n wr=> ∃(k:Nat) (A:Int),n= .int .i64 A∧0≤A∧(A=0∨A≤m)∧k≤s.size∧wr.heap[w.heap.size]? =some (.stringIter s k)∧Below w.heap.size w wr∧w.heap.size+1≤wr.heap.size∧Hid (A=decN (s.data.toList.take k))∧Hid (zbL 10 (s.data.toList.take k)=true)∧Hid (1≤k→A≤m)) (fun _ wr=>s.size - wr.iterPos w.heap.size)
  case atStart=>exact ⟨0,0,rfl,by omega,.inl rfl,Nat.zero_le _,World.iter_heap w s 0,(Below.refl _ w).alloc (Nat.le_refl _) _,by simp [World.iter],rfl,rfl,fun h=>absurd h (by omega)⟩
  case round=>
   obtain ⟨k,A,rfl,hA0,hA1,hk,hit,hbw,hsz,HA,HDG,HK⟩:=hrel
   have hA2:A≤9223372036854775807:=by omega
   clear hA1
   by_cases hp:k<s.size
   ·obtain ⟨c,hc⟩: ∃c,(s[k]'hp).toNat=c:=⟨_,rfl⟩
    have hnx: ∀ty,(Instr.next (.pointer (some ⟨w.heap.size,0,none⟩)) true ty).run Tryz.prog wr=_:=fun ty=>Lib.run_next_any_at wr w.heap.size s k ty hit hp
    by_cases hc128:c<128
    ·have hdec:=decode_ascii s k hp (by omega)
     rw [hc] at hdec
     rw [hdec] at hnx
     have hit2:=Lib.iterAt_heap wr w.heap.size s k (k+1) hit
     have hbw2:=Lib.below_iterAt hbw (k:=w.heap.size) (Nat.le_refl _) s (k+1)
     have hsz2:w.heap.size+1≤(wr.iterAt w.heap.size s (k+1)).heap.size:=by rw [Lib.iterAt_size];exact hsz
     simp only at hnx
     generalize wr.iterAt w.heap.size s (k+1)=wi at*
     have HIT:=zyJ hit
     have HC:=zyJ hc
     clear hit hc hdec
     cases hdg:zbD (c:Int) with
     |false=>
      have HF:=zyJ (HNO.out (zgG 10 s k hp (by rw [ziM,HC.out];exact hdg)))
      go_wp2_with (go_at_call 100;refine (zcK _ _).mono ?_;rintro e w' ⟨rfl,rfl⟩)
      go_ret2
      exact zcX HF.out hbw2
     |true=>
      obtain ⟨hc1,hc2⟩:=zjL hdg
      have hv:valZ (c:Int)=(c:Int) - 48:=ziF hc1 hc2
      have HF:=zyJ (znR 10 s k hp HDG.out (by rw [ziM,HC.out];exact hdg))
      have hsn:=zrW s k hp
      rw [←HA.out,HC.out,hv] at hsn
      have HSN:=zyJ hsn
      clear hsn
      obtain ⟨v,hvv⟩: ∃v:Int,(c:Int) - 48=v:=⟨_,rfl⟩
      have hv0:0≤v:=by omega
      have hv9:v≤9:=by omega
      rw [hvv] at hv
      have HVV:=zyJ hvv
      clear hvv
      by_cases hg:m<A*10+v
      ·have HB:=zyJ (HBIG.out (k+1) (by rw [HSN.out,HVV.out];exact hg))
       by_cases hg1:m<v
       ·go_wp2_with (first|(go_at_call 100;refine (zcK _ _).mono ?_;rintro e w' ⟨rfl,rfl⟩)|(go_at_call 129;refine (zcV _ _).mono ?_;rintro e w' ⟨rfl,rfl⟩))
        go_ret2
        exact zcX HB.out hbw2
       ·have hg2:(m - v)/10<A:=by omega
        go_wp2_with (first|(go_at_call 100;refine (zcK _ _).mono ?_;rintro e w' ⟨rfl,rfl⟩)|(go_at_call 129;refine (zcV _ _).mono ?_;rintro e w' ⟨rfl,rfl⟩))
        go_ret2
        exact zcX HB.out hbw2
      ·have hg1: ¬m<v:=by omega
       have hg2: ¬(m - v)/10<A:=by omega
       go_wp2_with (first|(go_at_call 100;refine (zcK _ _).mono ?_;rintro e w' ⟨rfl,rfl⟩)|(go_at_call 129;refine (zcV _ _).mono ?_;rintro e w' ⟨rfl,rfl⟩))
       go_roundw
       case rel=>exact ⟨k+1,A*10+v,rfl,by omega,by omega,by omega,hit2,hbw2,hsz2,(by show _=_;rw [HSN.out,HVV.out]),HF,fun _=>by omega⟩
       case measure=>
        simp only [World.iterPos,hit2,HIT.out]
        omega
    ·have hh:=decode_high s k hp (by omega)
     obtain ⟨r,hr⟩: ∃r,(Utf8.decode s k).1=r:=⟨_,rfl⟩
     obtain ⟨wd,hwd⟩: ∃r,(Utf8.decode s k).2=r:=⟨_,rfl⟩
     have hrl:=decode_le s k
     rw [hr,hwd] at hnx
     rw [hr,hwd] at hh
     rw [hr] at hrl
     have hbw2:=Lib.below_iterAt hbw (k:=w.heap.size) (Nat.le_refl _) s (k+wd)
     generalize wr.iterAt w.heap.size s (k+wd)=wi at*
     have hv:zbD (r:Int)=false:=zgU _ (by omega)
     have HF:=zyJ (HNO.out (zgG 10 s k hp (by rw [ziM];exact zgU _ (by omega))))
     clear hc hr hwd
     go_wp2_with (go_at_call 100;refine (zcK _ _).mono ?_;rintro e w' ⟨rfl,rfl⟩)
     go_ret2
     exact zcX HF.out hbw2
   ·have hnx: ∀ty,(Instr.next (.pointer (some ⟨w.heap.size,0,none⟩)) true ty).run Tryz.prog wr=_:=fun ty=>Lib.run_next_end_at wr w.heap.size s k ty hit hp
    have hdt:=HDG.out
    rw [zfN s k hp] at hdt
    have hat:=HA.out
    rw [zfN s k hp] at hat
    have HF:=zyJ (HYES.out hdt (by rw [←hat];exact HK.out (by omega)))
    have HAT:=zyJ hat
    clear hdt hat
    go_wp2
    go_ret2
    exact zcX (by rw [HF.out,HAT.out]) hbw
theorem zhN (s:ByteArray) (m:Int) (w:World) (hs:s.size≤1073741824) (hm:m≤9223372036854775807) (hm0: -9223372036854775808≤m):
  Calls Tryz.prog 245 #[.string s,.int .i64 m] w (zsR w (decZ s.data.toList m)):=by
 by_cases hn:s.size=0
 ·obtain rfl:=zdS s hn
  have HF:=zyJ (zjJ (ByteArray.mk #[]).data.toList m (.inl rfl))
  clear hn hs
  go_enter Tryz.func245,Tryz.ntmps245
  go_wp2
  go_ret2
  exact zcX HF.out (Below.refl _ _)
 ·by_cases hz:1<s.size∧s[0].toNat=48
  ·obtain ⟨h1,h0⟩:=hz
   have HF:=zyJ (zjJ s.data.toList m (.inr ⟨by rw [zbC];exact h1,by rw [zjK s (by omega)];exact h0⟩))
   have hse:=zdQ s hn
   have l0:0<s.size:=by omega
   go_enter Tryz.func245,Tryz.ntmps245
   go_wp2
   go_ret2
   exact zcX HF.out (Below.refl _ _)
  ·exact zkX s m w hs hm hm0 (by omega) hz
def zbJ (w:World) (b:Bool) (e:Ending) (w':World):Prop:=e= .returned (.bool b)∧Below w.heap.size w w'
theorem zaE {w w':World} {x b:Bool} (h:x=b) (hb:Below w.heap.size w w'):zbJ w x (.returned (.bool b)) w':=by
 subst h;exact ⟨rfl,hb⟩
def zcR (l:List UInt8):List (List UInt8):=zcW (hasB [46]) l
theorem zvG (p:UInt8→Bool) (l:List UInt8): ∀st:List (List UInt8)×List UInt8,(∀x∈(l.foldl (zbK p) st).1,x∈st.1∨x.length≤st.2.length+l.length)∧(l.foldl (zbK p) st).2.length≤st.2.length+l.length:=by
 induction l with
 |nil=>intro st;exact ⟨fun x hx=> .inl hx,by simp⟩
 |cons c l ih=>
  intro st
  simp only [List.foldl_cons,List.length_cons]
  have h:=ih (zbK p st c)
  by_cases hp:p c=true
  ·have e:zbK p st c=(st.1++[st.2],[]):=by simp [zbK,hp]
   rw [e] at h ⊢
   refine ⟨fun x hx=> ?_,by have:=h.2;simp at this;omega⟩
   rcases h.1 x hx with h1|h1
   ·simp at h1
    rcases h1 with h1|h1
    ·exact .inl h1
    ·subst h1;exact .inr (by omega)
   ·simp at h1;exact .inr (by omega)
  ·have e:zbK p st c=(st.1,st.2++[c]):=by simp [zbK,hp]
   rw [e] at h ⊢
   refine ⟨fun x hx=> ?_,by have:=h.2;simp at this;omega⟩
   rcases h.1 x hx with h1|h1
   ·exact .inl h1
   ·simp at h1;exact .inr (by omega)
theorem zuT (p:UInt8→Bool) (l x:List UInt8) (h:x∈zcW p l):x.length≤l.length:=by
 have k:=zvG p l ([],[])
 unfold zcW at h
 rcases List.mem_append.1 h with h|h
 ·rcases k.1 x h with h|h
  ·simp at h
  ·simpa using h
 ·simp at h
  subst h
  exact Nat.le_trans k.2 (by simp)
theorem zoF (p:UInt8→Bool) (l:List UInt8) (j:Nat):((zcW p l).getD j []).length≤l.length:=by
 by_cases h:j<(zcW p l).length
 ·refine zuT p l _ ?_
  rw [List.getD,List.getElem?_eq_getElem h]
  exact List.getElem_mem h
 ·rw [List.getD,List.getElem?_eq_none (by omega)]
  simp
end
end
end Go.Proofs.YtmjappnpedjlnaaGreatDoor
