/-
  What the law ResolveMeets leans on, and its walk (16 of 46).
-/
import Derived.Lib.Strings
import Derived.Test.YtmjappnpedjlnaaGreatDoorResolveMeetsPkC
import Derived.Test.YtmjappnpedjlnaaGreatDoorResolveMeetsPkA
namespace Go.Proofs.YtmjappnpedjlnaaGreatDoor
set_option maxRecDepth 100000
set_option maxHeartbeats 16000000
abbrev ypC := @Lib.hid
abbrev ypD := @decide_eq_false
abbrev ypE := @decide_eq_true
section
open Go.RowKit
def badL:List UInt8:=[34,35,37,47,58,60,62,63,64,91,92,93,94,96,123,124,125]
def zjB (c:UInt8):Bool:=decide (33≤c.toNat∧c.toNat≤126)&& !hasB badL c
def zcN (l:List UInt8):List (List UInt8):=(zaU l).take (zjA (zaU l))
def zpG (l:List UInt8):Nat:=if l.getLast? =some 46 then l.length - 1 else l.length
def zjF (w:List UInt8):Bool:=decide (1≤w.length∧w.length≤63)
def zkF (w:List UInt8):Bool:=Lib.hasPrefix w [120,110,45,45]
def ziD (l:List UInt8):Bool:=decide (zpG l≤253)&&(zcN l).all zjF
def zjJ (l:List UInt8):Bool:=l.all zjB
def zgE (l:List UInt8):Bool:=l.all fun c=>decide (c.toNat<128)
def zzK (l:List UInt8):Int:=if (ziD l&&zjJ l)=false then 6 else if (zcN l).any zkF=true then 7 else 0
def zoS (l:List UInt8):Int:=if zgE l=false then 7 else zzK (zaI l)
def zcT (l:List UInt8):List UInt8×Int:=if zoS l=0 then (zaI l,0) else ([],zoS l)
theorem z2O (r:List UInt8) (c:UInt8):Lib.hasSuffix r [c]=decide (r.getLast? =some c):=by
 rw [Bool.eq_iff_iff,decide_eq_true_iff]
 unfold Lib.hasSuffix
 rw [List.isSuffixOf_iff_suffix,List.getLast?_eq_some_iff]
 exact ⟨fun ⟨t,h⟩=>⟨t,h.symm⟩,fun ⟨t,h⟩=>⟨t,h.symm⟩⟩
theorem zmD (r:List UInt8) (c:UInt8):Lib.trimSuffix r [c]=if r.getLast? =some c then r.dropLast else r:=by
 unfold Lib.trimSuffix
 rw [z2O]
 simp [List.dropLast_eq_take]
theorem z8R (l:List UInt8):(Lib.trimSuffix l [46]).length=zpG l:=by
 rw [zmD]
 unfold zpG
 split<;>simp
theorem ykC (p:UInt8→Bool) (h: ∀n:Fin 256,p (UInt8.ofNat n.val)=true) (c:UInt8):p c=true:=by
 have:=h ⟨c.toNat,c.toNat_lt⟩
 rwa [show UInt8.ofNat c.toNat=c from by simp] at this
theorem ymR (c:UInt8):lowC (lowC c)=lowC c:=by simpa using ykC (fun c=>lowC (lowC c)==lowC c) (by decide+kernel) c
theorem ycM (c:UInt8) (h:c.toNat<128):(lowC c).toNat<128:=by
 have:=ykC (fun c=> !decide (c.toNat<128)||decide ((lowC c).toNat<128)) (by decide+kernel) c
 simpa [h] using this
theorem zyO (l:List UInt8):zaI (zaI l)=zaI l:=by simp [zaI,ymR]
theorem zvD {l:List UInt8}:zgE l=true↔ ∀c∈l,c.toNat<128:=by simp [zgE]
theorem zyG {l:List UInt8} (h:zgE l=true):zgE (zaI l)=true:=by
 rw [zvD] at*
 intro c hc
 obtain ⟨d,hd,rfl⟩:=List.mem_map.1 hc
 exact ycM d (h d hd)
structure zmR (n:List UInt8):Prop where
 low:zaI n=n
 size:zpG n≤253
 lab: ∀w∈zcN n,1≤w.length∧w.length≤63
 sign: ∀c∈n,zjB c=true
 code: ∀w∈zcN n,zkF w=false
theorem yfP {l:List UInt8} (hl:zaI l=l):zzK l=0↔zmR l:=by
 unfold zzK ziD zjJ
 constructor
 ·intro h
  split at h
  ·cases h
  ·rename_i h1
   split at h
   ·cases h
   ·rename_i h2
    simp [zjF] at h1 h2
    exact ⟨hl,h1.1,fun w hw=>h1.2.1 w hw,h1.2.2,h2⟩
 ·intro h
  rw [if_neg,if_neg]
  ·simpa using h.code
  ·have h1:(zcN l).all zjF=true:=List.all_eq_true.2 fun w hw=>ypE (h.lab w hw)
   have h2:l.all zjB=true:=List.all_eq_true.2 h.sign
   rw [h1,h2,ypE h.size]
   simp
theorem z6J {l:List UInt8} (h:zoS l=0):zgE l=true∧zmR (zaI l):=by
 unfold zoS at h
 cases hp:zgE l with
 |false=>rw [hp] at h;cases h
 |true=>rw [hp] at h;exact ⟨rfl,(yfP (zyO l)).1 h⟩
theorem zwZ {l:List UInt8} (h:(zcT l).2=0):zcT l=(zaI l,0)∧zmR (zaI l):=by
 unfold zcT at*
 split at h
 ·rename_i h0
  rw [if_pos h0]
  exact ⟨rfl,(z6J h0).2⟩
 ·rename_i h0
  exact absurd h h0
theorem zpP {l:List UInt8} (h:(zcT l).2=0):zmR (zcT l).1:=by
 have:=zwZ h
 rw [this.1]
 exact this.2
theorem ydU {l:List UInt8} (h:(zcT l).2≠0):(zcT l).1=[]:=by
 unfold zcT at*
 split
 ·rename_i h0;rw [if_pos h0] at h;exact absurd rfl h
 ·rfl
theorem z4Q {l n:List UInt8} {e:Int} (h:zcT l=(n,e)):n.length≤l.length:=by
 by_cases h0:e=0
 ·have:=(zwZ (l:=l) (by rw [h];exact h0)).1
  rw [h] at this
  injection this with h1 _
  rw [h1,zhT]
  exact Nat.le_refl _
 ·have:=ydU (l:=l) (by rw [h];exact h0)
  rw [h] at this
  rw [show n=[] from this]
  exact Nat.zero_le _
theorem yeZ (l:List UInt8):0<(zaU l).length:=by simp [zaU,zbG]
theorem yaX {ps:List (List UInt8)} (h:0<ps.length):0<zjA ps:=by unfold zjA;split<;>omega
theorem zrQ (l:List UInt8):l.length≤zpG l+1:=by unfold zpG;split<;>omega
theorem z7O {l:List UInt8} (h:ziD l=true):l.length≤254:=by
 unfold ziD at h
 have:=of_decide_eq_true (Bool.and_eq_true_iff.1 h).1
 have:=zrQ l
 omega
theorem yiM (l:List UInt8):zpG l≤l.length:=by unfold zpG;split<;>omega
def Seen (w:World) (g:Nat) (ps:List (List UInt8)):Prop:=g<w.heap.size∧ ∀j,j<ps.length→w.cell? ⟨g,j,none⟩=some (.string ⟨(ps.getD j []).toArray⟩)
theorem Seen.keep {w w':World} {g:Nat} {ps:List (List UInt8)} (h:Seen w g ps) (hb:Below w.heap.size w w'):Seen w' g ps:=⟨Nat.lt_of_lt_of_le h.1 hb.size,fun j hj=>(hb.cell (p:=⟨g,j,none⟩) h.1).trans (h.2 j hj)⟩
def ydK (w:World) (ps:List (List UInt8)) (e:Ending) (w':World):Prop:= ∃g c,e= .returned (.slice (some ⟨g,0,none⟩) ps.length c)∧ps.length≤c∧Seen w' g ps∧Below w.heap.size w w'
theorem ziR {w w':World} {ps qs:List (List UInt8)} {g c n k:Nat} (hq:ps.take k=qs) (hk:k≤ps.length) (hn:n=k) (hcap:k≤c) (hg:g<w'.heap.size) (hc: ∀j,j<ps.length→w'.cell? ⟨g,j,none⟩=some (.string ⟨(ps.getD j []).toArray⟩)) (hb:Below w.heap.size w w'):ydK w qs (.returned (.slice (some ⟨g,0,none⟩) n c)) w':=by
 subst hq hn
 refine ⟨g,c,by rw [List.length_take,Nat.min_eq_left hk],by rw [List.length_take,Nat.min_eq_left hk];exact hcap,⟨hg,fun j hj=> ?_⟩,hb⟩
 rw [List.length_take,Nat.min_eq_left hk] at hj
 rw [hc j (by omega)]
 simp [List.getD,hj]
theorem zeX (s:ByteArray) (w:World):Calls Tryz.prog 90 #[.string s] w fun e w'=>e= .returned (.string s)∧w=w':=by
 go_enter Tryz.func90,Tryz.ntmps90
 go_wp2
 go_ret
 exact ⟨rfl,rfl⟩
theorem zqV (l:List UInt8):(zcN l).length≤l.length+1:=by
 have h1:=zdK (hasB [46]) l
 unfold zcN zaU
 rw [List.length_take]
 omega
theorem zqK (s:ByteArray) (w:World) (hs:s.size≤1073741824):
  Calls Tryz.prog 176 #[.string s] w (ydK w (zcN s.data.toList)):=by
 obtain ⟨L,x,hL,hx,hLl,hc⟩:=zpO s.data.toList
 rw [zaN] at hLl
 go_enter Tryz.func176,Tryz.ntmps176
 go_wp2_with fail
 refine (zeX s _).mono ?_
 rintro e w' ⟨rfl,rfl⟩
 go_wp2_with fail
 refine (zdN s _ _ hs).mono ?_
 rintro e w1 ⟨v,rfl,hp,hb1⟩
 have hp':zbA w.heap.size w1 v (zaU s.data.toList):=hp
 obtain ⟨g,cap,rfl,hcap,hg,hcell⟩:=hp'.form2 (by omega)
 rw [hL] at hcap ⊢
 have hcx:=hcell L (by omega)
 rw [hx] at hcx
 have HC:=ypC hcell
 have HL:=ypC hL
 have HX:=ypC hx
 clear hcell hp hp' hL hx
 rcases hc with ⟨h1,rfl,hk⟩|⟨rfl|hne,hk⟩
 ·have HK:=ypC hk
  obtain ⟨n,rfl⟩: ∃n,L=n+1:=⟨L - 1,by omega⟩
  clear hk h1
  go_wp2
  go_ret
  exact ziR (k:=n+1) (by unfold zcN;rw [HK.out]) (by rw [HL.out];omega) (by omega) (by omega) hg HC.out hb1
 ·have HK:=ypC hk
  clear hk
  go_wp2
  go_ret
  exact ziR (k:=1) (by unfold zcN;rw [HK.out]) (by rw [HL.out];omega) (by omega) (by omega) hg HC.out hb1
 ·have HK:=ypC hk
  have hxe:x.isEmpty=false:=zeU hne
  clear hk hne
  by_cases h0:L=0
  ·subst h0
   go_wp2
   go_ret
   exact ziR (k:=1) (by unfold zcN;rw [HK.out]) (by rw [HL.out];omega) (by omega) (by omega) hg HC.out hb1
  ·obtain ⟨n,rfl⟩: ∃n,L=n+1:=⟨L - 1,by omega⟩
   go_wp2
   go_ret
   exact ziR (k:=n+2) (by unfold zcN;rw [HK.out]) (by rw [HL.out];omega) (by omega) (by omega) hg HC.out hb1
theorem yaP (q:List UInt8) (w:World):Calls Tryz.prog 177 #[.string ⟨q.toArray⟩] w fun e w'=>e= .returned (.bool (zkF q))∧w=w':=by
 go_enter Tryz.func177,Tryz.ntmps177
 go_wp2_with fail
 refine (Tryz.strings_HasPrefix ⟨q.toArray⟩ _ _).mono ?_
 rintro e w' ⟨rfl,rfl⟩
 go_wp2
 go_ret
 exact ⟨rfl,rfl⟩
theorem ykH {p:List UInt8→Bool} {ps:List (List UInt8)} {k:Nat} {q:List UInt8} (hk:k<ps.length) (hq:ps.getD k []=q) (h:p q=false):ps.all p=false:=by
 rw [List.all_eq_false]
 refine ⟨q,?_,by simp [h]⟩
 rw [←hq,List.getD,List.getElem?_eq_getElem hk]
 exact List.getElem_mem hk
theorem ynS {p:List UInt8→Bool} {ps:List (List UInt8)} (h: ∀j,j<ps.length→p (ps.getD j [])=true):ps.all p=true:=by
 rw [List.all_eq_true]
 intro x hx
 obtain ⟨j,hj,rfl⟩:=List.getElem_of_mem hx
 have:=h j hj
 rwa [List.getD,List.getElem?_eq_getElem hj] at this
theorem zyX (s:ByteArray) (w:World) (hs:s.size≤9223372036854775807):Calls Tryz.prog 212 #[.string s,.string ⟨#[46]⟩] w fun e w'=> ∃t:ByteArray,e= .returned (.string t)∧t.size=zpG s.data.toList∧w=w':=by
 refine (Tryz.strings_TrimSuffix s ⟨#[46]⟩ w (by omega)).mono ?_
 rintro e w' ⟨rfl,rfl⟩
 exact ⟨_,rfl,by rw [zaB];exact z8R _,rfl⟩
theorem ycD (s:ByteArray) (w:World) (hs:s.size≤9223372036854775807):
  Calls Tryz.prog 173 #[.string s] w (zbN w (ziD s.data.toList)):=by
 obtain ⟨ps,hps⟩: ∃ps,zcN s.data.toList=ps:=⟨_,rfl⟩
 have HLB:=ypC (fun W h=>zqK s W h)
 rw [hps] at HLB
 have hlg:=zrQ s.data.toList
 rw [zaN] at hlg
 have HS:Hid (ziD s.data.toList=(decide (zpG s.data.toList≤253)&&ps.all zjF)):=by show _=_;rw [←hps];rfl
 have hpl:ps.length≤s.size+1:=by rw [←hps];have:=zqV s.data.toList;rwa [zaN] at this
 clear hps
 go_enter Tryz.func173,Tryz.ntmps173
 go_wp2_with fail
 refine (zeX s _).mono ?_
 rintro e w' ⟨rfl,rfl⟩
 go_wp2_with fail
 refine (zyX s _ hs).mono ?_
 rintro e w' ⟨t,rfl,ht,rfl⟩
 rw [←ht] at HS hlg
 clear ht
 by_cases hb:253<t.size
 ·have hd:decide (253<(t.size:Int))=true:=ypE (by omega)
  have HF:=ypC (show ziD s.data.toList=false by rw [HS.out,ypD (by omega)];rfl)
  go_wp2
  go_ret
  exact zaE HF.out (Below.refl _ _)
 have hd:decide (253<(t.size:Int))=false:=ypD (by omega)
 have HF:Hid (ziD s.data.toList=ps.all zjF):=by show _=_;rw [HS.out,ypE (by omega)];rfl
 have hss:s.size≤254:=by omega
 clear hb HS hlg
 go_wp2_with fail
 refine (HLB.out _ (by omega)).mono ?_
 rintro e w1 ⟨g,c,rfl,-,hseen,hb1⟩
 have HC:=ypC hseen.2
 have hg:=hseen.1
 clear hseen hd HLB
 go_wp2
 go_loop [13] (fun i=> ∃k:Nat,k≤ps.length∧i= .int .i64 k∧Hid (∀j,j<k→zjF (ps.getD j [])=true)) (fun i=>ps.length - (intOf i).toNat)
 case atStart=>exact ⟨0,Nat.zero_le _,rfl,fun j h=>absurd h (Nat.not_lt_zero j)⟩
 case round=>
  obtain ⟨k,hk,rfl,H⟩:=hrel
  by_cases hlt:k<ps.length
  ·have hcl:=HC.out k hlt
   obtain ⟨q,hq⟩: ∃q,ps.getD k []=q:=⟨_,rfl⟩
   rw [hq] at hcl
   have HQ:=ypC hq
   clear hq
   by_cases h1:q=[]
   ·subst h1
    have HN:=ypC (ykH hlt HQ.out (show zjF []=false from rfl))
    go_wp2
    go_ret
    exact zaE (HF.out.trans HN.out) hb1
   ·have hqe:q.isEmpty=false:=zeU h1
    have hq0:0<q.length:=List.length_pos_iff.2 h1
    by_cases h2:63<q.length
    ·have HN:=ypC (ykH hlt HQ.out (show zjF q=false from ypD (by omega)))
     have hd:decide (63<(q.length:Int))=true:=ypE (by omega)
     clear h1
     go_wp2
     go_ret
     exact zaE (HF.out.trans HN.out) hb1
    ·have HY:=ypC (show zjF q=true from ypE (by omega))
     have hd:decide (63<(q.length:Int))=false:=ypD (by omega)
     clear h1
     go_wp2
     go_round
     case rel=>
      refine ⟨k+1,by omega,by go_num,fun j hj=> ?_⟩
      by_cases e:j=k
      ·subst e;rw [HQ.out];exact HY.out
      ·exact H.out j (by omega)
     case measure=>simp [intOf];omega
  ·have HN:=ypC (ynS (p:=zjF) (ps:=ps) fun j hj=>H.out j (by omega))
   go_wp2
   go_ret
   exact zaE (HF.out.trans HN.out) hb1
theorem ylO (c:UInt8) (w:World) (hc:c.toNat<128):Calls Tryz.prog 71 #[.string ⟨#[34,35,37,47,58,60,62,63,64,91,92,93,94,96,123,124,125]⟩,.int .i32 (c.toNat:Int)] w fun e w'=>e= .returned (.bool (hasB badL c))∧w=w':=by
 refine (Tryz.strings_ContainsRune_ascii _ _ w (by omega) (by omega)).mono ?_
 rintro e w' ⟨rfl,rfl⟩
 rw [zgZ]
 refine ⟨?_,rfl⟩
 show Ending.returned (.bool (decide (0≤Lib.indexByte badL c)))=_
 cases h:hasB badL c with
 |true=>rw [ypE ((zcK _ _).1 h)]
 |false=>rw [(zcK _ _).2 h];rfl
theorem ygA {s:ByteArray} {k:Nat} (hk:k<s.size) (h:zjB s[k]=false):zjJ s.data.toList=false:=by
 unfold zjJ
 rw [List.all_eq_false]
 refine ⟨s[k],?_,by simp [h]⟩
 show s.data[k]∈_
 simp
theorem ydJ {s:ByteArray} (h: ∀k (h:k<s.size),zjB s[k]=true):zjJ s.data.toList=true:=by
 unfold zjJ
 rw [List.all_eq_true]
 intro x hx
 obtain ⟨j,hj,rfl⟩:=List.getElem_of_mem hx
 exact h j (by simpa using hj)
theorem z5T (s:ByteArray) (k:Nat) (h:k<s.size) (hp:s[k].toNat<128):Utf8.decode s k=(s[k].toNat,1):=by
 have:=zsI s k h
 rw [zcP,if_pos (by omega),this]
theorem z9C (s:ByteArray) (w:World) (hp:zgE s.data.toList=true):
  Calls Tryz.prog 174 #[.string s] w (zbN w (zjJ s.data.toList)):=by
 have HP:Hid (∀k (h:k<s.size),s[k].toNat<128):=fun k h=>zvD.1 hp _ (by show s.data[k]∈_;simp)
 clear hp
 go_enter Tryz.func174,Tryz.ntmps174
 go_wp2_with fail
 refine (zeX s _).mono ?_
 rintro e w' ⟨rfl,rfl⟩
 go_wp2
 go_loopw [] (fun wr=> ∃k:Nat,wr.heap[w.heap.size]? =some (.stringIter s k)∧Below w.heap.size w wr∧k≤s.size∧Hid (∀j (h:j<s.size),j<k→zjB s[j]=true)) (fun wr=>s.size - wr.iterPos w.heap.size)
 case atStart=>exact ⟨0,World.iter_heap w s 0,(Below.refl _ w).alloc (Nat.le_refl _) _,Nat.zero_le _,fun j _ h=>absurd h (Nat.not_lt_zero j)⟩
 case round=>
  obtain ⟨k,hit,hbw,hk,H⟩:=hrel
  by_cases hlt:k<s.size
  ·have hnx: ∀ty,(Instr.next (.pointer (some ⟨w.heap.size,0,none⟩)) true ty).run Tryz.prog wr=_:=fun ty=>Lib.run_next_any_at wr w.heap.size s k ty hit hlt
   have hp:=HP.out k hlt
   rw [z5T s k hlt hp] at hnx
   have hit2:=Lib.iterAt_heap wr w.heap.size s k (k+1) hit
   have hbw2:=Lib.below_iterAt hbw (k:=w.heap.size) (Nat.le_refl _) s (k+1)
   have HWP:Hid (wr.iterPos w.heap.size=k):=by
    show wr.iterPos w.heap.size=k
    simp only [World.iterPos,hit]
   simp only at hnx
   generalize wr.iterAt w.heap.size s (k+1)=wi at*
   have HBA:=ypC (fun W=>ylO s[k] W hp)
   have HSC:=ypC (show zjB s[k]=(decide (33≤s[k].toNat∧s[k].toNat≤126)&& !hasB badL s[k]) from rfl)
   have HNO:=ypC (fun h=>ygA hlt h)
   obtain ⟨c,hc⟩: ∃c,s[k].toNat=c:=⟨_,rfl⟩
   generalize hbd:hasB badL s[k]=bd at HBA HSC
   rw [hc] at hp hnx HBA HSC
   clear hbd
   have HC:=ypC hc
   clear hc
   by_cases h1:c<33
   ·have HF:=ypC (HNO.out (by rw [HSC.out,ypD (by omega)];rfl))
    have hd:decide ((c:Int)<33)=true:=ypE (by omega)
    go_wp2
    go_ret
    exact zaE HF.out hbw2
   ·have hd1:decide ((c:Int)<33)=false:=ypD (by omega)
    by_cases h2:126<c
    ·have HF:=ypC (HNO.out (by rw [HSC.out,ypD (by omega)];rfl))
     have hd:decide (126<(c:Int))=true:=ypE (by omega)
     go_wp2
     go_ret
     exact zaE HF.out hbw2
    ·have hd2:decide (126<(c:Int))=false:=ypD (by omega)
     cases bd with
     |true=>
      have HF:=ypC (HNO.out (by rw [HSC.out];simp))
      go_wp2_with (go_at_call 71;refine (HBA.out _).mono ?_;rintro e w' ⟨rfl,rfl⟩)
      go_ret
      exact zaE HF.out hbw2
     |false=>
      have HY:=ypC (show zjB s[k]=true by rw [HSC.out,ypE (by omega)];rfl)
      go_wp2_with (go_at_call 71;refine (HBA.out _).mono ?_;rintro e w' ⟨rfl,rfl⟩)
      go_roundw
      case rel=>
       refine ⟨k+1,hit2,hbw2,by omega,fun j hj hjk=> ?_⟩
       by_cases e:j=k
       ·subst e;exact HY.out
       ·exact H.out j hj (by omega)
      case measure=>
       rw [HWP.out]
       simp only [World.iterPos,hit2]
       omega
  ·have hnx: ∀ty,(Instr.next (.pointer (some ⟨w.heap.size,0,none⟩)) true ty).run Tryz.prog wr=_:=fun ty=>Lib.run_next_end_at wr w.heap.size s k ty hit hlt
   have HF:=ypC (ydJ (s:=s) fun j hj=>H.out j hj (by omega))
   go_wp2
   go_ret
   exact zaE HF.out hbw
end
end Go.Proofs.YtmjappnpedjlnaaGreatDoor
