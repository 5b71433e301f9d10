/-
  What the law WhatwgChains leans on, and its walk (12 of 33).
-/
import Derived.Lib.Strings
import Derived.Test.YtcagcjdhbijknaaGreatDoorWhatwgChainsPkC
import Derived.Test.YtcagcjdhbijknaaGreatDoorWhatwgChainsPkA
namespace Go.Proofs.YtcagcjdhbijknaaGreatDoor
set_option maxRecDepth 100000
set_option maxHeartbeats 16000000
abbrev yhK := @Lib.hid
abbrev yhL := @decide_eq_false
abbrev yhM := @decide_eq_true
section
open Go.RowKit
def badL:List UInt8:=[34,35,37,47,58,60,62,63,64,91,92,93,94,96,123,124,125]
def zmM (c:UInt8):Bool:=decide (33≤c.toNat∧c.toNat≤126)&& !hasB badL c
def zcS (l:List UInt8):List (List UInt8):=(zaI l).take (zhY (zaI l))
def zhH (l:List UInt8):Nat:=if l.getLast? =some 46 then l.length - 1 else l.length
def zgF (w:List UInt8):Bool:=decide (1≤w.length∧w.length≤63)
def zjG (w:List UInt8):Bool:=Lib.hasPrefix w [120,110,45,45]
def zfW (l:List UInt8):Bool:=decide (zhH l≤253)&&(zcS l).all zgF
def zhB (l:List UInt8):Bool:=l.all zmM
def zfN (l:List UInt8):Bool:=l.all fun c=>decide (c.toNat<128)
def zwV (l:List UInt8):Int:=if (zfW l&&zhB l)=false then 6 else if (zcS l).any zjG=true then 7 else 0
def znH (l:List UInt8):Int:=if zfN l=false then 7 else zwV (zaX l)
def zdK (l:List UInt8):List UInt8×Int:=if znH l=0 then (zaX l,0) else ([],znH l)
theorem z0L (r:List UInt8) (c:UInt8):Lib.hasSuffix r [c]=decide (r.getLast? =some c):=by
 rw [Bool.eq_iff_iff,decide_eq_true_iff]
 unfold Lib.hasSuffix
 rw [List.isSuffixOf_iff_suffix,List.getLast?_eq_some_iff]
 exact ⟨fun ⟨t,h⟩=>⟨t,h.symm⟩,fun ⟨t,h⟩=>⟨t,h.symm⟩⟩
theorem zmU (r:List UInt8) (c:UInt8):Lib.trimSuffix r [c]=if r.getLast? =some c then r.dropLast else r:=by
 unfold Lib.trimSuffix
 rw [z0L]
 simp [List.dropLast_eq_take]
theorem z6Z (l:List UInt8):(Lib.trimSuffix l [46]).length=zhH l:=by
 rw [zmU]
 unfold zhH
 split<;>simp
theorem zzO (p:UInt8→Bool) (h: ∀n:Fin 256,p (UInt8.ofNat n.val)=true) (c:UInt8):p c=true:=by
 have:=h ⟨c.toNat,c.toNat_lt⟩
 rwa [show UInt8.ofNat c.toNat=c from by simp] at this
theorem ydU (c:UInt8):lowC (lowC c)=lowC c:=by simpa using zzO (fun c=>lowC (lowC c)==lowC c) (by decide+kernel) c
theorem z8N (c:UInt8) (h:c.toNat<128):(lowC c).toNat<128:=by
 have:=zzO (fun c=> !decide (c.toNat<128)||decide ((lowC c).toNat<128)) (by decide+kernel) c
 simpa [h] using this
theorem zxP (l:List UInt8):zaX (zaX l)=zaX l:=by simp [zaX,ydU]
theorem zvT {l:List UInt8}:zfN l=true↔ ∀c∈l,c.toNat<128:=by simp [zfN]
theorem zxQ {l:List UInt8} (h:zfN l=true):zfN (zaX l)=true:=by
 rw [zvT] at*
 intro c hc
 obtain ⟨d,hd,rfl⟩:=List.mem_map.1 hc
 exact z8N d (h d hd)
structure zpM (n:List UInt8):Prop where
 low:zaX n=n
 size:zhH n≤253
 lab: ∀w∈zcS n,1≤w.length∧w.length≤63
 sign: ∀c∈n,zmM c=true
 code: ∀w∈zcS n,zjG w=false
theorem yaQ {l:List UInt8} (hl:zaX l=l):zwV l=0↔zpM l:=by
 unfold zwV zfW zhB
 constructor
 ·intro h
  split at h
  ·cases h
  ·rename_i h1
   split at h
   ·cases h
   ·rename_i h2
    simp [zgF] at h1 h2
    exact ⟨hl,h1.1,fun w hw=>h1.2.1 w hw,h1.2.2,h2⟩
 ·intro h
  rw [if_neg,if_neg]
  ·simpa using h.code
  ·have h1:(zcS l).all zgF=true:=List.all_eq_true.2 fun w hw=>yhM (h.lab w hw)
   have h2:l.all zmM=true:=List.all_eq_true.2 h.sign
   rw [h1,h2,yhM h.size]
   simp
theorem z9Y {l:List UInt8} (h:znH l=0):zfN l=true∧zpM (zaX l):=by
 unfold znH at h
 cases hp:zfN l with
 |false=>rw [hp] at h;cases h
 |true=>rw [hp] at h;exact ⟨rfl,(yaQ (zxP l)).1 h⟩
theorem zuU {l:List UInt8} (h:(zdK l).2=0):zdK l=(zaX l,0)∧zpM (zaX l):=by
 unfold zdK at*
 split at h
 ·rename_i h0
  rw [if_pos h0]
  exact ⟨rfl,(z9Y h0).2⟩
 ·rename_i h0
  exact absurd h h0
theorem zpT {l:List UInt8} (h:(zdK l).2=0):zpM (zdK l).1:=by
 have:=zuU h
 rw [this.1]
 exact this.2
theorem z5E {l:List UInt8} (h:(zdK l).2≠0):(zdK l).1=[]:=by
 unfold zdK at*
 split
 ·rename_i h0;rw [if_pos h0] at h;exact absurd rfl h
 ·rfl
theorem zpV {l n:List UInt8} {e:Int} (h:zdK l=(n,e)):n.length≤l.length:=by
 by_cases h0:e=0
 ·have:=(zuU (l:=l) (by rw [h];exact h0)).1
  rw [h] at this
  injection this with h1 _
  rw [h1,ziF]
  exact Nat.le_refl _
 ·have:=z5E (l:=l) (by rw [h];exact h0)
  rw [h] at this
  rw [show n=[] from this]
  exact Nat.zero_le _
theorem z7S (l:List UInt8):0<(zaI l).length:=by simp [zaI,zcL]
theorem z3T {ps:List (List UInt8)} (h:0<ps.length):0<zhY ps:=by unfold zhY;split<;>omega
theorem z0S (l:List UInt8):l.length≤zhH l+1:=by unfold zhH;split<;>omega
theorem z4F {l:List UInt8} (h:zfW l=true):l.length≤254:=by
 unfold zfW at h
 have:=of_decide_eq_true (Bool.and_eq_true_iff.1 h).1
 have:=z0S l
 omega
theorem zzF (l:List UInt8):zhH l≤l.length:=by unfold zhH;split<;>omega
def Seen (w:World) (g:Nat) (ps:List (List UInt8)):Prop:=g<w.heap.size∧ ∀j,j<ps.length→w.cell? ⟨g,j,none⟩=some (.string ⟨(ps.getD j []).toArray⟩)
theorem Seen.keep {w w':World} {g:Nat} {ps:List (List UInt8)} (h:Seen w g ps) (hb:Below w.heap.size w w'):Seen w' g ps:=⟨Nat.lt_of_lt_of_le h.1 hb.size,fun j hj=>(hb.cell (p:=⟨g,j,none⟩) h.1).trans (h.2 j hj)⟩
def zxK (w:World) (ps:List (List UInt8)) (e:Ending) (w':World):Prop:= ∃g c,e= .returned (.slice (some ⟨g,0,none⟩) ps.length c)∧ps.length≤c∧Seen w' g ps∧Below w.heap.size w w'
theorem zeS {w w':World} {ps qs:List (List UInt8)} {g c n k:Nat} (hq:ps.take k=qs) (hk:k≤ps.length) (hn:n=k) (hcap:k≤c) (hg:g<w'.heap.size) (hc: ∀j,j<ps.length→w'.cell? ⟨g,j,none⟩=some (.string ⟨(ps.getD j []).toArray⟩)) (hb:Below w.heap.size w w'):zxK w qs (.returned (.slice (some ⟨g,0,none⟩) n c)) w':=by
 subst hq hn
 refine ⟨g,c,by rw [List.length_take,Nat.min_eq_left hk],by rw [List.length_take,Nat.min_eq_left hk];exact hcap,⟨hg,fun j hj=> ?_⟩,hb⟩
 rw [List.length_take,Nat.min_eq_left hk] at hj
 rw [hc j (by omega)]
 simp [List.getD,hj]
theorem zgY (s:ByteArray) (w:World):Calls Tryz.prog 70 #[.string s] w fun e w'=>e= .returned (.string s)∧w=w':=by
 go_enter Tryz.func70,Tryz.ntmps70
 go_wp2
 go_ret
 exact ⟨rfl,rfl⟩
theorem zkY (l:List UInt8):(zcS l).length≤l.length+1:=by
 have h1:=zcN (hasB [46]) l
 unfold zcS zaI
 rw [List.length_take]
 omega
theorem zqM (s:ByteArray) (w:World) (hs:s.size≤1073741824):
  Calls Tryz.prog 112 #[.string s] w (zxK w (zcS s.data.toList)):=by
 obtain ⟨L,x,hL,hx,hLl,hc⟩:=ziX s.data.toList
 rw [zaH] at hLl
 go_enter Tryz.func112,Tryz.ntmps112
 go_wp2_with fail
 refine (zgY s _).mono ?_
 rintro e w' ⟨rfl,rfl⟩
 go_wp2_with fail
 refine (zfA s _ _ hs).mono ?_
 rintro e w1 ⟨v,rfl,hp,hb1⟩
 have hp':zaM w.heap.size w1 v (zaI s.data.toList):=hp
 obtain ⟨g,cap,rfl,hcap,hg,hcell⟩:=hp'.form2 (by omega)
 rw [hL] at hcap ⊢
 have hcx:=hcell L (by omega)
 rw [hx] at hcx
 have HC:=yhK hcell
 have HL:=yhK hL
 have HX:=yhK hx
 clear hcell hp hp' hL hx
 rcases hc with ⟨h1,rfl,hk⟩|⟨rfl|hne,hk⟩
 ·have HK:=yhK hk
  obtain ⟨n,rfl⟩: ∃n,L=n+1:=⟨L - 1,by omega⟩
  clear hk h1
  go_wp2
  go_ret
  exact zeS (k:=n+1) (by unfold zcS;rw [HK.out]) (by rw [HL.out];omega) (by omega) (by omega) hg HC.out hb1
 ·have HK:=yhK hk
  clear hk
  go_wp2
  go_ret
  exact zeS (k:=1) (by unfold zcS;rw [HK.out]) (by rw [HL.out];omega) (by omega) (by omega) hg HC.out hb1
 ·have HK:=yhK hk
  have hxe:x.isEmpty=false:=zcQ hne
  clear hk hne
  by_cases h0:L=0
  ·subst h0
   go_wp2
   go_ret
   exact zeS (k:=1) (by unfold zcS;rw [HK.out]) (by rw [HL.out];omega) (by omega) (by omega) hg HC.out hb1
  ·obtain ⟨n,rfl⟩: ∃n,L=n+1:=⟨L - 1,by omega⟩
   go_wp2
   go_ret
   exact zeS (k:=n+2) (by unfold zcS;rw [HK.out]) (by rw [HL.out];omega) (by omega) (by omega) hg HC.out hb1
theorem z9R (q:List UInt8) (w:World):Calls Tryz.prog 113 #[.string ⟨q.toArray⟩] w fun e w'=>e= .returned (.bool (zjG q))∧w=w':=by
 go_enter Tryz.func113,Tryz.ntmps113
 go_wp2_with fail
 refine (Tryz.strings_HasPrefix ⟨q.toArray⟩ _ _).mono ?_
 rintro e w' ⟨rfl,rfl⟩
 go_wp2
 go_ret
 exact ⟨rfl,rfl⟩
theorem z5C {p:List UInt8→Bool} {ps:List (List UInt8)} {k:Nat} {q:List UInt8} (hk:k<ps.length) (hq:ps.getD k []=q) (h:p q=false):ps.all p=false:=by
 rw [List.all_eq_false]
 refine ⟨q,?_,by simp [h]⟩
 rw [←hq,List.getD,List.getElem?_eq_getElem hk]
 exact List.getElem_mem hk
theorem z7I {p:List UInt8→Bool} {ps:List (List UInt8)} (h: ∀j,j<ps.length→p (ps.getD j [])=true):ps.all p=true:=by
 rw [List.all_eq_true]
 intro x hx
 obtain ⟨j,hj,rfl⟩:=List.getElem_of_mem hx
 have:=h j hj
 rwa [List.getD,List.getElem?_eq_getElem hj] at this
theorem zwT (s:ByteArray) (w:World) (hs:s.size≤9223372036854775807):Calls Tryz.prog 158 #[.string s,.string ⟨#[46]⟩] w fun e w'=> ∃t:ByteArray,e= .returned (.string t)∧t.size=zhH s.data.toList∧w=w':=by
 refine (Tryz.strings_TrimSuffix s ⟨#[46]⟩ w (by omega)).mono ?_
 rintro e w' ⟨rfl,rfl⟩
 exact ⟨_,rfl,by rw [zaA];exact z6Z _,rfl⟩
theorem z9E (s:ByteArray) (w:World) (hs:s.size≤9223372036854775807):
  Calls Tryz.prog 109 #[.string s] w (zeF w (zfW s.data.toList)):=by
 obtain ⟨ps,hps⟩: ∃ps,zcS s.data.toList=ps:=⟨_,rfl⟩
 have HLB:=yhK (fun W h=>zqM s W h)
 rw [hps] at HLB
 have hlg:=z0S s.data.toList
 rw [zaH] at hlg
 have HS:Hid (zfW s.data.toList=(decide (zhH s.data.toList≤253)&&ps.all zgF)):=by show _=_;rw [←hps];rfl
 have hpl:ps.length≤s.size+1:=by rw [←hps];have:=zkY s.data.toList;rwa [zaH] at this
 clear hps
 go_enter Tryz.func109,Tryz.ntmps109
 go_wp2_with fail
 refine (zgY s _).mono ?_
 rintro e w' ⟨rfl,rfl⟩
 go_wp2_with fail
 refine (zwT s _ hs).mono ?_
 rintro e w' ⟨t,rfl,ht,rfl⟩
 rw [←ht] at HS hlg
 clear ht
 by_cases hb:253<t.size
 ·have hd:decide (253<(t.size:Int))=true:=yhM (by omega)
  have HF:=yhK (show zfW s.data.toList=false by rw [HS.out,yhL (by omega)];rfl)
  go_wp2
  go_ret
  exact zaS HF.out (Below.refl _ _)
 have hd:decide (253<(t.size:Int))=false:=yhL (by omega)
 have HF:Hid (zfW s.data.toList=ps.all zgF):=by show _=_;rw [HS.out,yhM (by omega)];rfl
 have hss:s.size≤254:=by omega
 clear hb HS hlg
 go_wp2_with fail
 refine (HLB.out _ (by omega)).mono ?_
 rintro e w1 ⟨g,c,rfl,-,hseen,hb1⟩
 have HC:=yhK hseen.2
 have hg:=hseen.1
 clear hseen hd HLB
 go_wp2
 go_loop [13] (fun i=> ∃k:Nat,k≤ps.length∧i= .int .i64 k∧Hid (∀j,j<k→zgF (ps.getD j [])=true)) (fun i=>ps.length - (intOf i).toNat)
 case atStart=>exact ⟨0,Nat.zero_le _,rfl,fun j h=>absurd h (Nat.not_lt_zero j)⟩
 case round=>
  obtain ⟨k,hk,rfl,H⟩:=hrel
  by_cases hlt:k<ps.length
  ·have hcl:=HC.out k hlt
   obtain ⟨q,hq⟩: ∃q,ps.getD k []=q:=⟨_,rfl⟩
   rw [hq] at hcl
   have HQ:=yhK hq
   clear hq
   by_cases h1:q=[]
   ·subst h1
    have HN:=yhK (z5C hlt HQ.out (show zgF []=false from rfl))
    go_wp2
    go_ret
    exact zaS (HF.out.trans HN.out) hb1
   ·have hqe:q.isEmpty=false:=zcQ h1
    have hq0:0<q.length:=List.length_pos_iff.2 h1
    by_cases h2:63<q.length
    ·have HN:=yhK (z5C hlt HQ.out (show zgF q=false from yhL (by omega)))
     have hd:decide (63<(q.length:Int))=true:=yhM (by omega)
     clear h1
     go_wp2
     go_ret
     exact zaS (HF.out.trans HN.out) hb1
    ·have HY:=yhK (show zgF q=true from yhM (by omega))
     have hd:decide (63<(q.length:Int))=false:=yhL (by omega)
     clear h1
     go_wp2
     go_round
     case rel=>
      refine ⟨k+1,by omega,by go_num,fun j hj=> ?_⟩
      by_cases e:j=k
      ·subst e;rw [HQ.out];exact HY.out
      ·exact H.out j (by omega)
     case measure=>simp [intOf];omega
  ·have HN:=yhK (z7I (p:=zgF) (ps:=ps) fun j hj=>H.out j (by omega))
   go_wp2
   go_ret
   exact zaS (HF.out.trans HN.out) hb1
theorem yfH (c:UInt8) (w:World) (hc:c.toNat<128):Calls Tryz.prog 24 #[.string ⟨#[34,35,37,47,58,60,62,63,64,91,92,93,94,96,123,124,125]⟩,.int .i32 (c.toNat:Int)] w fun e w'=>e= .returned (.bool (hasB badL c))∧w=w':=by
 refine (Tryz.strings_ContainsRune_ascii _ _ w (by omega) (by omega)).mono ?_
 rintro e w' ⟨rfl,rfl⟩
 rw [znD]
 refine ⟨?_,rfl⟩
 show Ending.returned (.bool (decide (0≤Lib.indexByte badL c)))=_
 cases h:hasB badL c with
 |true=>rw [yhM ((zeV _ _).1 h)]
 |false=>rw [(zeV _ _).2 h];rfl
theorem z0J {s:ByteArray} {k:Nat} (hk:k<s.size) (h:zmM s[k]=false):zhB s.data.toList=false:=by
 unfold zhB
 rw [List.all_eq_false]
 refine ⟨s[k],?_,by simp [h]⟩
 show s.data[k]∈_
 simp
theorem zvU {s:ByteArray} (h: ∀k (h:k<s.size),zmM s[k]=true):zhB s.data.toList=true:=by
 unfold zhB
 rw [List.all_eq_true]
 intro x hx
 obtain ⟨j,hj,rfl⟩:=List.getElem_of_mem hx
 exact h j (by simpa using hj)
theorem z3B (s:ByteArray) (k:Nat) (h:k<s.size) (hp:s[k].toNat<128):Utf8.decode s k=(s[k].toNat,1):=by
 have:=zhR s k h
 rw [zeI,if_pos (by omega),this]
theorem z6B (s:ByteArray) (w:World) (hp:zfN s.data.toList=true):
  Calls Tryz.prog 110 #[.string s] w (zeF w (zhB s.data.toList)):=by
 have HP:Hid (∀k (h:k<s.size),s[k].toNat<128):=fun k h=>zvT.1 hp _ (by show s.data[k]∈_;simp)
 clear hp
 go_enter Tryz.func110,Tryz.ntmps110
 go_wp2_with fail
 refine (zgY s _).mono ?_
 rintro e w' ⟨rfl,rfl⟩
 go_wp2
 go_loopw [] (fun wr=> ∃k:Nat,wr.heap[w.heap.size]? =some (.stringIter s k)∧Below w.heap.size w wr∧k≤s.size∧Hid (∀j (h:j<s.size),j<k→zmM s[j]=true)) (fun wr=>s.size - wr.iterPos w.heap.size)
 case atStart=>exact ⟨0,World.iter_heap w s 0,(Below.refl _ w).alloc (Nat.le_refl _) _,Nat.zero_le _,fun j _ h=>absurd h (Nat.not_lt_zero j)⟩
 case round=>
  obtain ⟨k,hit,hbw,hk,H⟩:=hrel
  by_cases hlt:k<s.size
  ·have hnx: ∀ty,(Instr.next (.pointer (some ⟨w.heap.size,0,none⟩)) true ty).run Tryz.prog wr=_:=fun ty=>Lib.run_next_any_at wr w.heap.size s k ty hit hlt
   have hp:=HP.out k hlt
   rw [z3B s k hlt hp] at hnx
   have hit2:=Lib.iterAt_heap wr w.heap.size s k (k+1) hit
   have hbw2:=Lib.below_iterAt hbw (k:=w.heap.size) (Nat.le_refl _) s (k+1)
   have HWP:Hid (wr.iterPos w.heap.size=k):=by
    show wr.iterPos w.heap.size=k
    simp only [World.iterPos,hit]
   simp only at hnx
   generalize wr.iterAt w.heap.size s (k+1)=wi at*
   have HBA:=yhK (fun W=>yfH s[k] W hp)
   have HSC:=yhK (show zmM s[k]=(decide (33≤s[k].toNat∧s[k].toNat≤126)&& !hasB badL s[k]) from rfl)
   have HNO:=yhK (fun h=>z0J hlt h)
   obtain ⟨c,hc⟩: ∃c,s[k].toNat=c:=⟨_,rfl⟩
   generalize hbd:hasB badL s[k]=bd at HBA HSC
   rw [hc] at hp hnx HBA HSC
   clear hbd
   have HC:=yhK hc
   clear hc
   by_cases h1:c<33
   ·have HF:=yhK (HNO.out (by rw [HSC.out,yhL (by omega)];rfl))
    have hd:decide ((c:Int)<33)=true:=yhM (by omega)
    go_wp2
    go_ret
    exact zaS HF.out hbw2
   ·have hd1:decide ((c:Int)<33)=false:=yhL (by omega)
    by_cases h2:126<c
    ·have HF:=yhK (HNO.out (by rw [HSC.out,yhL (by omega)];rfl))
     have hd:decide (126<(c:Int))=true:=yhM (by omega)
     go_wp2
     go_ret
     exact zaS HF.out hbw2
    ·have hd2:decide (126<(c:Int))=false:=yhL (by omega)
     cases bd with
     |true=>
      have HF:=yhK (HNO.out (by rw [HSC.out];simp))
      go_wp2_with (go_at_call 24;refine (HBA.out _).mono ?_;rintro e w' ⟨rfl,rfl⟩)
      go_ret
      exact zaS HF.out hbw2
     |false=>
      have HY:=yhK (show zmM s[k]=true by rw [HSC.out,yhM (by omega)];rfl)
      go_wp2_with (go_at_call 24;refine (HBA.out _).mono ?_;rintro e w' ⟨rfl,rfl⟩)
      go_roundw
      case rel=>
       refine ⟨k+1,hit2,hbw2,by omega,fun j hj hjk=> ?_⟩
       by_cases e:j=k
       ·subst e;exact HY.out
       ·exact H.out j hj (by omega)
      case measure=>
       rw [HWP.out]
       simp only [World.iterPos,hit2]
       omega
  ·have hnx: ∀ty,(Instr.next (.pointer (some ⟨w.heap.size,0,none⟩)) true ty).run Tryz.prog wr=_:=fun ty=>Lib.run_next_end_at wr w.heap.size s k ty hit hlt
   have HF:=yhK (zvU (s:=s) fun j hj=>H.out j hj (by omega))
   go_wp2
   go_ret
   exact zaS HF.out hbw
end
end Go.Proofs.YtcagcjdhbijknaaGreatDoor
