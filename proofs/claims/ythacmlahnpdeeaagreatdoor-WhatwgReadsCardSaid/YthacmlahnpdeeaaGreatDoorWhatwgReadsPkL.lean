/-
  What the law WhatwgReads leans on, and its walk (12 of 29).
-/
import Derived.Lib.Strings
import Derived.Test.YthacmlahnpdeeaaGreatDoorWhatwgReadsPkC
import Derived.Test.YthacmlahnpdeeaaGreatDoorWhatwgReadsPkA
namespace Go.Proofs.YthacmlahnpdeeaaGreatDoor
set_option maxRecDepth 100000
set_option maxHeartbeats 16000000
abbrev ydG := @Lib.hid
abbrev ydH := @decide_eq_false
abbrev ydI := @decide_eq_true
section
open Go.RowKit
def badL:List UInt8:=[34,35,37,47,58,60,62,63,64,91,92,93,94,96,123,124,125]
def zkW (c:UInt8):Bool:=decide (33≤c.toNat∧c.toNat≤126)&& !hasB badL c
def zbS (l:List UInt8):List (List UInt8):=(zaG l).take (zgP (zaG l))
def zfY (l:List UInt8):Nat:=if l.getLast? =some 46 then l.length - 1 else l.length
def zeZ (w:List UInt8):Bool:=decide (1≤w.length∧w.length≤63)
def zhS (w:List UInt8):Bool:=Lib.hasPrefix w [120,110,45,45]
def zeU (l:List UInt8):Bool:=decide (zfY l≤253)&&(zbS l).all zeZ
def zfJ (l:List UInt8):Bool:=l.all zkW
def zeI (l:List UInt8):Bool:=l.all fun c=>decide (c.toNat<128)
def ztW (l:List UInt8):Int:=if (zeU l&&zfJ l)=false then 6 else if (zbS l).any zhS=true then 7 else 0
def zlR (l:List UInt8):Int:=if zeI l=false then 7 else ztW (zaQ l)
def zcH (l:List UInt8):List UInt8×Int:=if zlR l=0 then (zaQ l,0) else ([],zlR l)
theorem zxM (r:List UInt8) (c:UInt8):Lib.hasSuffix r [c]=decide (r.getLast? =some c):=by
 rw [Bool.eq_iff_iff,decide_eq_true_iff]
 unfold Lib.hasSuffix
 rw [List.isSuffixOf_iff_suffix,List.getLast?_eq_some_iff]
 exact ⟨fun ⟨t,h⟩=>⟨t,h.symm⟩,fun ⟨t,h⟩=>⟨t,h.symm⟩⟩
theorem zlH (r:List UInt8) (c:UInt8):Lib.trimSuffix r [c]=if r.getLast? =some c then r.dropLast else r:=by
 unfold Lib.trimSuffix
 rw [zxM]
 simp [List.dropLast_eq_take]
theorem z0Y (l:List UInt8):(Lib.trimSuffix l [46]).length=zfY l:=by
 rw [zlH]
 unfold zfY
 split<;>simp
theorem zvC (p:UInt8→Bool) (h: ∀n:Fin 256,p (UInt8.ofNat n.val)=true) (c:UInt8):p c=true:=by
 have:=h ⟨c.toNat,c.toNat_lt⟩
 rwa [show UInt8.ofNat c.toNat=c from by simp] at this
theorem ybR (c:UInt8):lowC (lowC c)=lowC c:=by simpa using zvC (fun c=>lowC (lowC c)==lowC c) (by decide+kernel) c
theorem z3H (c:UInt8) (h:c.toNat<128):(lowC c).toNat<128:=by
 have:=zvC (fun c=> !decide (c.toNat<128)||decide ((lowC c).toNat<128)) (by decide+kernel) c
 simpa [h] using this
theorem ztY (l:List UInt8):zaQ (zaQ l)=zaQ l:=by simp [zaQ,ybR]
theorem zsR {l:List UInt8}:zeI l=true↔ ∀c∈l,c.toNat<128:=by simp [zeI]
theorem ztJ {l:List UInt8} (h:zeI l=true):zeI (zaQ l)=true:=by
 rw [zsR] at*
 intro c hc
 obtain ⟨d,hd,rfl⟩:=List.mem_map.1 hc
 exact z3H d (h d hd)
structure znT (n:List UInt8):Prop where
 low:zaQ n=n
 size:zfY n≤253
 lab: ∀w∈zbS n,1≤w.length∧w.length≤63
 sign: ∀c∈n,zkW c=true
 code: ∀w∈zbS n,zhS w=false
theorem z8L {l:List UInt8} (hl:zaQ l=l):ztW l=0↔znT l:=by
 unfold ztW zeU zfJ
 constructor
 ·intro h
  split at h
  ·cases h
  ·rename_i h1
   split at h
   ·cases h
   ·rename_i h2
    simp [zeZ] at h1 h2
    exact ⟨hl,h1.1,fun w hw=>h1.2.1 w hw,h1.2.2,h2⟩
 ·intro h
  rw [if_neg,if_neg]
  ·simpa using h.code
  ·have h1:(zbS l).all zeZ=true:=List.all_eq_true.2 fun w hw=>ydI (h.lab w hw)
   have h2:l.all zkW=true:=List.all_eq_true.2 h.sign
   rw [h1,h2,ydI h.size]
   simp
theorem z0W {l:List UInt8} (h:zlR l=0):zeI l=true∧znT (zaQ l):=by
 unfold zlR at h
 cases hp:zeI l with
 |false=>rw [hp] at h;cases h
 |true=>rw [hp] at h;exact ⟨rfl,(z8L (ztY l)).1 h⟩
theorem zrZ {l:List UInt8} (h:(zcH l).2=0):zcH l=(zaQ l,0)∧znT (zaQ l):=by
 unfold zcH at*
 split at h
 ·rename_i h0
  rw [if_pos h0]
  exact ⟨rfl,(z0W h0).2⟩
 ·rename_i h0
  exact absurd h h0
theorem zoL {l:List UInt8} (h:(zcH l).2=0):znT (zcH l).1:=by
 have:=zrZ h
 rw [this.1]
 exact this.2
theorem z2F {l:List UInt8} (h:(zcH l).2≠0):(zcH l).1=[]:=by
 unfold zcH at*
 split
 ·rename_i h0;rw [if_pos h0] at h;exact absurd rfl h
 ·rfl
theorem zoB {l n:List UInt8} {e:Int} (h:zcH l=(n,e)):n.length≤l.length:=by
 by_cases h0:e=0
 ·have:=(zrZ (l:=l) (by rw [h];exact h0)).1
  rw [h] at this
  injection this with h1 _
  rw [h1,zgZ]
  exact Nat.le_refl _
 ·have:=z2F (l:=l) (by rw [h];exact h0)
  rw [h] at this
  rw [show n=[] from this]
  exact Nat.zero_le _
theorem z1W (l:List UInt8):0<(zaG l).length:=by simp [zaG,zbM]
theorem z2A {ps:List (List UInt8)} (h:0<ps.length):0<zgP ps:=by unfold zgP;split<;>omega
theorem zwT (l:List UInt8):l.length≤zfY l+1:=by unfold zfY;split<;>omega
theorem z4X {l:List UInt8} (h:zeU l=true):l.length≤254:=by
 unfold zeU at h
 have:=of_decide_eq_true (Bool.and_eq_true_iff.1 h).1
 have:=zwT l
 omega
theorem zvG (l:List UInt8):zfY l≤l.length:=by unfold zfY;split<;>omega
def Seen (w:World) (g:Nat) (ps:List (List UInt8)):Prop:=g<w.heap.size∧ ∀j,j<ps.length→w.cell? ⟨g,j,none⟩=some (.string ⟨(ps.getD j []).toArray⟩)
theorem Seen.keep {w w':World} {g:Nat} {ps:List (List UInt8)} (h:Seen w g ps) (hb:Below w.heap.size w w'):Seen w' g ps:=⟨Nat.lt_of_lt_of_le h.1 hb.size,fun j hj=>(hb.cell (p:=⟨g,j,none⟩) h.1).trans (h.2 j hj)⟩
def zuE (w:World) (ps:List (List UInt8)) (e:Ending) (w':World):Prop:= ∃g c,e= .returned (.slice (some ⟨g,0,none⟩) ps.length c)∧ps.length≤c∧Seen w' g ps∧Below w.heap.size w w'
theorem zdI {w w':World} {ps qs:List (List UInt8)} {g c n k:Nat} (hq:ps.take k=qs) (hk:k≤ps.length) (hn:n=k) (hcap:k≤c) (hg:g<w'.heap.size) (hc: ∀j,j<ps.length→w'.cell? ⟨g,j,none⟩=some (.string ⟨(ps.getD j []).toArray⟩)) (hb:Below w.heap.size w w'):zuE w qs (.returned (.slice (some ⟨g,0,none⟩) n c)) w':=by
 subst hq hn
 refine ⟨g,c,by rw [List.length_take,Nat.min_eq_left hk],by rw [List.length_take,Nat.min_eq_left hk];exact hcap,⟨hg,fun j hj=> ?_⟩,hb⟩
 rw [List.length_take,Nat.min_eq_left hk] at hj
 rw [hc j (by omega)]
 simp [List.getD,hj]
theorem zgA (s:ByteArray) (w:World):Calls Tryz.prog 100 #[.string s] w fun e w'=>e= .returned (.string s)∧w=w':=by
 go_enter Tryz.func100,Tryz.ntmps100
 go_wp2
 go_ret
 exact ⟨rfl,rfl⟩
theorem zjM (l:List UInt8):(zbS l).length≤l.length+1:=by
 have h1:=zbN (hasB [46]) l
 unfold zbS zaG
 rw [List.length_take]
 omega
theorem znO (s:ByteArray) (w:World) (hs:s.size≤1073741824):
  Calls Tryz.prog 147 #[.string s] w (zuE w (zbS s.data.toList)):=by
 obtain ⟨L,x,hL,hx,hLl,hc⟩:=zhI s.data.toList
 rw [zaD] at hLl
 go_enter Tryz.func147,Tryz.ntmps147
 go_wp2_with fail
 refine (zgA s _).mono ?_
 rintro e w' ⟨rfl,rfl⟩
 go_wp2_with fail
 refine (zdO s _ _ hs).mono ?_
 rintro e w1 ⟨v,rfl,hp,hb1⟩
 have hp':zaO w.heap.size w1 v (zaG s.data.toList):=hp
 obtain ⟨g,cap,rfl,hcap,hg,hcell⟩:=hp'.form2 (by omega)
 rw [hL] at hcap ⊢
 have hcx:=hcell L (by omega)
 rw [hx] at hcx
 have HC:=ydG hcell
 have HL:=ydG hL
 have HX:=ydG hx
 clear hcell hp hp' hL hx
 rcases hc with ⟨h1,rfl,hk⟩|⟨rfl|hne,hk⟩
 ·have HK:=ydG hk
  obtain ⟨n,rfl⟩: ∃n,L=n+1:=⟨L - 1,by omega⟩
  clear hk h1
  go_wp2
  go_ret
  exact zdI (k:=n+1) (by unfold zbS;rw [HK.out]) (by rw [HL.out];omega) (by omega) (by omega) hg HC.out hb1
 ·have HK:=ydG hk
  clear hk
  go_wp2
  go_ret
  exact zdI (k:=1) (by unfold zbS;rw [HK.out]) (by rw [HL.out];omega) (by omega) (by omega) hg HC.out hb1
 ·have HK:=ydG hk
  have hxe:x.isEmpty=false:=zbP hne
  clear hk hne
  by_cases h0:L=0
  ·subst h0
   go_wp2
   go_ret
   exact zdI (k:=1) (by unfold zbS;rw [HK.out]) (by rw [HL.out];omega) (by omega) (by omega) hg HC.out hb1
  ·obtain ⟨n,rfl⟩: ∃n,L=n+1:=⟨L - 1,by omega⟩
   go_wp2
   go_ret
   exact zdI (k:=n+2) (by unfold zbS;rw [HK.out]) (by rw [HL.out];omega) (by omega) (by omega) hg HC.out hb1
theorem z2U (q:List UInt8) (w:World):Calls Tryz.prog 148 #[.string ⟨q.toArray⟩] w fun e w'=>e= .returned (.bool (zhS q))∧w=w':=by
 go_enter Tryz.func148,Tryz.ntmps148
 go_wp2_with fail
 refine (Tryz.strings_HasPrefix ⟨q.toArray⟩ _ _).mono ?_
 rintro e w' ⟨rfl,rfl⟩
 go_wp2
 go_ret
 exact ⟨rfl,rfl⟩
theorem z5K {p:List UInt8→Bool} {ps:List (List UInt8)} {k:Nat} {q:List UInt8} (hk:k<ps.length) (hq:ps.getD k []=q) (h:p q=false):ps.all p=false:=by
 rw [List.all_eq_false]
 refine ⟨q,?_,by simp [h]⟩
 rw [←hq,List.getD,List.getElem?_eq_getElem hk]
 exact List.getElem_mem hk
theorem z3M {p:List UInt8→Bool} {ps:List (List UInt8)} (h: ∀j,j<ps.length→p (ps.getD j [])=true):ps.all p=true:=by
 rw [List.all_eq_true]
 intro x hx
 obtain ⟨j,hj,rfl⟩:=List.getElem_of_mem hx
 have:=h j hj
 rwa [List.getD,List.getElem?_eq_getElem hj] at this
theorem ztK (s:ByteArray) (w:World) (hs:s.size≤9223372036854775807):Calls Tryz.prog 181 #[.string s,.string ⟨#[46]⟩] w fun e w'=> ∃t:ByteArray,e= .returned (.string t)∧t.size=zfY s.data.toList∧w=w':=by
 refine (Tryz.strings_TrimSuffix s ⟨#[46]⟩ w (by omega)).mono ?_
 rintro e w' ⟨rfl,rfl⟩
 exact ⟨_,rfl,by rw [zaA];exact z0Y _,rfl⟩
theorem z2M (s:ByteArray) (w:World) (hs:s.size≤9223372036854775807):
  Calls Tryz.prog 144 #[.string s] w (zdM w (zeU s.data.toList)):=by
 obtain ⟨ps,hps⟩: ∃ps,zbS s.data.toList=ps:=⟨_,rfl⟩
 have HLB:=ydG (fun W h=>znO s W h)
 rw [hps] at HLB
 have hlg:=zwT s.data.toList
 rw [zaD] at hlg
 have HS:Hid (zeU s.data.toList=(decide (zfY s.data.toList≤253)&&ps.all zeZ)):=by show _=_;rw [←hps];rfl
 have hpl:ps.length≤s.size+1:=by rw [←hps];have:=zjM s.data.toList;rwa [zaD] at this
 clear hps
 go_enter Tryz.func144,Tryz.ntmps144
 go_wp2_with fail
 refine (zgA s _).mono ?_
 rintro e w' ⟨rfl,rfl⟩
 go_wp2_with fail
 refine (ztK s _ hs).mono ?_
 rintro e w' ⟨t,rfl,ht,rfl⟩
 rw [←ht] at HS hlg
 clear ht
 by_cases hb:253<t.size
 ·have hd:decide (253<(t.size:Int))=true:=ydI (by omega)
  have HF:=ydG (show zeU s.data.toList=false by rw [HS.out,ydH (by omega)];rfl)
  go_wp2
  go_ret
  exact zaM HF.out (Below.refl _ _)
 have hd:decide (253<(t.size:Int))=false:=ydH (by omega)
 have HF:Hid (zeU s.data.toList=ps.all zeZ):=by show _=_;rw [HS.out,ydI (by omega)];rfl
 have hss:s.size≤254:=by omega
 clear hb HS hlg
 go_wp2_with fail
 refine (HLB.out _ (by omega)).mono ?_
 rintro e w1 ⟨g,c,rfl,-,hseen,hb1⟩
 have HC:=ydG hseen.2
 have hg:=hseen.1
 clear hseen hd HLB
 go_wp2
 go_loop [13] (fun i=> ∃k:Nat,k≤ps.length∧i= .int .i64 k∧Hid (∀j,j<k→zeZ (ps.getD j [])=true)) (fun i=>ps.length - (intOf i).toNat)
 case atStart=>exact ⟨0,Nat.zero_le _,rfl,fun j h=>absurd h (Nat.not_lt_zero j)⟩
 case round=>
  obtain ⟨k,hk,rfl,H⟩:=hrel
  by_cases hlt:k<ps.length
  ·have hcl:=HC.out k hlt
   obtain ⟨q,hq⟩: ∃q,ps.getD k []=q:=⟨_,rfl⟩
   rw [hq] at hcl
   have HQ:=ydG hq
   clear hq
   by_cases h1:q=[]
   ·subst h1
    have HN:=ydG (z5K hlt HQ.out (show zeZ []=false from rfl))
    go_wp2
    go_ret
    exact zaM (HF.out.trans HN.out) hb1
   ·have hqe:q.isEmpty=false:=zbP h1
    have hq0:0<q.length:=List.length_pos_iff.2 h1
    by_cases h2:63<q.length
    ·have HN:=ydG (z5K hlt HQ.out (show zeZ q=false from ydH (by omega)))
     have hd:decide (63<(q.length:Int))=true:=ydI (by omega)
     clear h1
     go_wp2
     go_ret
     exact zaM (HF.out.trans HN.out) hb1
    ·have HY:=ydG (show zeZ q=true from ydI (by omega))
     have hd:decide (63<(q.length:Int))=false:=ydH (by omega)
     clear h1
     go_wp2
     go_round
     case rel=>
      refine ⟨k+1,by omega,by go_num,fun j hj=> ?_⟩
      by_cases e:j=k
      ·subst e;rw [HQ.out];exact HY.out
      ·exact H.out j (by omega)
     case measure=>simp [intOf];omega
  ·have HN:=ydG (z3M (p:=zeZ) (ps:=ps) fun j hj=>H.out j (by omega))
   go_wp2
   go_ret
   exact zaM (HF.out.trans HN.out) hb1
theorem ycA (c:UInt8) (w:World) (hc:c.toNat<128):Calls Tryz.prog 40 #[.string ⟨#[34,35,37,47,58,60,62,63,64,91,92,93,94,96,123,124,125]⟩,.int .i32 (c.toNat:Int)] w fun e w'=>e= .returned (.bool (hasB badL c))∧w=w':=by
 refine (Tryz.strings_ContainsRune_ascii _ _ w (by omega) (by omega)).mono ?_
 rintro e w' ⟨rfl,rfl⟩
 rw [zmG]
 refine ⟨?_,rfl⟩
 show Ending.returned (.bool (decide (0≤Lib.indexByte badL c)))=_
 cases h:hasB badL c with
 |true=>rw [ydI ((zdK _ _).1 h)]
 |false=>rw [(zdK _ _).2 h];rfl
theorem zxH {s:ByteArray} {k:Nat} (hk:k<s.size) (h:zkW s[k]=false):zfJ s.data.toList=false:=by
 unfold zfJ
 rw [List.all_eq_false]
 refine ⟨s[k],?_,by simp [h]⟩
 show s.data[k]∈_
 simp
theorem zsL {s:ByteArray} (h: ∀k (h:k<s.size),zkW s[k]=true):zfJ s.data.toList=true:=by
 unfold zfJ
 rw [List.all_eq_true]
 intro x hx
 obtain ⟨j,hj,rfl⟩:=List.getElem_of_mem hx
 exact h j (by simpa using hj)
theorem zzG (s:ByteArray) (k:Nat) (h:k<s.size) (hp:s[k].toNat<128):Utf8.decode s k=(s[k].toNat,1):=by
 have:=zgD s k h
 rw [zcY,if_pos (by omega),this]
theorem z3U (s:ByteArray) (w:World) (hp:zeI s.data.toList=true):
  Calls Tryz.prog 145 #[.string s] w (zdM w (zfJ s.data.toList)):=by
 have HP:Hid (∀k (h:k<s.size),s[k].toNat<128):=fun k h=>zsR.1 hp _ (by show s.data[k]∈_;simp)
 clear hp
 go_enter Tryz.func145,Tryz.ntmps145
 go_wp2_with fail
 refine (zgA s _).mono ?_
 rintro e w' ⟨rfl,rfl⟩
 go_wp2
 go_loopw [] (fun wr=> ∃k:Nat,wr.heap[w.heap.size]? =some (.stringIter s k)∧Below w.heap.size w wr∧k≤s.size∧Hid (∀j (h:j<s.size),j<k→zkW s[j]=true)) (fun wr=>s.size - wr.iterPos w.heap.size)
 case atStart=>exact ⟨0,World.iter_heap w s 0,(Below.refl _ w).alloc (Nat.le_refl _) _,Nat.zero_le _,fun j _ h=>absurd h (Nat.not_lt_zero j)⟩
 case round=>
  obtain ⟨k,hit,hbw,hk,H⟩:=hrel
  by_cases hlt:k<s.size
  ·have hnx: ∀ty,(Instr.next (.pointer (some ⟨w.heap.size,0,none⟩)) true ty).run Tryz.prog wr=_:=fun ty=>Lib.run_next_any_at wr w.heap.size s k ty hit hlt
   have hp:=HP.out k hlt
   rw [zzG s k hlt hp] at hnx
   have hit2:=Lib.iterAt_heap wr w.heap.size s k (k+1) hit
   have hbw2:=Lib.below_iterAt hbw (k:=w.heap.size) (Nat.le_refl _) s (k+1)
   have HWP:Hid (wr.iterPos w.heap.size=k):=by
    show wr.iterPos w.heap.size=k
    simp only [World.iterPos,hit]
   simp only at hnx
   generalize wr.iterAt w.heap.size s (k+1)=wi at*
   have HBA:=ydG (fun W=>ycA s[k] W hp)
   have HSC:=ydG (show zkW s[k]=(decide (33≤s[k].toNat∧s[k].toNat≤126)&& !hasB badL s[k]) from rfl)
   have HNO:=ydG (fun h=>zxH hlt h)
   obtain ⟨c,hc⟩: ∃c,s[k].toNat=c:=⟨_,rfl⟩
   generalize hbd:hasB badL s[k]=bd at HBA HSC
   rw [hc] at hp hnx HBA HSC
   clear hbd
   have HC:=ydG hc
   clear hc
   by_cases h1:c<33
   ·have HF:=ydG (HNO.out (by rw [HSC.out,ydH (by omega)];rfl))
    have hd:decide ((c:Int)<33)=true:=ydI (by omega)
    go_wp2
    go_ret
    exact zaM HF.out hbw2
   ·have hd1:decide ((c:Int)<33)=false:=ydH (by omega)
    by_cases h2:126<c
    ·have HF:=ydG (HNO.out (by rw [HSC.out,ydH (by omega)];rfl))
     have hd:decide (126<(c:Int))=true:=ydI (by omega)
     go_wp2
     go_ret
     exact zaM HF.out hbw2
    ·have hd2:decide (126<(c:Int))=false:=ydH (by omega)
     cases bd with
     |true=>
      have HF:=ydG (HNO.out (by rw [HSC.out];simp))
      go_wp2_with (go_at_call 40;refine (HBA.out _).mono ?_;rintro e w' ⟨rfl,rfl⟩)
      go_ret
      exact zaM HF.out hbw2
     |false=>
      have HY:=ydG (show zkW s[k]=true by rw [HSC.out,ydI (by omega)];rfl)
      go_wp2_with (go_at_call 40;refine (HBA.out _).mono ?_;rintro e w' ⟨rfl,rfl⟩)
      go_roundw
      case rel=>
       refine ⟨k+1,hit2,hbw2,by omega,fun j hj hjk=> ?_⟩
       by_cases e:j=k
       ·subst e;exact HY.out
       ·exact H.out j hj (by omega)
      case measure=>
       rw [HWP.out]
       simp only [World.iterPos,hit2]
       omega
  ·have hnx: ∀ty,(Instr.next (.pointer (some ⟨w.heap.size,0,none⟩)) true ty).run Tryz.prog wr=_:=fun ty=>Lib.run_next_end_at wr w.heap.size s k ty hit hlt
   have HF:=ydG (zsL (s:=s) fun j hj=>H.out j hj (by omega))
   go_wp2
   go_ret
   exact zaM HF.out hbw
end
end Go.Proofs.YthacmlahnpdeeaaGreatDoor
