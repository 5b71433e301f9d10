/-
  What the law AuthorityStrict leans on, and its walk (14 of 35).
-/
import Derived.Lib.Strings
import Derived.Test.YtmjappnpedjlnaaGreatDoorAuthorityStrictPkC
import Derived.Test.YtmjappnpedjlnaaGreatDoorAuthorityStrictPkA
namespace Go.Proofs.YtmjappnpedjlnaaGreatDoor
set_option maxRecDepth 100000
set_option maxHeartbeats 16000000
abbrev z0A := @Lib.hid
abbrev z0B := @decide_eq_false
abbrev z0C := @decide_eq_true
section
open Go.RowKit
def badL:List UInt8:=[34,35,37,47,58,60,62,63,64,91,92,93,94,96,123,124,125]
def zhO (c:UInt8):Bool:=decide (33≤c.toNat∧c.toNat≤126)&& !hasB badL c
def zbH (l:List UInt8):List (List UInt8):=(zaH l).take (zeU (zaH l))
def zeC (l:List UInt8):Nat:=if l.getLast? =some 46 then l.length - 1 else l.length
def zdS (w:List UInt8):Bool:=decide (1≤w.length∧w.length≤63)
def zfK (w:List UInt8):Bool:=Lib.hasPrefix w [120,110,45,45]
def zdL (l:List UInt8):Bool:=decide (zeC l≤253)&&(zbH l).all zdS
def zeJ (l:List UInt8):Bool:=l.all zhO
def zdH (l:List UInt8):Bool:=l.all fun c=>decide (c.toNat<128)
def znK (l:List UInt8):Int:=if (zdL l&&zeJ l)=false then 6 else if (zbH l).any zfK=true then 7 else 0
def ziD (l:List UInt8):Int:=if zdH l=false then 7 else znK (zaN l)
def zbV (l:List UInt8):List UInt8×Int:=if ziD l=0 then (zaN l,0) else ([],ziD l)
theorem zoV (r:List UInt8) (c:UInt8):Lib.hasSuffix r [c]=decide (r.getLast? =some c):=by
 rw [Bool.eq_iff_iff,decide_eq_true_iff]
 unfold Lib.hasSuffix
 rw [List.isSuffixOf_iff_suffix,List.getLast?_eq_some_iff]
 exact ⟨fun ⟨t,h⟩=>⟨t,h.symm⟩,fun ⟨t,h⟩=>⟨t,h.symm⟩⟩
theorem zhU (r:List UInt8) (c:UInt8):Lib.trimSuffix r [c]=if r.getLast? =some c then r.dropLast else r:=by
 unfold Lib.trimSuffix
 rw [zoV]
 simp [List.dropLast_eq_take]
theorem ztN (l:List UInt8):(Lib.trimSuffix l [46]).length=zeC l:=by
 rw [zhU]
 unfold zeC
 split<;>simp
theorem zpF (p:UInt8→Bool) (h: ∀n:Fin 256,p (UInt8.ofNat n.val)=true) (c:UInt8):p c=true:=by
 have:=h ⟨c.toNat,c.toNat_lt⟩
 rwa [show UInt8.ofNat c.toNat=c from by simp] at this
theorem zzA (c:UInt8):lowC (lowC c)=lowC c:=by simpa using zpF (fun c=>lowC (lowC c)==lowC c) (by decide+kernel) c
theorem ztA (c:UInt8) (h:c.toNat<128):(lowC c).toNat<128:=by
 have:=zpF (fun c=> !decide (c.toNat<128)||decide ((lowC c).toNat<128)) (by decide+kernel) c
 simpa [h] using this
theorem znU (l:List UInt8):zaN (zaN l)=zaN l:=by simp [zaN,zzA]
theorem zlT {l:List UInt8}:zdH l=true↔ ∀c∈l,c.toNat<128:=by simp [zdH]
theorem zmY {l:List UInt8} (h:zdH l=true):zdH (zaN l)=true:=by
 rw [zlT] at*
 intro c hc
 obtain ⟨d,hd,rfl⟩:=List.mem_map.1 hc
 exact ztA d (h d hd)
structure zjQ (n:List UInt8):Prop where
 low:zaN n=n
 size:zeC n≤253
 lab: ∀w∈zbH n,1≤w.length∧w.length≤63
 sign: ∀c∈n,zhO c=true
 code: ∀w∈zbH n,zfK w=false
theorem zwD {l:List UInt8} (hl:zaN l=l):znK l=0↔zjQ l:=by
 unfold znK zdL zeJ
 constructor
 ·intro h
  split at h
  ·cases h
  ·rename_i h1
   split at h
   ·cases h
   ·rename_i h2
    simp [zdS] at h1 h2
    exact ⟨hl,h1.1,fun w hw=>h1.2.1 w hw,h1.2.2,h2⟩
 ·intro h
  rw [if_neg,if_neg]
  ·simpa using h.code
  ·have h1:(zbH l).all zdS=true:=List.all_eq_true.2 fun w hw=>z0C (h.lab w hw)
   have h2:l.all zhO=true:=List.all_eq_true.2 h.sign
   rw [h1,h2,z0C h.size]
   simp
theorem zsB {l:List UInt8} (h:ziD l=0):zdH l=true∧zjQ (zaN l):=by
 unfold ziD at h
 cases hp:zdH l with
 |false=>rw [hp] at h;cases h
 |true=>rw [hp] at h;exact ⟨rfl,(zwD (znU l)).1 h⟩
theorem zmU {l:List UInt8} (h:(zbV l).2=0):zbV l=(zaN l,0)∧zjQ (zaN l):=by
 unfold zbV at*
 split at h
 ·rename_i h0
  rw [if_pos h0]
  exact ⟨rfl,(zsB h0).2⟩
 ·rename_i h0
  exact absurd h h0
theorem zjO {l:List UInt8} (h:(zbV l).2=0):zjQ (zbV l).1:=by
 have:=zmU h
 rw [this.1]
 exact this.2
theorem ztH {l:List UInt8} (h:(zbV l).2≠0):(zbV l).1=[]:=by
 unfold zbV at*
 split
 ·rename_i h0;rw [if_pos h0] at h;exact absurd rfl h
 ·rfl
theorem zjI {l n:List UInt8} {e:Int} (h:zbV l=(n,e)):n.length≤l.length:=by
 by_cases h0:e=0
 ·have:=(zmU (l:=l) (by rw [h];exact h0)).1
  rw [h] at this
  injection this with h1 _
  rw [h1,zgM]
  exact Nat.le_refl _
 ·have:=ztH (l:=l) (by rw [h];exact h0)
  rw [h] at this
  rw [show n=[] from this]
  exact Nat.zero_le _
theorem zsG (l:List UInt8):0<(zaH l).length:=by simp [zaH,zcR]
theorem ztJ {ps:List (List UInt8)} (h:0<ps.length):0<zeU ps:=by unfold zeU;split<;>omega
theorem zpC (l:List UInt8):l.length≤zeC l+1:=by unfold zeC;split<;>omega
theorem zsP {l:List UInt8} (h:zdL l=true):l.length≤254:=by
 unfold zdL at h
 have:=of_decide_eq_true (Bool.and_eq_true_iff.1 h).1
 have:=zpC l
 omega
theorem zoC (l:List UInt8):zeC l≤l.length:=by unfold zeC;split<;>omega
def Seen (w:World) (g:Nat) (ps:List (List UInt8)):Prop:=g<w.heap.size∧ ∀j,j<ps.length→w.cell? ⟨g,j,none⟩=some (.string ⟨(ps.getD j []).toArray⟩)
def znM (w:World) (ps:List (List UInt8)) (e:Ending) (w':World):Prop:= ∃g c,e= .returned (.slice (some ⟨g,0,none⟩) ps.length c)∧ps.length≤c∧Seen w' g ps∧Below w.heap.size w w'
theorem zcO {w w':World} {ps qs:List (List UInt8)} {g c n k:Nat} (hq:ps.take k=qs) (hk:k≤ps.length) (hn:n=k) (hcap:k≤c) (hg:g<w'.heap.size) (hc: ∀j,j<ps.length→w'.cell? ⟨g,j,none⟩=some (.string ⟨(ps.getD j []).toArray⟩)) (hb:Below w.heap.size w w'):znM w qs (.returned (.slice (some ⟨g,0,none⟩) n c)) w':=by
 subst hq hn
 refine ⟨g,c,by rw [List.length_take,Nat.min_eq_left hk],by rw [List.length_take,Nat.min_eq_left hk];exact hcap,⟨hg,fun j hj=> ?_⟩,hb⟩
 rw [List.length_take,Nat.min_eq_left hk] at hj
 rw [hc j (by omega)]
 simp [List.getD,hj]
theorem zeG (s:ByteArray) (w:World):Calls Tryz.prog 90 #[.string s] w fun e w'=>e= .returned (.string s)∧w=w':=by
 go_enter Tryz.func90,Tryz.ntmps90
 go_wp2
 go_ret
 exact ⟨rfl,rfl⟩
theorem zgX (l:List UInt8):(zbH l).length≤l.length+1:=by
 have h1:=zbS (hasB [46]) l
 unfold zbH zaH
 rw [List.length_take]
 omega
theorem ziY (s:ByteArray) (w:World) (hs:s.size≤1073741824):
  Calls Tryz.prog 176 #[.string s] w (znM w (zbH s.data.toList)):=by
 obtain ⟨L,x,hL,hx,hLl,hc⟩:=zfH s.data.toList
 rw [zaB] at hLl
 go_enter Tryz.func176,Tryz.ntmps176
 go_wp2_with fail
 refine (zeG s _).mono ?_
 rintro e w' ⟨rfl,rfl⟩
 go_wp2_with fail
 refine (zdD s _ _ hs).mono ?_
 rintro e w1 ⟨v,rfl,hp,hb1⟩
 have hp':zbY w.heap.size w1 v (zaH s.data.toList):=hp
 obtain ⟨g,cap,rfl,hcap,hg,hcell⟩:=hp'.form2 (by omega)
 rw [hL] at hcap ⊢
 have hcx:=hcell L (by omega)
 rw [hx] at hcx
 have HC:=z0A hcell
 have HL:=z0A hL
 have HX:=z0A hx
 clear hcell hp hp' hL hx
 rcases hc with ⟨h1,rfl,hk⟩|⟨rfl|hne,hk⟩
 ·have HK:=z0A hk
  obtain ⟨n,rfl⟩: ∃n,L=n+1:=⟨L - 1,by omega⟩
  clear hk h1
  go_wp2
  go_ret
  exact zcO (k:=n+1) (by unfold zbH;rw [HK.out]) (by rw [HL.out];omega) (by omega) (by omega) hg HC.out hb1
 ·have HK:=z0A hk
  clear hk
  go_wp2
  go_ret
  exact zcO (k:=1) (by unfold zbH;rw [HK.out]) (by rw [HL.out];omega) (by omega) (by omega) hg HC.out hb1
 ·have HK:=z0A hk
  have hxe:x.isEmpty=false:=zbF hne
  clear hk hne
  by_cases h0:L=0
  ·subst h0
   go_wp2
   go_ret
   exact zcO (k:=1) (by unfold zbH;rw [HK.out]) (by rw [HL.out];omega) (by omega) (by omega) hg HC.out hb1
  ·obtain ⟨n,rfl⟩: ∃n,L=n+1:=⟨L - 1,by omega⟩
   go_wp2
   go_ret
   exact zcO (k:=n+2) (by unfold zbH;rw [HK.out]) (by rw [HL.out];omega) (by omega) (by omega) hg HC.out hb1
theorem zsT (q:List UInt8) (w:World):Calls Tryz.prog 177 #[.string ⟨q.toArray⟩] w fun e w'=>e= .returned (.bool (zfK q))∧w=w':=by
 go_enter Tryz.func177,Tryz.ntmps177
 go_wp2_with fail
 refine (Tryz.strings_HasPrefix ⟨q.toArray⟩ _ _).mono ?_
 rintro e w' ⟨rfl,rfl⟩
 go_wp2
 go_ret
 exact ⟨rfl,rfl⟩
theorem zuX {p:List UInt8→Bool} {ps:List (List UInt8)} {k:Nat} {q:List UInt8} (hk:k<ps.length) (hq:ps.getD k []=q) (h:p q=false):ps.all p=false:=by
 rw [List.all_eq_false]
 refine ⟨q,?_,by simp [h]⟩
 rw [←hq,List.getD,List.getElem?_eq_getElem hk]
 exact List.getElem_mem hk
theorem zrS {p:List UInt8→Bool} {ps:List (List UInt8)} (h: ∀j,j<ps.length→p (ps.getD j [])=true):ps.all p=true:=by
 rw [List.all_eq_true]
 intro x hx
 obtain ⟨j,hj,rfl⟩:=List.getElem_of_mem hx
 have:=h j hj
 rwa [List.getD,List.getElem?_eq_getElem hj] at this
theorem zmZ (s:ByteArray) (w:World) (hs:s.size≤9223372036854775807):Calls Tryz.prog 212 #[.string s,.string ⟨#[46]⟩] w fun e w'=> ∃t:ByteArray,e= .returned (.string t)∧t.size=zeC s.data.toList∧w=w':=by
 refine (Tryz.strings_TrimSuffix s ⟨#[46]⟩ w (by omega)).mono ?_
 rintro e w' ⟨rfl,rfl⟩
 exact ⟨_,rfl,by rw [zaA];exact ztN _,rfl⟩
theorem ztD (s:ByteArray) (w:World) (hs:s.size≤9223372036854775807):
  Calls Tryz.prog 173 #[.string s] w (zdF w (zdL s.data.toList)):=by
 obtain ⟨ps,hps⟩: ∃ps,zbH s.data.toList=ps:=⟨_,rfl⟩
 have HLB:=z0A (fun W h=>ziY s W h)
 rw [hps] at HLB
 have hlg:=zpC s.data.toList
 rw [zaB] at hlg
 have HS:Hid (zdL s.data.toList=(decide (zeC s.data.toList≤253)&&ps.all zdS)):=by show _=_;rw [←hps];rfl
 have hpl:ps.length≤s.size+1:=by rw [←hps];have:=zgX s.data.toList;rwa [zaB] at this
 clear hps
 go_enter Tryz.func173,Tryz.ntmps173
 go_wp2_with fail
 refine (zeG s _).mono ?_
 rintro e w' ⟨rfl,rfl⟩
 go_wp2_with fail
 refine (zmZ s _ hs).mono ?_
 rintro e w' ⟨t,rfl,ht,rfl⟩
 rw [←ht] at HS hlg
 clear ht
 by_cases hb:253<t.size
 ·have hd:decide (253<(t.size:Int))=true:=z0C (by omega)
  have HF:=z0A (show zdL s.data.toList=false by rw [HS.out,z0B (by omega)];rfl)
  go_wp2
  go_ret
  exact zaL HF.out (Below.refl _ _)
 have hd:decide (253<(t.size:Int))=false:=z0B (by omega)
 have HF:Hid (zdL s.data.toList=ps.all zdS):=by show _=_;rw [HS.out,z0C (by omega)];rfl
 have hss:s.size≤254:=by omega
 clear hb HS hlg
 go_wp2_with fail
 refine (HLB.out _ (by omega)).mono ?_
 rintro e w1 ⟨g,c,rfl,-,hseen,hb1⟩
 have HC:=z0A hseen.2
 have hg:=hseen.1
 clear hseen hd HLB
 go_wp2
 go_loop [13] (fun i=> ∃k:Nat,k≤ps.length∧i= .int .i64 k∧Hid (∀j,j<k→zdS (ps.getD j [])=true)) (fun i=>ps.length - (intOf i).toNat)
 case atStart=>exact ⟨0,Nat.zero_le _,rfl,fun j h=>absurd h (Nat.not_lt_zero j)⟩
 case round=>
  obtain ⟨k,hk,rfl,H⟩:=hrel
  by_cases hlt:k<ps.length
  ·have hcl:=HC.out k hlt
   obtain ⟨q,hq⟩: ∃q,ps.getD k []=q:=⟨_,rfl⟩
   rw [hq] at hcl
   have HQ:=z0A hq
   clear hq
   by_cases h1:q=[]
   ·subst h1
    have HN:=z0A (zuX hlt HQ.out (show zdS []=false from rfl))
    go_wp2
    go_ret
    exact zaL (HF.out.trans HN.out) hb1
   ·have hqe:q.isEmpty=false:=zbF h1
    have hq0:0<q.length:=List.length_pos_iff.2 h1
    by_cases h2:63<q.length
    ·have HN:=z0A (zuX hlt HQ.out (show zdS q=false from z0B (by omega)))
     have hd:decide (63<(q.length:Int))=true:=z0C (by omega)
     clear h1
     go_wp2
     go_ret
     exact zaL (HF.out.trans HN.out) hb1
    ·have HY:=z0A (show zdS q=true from z0C (by omega))
     have hd:decide (63<(q.length:Int))=false:=z0B (by omega)
     clear h1
     go_wp2
     go_round
     case rel=>
      refine ⟨k+1,by omega,by go_num,fun j hj=> ?_⟩
      by_cases e:j=k
      ·subst e;rw [HQ.out];exact HY.out
      ·exact H.out j (by omega)
     case measure=>simp [intOf];omega
  ·have HN:=z0A (zrS (p:=zdS) (ps:=ps) fun j hj=>H.out j (by omega))
   go_wp2
   go_ret
   exact zaL (HF.out.trans HN.out) hb1
theorem zyZ (c:UInt8) (w:World) (hc:c.toNat<128):Calls Tryz.prog 71 #[.string ⟨#[34,35,37,47,58,60,62,63,64,91,92,93,94,96,123,124,125]⟩,.int .i32 (c.toNat:Int)] w fun e w'=>e= .returned (.bool (hasB badL c))∧w=w':=by
 refine (Tryz.strings_ContainsRune_ascii _ _ w (by omega) (by omega)).mono ?_
 rintro e w' ⟨rfl,rfl⟩
 rw [znB]
 refine ⟨?_,rfl⟩
 show Ending.returned (.bool (decide (0≤Lib.indexByte badL c)))=_
 cases h:hasB badL c with
 |true=>rw [z0C ((zfG _ _).1 h)]
 |false=>rw [(zfG _ _).2 h];rfl
theorem zpZ {s:ByteArray} {k:Nat} (hk:k<s.size) (h:zhO s[k]=false):zeJ s.data.toList=false:=by
 unfold zeJ
 rw [List.all_eq_false]
 refine ⟨s[k],?_,by simp [h]⟩
 show s.data[k]∈_
 simp
theorem zmO {s:ByteArray} (h: ∀k (h:k<s.size),zhO s[k]=true):zeJ s.data.toList=true:=by
 unfold zeJ
 rw [List.all_eq_true]
 intro x hx
 obtain ⟨j,hj,rfl⟩:=List.getElem_of_mem hx
 exact h j (by simpa using hj)
theorem zqT (s:ByteArray) (k:Nat) (h:k<s.size) (hp:s[k].toNat<128):Utf8.decode s k=(s[k].toNat,1):=by
 have:=zxE s k h
 rw [zsL,if_pos (by omega),this]
theorem zuQ (s:ByteArray) (w:World) (hp:zdH s.data.toList=true):
  Calls Tryz.prog 174 #[.string s] w (zdF w (zeJ s.data.toList)):=by
 have HP:Hid (∀k (h:k<s.size),s[k].toNat<128):=fun k h=>zlT.1 hp _ (by show s.data[k]∈_;simp)
 clear hp
 go_enter Tryz.func174,Tryz.ntmps174
 go_wp2_with fail
 refine (zeG s _).mono ?_
 rintro e w' ⟨rfl,rfl⟩
 go_wp2
 go_loopw [] (fun wr=> ∃k:Nat,wr.heap[w.heap.size]? =some (.stringIter s k)∧Below w.heap.size w wr∧k≤s.size∧Hid (∀j (h:j<s.size),j<k→zhO s[j]=true)) (fun wr=>s.size - wr.iterPos w.heap.size)
 case atStart=>exact ⟨0,World.iter_heap w s 0,(Below.refl _ w).alloc (Nat.le_refl _) _,Nat.zero_le _,fun j _ h=>absurd h (Nat.not_lt_zero j)⟩
 case round=>
  obtain ⟨k,hit,hbw,hk,H⟩:=hrel
  by_cases hlt:k<s.size
  ·have hnx: ∀ty,(Instr.next (.pointer (some ⟨w.heap.size,0,none⟩)) true ty).run Tryz.prog wr=_:=fun ty=>Lib.run_next_any_at wr w.heap.size s k ty hit hlt
   have hp:=HP.out k hlt
   rw [zqT s k hlt hp] at hnx
   have hit2:=Lib.iterAt_heap wr w.heap.size s k (k+1) hit
   have hbw2:=Lib.below_iterAt hbw (k:=w.heap.size) (Nat.le_refl _) s (k+1)
   have HWP:Hid (wr.iterPos w.heap.size=k):=by
    show wr.iterPos w.heap.size=k
    simp only [World.iterPos,hit]
   simp only at hnx
   generalize wr.iterAt w.heap.size s (k+1)=wi at*
   have HBA:=z0A (fun W=>zyZ s[k] W hp)
   have HSC:=z0A (show zhO s[k]=(decide (33≤s[k].toNat∧s[k].toNat≤126)&& !hasB badL s[k]) from rfl)
   have HNO:=z0A (fun h=>zpZ hlt h)
   obtain ⟨c,hc⟩: ∃c,s[k].toNat=c:=⟨_,rfl⟩
   generalize hbd:hasB badL s[k]=bd at HBA HSC
   rw [hc] at hp hnx HBA HSC
   clear hbd
   have HC:=z0A hc
   clear hc
   by_cases h1:c<33
   ·have HF:=z0A (HNO.out (by rw [HSC.out,z0B (by omega)];rfl))
    have hd:decide ((c:Int)<33)=true:=z0C (by omega)
    go_wp2
    go_ret
    exact zaL HF.out hbw2
   ·have hd1:decide ((c:Int)<33)=false:=z0B (by omega)
    by_cases h2:126<c
    ·have HF:=z0A (HNO.out (by rw [HSC.out,z0B (by omega)];rfl))
     have hd:decide (126<(c:Int))=true:=z0C (by omega)
     go_wp2
     go_ret
     exact zaL HF.out hbw2
    ·have hd2:decide (126<(c:Int))=false:=z0B (by omega)
     cases bd with
     |true=>
      have HF:=z0A (HNO.out (by rw [HSC.out];simp))
      go_wp2_with (go_at_call 71;refine (HBA.out _).mono ?_;rintro e w' ⟨rfl,rfl⟩)
      go_ret
      exact zaL HF.out hbw2
     |false=>
      have HY:=z0A (show zhO s[k]=true by rw [HSC.out,z0C (by omega)];rfl)
      go_wp2_with (go_at_call 71;refine (HBA.out _).mono ?_;rintro e w' ⟨rfl,rfl⟩)
      go_roundw
      case rel=>
       refine ⟨k+1,hit2,hbw2,by omega,fun j hj hjk=> ?_⟩
       by_cases e:j=k
       ·subst e;exact HY.out
       ·exact H.out j hj (by omega)
      case measure=>
       rw [HWP.out]
       simp only [World.iterPos,hit2]
       omega
  ·have hnx: ∀ty,(Instr.next (.pointer (some ⟨w.heap.size,0,none⟩)) true ty).run Tryz.prog wr=_:=fun ty=>Lib.run_next_end_at wr w.heap.size s k ty hit hlt
   have HF:=z0A (zmO (s:=s) fun j hj=>H.out j hj (by omega))
   go_wp2
   go_ret
   exact zaL HF.out hbw
end
end Go.Proofs.YtmjappnpedjlnaaGreatDoor
