/-
  What the law AbnfMeets leans on, and its walk (15 of 35).
-/
import Derived.Lib.Strings
import Derived.Test.YtppgdppmheiocaaGreatDoorAbnfMeetsPkC
import Derived.Test.YtppgdppmheiocaaGreatDoorAbnfMeetsPkA
namespace Go.Proofs.YtppgdppmheiocaaGreatDoor
set_option maxRecDepth 100000
set_option maxHeartbeats 16000000
abbrev yhM := @Lib.hid
abbrev yhN := @decide_eq_false
abbrev yhO := @decide_eq_true
section
open Go.RowKit
def badL:List UInt8:=[34,35,37,47,58,60,62,63,64,91,92,93,94,96,123,124,125]
def zhD (c:UInt8):Bool:=decide (33≤c.toNat∧c.toNat≤126)&& !hasB badL c
def zbY (l:List UInt8):List (List UInt8):=(zaM l).take (zhB (zaM l))
def zmQ (l:List UInt8):Nat:=if l.getLast? =some 46 then l.length - 1 else l.length
def zhF (w:List UInt8):Bool:=decide (1≤w.length∧w.length≤63)
def zhW (w:List UInt8):Bool:=Lib.hasPrefix w [120,110,45,45]
def zgD (l:List UInt8):Bool:=decide (zmQ l≤253)&&(zbY l).all zhF
def zhG (l:List UInt8):Bool:=l.all zhD
def zeF (l:List UInt8):Bool:=l.all fun c=>decide (c.toNat<128)
def zsP (l:List UInt8):Int:=if (zgD l&&zhG l)=false then 6 else if (zbY l).any zhW=true then 7 else 0
def zlS (l:List UInt8):Int:=if zeF l=false then 7 else zsP (zaF l)
def zcA (l:List UInt8):List UInt8×Int:=if zlS l=0 then (zaF l,0) else ([],zlS l)
theorem zwP (r:List UInt8) (c:UInt8):Lib.hasSuffix r [c]=decide (r.getLast? =some c):=by
 rw [Bool.eq_iff_iff,decide_eq_true_iff]
 unfold Lib.hasSuffix
 rw [List.isSuffixOf_iff_suffix,List.getLast?_eq_some_iff]
 exact ⟨fun ⟨t,h⟩=>⟨t,h.symm⟩,fun ⟨t,h⟩=>⟨t,h.symm⟩⟩
theorem zkF (r:List UInt8) (c:UInt8):Lib.trimSuffix r [c]=if r.getLast? =some c then r.dropLast else r:=by
 unfold Lib.trimSuffix
 rw [zwP]
 simp [List.dropLast_eq_take]
theorem z3J (l:List UInt8):(Lib.trimSuffix l [46]).length=zmQ l:=by
 rw [zkF]
 unfold zmQ
 split<;>simp
theorem ydF (p:UInt8→Bool) (h: ∀n:Fin 256,p (UInt8.ofNat n.val)=true) (c:UInt8):p c=true:=by
 have:=h ⟨c.toNat,c.toNat_lt⟩
 rwa [show UInt8.ofNat c.toNat=c from by simp] at this
theorem yfD (c:UInt8):lowC (lowC c)=lowC c:=by simpa using ydF (fun c=>lowC (lowC c)==lowC c) (by decide+kernel) c
theorem z5B (c:UInt8) (h:c.toNat<128):(lowC c).toNat<128:=by
 have:=ydF (fun c=> !decide (c.toNat<128)||decide ((lowC c).toNat<128)) (by decide+kernel) c
 simpa [h] using this
theorem zsT (l:List UInt8):zaF (zaF l)=zaF l:=by simp [zaF,yfD]
theorem zsB {l:List UInt8}:zeF l=true↔ ∀c∈l,c.toNat<128:=by simp [zeF]
theorem ztC {l:List UInt8} (h:zeF l=true):zeF (zaF l)=true:=by
 rw [zsB] at*
 intro c hc
 obtain ⟨d,hd,rfl⟩:=List.mem_map.1 hc
 exact z5B d (h d hd)
structure zlT (n:List UInt8):Prop where
 low:zaF n=n
 size:zmQ n≤253
 lab: ∀w∈zbY n,1≤w.length∧w.length≤63
 sign: ∀c∈n,zhD c=true
 code: ∀w∈zbY n,zhW w=false
theorem yaC {l:List UInt8} (hl:zaF l=l):zsP l=0↔zlT l:=by
 unfold zsP zgD zhG
 constructor
 ·intro h
  split at h
  ·cases h
  ·rename_i h1
   split at h
   ·cases h
   ·rename_i h2
    simp [zhF] at h1 h2
    exact ⟨hl,h1.1,fun w hw=>h1.2.1 w hw,h1.2.2,h2⟩
 ·intro h
  rw [if_neg,if_neg]
  ·simpa using h.code
  ·have h1:(zbY l).all zhF=true:=List.all_eq_true.2 fun w hw=>yhO (h.lab w hw)
   have h2:l.all zhD=true:=List.all_eq_true.2 h.sign
   rw [h1,h2,yhO h.size]
   simp
theorem z3R {l:List UInt8} (h:zlS l=0):zeF l=true∧zlT (zaF l):=by
 unfold zlS at h
 cases hp:zeF l with
 |false=>rw [hp] at h;cases h
 |true=>rw [hp] at h;exact ⟨rfl,(yaC (zsT l)).1 h⟩
theorem zpU {l:List UInt8} (h:(zcA l).2=0):zcA l=(zaF l,0)∧zlT (zaF l):=by
 unfold zcA at*
 split at h
 ·rename_i h0
  rw [if_pos h0]
  exact ⟨rfl,(z3R h0).2⟩
 ·rename_i h0
  exact absurd h h0
theorem znZ {l:List UInt8} (h:(zcA l).2=0):zlT (zcA l).1:=by
 have:=zpU h
 rw [this.1]
 exact this.2
theorem z7Q {l:List UInt8} (h:(zcA l).2≠0):(zcA l).1=[]:=by
 unfold zcA at*
 split
 ·rename_i h0;rw [if_pos h0] at h;exact absurd rfl h
 ·rfl
theorem zyA {l n:List UInt8} {e:Int} (h:zcA l=(n,e)):n.length≤l.length:=by
 by_cases h0:e=0
 ·have:=(zpU (l:=l) (by rw [h];exact h0)).1
  rw [h] at this
  injection this with h1 _
  rw [h1,zgI]
  exact Nat.le_refl _
 ·have:=z7Q (l:=l) (by rw [h];exact h0)
  rw [h] at this
  rw [show n=[] from this]
  exact Nat.zero_le _
theorem z3Z (l:List UInt8):0<(zaM l).length:=by simp [zaM,zbH]
theorem z0E {ps:List (List UInt8)} (h:0<ps.length):0<zhB ps:=by unfold zhB;split<;>omega
theorem zoU (l:List UInt8):l.length≤zmQ l+1:=by unfold zmQ;split<;>omega
theorem z7T {l:List UInt8} (h:zgD l=true):l.length≤254:=by
 unfold zgD at h
 have:=of_decide_eq_true (Bool.and_eq_true_iff.1 h).1
 have:=zoU l
 omega
theorem yaH (l:List UInt8):zmQ l≤l.length:=by unfold zmQ;split<;>omega
def Seen (w:World) (g:Nat) (ps:List (List UInt8)):Prop:=g<w.heap.size∧ ∀j,j<ps.length→w.cell? ⟨g,j,none⟩=some (.string ⟨(ps.getD j []).toArray⟩)
theorem Seen.keep {w w':World} {g:Nat} {ps:List (List UInt8)} (h:Seen w g ps) (hb:Below w.heap.size w w'):Seen w' g ps:=⟨Nat.lt_of_lt_of_le h.1 hb.size,fun j hj=>(hb.cell (p:=⟨g,j,none⟩) h.1).trans (h.2 j hj)⟩
def z7U (w:World) (ps:List (List UInt8)) (e:Ending) (w':World):Prop:= ∃g c,e= .returned (.slice (some ⟨g,0,none⟩) ps.length c)∧ps.length≤c∧Seen w' g ps∧Below w.heap.size w w'
theorem zgS {w w':World} {ps qs:List (List UInt8)} {g c n k:Nat} (hq:ps.take k=qs) (hk:k≤ps.length) (hn:n=k) (hcap:k≤c) (hg:g<w'.heap.size) (hc: ∀j,j<ps.length→w'.cell? ⟨g,j,none⟩=some (.string ⟨(ps.getD j []).toArray⟩)) (hb:Below w.heap.size w w'):z7U w qs (.returned (.slice (some ⟨g,0,none⟩) n c)) w':=by
 subst hq hn
 refine ⟨g,c,by rw [List.length_take,Nat.min_eq_left hk],by rw [List.length_take,Nat.min_eq_left hk];exact hcap,⟨hg,fun j hj=> ?_⟩,hb⟩
 rw [List.length_take,Nat.min_eq_left hk] at hj
 rw [hc j (by omega)]
 simp [List.getD,hj]
theorem zdO (s:ByteArray) (w:World):Calls Tryz.prog 169 #[.string s] w fun e w'=>e= .returned (.string s)∧w=w':=by
 go_enter Tryz.func169,Tryz.ntmps169
 go_wp2
 go_ret
 exact ⟨rfl,rfl⟩
theorem znK (l:List UInt8):(zbY l).length≤l.length+1:=by
 have h1:=zcC (hasB [46]) l
 unfold zbY zaM
 rw [List.length_take]
 omega
theorem znS (s:ByteArray) (w:World) (hs:s.size≤1073741824):
  Calls Tryz.prog 194 #[.string s] w (z7U w (zbY s.data.toList)):=by
 obtain ⟨L,x,hL,hx,hLl,hc⟩:=znC s.data.toList
 rw [zaI] at hLl
 go_enter Tryz.func194,Tryz.ntmps194
 go_wp2_with fail
 refine (zdO s _).mono ?_
 rintro e w' ⟨rfl,rfl⟩
 go_wp2_with fail
 refine (zcQ s _ _ hs).mono ?_
 rintro e w1 ⟨v,rfl,hp,hb1⟩
 have hp':zaY w.heap.size w1 v (zaM s.data.toList):=hp
 obtain ⟨g,cap,rfl,hcap,hg,hcell⟩:=hp'.form2 (by omega)
 rw [hL] at hcap ⊢
 have hcx:=hcell L (by omega)
 rw [hx] at hcx
 have HC:=yhM hcell
 have HL:=yhM hL
 have HX:=yhM hx
 clear hcell hp hp' hL hx
 rcases hc with ⟨h1,rfl,hk⟩|⟨rfl|hne,hk⟩
 ·have HK:=yhM hk
  obtain ⟨n,rfl⟩: ∃n,L=n+1:=⟨L - 1,by omega⟩
  clear hk h1
  go_wp2
  go_ret
  exact zgS (k:=n+1) (by unfold zbY;rw [HK.out]) (by rw [HL.out];omega) (by omega) (by omega) hg HC.out hb1
 ·have HK:=yhM hk
  clear hk
  go_wp2
  go_ret
  exact zgS (k:=1) (by unfold zbY;rw [HK.out]) (by rw [HL.out];omega) (by omega) (by omega) hg HC.out hb1
 ·have HK:=yhM hk
  have hxe:x.isEmpty=false:=zdK hne
  clear hk hne
  by_cases h0:L=0
  ·subst h0
   go_wp2
   go_ret
   exact zgS (k:=1) (by unfold zbY;rw [HK.out]) (by rw [HL.out];omega) (by omega) (by omega) hg HC.out hb1
  ·obtain ⟨n,rfl⟩: ∃n,L=n+1:=⟨L - 1,by omega⟩
   go_wp2
   go_ret
   exact zgS (k:=n+2) (by unfold zbY;rw [HK.out]) (by rw [HL.out];omega) (by omega) (by omega) hg HC.out hb1
theorem z7W (q:List UInt8) (w:World):Calls Tryz.prog 195 #[.string ⟨q.toArray⟩] w fun e w'=>e= .returned (.bool (zhW q))∧w=w':=by
 go_enter Tryz.func195,Tryz.ntmps195
 go_wp2_with fail
 refine (Tryz.strings_HasPrefix ⟨q.toArray⟩ _ _).mono ?_
 rintro e w' ⟨rfl,rfl⟩
 go_wp2
 go_ret
 exact ⟨rfl,rfl⟩
theorem ycS {p:List UInt8→Bool} {ps:List (List UInt8)} {k:Nat} {q:List UInt8} (hk:k<ps.length) (hq:ps.getD k []=q) (h:p q=false):ps.all p=false:=by
 rw [List.all_eq_false]
 refine ⟨q,?_,by simp [h]⟩
 rw [←hq,List.getD,List.getElem?_eq_getElem hk]
 exact List.getElem_mem hk
theorem yfJ {p:List UInt8→Bool} {ps:List (List UInt8)} (h: ∀j,j<ps.length→p (ps.getD j [])=true):ps.all p=true:=by
 rw [List.all_eq_true]
 intro x hx
 obtain ⟨j,hj,rfl⟩:=List.getElem_of_mem hx
 have:=h j hj
 rwa [List.getD,List.getElem?_eq_getElem hj] at this
theorem zsJ (s:ByteArray) (w:World) (hs:s.size≤9223372036854775807):Calls Tryz.prog 214 #[.string s,.string ⟨#[46]⟩] w fun e w'=> ∃t:ByteArray,e= .returned (.string t)∧t.size=zmQ s.data.toList∧w=w':=by
 refine (Tryz.strings_TrimSuffix s ⟨#[46]⟩ w (by omega)).mono ?_
 rintro e w' ⟨rfl,rfl⟩
 exact ⟨_,rfl,by rw [zaE];exact z3J _,rfl⟩
theorem z1Q (s:ByteArray) (w:World) (hs:s.size≤9223372036854775807):
  Calls Tryz.prog 191 #[.string s] w (zbB w (zgD s.data.toList)):=by
 obtain ⟨ps,hps⟩: ∃ps,zbY s.data.toList=ps:=⟨_,rfl⟩
 have HLB:=yhM (fun W h=>znS s W h)
 rw [hps] at HLB
 have hlg:=zoU s.data.toList
 rw [zaI] at hlg
 have HS:Hid (zgD s.data.toList=(decide (zmQ s.data.toList≤253)&&ps.all zhF)):=by show _=_;rw [←hps];rfl
 have hpl:ps.length≤s.size+1:=by rw [←hps];have:=znK s.data.toList;rwa [zaI] at this
 clear hps
 go_enter Tryz.func191,Tryz.ntmps191
 go_wp2_with fail
 refine (zdO s _).mono ?_
 rintro e w' ⟨rfl,rfl⟩
 go_wp2_with fail
 refine (zsJ s _ hs).mono ?_
 rintro e w' ⟨t,rfl,ht,rfl⟩
 rw [←ht] at HS hlg
 clear ht
 by_cases hb:253<t.size
 ·have hd:decide (253<(t.size:Int))=true:=yhO (by omega)
  have HF:=yhM (show zgD s.data.toList=false by rw [HS.out,yhN (by omega)];rfl)
  go_wp2
  go_ret
  exact zaC HF.out (Below.refl _ _)
 have hd:decide (253<(t.size:Int))=false:=yhN (by omega)
 have HF:Hid (zgD s.data.toList=ps.all zhF):=by show _=_;rw [HS.out,yhO (by omega)];rfl
 have hss:s.size≤254:=by omega
 clear hb HS hlg
 go_wp2_with fail
 refine (HLB.out _ (by omega)).mono ?_
 rintro e w1 ⟨g,c,rfl,-,hseen,hb1⟩
 have HC:=yhM hseen.2
 have hg:=hseen.1
 clear hseen hd HLB
 go_wp2
 go_loop [13] (fun i=> ∃k:Nat,k≤ps.length∧i= .int .i64 k∧Hid (∀j,j<k→zhF (ps.getD j [])=true)) (fun i=>ps.length - (intOf i).toNat)
 case atStart=>exact ⟨0,Nat.zero_le _,rfl,fun j h=>absurd h (Nat.not_lt_zero j)⟩
 case round=>
  obtain ⟨k,hk,rfl,H⟩:=hrel
  by_cases hlt:k<ps.length
  ·have hcl:=HC.out k hlt
   obtain ⟨q,hq⟩: ∃q,ps.getD k []=q:=⟨_,rfl⟩
   rw [hq] at hcl
   have HQ:=yhM hq
   clear hq
   by_cases h1:q=[]
   ·subst h1
    have HN:=yhM (ycS hlt HQ.out (show zhF []=false from rfl))
    go_wp2
    go_ret
    exact zaC (HF.out.trans HN.out) hb1
   ·have hqe:q.isEmpty=false:=zdK h1
    have hq0:0<q.length:=List.length_pos_iff.2 h1
    by_cases h2:63<q.length
    ·have HN:=yhM (ycS hlt HQ.out (show zhF q=false from yhN (by omega)))
     have hd:decide (63<(q.length:Int))=true:=yhO (by omega)
     clear h1
     go_wp2
     go_ret
     exact zaC (HF.out.trans HN.out) hb1
    ·have HY:=yhM (show zhF q=true from yhO (by omega))
     have hd:decide (63<(q.length:Int))=false:=yhN (by omega)
     clear h1
     go_wp2
     go_round
     case rel=>
      refine ⟨k+1,by omega,by go_num,fun j hj=> ?_⟩
      by_cases e:j=k
      ·subst e;rw [HQ.out];exact HY.out
      ·exact H.out j (by omega)
     case measure=>simp [intOf];omega
  ·have HN:=yhM (yfJ (p:=zhF) (ps:=ps) fun j hj=>H.out j (by omega))
   go_wp2
   go_ret
   exact zaC (HF.out.trans HN.out) hb1
theorem yfK (c:UInt8) (w:World) (hc:c.toNat<128):Calls Tryz.prog 77 #[.string ⟨#[34,35,37,47,58,60,62,63,64,91,92,93,94,96,123,124,125]⟩,.int .i32 (c.toNat:Int)] w fun e w'=>e= .returned (.bool (hasB badL c))∧w=w':=by
 refine (Tryz.strings_ContainsRune_ascii _ _ w (by omega) (by omega)).mono ?_
 rintro e w' ⟨rfl,rfl⟩
 rw [zhQ]
 refine ⟨?_,rfl⟩
 show Ending.returned (.bool (decide (0≤Lib.indexByte badL c)))=_
 cases h:hasB badL c with
 |true=>rw [yhO ((zbW _ _).1 h)]
 |false=>rw [(zbW _ _).2 h];rfl
theorem yaE {s:ByteArray} {k:Nat} (hk:k<s.size) (h:zhD s[k]=false):zhG s.data.toList=false:=by
 unfold zhG
 rw [List.all_eq_false]
 refine ⟨s[k],?_,by simp [h]⟩
 show s.data[k]∈_
 simp
theorem z5E {s:ByteArray} (h: ∀k (h:k<s.size),zhD s[k]=true):zhG s.data.toList=true:=by
 unfold zhG
 rw [List.all_eq_true]
 intro x hx
 obtain ⟨j,hj,rfl⟩:=List.getElem_of_mem hx
 exact h j (by simpa using hj)
theorem zzU (s:ByteArray) (k:Nat) (h:k<s.size) (hp:s[k].toNat<128):Utf8.decode s k=(s[k].toNat,1):=by
 have:=zoR s k h
 rw [ziT,if_pos (by omega),this]
theorem z6N (s:ByteArray) (w:World) (hp:zeF s.data.toList=true):
  Calls Tryz.prog 192 #[.string s] w (zbB w (zhG s.data.toList)):=by
 have HP:Hid (∀k (h:k<s.size),s[k].toNat<128):=fun k h=>zsB.1 hp _ (by show s.data[k]∈_;simp)
 clear hp
 go_enter Tryz.func192,Tryz.ntmps192
 go_wp2_with fail
 refine (zdO s _).mono ?_
 rintro e w' ⟨rfl,rfl⟩
 go_wp2
 go_loopw [] (fun wr=> ∃k:Nat,wr.heap[w.heap.size]? =some (.stringIter s k)∧Below w.heap.size w wr∧k≤s.size∧Hid (∀j (h:j<s.size),j<k→zhD s[j]=true)) (fun wr=>s.size - wr.iterPos w.heap.size)
 case atStart=>exact ⟨0,World.iter_heap w s 0,(Below.refl _ w).alloc (Nat.le_refl _) _,Nat.zero_le _,fun j _ h=>absurd h (Nat.not_lt_zero j)⟩
 case round=>
  obtain ⟨k,hit,hbw,hk,H⟩:=hrel
  by_cases hlt:k<s.size
  ·have hnx: ∀ty,(Instr.next (.pointer (some ⟨w.heap.size,0,none⟩)) true ty).run Tryz.prog wr=_:=fun ty=>Lib.run_next_any_at wr w.heap.size s k ty hit hlt
   have hp:=HP.out k hlt
   rw [zzU s k hlt hp] at hnx
   have hit2:=Lib.iterAt_heap wr w.heap.size s k (k+1) hit
   have hbw2:=Lib.below_iterAt hbw (k:=w.heap.size) (Nat.le_refl _) s (k+1)
   have HWP:Hid (wr.iterPos w.heap.size=k):=by
    show wr.iterPos w.heap.size=k
    simp only [World.iterPos,hit]
   simp only at hnx
   generalize wr.iterAt w.heap.size s (k+1)=wi at*
   have HBA:=yhM (fun W=>yfK s[k] W hp)
   have HSC:=yhM (show zhD s[k]=(decide (33≤s[k].toNat∧s[k].toNat≤126)&& !hasB badL s[k]) from rfl)
   have HNO:=yhM (fun h=>yaE hlt h)
   obtain ⟨c,hc⟩: ∃c,s[k].toNat=c:=⟨_,rfl⟩
   generalize hbd:hasB badL s[k]=bd at HBA HSC
   rw [hc] at hp hnx HBA HSC
   clear hbd
   have HC:=yhM hc
   clear hc
   by_cases h1:c<33
   ·have HF:=yhM (HNO.out (by rw [HSC.out,yhN (by omega)];rfl))
    have hd:decide ((c:Int)<33)=true:=yhO (by omega)
    go_wp2
    go_ret
    exact zaC HF.out hbw2
   ·have hd1:decide ((c:Int)<33)=false:=yhN (by omega)
    by_cases h2:126<c
    ·have HF:=yhM (HNO.out (by rw [HSC.out,yhN (by omega)];rfl))
     have hd:decide (126<(c:Int))=true:=yhO (by omega)
     go_wp2
     go_ret
     exact zaC HF.out hbw2
    ·have hd2:decide (126<(c:Int))=false:=yhN (by omega)
     cases bd with
     |true=>
      have HF:=yhM (HNO.out (by rw [HSC.out];simp))
      go_wp2_with (go_at_call 77;refine (HBA.out _).mono ?_;rintro e w' ⟨rfl,rfl⟩)
      go_ret
      exact zaC HF.out hbw2
     |false=>
      have HY:=yhM (show zhD s[k]=true by rw [HSC.out,yhO (by omega)];rfl)
      go_wp2_with (go_at_call 77;refine (HBA.out _).mono ?_;rintro e w' ⟨rfl,rfl⟩)
      go_roundw
      case rel=>
       refine ⟨k+1,hit2,hbw2,by omega,fun j hj hjk=> ?_⟩
       by_cases e:j=k
       ·subst e;exact HY.out
       ·exact H.out j hj (by omega)
      case measure=>
       rw [HWP.out]
       simp only [World.iterPos,hit2]
       omega
  ·have hnx: ∀ty,(Instr.next (.pointer (some ⟨w.heap.size,0,none⟩)) true ty).run Tryz.prog wr=_:=fun ty=>Lib.run_next_end_at wr w.heap.size s k ty hit hlt
   have HF:=yhM (z5E (s:=s) fun j hj=>H.out j hj (by omega))
   go_wp2
   go_ret
   exact zaC HF.out hbw
end
end Go.Proofs.YtppgdppmheiocaaGreatDoor
