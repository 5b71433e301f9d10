/-
  What the law AuthorityStrict leans on, and its walk (17 of 35).
-/
import Derived.Test.YtmjappnpedjlnaaGreatDoorAuthorityStrictPkN
import Derived.Test.YtmjappnpedjlnaaGreatDoorAuthorityStrictPkP
namespace Go.Proofs.YtmjappnpedjlnaaGreatDoor
set_option maxRecDepth 100000
set_option maxHeartbeats 16000000
abbrev z0D := @Lib.hid
abbrev z0E := @decide_eq_false
abbrev z0F := @decide_eq_true
section
open Go.RowKit
theorem zaY {w x1 x2:World} (h1:Below w.heap.size w x1) (h2:Below x1.heap.size x1 x2):Below w.heap.size w x2:=h1.trans (h2.mono h1.size)
theorem anyF (f:Nat) (p:List UInt8→Bool) (hf: ∀(q:List UInt8) (w:World),Calls Tryz.prog f #[.string ⟨q.toArray⟩] w fun e w'=>e= .returned (.bool (p q))∧w=w') (ef: ∀args w,(callFunc f args).run Tryz.prog w= .ok (.enter f args) w) (g c:Nat) (ps:List (List UInt8)) (w:World) (hs:Seen w g ps) (hl:ps.length≤9223372036854775807):
  Calls Tryz.prog 175 #[.slice (some ⟨g,0,none⟩) ps.length c,.func (.func f) #[] #[]] w fun e w'=>e= .returned (.bool (ps.any p))∧Below w.heap.size w w':=by
 refine (Tryz.shf_ContainsFunc strC p f #[] ef g 0 ps.length c ps w (fun W x _=>(hf x W).mono fun e w' h=>⟨h.1,0,by rw [←h.2];rfl⟩) (Nat.le_refl _) hl (fun j hj=> ?_)).mono ?_
 ·rw [Nat.zero_add,hs.2 j hj]
  simp [strC,List.getD,List.getElem?_eq_getElem hj]
 ·rintro e w' ⟨rfl,q,rfl⟩
  rw [List.take_length]
  exact ⟨rfl,zaS (Below.refl _ _) q⟩
theorem codedF (g c:Nat) (ps:List (List UInt8)) (w:World) (hs:Seen w g ps) (hl:ps.length≤9223372036854775807):
  Calls Tryz.prog 175 #[.slice (some ⟨g,0,none⟩) ps.length c,.func (.func 177) #[] #[]] w fun e w'=>e= .returned (.bool (ps.any zfK))∧Below w.heap.size w w':=
 anyF _ _ zsT (enters_of Tryz.func177 (by kernel_rfl) rfl) g c ps w hs hl
theorem zoB {l:List UInt8} (h:zdH l=false):zbV l=([],7):=by
 unfold zbV ziD
 rw [if_pos h,if_neg (by decide)]
theorem zfU {l:List UInt8} (hp:zdH l=true) {e:Int} (h:znK (zaN l)=e):zbV l=if e=0 then (zaN l,0) else ([],e):=by
 have e1:ziD l=e:=by unfold ziD;rw [if_neg (by simp [hp]),h]
 unfold zbV
 rw [e1]
theorem zkD {l:List UInt8} (hp:zdH l=true) (h:(zdL (zaN l)&&zeJ (zaN l))=false):zbV l=([],6):=(zfU (e:=6) hp (by unfold znK;rw [if_pos h])).trans (if_neg (by decide))
theorem zhR {l:List UInt8} (hp:zdH l=true) (h1:zdL (zaN l)=true) (h2:zeJ (zaN l)=true) {b:Bool} (h3:(zbH (zaN l)).any zfK=b):zbV l=if b=true then ([],7) else (zaN l,0):=by
 cases b
 ·exact zfU (e:=0) hp (by unfold znK;rw [if_neg (by simp [h1,h2]),if_neg (by simp [h3])])
 ·exact zfU (e:=7) hp (by unfold znK;rw [if_neg (by simp [h1,h2]),if_pos h3])
def znF (w:World) (x:List UInt8×Int) (e:Ending) (w':World):Prop:=e= .returned (.tuple #[.string ⟨x.1.toArray⟩,.int .i64 x.2])∧Below w.heap.size w w'
theorem zbJ {w w':World} {x:List UInt8×Int} {l:List UInt8} {n:Int} (h:x=(l,n)) (hb:Below w.heap.size w w'):znF w x (.returned (.tuple #[.string ⟨l.toArray⟩,.int .i64 n])) w':=by
 subst h;exact ⟨rfl,hb⟩
theorem ztY (s:ByteArray) (w:World) (hs:s.size≤9223372036854775807):
  Calls Tryz.prog 126 #[.string s] w (znF w (zbV s.data.toList)):=by
 cases hp:zdH s.data.toList with
 |false=>
  have HF:=z0D (zoB hp)
  go_enter Tryz.func126,Tryz.ntmps126
  go_wp2_with fail
  refine (zmK s _ hs).mono ?_
  rw [show zfL s=false from hp]
  rintro e w' ⟨rfl,rfl⟩
  go_wp2
  go_ret2
  exact zbJ HF.out (Below.refl _ _)
 |true=>
  have HP:=z0D hp
  obtain ⟨t,ht⟩: ∃t,zaN s.data.toList=t:=⟨_,rfl⟩
  have htl:t.length=s.size:=by rw [←ht,zgM,zaB]
  have htp:zdH t=true:=by rw [←ht];exact zmY hp
  have HT:=z0D ht
  clear hp
  go_enter Tryz.func126,Tryz.ntmps126
  go_wp2_with fail
  refine (zmK s _ hs).mono ?_
  rw [show zfL s=true from HP.out]
  rintro e w' ⟨rfl,rfl⟩
  go_wp2_with fail
  refine (zvQ s _ hs).mono ?_
  rw [ht]
  rintro e w1 ⟨rfl,hb1⟩
  go_wp2_with fail
  refine (ztD ⟨t.toArray⟩ _ (by rw [zaA];omega)).mono ?_
  rw [zaE]
  rintro e w2 ⟨rfl,hb2⟩
  have hc2:=zaY hb1 hb2
  clear hb1 hb2 ht
  cases h1:zdL t with
  |false=>
   have HF:=z0D (zkD HP.out (by rw [HT.out,h1];rfl))
   go_wp2
   go_ret2
   exact zbJ HF.out hc2
  |true=>
   have H1:=z0D h1
   have htl4:=zsP h1
   clear h1
   go_wp2_with fail
   refine (zuQ ⟨t.toArray⟩ _ (by rw [zaE];exact htp)).mono ?_
   rw [zaE]
   rintro e w3 ⟨rfl,hb3⟩
   have hc3:=zaY hc2 hb3
   clear hc2 hb3
   cases h2:zeJ t with
   |false=>
    have HF:=z0D (zkD HP.out (by rw [HT.out,h2,Bool.and_false]))
    go_wp2
    go_ret2
    exact zbJ HF.out hc3
   |true=>
    have H2:=z0D h2
    clear h2
    go_wp2_with fail
    refine (ziY ⟨t.toArray⟩ _ (by rw [zaA];omega)).mono ?_
    rw [zaE]
    rintro e w4 ⟨g,c,rfl,-,hse,hb4⟩
    have hc4:=zaY hc3 hb4
    clear hc3 hb4
    go_wp2_with fail
    refine (codedF g c _ _ hse (by have:=zgX t;omega)).mono ?_
    rintro e w5 ⟨rfl,hb5⟩
    have hc5:=zaY hc4 hb5
    clear hc4 hb5 hse
    cases h3:(zbH t).any zfK with
    |false=>
     have HF:=z0D (zhR (b:=false) HP.out (by rw [HT.out];exact H1.out) (by rw [HT.out];exact H2.out) (by rw [HT.out];exact h3))
     rw [if_neg (by decide),HT.out] at HF
     go_wp2
     go_ret2
     exact zbJ HF.out hc5
    |true=>
     have HF:=z0D (zhR (b:=true) HP.out (by rw [HT.out];exact H1.out) (by rw [HT.out];exact H2.out) (by rw [HT.out];exact h3))
     rw [if_pos rfl] at HF
     go_wp2
     go_ret2
     exact zbJ HF.out hc5
def badR:List UInt8:=[35,47,58,60,62,63,64,91,93,94,124,37,123,125]
theorem zwT (c:UInt8):zhO c=(decide (33≤c.toNat∧c.toNat≤126)&&(!hasB badR c&&decide (c.toNat≠92∧c.toNat≠34∧c.toNat≠96))):=by
 simpa using zpF (fun c=>zhO c==(decide (33≤c.toNat∧c.toNat≤126)&&(!hasB badR c&&decide (c.toNat≠92∧c.toNat≠34∧c.toNat≠96)))) (by decide+kernel) c
theorem zyK (c:UInt8):(lowC c).toNat<65∨90<(lowC c).toNat:=by
 simpa using zpF (fun c=>decide ((lowC c).toNat<65)||decide (90<(lowC c).toNat)) (by decide+kernel) c
theorem zmP (s:ByteArray) (w:World) (hs:s.size≤1073741824) (hl: ∀c∈s.data.toList,c.toNat<65∨90<c.toNat):
  Calls Tryz.prog 181 #[.string s] w fun e w'=>e= .returned (.bool (zeJ s.data.toList))∧w=w':=by
 have HL:Hid (∀k (h:k<s.size),s[k].toNat<65∨90<s[k].toNat):=fun k h=>hl _ (by show s.data[k]∈_;simp)
 clear hl
 go_enter Tryz.func181,Tryz.ntmps181
 go_wp2
 go_loop [3] (fun i=> ∃k:Nat,k≤s.size∧i= .int .i64 k∧Hid (∀j (h:j<s.size),j<k→zhO s[j]=true)) (fun i=>s.size - (intOf i).toNat)
 case atStart=>exact ⟨0,Nat.zero_le _,rfl,fun j _ h=>absurd h (Nat.not_lt_zero j)⟩
 case round=>
  obtain ⟨k,hk,rfl,H⟩:=hrel
  by_cases hlt:k<s.size
  ·have hlow:=HL.out k hlt
   have HNO:=z0D (fun h=>zpZ hlt h)
   have HSC:=z0D (zwT s[k])
   have HHA:Hid (∀W,Calls Tryz.prog 58 #[.string ⟨#[35,47,58,60,62,63,64,91,93,94,124,37,123,125]⟩,.int .u8 (s[k].toNat:Int)] W fun e w'=>e= .returned (.bool (hasB badR s[k]))∧W=w'):=fun W=>znC ⟨#[35,47,58,60,62,63,64,91,93,94,124,37,123,125]⟩ s[k] W (by decide)
   generalize hasB badR s[k]=bd at HSC HHA
   obtain ⟨c,hc⟩: ∃c,s[k].toNat=c:=⟨_,rfl⟩
   have hc256:c<256:=by rw [←hc];exact s[k].toNat_lt
   rw [hc] at hlow HSC HHA
   by_cases h1:c<33
   ·have HF:=z0D (HNO.out (by rw [HSC.out,z0E (by omega)];rfl))
    clear hlow
    go_wp2
    go_ret
    exact ⟨zaJ HF.out.symm,rfl⟩
   by_cases h2:126<c
   ·have HF:=z0D (HNO.out (by rw [HSC.out,z0E (by omega)];rfl))
    clear hlow
    go_wp2
    go_ret
    exact ⟨zaJ HF.out.symm,rfl⟩
   have hd1:decide ((c:Int)<33)=false:=z0E (by omega)
   have hd2:decide (126<(c:Int))=false:=z0E (by omega)
   have hd3:decide (65≤(c:Int))=false∨decide (65≤(c:Int))=true∧decide ((c:Int)≤90)=false:=by
    by_cases h:c<65
    ·exact .inl (z0E (by omega))
    ·exact .inr ⟨z0F (by omega),z0E (by omega)⟩
   clear hlow
   rcases hd3 with hd3|⟨hd3,hd4⟩
   all_goals
    have hne: ∀m:Nat,c≠m→((c:Int)==(m:Int))=false:=fun m h=>beq_eq_false_iff_ne.2 (by omega)
    have hye: ∀m:Nat,c=m→((c:Int)==(m:Int))=true:=fun m h=>by rw [h];simp
    have HR:Hid (decide (33≤c∧c≤126)=true):=z0F (by omega)
    clear h1 h2
    cases bd with
    |true=>
     have HF:=z0D (HNO.out (by rw [HSC.out,HR.out];rfl))
     go_wp2_with (go_at_call 58;refine (HHA.out _).mono ?_;rintro e w' ⟨rfl,rfl⟩)
     go_ret
     exact ⟨zaJ HF.out.symm,rfl⟩
    |false=>
     by_cases h3:c=92∨c=34∨c=96
     ·have HF:=z0D (HNO.out (by rw [HSC.out,HR.out,z0E (by omega)];rfl))
      rcases h3 with h|h|h
      ·have e1:((c:Int)==92)=true:=hye 92 h
       clear hne hye h
       go_wp2_with (go_at_call 58;refine (HHA.out _).mono ?_;rintro e w' ⟨rfl,rfl⟩)
       go_ret
       exact ⟨zaJ HF.out.symm,rfl⟩
      ·have e1:((c:Int)==92)=false:=hne 92 (by omega)
       have e2:((c:Int)==34)=true:=hye 34 h
       clear hne hye h
       go_wp2_with (go_at_call 58;refine (HHA.out _).mono ?_;rintro e w' ⟨rfl,rfl⟩)
       go_ret
       exact ⟨zaJ HF.out.symm,rfl⟩
      ·have e1:((c:Int)==92)=false:=hne 92 (by omega)
       have e2:((c:Int)==34)=false:=hne 34 (by omega)
       have e3:((c:Int)==96)=true:=hye 96 h
       clear hne hye h
       go_wp2_with (go_at_call 58;refine (HHA.out _).mono ?_;rintro e w' ⟨rfl,rfl⟩)
       go_ret
       exact ⟨zaJ HF.out.symm,rfl⟩
     ·have HY:=z0D (show zhO s[k]=true by rw [HSC.out,HR.out,z0F (by omega)];rfl)
      have e1:((c:Int)==92)=false:=hne 92 (by omega)
      have e2:((c:Int)==34)=false:=hne 34 (by omega)
      have e3:((c:Int)==96)=false:=hne 96 (by omega)
      clear hne hye h3
      go_wp2_with (go_at_call 58;refine (HHA.out _).mono ?_;rintro e w' ⟨rfl,rfl⟩)
      go_round
      case rel=>
       refine ⟨k+1,by omega,by go_num,fun j hj hjk=> ?_⟩
       by_cases e:j=k
       ·subst e;exact HY.out
       ·exact H.out j hj (by omega)
      case measure=>simp [intOf];omega
  ·have HF:=z0D (zmO (s:=s) fun j hj=>H.out j hj (by omega))
   go_wp2
   go_ret
   exact ⟨zaJ HF.out.symm,rfl⟩
theorem znH (s:ByteArray) (w:World) (hs:s.size≤1073741824):
  Calls Tryz.prog 182 #[.string s] w fun e w'=>e= .returned (.int .i64 (zeC s.data.toList))∧w=w':=by
 by_cases h0:s.size=0
 ·have HF:Hid (zeC s.data.toList=0):=Nat.le_zero.1 (Nat.le_trans (zoC _) (by rw [zaB];omega))
  go_enter Tryz.func182,Tryz.ntmps182
  go_wp2
  go_ret
  exact ⟨zbC (by rw [HF.out];first|rfl|omega),rfl⟩
 ·obtain ⟨n,hn⟩: ∃n,s.size=n+1:=⟨s.size - 1,by omega⟩
  have hlt:n<s.size:=by omega
  have hlast:s.data.toList.getLast? =some s[n]:=by rw [List.getLast?_eq_getElem?,zaB,hn];exact zcZ s n hlt
  obtain ⟨c,hc⟩: ∃c,s[n].toNat=c:=⟨_,rfl⟩
  have HLO:Hid (zeC s.data.toList=if c=46 then n else n+1):=by
   show zeC _=_
   unfold zeC
   rw [hlast,zaB,hn,←hc]
   by_cases e:s[n]=46
   ·rw [if_pos (by rw [e]),if_pos (by rw [e];rfl)];omega
   ·rw [if_neg (fun h=>e (Option.some.inj h)),if_neg (show ¬s[n].toNat=46 from fun h=>e (UInt8.toNat_inj.1 h))]
  clear hlast h0
  by_cases h:c=46
  ·have HF:=z0D (HLO.out.trans (if_pos h))
   have e1:((c:Int)==46)=true:=by rw [h];rfl
   clear h
   go_enter Tryz.func182,Tryz.ntmps182
   go_wp2
   go_ret
   exact ⟨zbC (by rw [HF.out]<;>omega),rfl⟩
  ·have HF:=z0D (HLO.out.trans (if_neg h))
   have e1:((c:Int)==46)=false:=beq_eq_false_iff_ne.2 (by omega)
   clear h
   go_enter Tryz.func182,Tryz.ntmps182
   go_wp2
   go_ret
   exact ⟨zbC (by rw [HF.out]<;>omega),rfl⟩
theorem zgD (s:ByteArray) (w:World) (hs:s.size≤1073741824):
  Calls Tryz.prog 183 #[.string s] w (znM w (zbH s.data.toList)):=by
 obtain ⟨L,x,hL,hx,hLl,hc⟩:=zfH s.data.toList
 rw [zaB] at hLl
 go_enter Tryz.func183,Tryz.ntmps183
 go_wp2_with fail
 refine (zbT s _ _ hs (by decide)).mono ?_
 rintro e w1 ⟨v,rfl,hp,hb1⟩
 have hp':zbY w.heap.size w1 v (zaH s.data.toList):=hp
 obtain ⟨g,cap,rfl,hcap,hg,hcell⟩:=hp'.form2 (by omega)
 rw [hL] at hcap ⊢
 have hcx:=hcell L (by omega)
 rw [hx] at hcx
 have HC:=z0D hcell
 have HL:=z0D hL
 have HX:=z0D hx
 clear hcell hp hp' hL hx
 rcases hc with ⟨h1,rfl,hk⟩|⟨rfl|hne,hk⟩
 ·have HK:=z0D hk
  obtain ⟨n,rfl⟩: ∃n,L=n+1:=⟨L - 1,by omega⟩
  clear hk h1
  go_wp2
  go_ret
  exact zcO (k:=n+1) (by unfold zbH;rw [HK.out]) (by rw [HL.out];omega) (by omega) (by omega) hg HC.out hb1
 ·have HK:=z0D hk
  clear hk
  go_wp2
  go_ret
  exact zcO (k:=1) (by unfold zbH;rw [HK.out]) (by rw [HL.out];omega) (by omega) (by omega) hg HC.out hb1
 ·have HK:=z0D hk
  have hxe:x.isEmpty=false:=zbF hne
  clear hk hne
  by_cases h0:L=0
  ·subst h0
   go_wp2
   go_ret
   exact zcO (k:=1) (by unfold zbH;rw [HK.out]) (by rw [HL.out];omega) (by omega) (by omega) hg HC.out hb1
  ·obtain ⟨n,rfl⟩: ∃n,L=n+1:=⟨L - 1,by omega⟩
   go_wp2
   go_ret
   exact zcO (k:=n+2) (by unfold zbH;rw [HK.out]) (by rw [HL.out];omega) (by omega) (by omega) hg HC.out hb1
theorem zwI (t:List UInt8): ∀c∈zaN t,c.toNat<65∨90<c.toNat:=fun c hc=>by
 obtain ⟨d,_,rfl⟩:=List.mem_map.1 hc
 exact zyK d
theorem zkH {l:List UInt8} (hp:zdH l=true) (h:zeJ (zaN l)=false∨ ¬zeC (zaN l)≤253∨(zbH (zaN l)).all zdS=false):zbV l=([],6):=zkD hp (by
 unfold zdL
 rcases h with h|h|h
 ·rw [h,Bool.and_false]
 ·rw [z0E h];rfl
 ·rw [h,Bool.and_false];rfl)
theorem zsU {l:List UInt8} (h1:zeC l≤253) (h2:(zbH l).all zdS=true):zdL l=true:=by unfold zdL;rw [z0F h1,h2];rfl
theorem zyC {p:List UInt8→Bool} {ps:List (List UInt8)} {k:Nat} {q:List UInt8} (hk:k<ps.length) (hq:ps.getD k []=q) (h:p q=true):ps.any p=true:=by
 rw [List.any_eq_true]
 refine ⟨q,?_,h⟩
 rw [←hq,List.getD,List.getElem?_eq_getElem hk]
 exact List.getElem_mem hk
theorem any_no {p:List UInt8→Bool} {ps:List (List UInt8)} (h: ∀j,j<ps.length→p (ps.getD j [])=false):ps.any p=false:=by
 rw [List.any_eq_false]
 intro x hx
 obtain ⟨j,hj,rfl⟩:=List.getElem_of_mem hx
 have:=h j hj
 rw [List.getD,List.getElem?_eq_getElem hj] at this
 simpa using this
theorem zpU (q:List UInt8):(((ByteArray.mk q.toArray).extract 0 4).toList==[120,110,45,45])=(q.take 4==[120,110,45,45]):=by rw [Lib.extract_toList];rfl
theorem zqV (q:List UInt8):zfK q=(decide (4≤q.length)&&q.take 4==[120,110,45,45]):=by
 unfold zfK Lib.hasPrefix
 rw [Bool.eq_iff_iff,List.isPrefixOf_iff_prefix,List.prefix_iff_eq_take]
 simp only [Bool.and_eq_true,decide_eq_true_eq,beq_iff_eq,List.length_cons,List.length_nil]
 constructor
 ·intro h
  refine ⟨?_,h.symm⟩
  have:=congrArg List.length h
  simp at this
  omega
 ·intro h;exact h.2.symm
theorem zhF (s:ByteArray) (w:World) (hs:s.size≤1073741824):
  Calls Tryz.prog 130 #[.string s] w (znF w (zbV s.data.toList)):=by
 cases hp:zdH s.data.toList with
 |false=>
  have HF:=z0D (zoB hp)
  go_enter Tryz.func130,Tryz.ntmps130
  go_wp2_with fail
  refine (zhE s _ hs).mono ?_
  rw [show zfL s=false from hp]
  rintro e w' ⟨rfl,rfl⟩
  go_wp2
  go_ret2
  exact zbJ HF.out (Below.refl _ _)
 |true=>
  have HP:=z0D hp
  obtain ⟨t,ht⟩: ∃t,zaN s.data.toList=t:=⟨_,rfl⟩
  have htl:t.length=s.size:=by rw [←ht,zgM,zaB]
  have HLW:Hid (∀c∈t,c.toNat<65∨90<c.toNat):=by rw [←ht];exact zwI _
  have HT:=z0D ht
  clear hp
  go_enter Tryz.func130,Tryz.ntmps130
  go_wp2_with fail
  refine (zhE s _ hs).mono ?_
  rw [show zfL s=true from HP.out]
  rintro e w' ⟨rfl,rfl⟩
  go_wp2_with fail
  refine (zhK s _ hs).mono ?_
  rw [ht]
  rintro e w1 ⟨rfl,hb1⟩
  go_wp2_with fail
  refine (zmP ⟨t.toArray⟩ _ (by rw [zaA];omega) (by rw [zaE];exact HLW.out)).mono ?_
  rw [zaE]
  rintro e w' ⟨rfl,rfl⟩
  clear ht
  cases h2:zeJ t with
  |false=>
   have HF:=z0D (zkH HP.out (.inl (by rw [HT.out];exact h2)))
   go_wp2
   go_ret2
   exact zbJ HF.out hb1
  |true=>
   have H2:=z0D h2
   clear h2
   go_wp2_with fail
   refine (znH ⟨t.toArray⟩ _ (by rw [zaA];omega)).mono ?_
   rw [zaE]
   rintro e w' ⟨rfl,rfl⟩
   obtain ⟨n,hn⟩: ∃n,zeC t=n:=⟨_,rfl⟩
   have hnl:=zoC t
   rw [hn] at hnl ⊢
   by_cases h1:253<n
   ·have HF:=z0D (zkH HP.out (.inr (.inl (by rw [HT.out,hn];omega))))
    have hd:decide (253<(n:Int))=true:=z0F (by omega)
    clear hn
    go_wp2
    go_ret2
    exact zbJ HF.out hb1
   have hd:decide (253<(n:Int))=false:=z0E (by omega)
   have H1:Hid (zeC t≤253):=by show zeC t≤253;omega
   clear h1 hn hnl
   obtain ⟨ps,hps⟩: ∃ps,zbH t=ps:=⟨_,rfl⟩
   have hpl:=zgX t
   rw [hps] at hpl
   have HPS:=z0D hps
   go_wp2_with fail
   refine (zgD ⟨t.toArray⟩ _ (by rw [zaA];omega)).mono ?_
   rw [zaE,hps]
   rintro e w2 ⟨g,c,rfl,-,hse,hb2⟩
   have hc2:=zaY hb1 hb2
   have HC:=z0D hse.2
   clear hb1 hb2 hse hps
   go_wp2
   go_loop [24] (fun i=> ∃k:Nat,k≤ps.length∧i= .int .i64 k∧Hid (∀j,j<k→zdS (ps.getD j [])=true)) (fun i=>ps.length - (intOf i).toNat)
   case atStart=>exact ⟨0,Nat.zero_le _,rfl,fun j h=>absurd h (Nat.not_lt_zero j)⟩
   case round=>
    obtain ⟨k,hk,rfl,H⟩:=hrel
    by_cases hlt:k<ps.length
    ·have hcl:=HC.out k hlt
     obtain ⟨q,hq⟩: ∃q,ps.getD k []=q:=⟨_,rfl⟩
     rw [hq] at hcl
     have HQ:=z0D hq
     clear hq
     cases hy:zdS q with
     |false=>
      have HF:=z0D (zkH HP.out (.inr (.inr (by rw [HT.out,HPS.out];exact zuX hlt HQ.out hy))))
      have hq:=of_decide_eq_false hy
      clear hy
      by_cases h1:q.length<1
      ·go_wp2
       go_ret2
       exact zbJ HF.out hc2
      ·have hd1:decide ((q.length:Int)<1)=false:=z0E (by omega)
       have hd2:decide (63<(q.length:Int))=true:=z0F (by omega)
       go_wp2
       go_ret2
       exact zbJ HF.out hc2
     |true=>
      have hq:=of_decide_eq_true hy
      have HY:=z0D hy
      have hd1:decide ((q.length:Int)<1)=false:=z0E (by omega)
      have hd2:decide (63<(q.length:Int))=false:=z0E (by omega)
      clear hy hq
      go_wp2
      go_round
      case rel=>
       refine ⟨k+1,by omega,by go_num,fun j hj=> ?_⟩
       by_cases e:j=k
       ·subst e;rw [HQ.out];exact HY.out
       ·exact H.out j (by omega)
      case measure=>simp [intOf];omega
    ·have HSZ:Hid (zdL t=true):=zsU H1.out (by rw [HPS.out];exact zrS fun j hj=>H.out j (by omega))
     clear HC
     go_wp2_with fail
     refine (zgD ⟨t.toArray⟩ _ (by rw [zaA];omega)).mono ?_
     rw [zaE,HPS.out]
     rintro e w3 ⟨g3,c3,rfl,-,hse,hb3⟩
     have hc3:=zaY hc2 hb3
     have HC:=z0D hse.2
     clear hc2 hb3 hse
     go_wp2
     go_loop [40] (fun i=> ∃k:Nat,k≤ps.length∧i= .int .i64 k∧Hid (∀j,j<k→zfK (ps.getD j [])=false)) (fun i=>ps.length - (intOf i).toNat)
     case atStart=>exact ⟨0,Nat.zero_le _,rfl,fun j h=>absurd h (Nat.not_lt_zero j)⟩
     case round=>
      obtain ⟨k,hk,rfl,H⟩:=hrel
      by_cases hlt:k<ps.length
      ·have hcl:=HC.out k hlt
       obtain ⟨q,hq⟩: ∃q,ps.getD k []=q:=⟨_,rfl⟩
       rw [hq] at hcl
       have HQ:=z0D hq
       have hct:=zqV q
       clear hq
       cases hy:zfK q with
       |true=>
        have HF:=z0D ((zhR HP.out (by rw [HT.out];exact HSZ.out) (by rw [HT.out];exact H2.out) (by rw [HT.out,HPS.out];exact zyC hlt HQ.out hy)).trans (if_pos rfl))
        rw [hy] at hct
        clear hy
        have h4:=of_decide_eq_true (Bool.and_eq_true_iff.1 hct.symm).1
        have hx:=(zpU q).trans (Bool.and_eq_true_iff.1 hct.symm).2
        have hd:decide (4≤(q.length:Int))=true:=z0F (by omega)
        clear hct
        go_wp2
        go_ret2
        exact zbJ HF.out hc3
       |false=>
        rw [hy] at hct
        have HY:=z0D hy
        clear hy
        by_cases h4:4≤q.length
        ·have hx:(((ByteArray.mk q.toArray).extract 0 4).toList==[120,110,45,45])=false:=by rw [zpU];rw [z0F h4,Bool.true_and] at hct;exact hct.symm
         have hd:decide (4≤(q.length:Int))=true:=z0F (by omega)
         clear hct
         go_wp2
         go_round
         case rel=>
          refine ⟨k+1,by omega,by go_num,fun j hj=> ?_⟩
          by_cases e:j=k
          ·subst e;rw [HQ.out];exact HY.out
          ·exact H.out j (by omega)
         case measure=>simp [intOf];omega
        ·have hd:decide (4≤(q.length:Int))=false:=z0E (by omega)
         clear hct h4
         go_wp2
         go_round
         case rel=>
          refine ⟨k+1,by omega,by go_num,fun j hj=> ?_⟩
          by_cases e:j=k
          ·subst e;rw [HQ.out];exact HY.out
          ·exact H.out j (by omega)
         case measure=>simp [intOf];omega
      ·have HF:=z0D ((zhR (b:=false) HP.out (by rw [HT.out];exact HSZ.out) (by rw [HT.out];exact H2.out) (by rw [HT.out,HPS.out];exact any_no fun j hj=>H.out j (by omega))).trans (if_neg (by decide)))
       rw [HT.out] at HF
       go_wp2
       go_ret2
       exact zbJ HF.out hc3
end
end Go.Proofs.YtmjappnpedjlnaaGreatDoor
