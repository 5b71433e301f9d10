/-
  What the law WhatwgChains leans on, and its walk (15 of 33).
-/
import Derived.Test.YtcagcjdhbijknaaGreatDoorWhatwgChainsPkL
import Derived.Test.YtcagcjdhbijknaaGreatDoorWhatwgChainsPkN
namespace Go.Proofs.YtcagcjdhbijknaaGreatDoor
set_option maxRecDepth 100000
set_option maxHeartbeats 16000000
abbrev yhN := @Lib.hid
abbrev yhO := @decide_eq_false
abbrev yhP := @decide_eq_true
section
open Go.RowKit
theorem zaC {w x1 x2:World} (h1:Below w.heap.size w x1) (h2:Below x1.heap.size x1 x2):Below w.heap.size w x2:=h1.trans (h2.mono h1.size)
theorem anyF (f:Nat) (p:List UInt8→Bool) (hf: ∀(q:List UInt8) (w:World),Calls Tryz.prog f #[.string ⟨q.toArray⟩] w fun e w'=>e= .returned (.bool (p q))∧w=w') (ef: ∀args w,(callFunc f args).run Tryz.prog w= .ok (.enter f args) w) (g c:Nat) (ps:List (List UInt8)) (w:World) (hs:Seen w g ps) (hl:ps.length≤9223372036854775807):
  Calls Tryz.prog 111 #[.slice (some ⟨g,0,none⟩) ps.length c,.func (.func f) #[] #[]] w fun e w'=>e= .returned (.bool (ps.any p))∧Below w.heap.size w w':=by
 refine (Tryz.shf_ContainsFunc strC p f #[] ef g 0 ps.length c ps w (fun W x _=>(hf x W).mono fun e w' h=>⟨h.1,0,by rw [←h.2];rfl⟩) (Nat.le_refl _) hl (fun j hj=> ?_)).mono ?_
 ·rw [Nat.zero_add,hs.2 j hj]
  simp [strC,List.getD,List.getElem?_eq_getElem hj]
 ·rintro e w' ⟨rfl,q,rfl⟩
  rw [List.take_length]
  exact ⟨rfl,zaU (Below.refl _ _) q⟩
theorem codedF (g c:Nat) (ps:List (List UInt8)) (w:World) (hs:Seen w g ps) (hl:ps.length≤9223372036854775807):
  Calls Tryz.prog 111 #[.slice (some ⟨g,0,none⟩) ps.length c,.func (.func 113) #[] #[]] w fun e w'=>e= .returned (.bool (ps.any zjG))∧Below w.heap.size w w':=
 anyF _ _ z9R (enters_of Tryz.func113 (by kernel_rfl) rfl) g c ps w hs hl
theorem z0E {l:List UInt8} (h:zfN l=false):zdK l=([],7):=by
 unfold zdK znH
 rw [if_pos h,if_neg (by decide)]
theorem zjH {l:List UInt8} (hp:zfN l=true) {e:Int} (h:zwV (zaX l)=e):zdK l=if e=0 then (zaX l,0) else ([],e):=by
 have e1:znH l=e:=by unfold znH;rw [if_neg (by simp [hp]),h]
 unfold zdK
 rw [e1]
theorem zrP {l:List UInt8} (hp:zfN l=true) (h:(zfW (zaX l)&&zhB (zaX l))=false):zdK l=([],6):=(zjH (e:=6) hp (by unfold zwV;rw [if_pos h])).trans (if_neg (by decide))
theorem zmR {l:List UInt8} (hp:zfN l=true) (h1:zfW (zaX l)=true) (h2:zhB (zaX l)=true) {b:Bool} (h3:(zcS (zaX l)).any zjG=b):zdK l=if b=true then ([],7) else (zaX l,0):=by
 cases b
 ·exact zjH (e:=0) hp (by unfold zwV;rw [if_neg (by simp [h1,h2]),if_neg (by simp [h3])])
 ·exact zjH (e:=7) hp (by unfold zwV;rw [if_neg (by simp [h1,h2]),if_pos h3])
def zwL (w:World) (x:List UInt8×Int) (e:Ending) (w':World):Prop:=e= .returned (.tuple #[.string ⟨x.1.toArray⟩,.int .i64 x.2])∧Below w.heap.size w w'
theorem zdB {w w':World} {x:List UInt8×Int} {l:List UInt8} {n:Int} (h:x=(l,n)) (hb:Below w.heap.size w w'):zwL w x (.returned (.tuple #[.string ⟨l.toArray⟩,.int .i64 n])) w':=by
 subst h;exact ⟨rfl,hb⟩
theorem z5S (s:ByteArray) (w:World) (hs:s.size≤9223372036854775807):
  Calls Tryz.prog 67 #[.string s] w (zwL w (zdK s.data.toList)):=by
 cases hp:zfN s.data.toList with
 |false=>
  have HF:=yhN (z0E hp)
  go_enter Tryz.func67,Tryz.ntmps67
  go_wp2_with fail
  refine (zuW s _ hs).mono ?_
  rw [show zjD s=false from hp]
  rintro e w' ⟨rfl,rfl⟩
  go_wp2
  go_ret2
  exact zdB HF.out (Below.refl _ _)
 |true=>
  have HP:=yhN hp
  obtain ⟨t,ht⟩: ∃t,zaX s.data.toList=t:=⟨_,rfl⟩
  have htl:t.length=s.size:=by rw [←ht,ziF,zaH]
  have htp:zfN t=true:=by rw [←ht];exact zxQ hp
  have HT:=yhN ht
  clear hp
  go_enter Tryz.func67,Tryz.ntmps67
  go_wp2_with fail
  refine (zuW s _ hs).mono ?_
  rw [show zjD s=true from HP.out]
  rintro e w' ⟨rfl,rfl⟩
  go_wp2_with fail
  refine (z5N s _ hs).mono ?_
  rw [ht]
  rintro e w1 ⟨rfl,hb1⟩
  go_wp2_with fail
  refine (z9E ⟨t.toArray⟩ _ (by rw [zaA];omega)).mono ?_
  rw [zaB]
  rintro e w2 ⟨rfl,hb2⟩
  have hc2:=zaC hb1 hb2
  clear hb1 hb2 ht
  cases h1:zfW t with
  |false=>
   have HF:=yhN (zrP HP.out (by rw [HT.out,h1];rfl))
   go_wp2
   go_ret2
   exact zdB HF.out hc2
  |true=>
   have H1:=yhN h1
   have htl4:=z4F h1
   clear h1
   go_wp2_with fail
   refine (z6B ⟨t.toArray⟩ _ (by rw [zaB];exact htp)).mono ?_
   rw [zaB]
   rintro e w3 ⟨rfl,hb3⟩
   have hc3:=zaC hc2 hb3
   clear hc2 hb3
   cases h2:zhB t with
   |false=>
    have HF:=yhN (zrP HP.out (by rw [HT.out,h2,Bool.and_false]))
    go_wp2
    go_ret2
    exact zdB HF.out hc3
   |true=>
    have H2:=yhN h2
    clear h2
    go_wp2_with fail
    refine (zqM ⟨t.toArray⟩ _ (by rw [zaA];omega)).mono ?_
    rw [zaB]
    rintro e w4 ⟨g,c,rfl,-,hse,hb4⟩
    have hc4:=zaC hc3 hb4
    clear hc3 hb4
    go_wp2_with fail
    refine (codedF g c _ _ hse (by have:=zkY t;omega)).mono ?_
    rintro e w5 ⟨rfl,hb5⟩
    have hc5:=zaC hc4 hb5
    clear hc4 hb5 hse
    cases h3:(zcS t).any zjG with
    |false=>
     have HF:=yhN (zmR (b:=false) HP.out (by rw [HT.out];exact H1.out) (by rw [HT.out];exact H2.out) (by rw [HT.out];exact h3))
     rw [if_neg (by decide),HT.out] at HF
     go_wp2
     go_ret2
     exact zdB HF.out hc5
    |true=>
     have HF:=yhN (zmR (b:=true) HP.out (by rw [HT.out];exact H1.out) (by rw [HT.out];exact H2.out) (by rw [HT.out];exact h3))
     rw [if_pos rfl] at HF
     go_wp2
     go_ret2
     exact zdB HF.out hc5
def badR:List UInt8:=[35,47,58,60,62,63,64,91,93,94,124,37,123,125]
theorem ybW (c:UInt8):zmM c=(decide (33≤c.toNat∧c.toNat≤126)&&(!hasB badR c&&decide (c.toNat≠92∧c.toNat≠34∧c.toNat≠96))):=by
 simpa using zzO (fun c=>zmM c==(decide (33≤c.toNat∧c.toNat≤126)&&(!hasB badR c&&decide (c.toNat≠92∧c.toNat≠34∧c.toNat≠96)))) (by decide+kernel) c
theorem ygH (c:UInt8):(lowC c).toNat<65∨90<(lowC c).toNat:=by
 simpa using zzO (fun c=>decide ((lowC c).toNat<65)||decide (90<(lowC c).toNat)) (by decide+kernel) c
theorem zvM (s:ByteArray) (w:World) (hs:s.size≤1073741824) (hl: ∀c∈s.data.toList,c.toNat<65∨90<c.toNat):
  Calls Tryz.prog 144 #[.string s] w fun e w'=>e= .returned (.bool (zhB s.data.toList))∧w=w':=by
 have HL:Hid (∀k (h:k<s.size),s[k].toNat<65∨90<s[k].toNat):=fun k h=>hl _ (by show s.data[k]∈_;simp)
 clear hl
 go_enter Tryz.func144,Tryz.ntmps144
 go_wp2
 go_loop [3] (fun i=> ∃k:Nat,k≤s.size∧i= .int .i64 k∧Hid (∀j (h:j<s.size),j<k→zmM s[j]=true)) (fun i=>s.size - (intOf i).toNat)
 case atStart=>exact ⟨0,Nat.zero_le _,rfl,fun j _ h=>absurd h (Nat.not_lt_zero j)⟩
 case round=>
  obtain ⟨k,hk,rfl,H⟩:=hrel
  by_cases hlt:k<s.size
  ·have hlow:=HL.out k hlt
   have HNO:=yhN (fun h=>z0J hlt h)
   have HSC:=yhN (ybW s[k])
   have HHA:Hid (∀W,Calls Tryz.prog 94 #[.string ⟨#[35,47,58,60,62,63,64,91,93,94,124,37,123,125]⟩,.int .u8 (s[k].toNat:Int)] W fun e w'=>e= .returned (.bool (hasB badR s[k]))∧W=w'):=fun W=>znO ⟨#[35,47,58,60,62,63,64,91,93,94,124,37,123,125]⟩ s[k] W (by decide)
   generalize hasB badR s[k]=bd at HSC HHA
   obtain ⟨c,hc⟩: ∃c,s[k].toNat=c:=⟨_,rfl⟩
   have hc256:c<256:=by rw [←hc];exact s[k].toNat_lt
   rw [hc] at hlow HSC HHA
   by_cases h1:c<33
   ·have HF:=yhN (HNO.out (by rw [HSC.out,yhO (by omega)];rfl))
    clear hlow
    go_wp2
    go_ret
    exact ⟨zaD HF.out.symm,rfl⟩
   by_cases h2:126<c
   ·have HF:=yhN (HNO.out (by rw [HSC.out,yhO (by omega)];rfl))
    clear hlow
    go_wp2
    go_ret
    exact ⟨zaD HF.out.symm,rfl⟩
   have hd1:decide ((c:Int)<33)=false:=yhO (by omega)
   have hd2:decide (126<(c:Int))=false:=yhO (by omega)
   have hd3:decide (65≤(c:Int))=false∨decide (65≤(c:Int))=true∧decide ((c:Int)≤90)=false:=by
    by_cases h:c<65
    ·exact .inl (yhO (by omega))
    ·exact .inr ⟨yhP (by omega),yhO (by omega)⟩
   clear hlow
   rcases hd3 with hd3|⟨hd3,hd4⟩
   all_goals
    have hne: ∀m:Nat,c≠m→((c:Int)==(m:Int))=false:=fun m h=>beq_eq_false_iff_ne.2 (by omega)
    have hye: ∀m:Nat,c=m→((c:Int)==(m:Int))=true:=fun m h=>by rw [h];simp
    have HR:Hid (decide (33≤c∧c≤126)=true):=yhP (by omega)
    clear h1 h2
    cases bd with
    |true=>
     have HF:=yhN (HNO.out (by rw [HSC.out,HR.out];rfl))
     go_wp2_with (go_at_call 94;refine (HHA.out _).mono ?_;rintro e w' ⟨rfl,rfl⟩)
     go_ret
     exact ⟨zaD HF.out.symm,rfl⟩
    |false=>
     by_cases h3:c=92∨c=34∨c=96
     ·have HF:=yhN (HNO.out (by rw [HSC.out,HR.out,yhO (by omega)];rfl))
      rcases h3 with h|h|h
      ·have e1:((c:Int)==92)=true:=hye 92 h
       clear hne hye h
       go_wp2_with (go_at_call 94;refine (HHA.out _).mono ?_;rintro e w' ⟨rfl,rfl⟩)
       go_ret
       exact ⟨zaD HF.out.symm,rfl⟩
      ·have e1:((c:Int)==92)=false:=hne 92 (by omega)
       have e2:((c:Int)==34)=true:=hye 34 h
       clear hne hye h
       go_wp2_with (go_at_call 94;refine (HHA.out _).mono ?_;rintro e w' ⟨rfl,rfl⟩)
       go_ret
       exact ⟨zaD HF.out.symm,rfl⟩
      ·have e1:((c:Int)==92)=false:=hne 92 (by omega)
       have e2:((c:Int)==34)=false:=hne 34 (by omega)
       have e3:((c:Int)==96)=true:=hye 96 h
       clear hne hye h
       go_wp2_with (go_at_call 94;refine (HHA.out _).mono ?_;rintro e w' ⟨rfl,rfl⟩)
       go_ret
       exact ⟨zaD HF.out.symm,rfl⟩
     ·have HY:=yhN (show zmM s[k]=true by rw [HSC.out,HR.out,yhP (by omega)];rfl)
      have e1:((c:Int)==92)=false:=hne 92 (by omega)
      have e2:((c:Int)==34)=false:=hne 34 (by omega)
      have e3:((c:Int)==96)=false:=hne 96 (by omega)
      clear hne hye h3
      go_wp2_with (go_at_call 94;refine (HHA.out _).mono ?_;rintro e w' ⟨rfl,rfl⟩)
      go_round
      case rel=>
       refine ⟨k+1,by omega,by go_num,fun j hj hjk=> ?_⟩
       by_cases e:j=k
       ·subst e;exact HY.out
       ·exact H.out j hj (by omega)
      case measure=>simp [intOf];omega
  ·have HF:=yhN (zvU (s:=s) fun j hj=>H.out j hj (by omega))
   go_wp2
   go_ret
   exact ⟨zaD HF.out.symm,rfl⟩
theorem zxU (s:ByteArray) (w:World) (hs:s.size≤1073741824):
  Calls Tryz.prog 145 #[.string s] w fun e w'=>e= .returned (.int .i64 (zhH s.data.toList))∧w=w':=by
 by_cases h0:s.size=0
 ·have HF:Hid (zhH s.data.toList=0):=Nat.le_zero.1 (Nat.le_trans (zzF _) (by rw [zaH];omega))
  go_enter Tryz.func145,Tryz.ntmps145
  go_wp2
  go_ret
  exact ⟨zcJ (by rw [HF.out];first|rfl|omega),rfl⟩
 ·obtain ⟨n,hn⟩: ∃n,s.size=n+1:=⟨s.size - 1,by omega⟩
  have hlt:n<s.size:=by omega
  have hlast:s.data.toList.getLast? =some s[n]:=by rw [List.getLast?_eq_getElem?,zaH,hn];exact zdL s n hlt
  obtain ⟨c,hc⟩: ∃c,s[n].toNat=c:=⟨_,rfl⟩
  have HLO:Hid (zhH s.data.toList=if c=46 then n else n+1):=by
   show zhH _=_
   unfold zhH
   rw [hlast,zaH,hn,←hc]
   by_cases e:s[n]=46
   ·rw [if_pos (by rw [e]),if_pos (by rw [e];rfl)];omega
   ·rw [if_neg (fun h=>e (Option.some.inj h)),if_neg (show ¬s[n].toNat=46 from fun h=>e (UInt8.toNat_inj.1 h))]
  clear hlast h0
  by_cases h:c=46
  ·have HF:=yhN (HLO.out.trans (if_pos h))
   have e1:((c:Int)==46)=true:=by rw [h];rfl
   clear h
   go_enter Tryz.func145,Tryz.ntmps145
   go_wp2
   go_ret
   exact ⟨zcJ (by rw [HF.out]<;>omega),rfl⟩
  ·have HF:=yhN (HLO.out.trans (if_neg h))
   have e1:((c:Int)==46)=false:=beq_eq_false_iff_ne.2 (by omega)
   clear h
   go_enter Tryz.func145,Tryz.ntmps145
   go_wp2
   go_ret
   exact ⟨zcJ (by rw [HF.out]<;>omega),rfl⟩
theorem zkB (s:ByteArray) (w:World) (hs:s.size≤1073741824):
  Calls Tryz.prog 146 #[.string s] w (zxK w (zcS s.data.toList)):=by
 obtain ⟨L,x,hL,hx,hLl,hc⟩:=ziX s.data.toList
 rw [zaH] at hLl
 go_enter Tryz.func146,Tryz.ntmps146
 go_wp2_with fail
 refine (zdD s _ _ hs (by decide)).mono ?_
 rintro e w1 ⟨v,rfl,hp,hb1⟩
 have hp':zaM w.heap.size w1 v (zaI s.data.toList):=hp
 obtain ⟨g,cap,rfl,hcap,hg,hcell⟩:=hp'.form2 (by omega)
 rw [hL] at hcap ⊢
 have hcx:=hcell L (by omega)
 rw [hx] at hcx
 have HC:=yhN hcell
 have HL:=yhN hL
 have HX:=yhN hx
 clear hcell hp hp' hL hx
 rcases hc with ⟨h1,rfl,hk⟩|⟨rfl|hne,hk⟩
 ·have HK:=yhN hk
  obtain ⟨n,rfl⟩: ∃n,L=n+1:=⟨L - 1,by omega⟩
  clear hk h1
  go_wp2
  go_ret
  exact zeS (k:=n+1) (by unfold zcS;rw [HK.out]) (by rw [HL.out];omega) (by omega) (by omega) hg HC.out hb1
 ·have HK:=yhN hk
  clear hk
  go_wp2
  go_ret
  exact zeS (k:=1) (by unfold zcS;rw [HK.out]) (by rw [HL.out];omega) (by omega) (by omega) hg HC.out hb1
 ·have HK:=yhN hk
  have hxe:x.isEmpty=false:=zcQ hne
  clear hk hne
  by_cases h0:L=0
  ·subst h0
   go_wp2
   go_ret
   exact zeS (k:=1) (by unfold zcS;rw [HK.out]) (by rw [HL.out];omega) (by omega) (by omega) hg HC.out hb1
  ·obtain ⟨n,rfl⟩: ∃n,L=n+1:=⟨L - 1,by omega⟩
   go_wp2
   go_ret
   exact zeS (k:=n+2) (by unfold zcS;rw [HK.out]) (by rw [HL.out];omega) (by omega) (by omega) hg HC.out hb1
theorem ycL (t:List UInt8): ∀c∈zaX t,c.toNat<65∨90<c.toNat:=fun c hc=>by
 obtain ⟨d,_,rfl⟩:=List.mem_map.1 hc
 exact ygH d
theorem zrV {l:List UInt8} (hp:zfN l=true) (h:zhB (zaX l)=false∨ ¬zhH (zaX l)≤253∨(zcS (zaX l)).all zgF=false):zdK l=([],6):=zrP hp (by
 unfold zfW
 rcases h with h|h|h
 ·rw [h,Bool.and_false]
 ·rw [yhO h];rfl
 ·rw [h,Bool.and_false];rfl)
theorem z9J {l:List UInt8} (h1:zhH l≤253) (h2:(zcS l).all zgF=true):zfW l=true:=by unfold zfW;rw [yhP h1,h2];rfl
theorem yeG {p:List UInt8→Bool} {ps:List (List UInt8)} {k:Nat} {q:List UInt8} (hk:k<ps.length) (hq:ps.getD k []=q) (h:p q=true):ps.any p=true:=by
 rw [List.any_eq_true]
 refine ⟨q,?_,h⟩
 rw [←hq,List.getD,List.getElem?_eq_getElem hk]
 exact List.getElem_mem hk
theorem any_no {p:List UInt8→Bool} {ps:List (List UInt8)} (h: ∀j,j<ps.length→p (ps.getD j [])=false):ps.any p=false:=by
 rw [List.any_eq_false]
 intro x hx
 obtain ⟨j,hj,rfl⟩:=List.getElem_of_mem hx
 have:=h j hj
 rw [List.getD,List.getElem?_eq_getElem hj] at this
 simpa using this
theorem zzH (q:List UInt8):(((ByteArray.mk q.toArray).extract 0 4).toList==[120,110,45,45])=(q.take 4==[120,110,45,45]):=by rw [Lib.extract_toList];rfl
theorem z2W (q:List UInt8):zjG q=(decide (4≤q.length)&&q.take 4==[120,110,45,45]):=by
 unfold zjG Lib.hasPrefix
 rw [Bool.eq_iff_iff,List.isPrefixOf_iff_prefix,List.prefix_iff_eq_take]
 simp only [Bool.and_eq_true,decide_eq_true_eq,beq_iff_eq,List.length_cons,List.length_nil]
 constructor
 ·intro h
  refine ⟨?_,h.symm⟩
  have:=congrArg List.length h
  simp at this
  omega
 ·intro h;exact h.2.symm
theorem zlX (s:ByteArray) (w:World) (hs:s.size≤1073741824):
  Calls Tryz.prog 100 #[.string s] w (zwL w (zdK s.data.toList)):=by
 cases hp:zfN s.data.toList with
 |false=>
  have HF:=yhN (z0E hp)
  go_enter Tryz.func100,Tryz.ntmps100
  go_wp2_with fail
  refine (zmH s _ hs).mono ?_
  rw [show zjD s=false from hp]
  rintro e w' ⟨rfl,rfl⟩
  go_wp2
  go_ret2
  exact zdB HF.out (Below.refl _ _)
 |true=>
  have HP:=yhN hp
  obtain ⟨t,ht⟩: ∃t,zaX s.data.toList=t:=⟨_,rfl⟩
  have htl:t.length=s.size:=by rw [←ht,ziF,zaH]
  have HLW:Hid (∀c∈t,c.toNat<65∨90<c.toNat):=by rw [←ht];exact ycL _
  have HT:=yhN ht
  clear hp
  go_enter Tryz.func100,Tryz.ntmps100
  go_wp2_with fail
  refine (zmH s _ hs).mono ?_
  rw [show zjD s=true from HP.out]
  rintro e w' ⟨rfl,rfl⟩
  go_wp2_with fail
  refine (zlW s _ hs).mono ?_
  rw [ht]
  rintro e w1 ⟨rfl,hb1⟩
  go_wp2_with fail
  refine (zvM ⟨t.toArray⟩ _ (by rw [zaA];omega) (by rw [zaB];exact HLW.out)).mono ?_
  rw [zaB]
  rintro e w' ⟨rfl,rfl⟩
  clear ht
  cases h2:zhB t with
  |false=>
   have HF:=yhN (zrV HP.out (.inl (by rw [HT.out];exact h2)))
   go_wp2
   go_ret2
   exact zdB HF.out hb1
  |true=>
   have H2:=yhN h2
   clear h2
   go_wp2_with fail
   refine (zxU ⟨t.toArray⟩ _ (by rw [zaA];omega)).mono ?_
   rw [zaB]
   rintro e w' ⟨rfl,rfl⟩
   obtain ⟨n,hn⟩: ∃n,zhH t=n:=⟨_,rfl⟩
   have hnl:=zzF t
   rw [hn] at hnl ⊢
   by_cases h1:253<n
   ·have HF:=yhN (zrV HP.out (.inr (.inl (by rw [HT.out,hn];omega))))
    have hd:decide (253<(n:Int))=true:=yhP (by omega)
    clear hn
    go_wp2
    go_ret2
    exact zdB HF.out hb1
   have hd:decide (253<(n:Int))=false:=yhO (by omega)
   have H1:Hid (zhH t≤253):=by show zhH t≤253;omega
   clear h1 hn hnl
   obtain ⟨ps,hps⟩: ∃ps,zcS t=ps:=⟨_,rfl⟩
   have hpl:=zkY t
   rw [hps] at hpl
   have HPS:=yhN hps
   go_wp2_with fail
   refine (zkB ⟨t.toArray⟩ _ (by rw [zaA];omega)).mono ?_
   rw [zaB,hps]
   rintro e w2 ⟨g,c,rfl,-,hse,hb2⟩
   have hc2:=zaC hb1 hb2
   have HC:=yhN hse.2
   clear hb1 hb2 hse hps
   go_wp2
   go_loop [24] (fun i=> ∃k:Nat,k≤ps.length∧i= .int .i64 k∧Hid (∀j,j<k→zgF (ps.getD j [])=true)) (fun i=>ps.length - (intOf i).toNat)
   case atStart=>exact ⟨0,Nat.zero_le _,rfl,fun j h=>absurd h (Nat.not_lt_zero j)⟩
   case round=>
    obtain ⟨k,hk,rfl,H⟩:=hrel
    by_cases hlt:k<ps.length
    ·have hcl:=HC.out k hlt
     obtain ⟨q,hq⟩: ∃q,ps.getD k []=q:=⟨_,rfl⟩
     rw [hq] at hcl
     have HQ:=yhN hq
     clear hq
     cases hy:zgF q with
     |false=>
      have HF:=yhN (zrV HP.out (.inr (.inr (by rw [HT.out,HPS.out];exact z5C hlt HQ.out hy))))
      have hq:=of_decide_eq_false hy
      clear hy
      by_cases h1:q.length<1
      ·go_wp2
       go_ret2
       exact zdB HF.out hc2
      ·have hd1:decide ((q.length:Int)<1)=false:=yhO (by omega)
       have hd2:decide (63<(q.length:Int))=true:=yhP (by omega)
       go_wp2
       go_ret2
       exact zdB HF.out hc2
     |true=>
      have hq:=of_decide_eq_true hy
      have HY:=yhN hy
      have hd1:decide ((q.length:Int)<1)=false:=yhO (by omega)
      have hd2:decide (63<(q.length:Int))=false:=yhO (by omega)
      clear hy hq
      go_wp2
      go_round
      case rel=>
       refine ⟨k+1,by omega,by go_num,fun j hj=> ?_⟩
       by_cases e:j=k
       ·subst e;rw [HQ.out];exact HY.out
       ·exact H.out j (by omega)
      case measure=>simp [intOf];omega
    ·have HSZ:Hid (zfW t=true):=z9J H1.out (by rw [HPS.out];exact z7I fun j hj=>H.out j (by omega))
     clear HC
     go_wp2_with fail
     refine (zkB ⟨t.toArray⟩ _ (by rw [zaA];omega)).mono ?_
     rw [zaB,HPS.out]
     rintro e w3 ⟨g3,c3,rfl,-,hse,hb3⟩
     have hc3:=zaC hc2 hb3
     have HC:=yhN hse.2
     clear hc2 hb3 hse
     go_wp2
     go_loop [40] (fun i=> ∃k:Nat,k≤ps.length∧i= .int .i64 k∧Hid (∀j,j<k→zjG (ps.getD j [])=false)) (fun i=>ps.length - (intOf i).toNat)
     case atStart=>exact ⟨0,Nat.zero_le _,rfl,fun j h=>absurd h (Nat.not_lt_zero j)⟩
     case round=>
      obtain ⟨k,hk,rfl,H⟩:=hrel
      by_cases hlt:k<ps.length
      ·have hcl:=HC.out k hlt
       obtain ⟨q,hq⟩: ∃q,ps.getD k []=q:=⟨_,rfl⟩
       rw [hq] at hcl
       have HQ:=yhN hq
       have hct:=z2W q
       clear hq
       cases hy:zjG q with
       |true=>
        have HF:=yhN ((zmR HP.out (by rw [HT.out];exact HSZ.out) (by rw [HT.out];exact H2.out) (by rw [HT.out,HPS.out];exact yeG hlt HQ.out hy)).trans (if_pos rfl))
        rw [hy] at hct
        clear hy
        have h4:=of_decide_eq_true (Bool.and_eq_true_iff.1 hct.symm).1
        have hx:=(zzH q).trans (Bool.and_eq_true_iff.1 hct.symm).2
        have hd:decide (4≤(q.length:Int))=true:=yhP (by omega)
        clear hct
        go_wp2
        go_ret2
        exact zdB HF.out hc3
       |false=>
        rw [hy] at hct
        have HY:=yhN hy
        clear hy
        by_cases h4:4≤q.length
        ·have hx:(((ByteArray.mk q.toArray).extract 0 4).toList==[120,110,45,45])=false:=by rw [zzH];rw [yhP h4,Bool.true_and] at hct;exact hct.symm
         have hd:decide (4≤(q.length:Int))=true:=yhP (by omega)
         clear hct
         go_wp2
         go_round
         case rel=>
          refine ⟨k+1,by omega,by go_num,fun j hj=> ?_⟩
          by_cases e:j=k
          ·subst e;rw [HQ.out];exact HY.out
          ·exact H.out j (by omega)
         case measure=>simp [intOf];omega
        ·have hd:decide (4≤(q.length:Int))=false:=yhO (by omega)
         clear hct h4
         go_wp2
         go_round
         case rel=>
          refine ⟨k+1,by omega,by go_num,fun j hj=> ?_⟩
          by_cases e:j=k
          ·subst e;rw [HQ.out];exact HY.out
          ·exact H.out j (by omega)
         case measure=>simp [intOf];omega
      ·have HF:=yhN ((zmR (b:=false) HP.out (by rw [HT.out];exact HSZ.out) (by rw [HT.out];exact H2.out) (by rw [HT.out,HPS.out];exact any_no fun j hj=>H.out j (by omega))).trans (if_neg (by decide)))
       rw [HT.out] at HF
       go_wp2
       go_ret2
       exact zdB HF.out hc3
end
end Go.Proofs.YtcagcjdhbijknaaGreatDoor
