/-
  What the law AbnfTells leans on, and its walk (3 of 27).
-/
import Derived.Laws.BitsLemmas
import Derived.Deep.DeepCutAuto
import Derived.Lib.ItoaNum
import Derived.Test.YtmjappnpedjlnaaGreatDoorShelf
import Derived.Lib.AppendIntMem
import Derived.Lib.SmallJoins
import Derived.Test.YtmjappnpedjlnaaGreatDoorAbnfTellsPkB
import Derived.Test.YtmjappnpedjlnaaGreatDoorAbnfTellsPkA
namespace Go.Proofs.YtmjappnpedjlnaaGreatDoor
set_option maxRecDepth 100000
set_option maxHeartbeats 16000000
abbrev zwZ := @Lib.hid
abbrev zxA := @congrArg
section
section
open Go.RowKit
theorem zuE (i:Nat) (x y:Int) (hx0:0≤x) (hx:x % 2^i=0) (hx1:x<4294967296) (hy0:0≤y) (hy:y<2^i) (hy1:y<4294967296):bits .or .u32 x y=x+y:=
 bits_join .u32 32 (by decide) (fun n h0 h1=>by rw [IntKind.wrap_u32];omega) i x y hx0 hx hx1 hy0 hy hy1
theorem zcH.form2 {B:Nat} {w:World} {v:Value} {ps:List (List UInt8)} (h:zcH B w v ps) (hn:0<ps.length):
  ∃g cap,v= .slice (some ⟨g,0,none⟩) ps.length cap∧ps.length≤cap∧g<w.heap.size∧ ∀j,j<ps.length→w.cell? ⟨g,j,none⟩=some (.string ⟨(ps.getD j []).toArray⟩):=by
 obtain ⟨g,c,rfl,hg,hc⟩:=h.form hn
 refine ⟨g,c,rfl,?_,hg,hc⟩
 unfold zcH at h
 rcases h.2 with ⟨h0,_⟩|⟨g',cap,cur,hv,_,_,hle,_⟩
 ·cases h0
 ·cases hv;exact hle
def zlZ (w:World) (x:Int×Bool) (e:Ending) (w':World):Prop:=e= .returned (.tuple #[.int .u32 x.1,.bool x.2])∧Below w.heap.size w w'
theorem zdD {w w':World} {x:Int×Bool} {n:Int} {b:Bool} (h:x=(n,b)) (hb:Below w.heap.size w w'):zlZ w x (.returned (.tuple #[.int .u32 n,.bool b])) w':=by
 subst h;exact ⟨rfl,hb⟩
def goS:Int→List (List UInt8)→Int×Bool
 |A,[]=>(A,true)
 |A,p::r=>if (decZ p 255).2=true then goS (A*256+(decZ p 255).1) r else (0,false)
def zaT (l:List UInt8):Int×Bool:=if (zbU l).length=4 then goS 0 (zbU l) else (0,false)
theorem zfH (l:List UInt8) (m:Int) (hm:0≤m):0≤(decZ l m).1∧(decZ l m).1≤m:=by
 unfold decZ
 split
 ·exact ⟨Int.le_refl _,hm⟩
 ·rename_i h
  split
  ·exact ⟨Int.le_refl _,hm⟩
  ·refine ⟨zgT l ?_,by show decN l≤m;omega⟩
   cases hd:zbJ 10 l with
   |true=>rfl
   |false=>rw [hd] at h;simp at h
theorem zmX (k:Nat) (ps:List (List UInt8)) (h:k<ps.length):ps.drop k=ps.getD k []::ps.drop (k+1):=by
 rw [List.drop_eq_getElem_cons h,List.getD,List.getElem?_eq_getElem h]
 rfl
theorem zqQ (k:Nat) (A:Int) (ps:List (List UInt8)) (p:List UInt8) (x:Int) (h:k<ps.length) (hp:ps.getD k []=p) (hx:decZ p 255=(x,true)):goS A (ps.drop k)=goS (A*256+x) (ps.drop (k+1)):=by
 rw [zmX k ps h,hp]
 show (if _ then _ else _)=_
 rw [hx,if_pos rfl]
theorem zvI (k:Nat) (A:Int) (ps:List (List UInt8)) (p:List UInt8) (x:Int) (h:k<ps.length) (hp:ps.getD k []=p) (hx:decZ p 255=(x,false)):goS A (ps.drop k)=(0,false):=by
 rw [zmX k ps h,hp]
 show (if _ then _ else _)=_
 rw [hx]
 rfl
theorem zqB (k:Nat) (A:Int) (ps:List (List UInt8)) (h:ps.length≤k):goS A (ps.drop k)=(A,true):=by
 rw [List.drop_eq_nil_of_le h]
 rfl
theorem zgK {l:List UInt8} (h:(zbU l).length=4):zaT l=goS 0 ((zbU l).drop 0):=by
 unfold zaT;rw [if_pos h];rfl
theorem ziG {l:List UInt8} (h:(zbU l).length≠4):zaT l=(0,false):=by
 unfold zaT;rw [if_neg h]
theorem zgB (s:ByteArray) (w:World) (hs:s.size≤1073741824):
  Calls Tryz.prog 224 #[.string s] w (zlZ w (zaT s.data.toList)):=by
 by_cases hl:(zbU s.data.toList).length=4
 ·have HL:=zwZ hl
  have HZ:=zwZ (zgK hl)
  clear hl
  go_enter Tryz.func224,Tryz.ntmps224
  go_wp2_with fail
  refine (zhU s _ _ hs).mono ?_
  rintro e w1 ⟨v,rfl,hp,hb1⟩
  have hp':zcH w.heap.size w1 v (zbU s.data.toList):=hp
  obtain ⟨g,cap,rfl,hcap,hg,hcell⟩:=hp'.form2 (by rw [HL.out];omega)
  rw [HL.out] at hcap hcell ⊢
  have HCELL:=zwZ hcell
  clear hp hp' hcell
  go_wp2
  go_loopw [5,17] (fun v i wr=> ∃(k:Nat) (A:Int),k≤4∧i= .int .i64 k∧v= .int .u32 A∧0≤A∧Hid (A<256^k)∧Hid (goS A ((zbU s.data.toList).drop k)=zaT s.data.toList)∧Below w1.heap.size w1 wr) (fun _ i _=>4 - (intOf i).toNat)
  case atStart=>exact ⟨0,0,by omega,rfl,rfl,by omega,(by show (0:Int)<256^0;decide),HZ.out.symm,Below.refl _ _⟩
  case round=>
   obtain ⟨k,A,hk,rfl,rfl,hA0,HM,HG,hbw⟩:=hrel
   by_cases hk4:k<4
   ·obtain ⟨p,hpk⟩: ∃p,(zbU s.data.toList).getD k []=p:=⟨_,rfl⟩
    have hcx:=HCELL.out k hk4
    rw [hpk] at hcx
    have hcx2:wr.cell? ⟨g,k,none⟩=some (.string ⟨p.toArray⟩):=(hbw.cell (p:=⟨g,k,none⟩) hg).trans hcx
    have hpl:p.length≤s.size:=by rw [←hpk,←zaM];exact zgN _ _ _
    obtain ⟨x,b,hpz⟩: ∃x b,decZ p 255=(x,b):=⟨_,_,rfl⟩
    have hx:0≤x∧x≤255:=by have h9:=zfH p 255 (by decide);rw [hpz] at h9;exact h9
    obtain ⟨hx0,hx1⟩:=hx
    have hA1:A<16777216:=by
     have h1:=HM.out
     rcases (show k=0∨k=1∨k=2∨k=3 from by omega) with rfl|rfl|rfl|rfl
     all_goals
      simp at h1
      omega
    have hA2:A*256+x<256^(k+1):=by
     have h1:=HM.out
     rcases (show k=0∨k=1∨k=2∨k=3 from by omega) with rfl|rfl|rfl|rfl
     all_goals
      simp at h1 ⊢
      omega
    have HA2:=zwZ hA2
    have hor:bits .or .u32 (A*256) x=A*256+x:=zuE 8 _ _ (by omega) (by omega) (by omega) (by omega) (by omega) (by omega)
    have HP:=zwZ hpk
    have HPZ:=zwZ hpz
    clear hpk hpz hcx hA2
    cases b with
    |true=>
     have hgo:=HG.out
     rw [zqQ k A _ p x (by rw [HL.out];exact hk4) HP.out HPZ.out] at hgo
     have HG2:=zwZ hgo
     clear hgo
     go_wp2_with fail
     refine (zgW ⟨p.toArray⟩ 255 _ (by rw [zaA];omega) (by decide) (by decide)).mono ?_
     rw [zaH,HPZ.out]
     rintro e w2 ⟨rfl,hb2⟩
     have hc2:Below w1.heap.size w1 w2:=hbw.trans (hb2.mono hbw.size)
     clear hb2
     go_wp2
     go_roundw
     case rel=>exact ⟨k+1,A*256+x,by omega,by go_num,rfl,by omega,HA2,HG2,hc2⟩
     case measure=>simp [intOf];omega
    |false=>
     have HN:=zwZ (HG.out.symm.trans (zvI k A _ p x (by rw [HL.out];exact hk4) HP.out HPZ.out))
     go_wp2_with fail
     refine (zgW ⟨p.toArray⟩ 255 _ (by rw [zaA];omega) (by decide) (by decide)).mono ?_
     rw [zaH,HPZ.out]
     rintro e w2 ⟨rfl,hb2⟩
     have hc2:Below w1.heap.size w1 w2:=hbw.trans (hb2.mono hbw.size)
     clear hb2
     go_wp2
     go_ret2
     exact zdD HN.out (hb1.trans (hc2.mono hb1.size))
   ·have hfin:=HG.out
    rw [zqB k A _ (by rw [HL.out];omega)] at hfin
    have HF:=zwZ hfin.symm
    clear hfin
    go_wp2
    go_ret2
    exact zdD HF.out (hb1.trans (hbw.mono hb1.size))
 ·obtain ⟨m,hm⟩: ∃m,(zbU s.data.toList).length=m:=⟨_,rfl⟩
  have HZ:=zwZ (ziG hl)
  have h0:0<(zbU s.data.toList).length:=zfU _ _
  rw [hm] at hl h0
  have hmb:m≤1073741825:=by
   have h1:=zdQ (hasB [46]) s.data.toList
   rw [zaM] at h1
   have h2:=hm
   unfold zbU at h2
   omega
  have hne:((m:Int) !=4)=true:=by rw [bne_iff_ne];omega
  have HM:=zwZ hm
  clear hm hl
  go_enter Tryz.func224,Tryz.ntmps224
  go_wp2_with fail
  refine (zhU s _ _ hs).mono ?_
  rintro e w1 ⟨v,rfl,hp,hb1⟩
  have hp':zcH w.heap.size w1 v (zbU s.data.toList):=hp
  obtain ⟨g,cap,rfl,hcap,hg,hcell⟩:=hp'.form2 (by rw [HM.out];omega)
  rw [HM.out]
  clear hp hp' hcell hcap
  go_wp2
  go_ret2
  exact zdD HZ.out hb1
theorem zaN (s:ByteArray) (w:World) (hs:s.size≤1073741824):
  Calls Tryz.prog 201 #[.string s] w (zlZ w (zaT s.data.toList)):=by
 by_cases hl:(zbU s.data.toList).length=4
 ·have HL:=zwZ hl
  have HZ:=zwZ (zgK hl)
  clear hl
  go_enter Tryz.func201,Tryz.ntmps201
  go_wp2_with fail
  refine (zeJ s _ _ hs (by decide)).mono ?_
  rintro e w1 ⟨v,rfl,hp,hb1⟩
  have hp':zcH w.heap.size w1 v (zbU s.data.toList):=hp
  obtain ⟨g,cap,rfl,hcap,hg,hcell⟩:=hp'.form2 (by rw [HL.out];omega)
  rw [HL.out] at hcap hcell ⊢
  have HCELL:=zwZ hcell
  clear hp hp' hcell
  go_wp2
  go_loopw [5,6] (fun v i wr=> ∃(k:Nat) (A:Int),k≤4∧i= .int .i64 k∧v= .int .u32 A∧0≤A∧Hid (A<256^k)∧Hid (goS A ((zbU s.data.toList).drop k)=zaT s.data.toList)∧Below w1.heap.size w1 wr) (fun _ i _=>4 - (intOf i).toNat)
  case atStart=>exact ⟨0,0,by omega,rfl,rfl,by omega,(by show (0:Int)<256^0;decide),HZ.out.symm,Below.refl _ _⟩
  case round=>
   obtain ⟨k,A,hk,rfl,rfl,hA0,HM,HG,hbw⟩:=hrel
   by_cases hk4:k<4
   ·obtain ⟨p,hpk⟩: ∃p,(zbU s.data.toList).getD k []=p:=⟨_,rfl⟩
    have hcx:=HCELL.out k hk4
    rw [hpk] at hcx
    have hcx2:wr.cell? ⟨g,k,none⟩=some (.string ⟨p.toArray⟩):=(hbw.cell (p:=⟨g,k,none⟩) hg).trans hcx
    have hpl:p.length≤s.size:=by rw [←hpk,←zaM];exact zgN _ _ _
    obtain ⟨x,b,hpz⟩: ∃x b,decZ p 255=(x,b):=⟨_,_,rfl⟩
    have hx:0≤x∧x≤255:=by have h9:=zfH p 255 (by decide);rw [hpz] at h9;exact h9
    obtain ⟨hx0,hx1⟩:=hx
    have hA1:A<16777216:=by
     have h1:=HM.out
     rcases (show k=0∨k=1∨k=2∨k=3 from by omega) with rfl|rfl|rfl|rfl
     all_goals
      simp at h1
      omega
    have hA2:A*256+x<256^(k+1):=by
     have h1:=HM.out
     rcases (show k=0∨k=1∨k=2∨k=3 from by omega) with rfl|rfl|rfl|rfl
     all_goals
      simp at h1 ⊢
      omega
    have HA2:=zwZ hA2
    have HP:=zwZ hpk
    have HPZ:=zwZ hpz
    clear hpk hpz hcx hA2
    cases b with
    |true=>
     have hgo:=HG.out
     rw [zqQ k A _ p x (by rw [HL.out];exact hk4) HP.out HPZ.out] at hgo
     have HG2:=zwZ hgo
     clear hgo
     go_wp2_with fail
     refine (zeZ ⟨p.toArray⟩ 255 _ (by rw [zaA];omega) (by decide) (by decide)).mono ?_
     rw [zaH,HPZ.out]
     rintro e w2 ⟨rfl,hb2⟩
     have hc2:Below w1.heap.size w1 w2:=hbw.trans (hb2.mono hbw.size)
     clear hb2
     go_wp2
     go_roundw
     case rel=>exact ⟨k+1,A*256+x,by omega,by go_num,rfl,by omega,HA2,HG2,hc2⟩
     case measure=>simp [intOf];omega
    |false=>
     have HN:=zwZ (HG.out.symm.trans (zvI k A _ p x (by rw [HL.out];exact hk4) HP.out HPZ.out))
     go_wp2_with fail
     refine (zeZ ⟨p.toArray⟩ 255 _ (by rw [zaA];omega) (by decide) (by decide)).mono ?_
     rw [zaH,HPZ.out]
     rintro e w2 ⟨rfl,hb2⟩
     have hc2:Below w1.heap.size w1 w2:=hbw.trans (hb2.mono hbw.size)
     clear hb2
     go_wp2
     go_ret2
     exact zdD HN.out (hb1.trans (hc2.mono hb1.size))
   ·have hfin:=HG.out
    rw [zqB k A _ (by rw [HL.out];omega)] at hfin
    have HF:=zwZ hfin.symm
    clear hfin
    go_wp2
    go_ret2
    exact zdD HF.out (hb1.trans (hbw.mono hb1.size))
 ·obtain ⟨m,hm⟩: ∃m,(zbU s.data.toList).length=m:=⟨_,rfl⟩
  have HZ:=zwZ (ziG hl)
  have h0:0<(zbU s.data.toList).length:=zfU _ _
  rw [hm] at hl h0
  have hmb:m≤1073741825:=by
   have h1:=zdQ (hasB [46]) s.data.toList
   rw [zaM] at h1
   have h2:=hm
   unfold zbU at h2
   omega
  have hne:((m:Int) !=4)=true:=by rw [bne_iff_ne];omega
  have HM:=zwZ hm
  clear hm hl
  go_enter Tryz.func201,Tryz.ntmps201
  go_wp2_with fail
  refine (zeJ s _ _ hs (by decide)).mono ?_
  rintro e w1 ⟨v,rfl,hp,hb1⟩
  have hp':zcH w.heap.size w1 v (zbU s.data.toList):=hp
  obtain ⟨g,cap,rfl,hcap,hg,hcell⟩:=hp'.form2 (by rw [HM.out];omega)
  rw [HM.out]
  clear hp hp' hcell hcap
  go_wp2
  go_ret2
  exact zdD HZ.out hb1
def dec3 (u:Nat):List UInt8:=
 if u<10 then [UInt8.ofNat (48+u)] else if u<100 then [UInt8.ofNat (48+u/10),UInt8.ofNat (48+u % 10)] else [UInt8.ofNat (48+u/100),UInt8.ofNat (48+u/10 % 10),UInt8.ofNat (48+u % 10)]
def txt (a b c d:Nat):List UInt8:=dec3 a++[46]++(dec3 b++[46]++(dec3 c++[46]++dec3 d))
def txtZ (n:Int):List UInt8:=txt (n/16777216).toNat (n/65536 % 256).toNat (n/256 % 256).toNat (n % 256).toNat
abbrev PowTab (w:World):Prop:=Lib.TabIs Tryz.prog w "internal/strconv.uint64pow10" .u64 Lib.pow10Tab
theorem zaE {w w':World} (h:PowTab w) (hb:Below w.heap.size w w'):PowTab w':=
 Lib.tabBelow_of_tabIs h w' hb
theorem zuN (i:Nat) (x y:Int) (hx0:0≤x) (hx:x % 2^i=0) (hx1:x<18446744073709551616) (hy0:0≤y) (hy:y<2^i) (hy1:y<18446744073709551616):bits .or .u64 x y=x+y:=
 bits_join .u64 64 (by decide) (fun n h0 h1=>by rw [IntKind.wrap_u64];omega) i x y hx0 hx hx1 hy0 hy hy1
def zqS (w:World) (l:List UInt8) (e:Ending) (w':World):Prop:=e= .returned (.string ⟨l.toArray⟩)∧Below w.heap.size w w'
theorem dec3_1: ∀i:Fin 10,dec3 i.val=[UInt8.ofNat (48+i.val)]:=by decide+kernel
theorem dec3_2: ∀i j:Fin 10,i.val≠0→dec3 (i.val*10+j.val)=[UInt8.ofNat (48+i.val),UInt8.ofNat (48+j.val)]:=by decide+kernel
theorem dec3_3: ∀i j k:Fin 10,i.val≠0→dec3 ((i.val*10+j.val)*10+k.val)=[UInt8.ofNat (48+i.val),UInt8.ofNat (48+j.val),UInt8.ofNat (48+k.val)]:=by decide+kernel
theorem zcQ (c:UInt8) (h:digC 10 c=true): ∃i:Nat,i<10∧c=UInt8.ofNat (48+i)∧c.toNat=48+i∧valZ (c.toNat:Int)=(i:Int):=by
 rw [zjP] at h
 obtain ⟨h1,h2⟩:=zgQ h
 refine ⟨c.toNat - 48,by omega,?_,by omega,?_⟩
 ·apply UInt8.toNat_inj.1
  rw [show 48+(c.toNat - 48)=c.toNat from by omega]
  simp
 ·rw [zgA h1 h2];omega
theorem zfP (p:List UInt8) (x:Int) (h:decZ p 255=(x,true)):0≤x∧x≤255∧p=dec3 x.toNat:=by
 have hb:=zfH p 255 (by decide)
 rw [h] at hb
 refine ⟨hb.1,hb.2,?_⟩
 unfold decZ at h
 split at h
 ·exact absurd (zxA Prod.snd h) (by simp)
 ·rename_i hc
  split at h
  ·exact absurd (zxA Prod.snd h) (by simp)
  ·rename_i hm
   have hx:decN p=x:=zxA Prod.fst h
   have hd:zbJ 10 p=true:=by
    cases hd:zbJ 10 p with
    |true=>rfl
    |false=>rw [hd] at hc;simp at hc
   rw [hd] at hc
   have hall: ∀c∈p,digC 10 c=true:=List.all_eq_true.1 hd
   match p,hx,hc,hall,hm,hd with
   |[],_,hc,_,_,_=>simp at hc
   |[a],hx,_,hall,_,_=>
    obtain ⟨i,hi,ha,_,hv⟩:=zcQ a (hall a (by simp))
    have:x=(i:Int):=by rw [←hx];simp [decN,hv]
    rw [this,ha]
    exact (dec3_1 ⟨i,hi⟩).symm
   |[a,b],hx,hc,hall,_,_=>
    obtain ⟨i,hi,ha,hna,hva⟩:=zcQ a (hall a (by simp))
    obtain ⟨j,hj,hb',_,hvb⟩:=zcQ b (hall b (by simp))
    have hi0:i≠0:=by
     intro e
     apply hc
     simp [hna,e]
    have:x=((i*10+j:Nat):Int):=by rw [←hx];simp [decN,hva,hvb]
    rw [this,ha,hb']
    exact (dec3_2 ⟨i,hi⟩ ⟨j,hj⟩ hi0).symm
   |[a,b,c],hx,hc,hall,_,_=>
    obtain ⟨i,hi,ha,hna,hva⟩:=zcQ a (hall a (by simp))
    obtain ⟨j,hj,hb',_,hvb⟩:=zcQ b (hall b (by simp))
    obtain ⟨k,hk,hc',_,hvc⟩:=zcQ c (hall c (by simp))
    have hi0:i≠0:=by
     intro e
     apply hc
     simp [hna,e]
    have:x=(((i*10+j)*10+k:Nat):Int):=by rw [←hx];simp [decN,hva,hvb,hvc]
    rw [this,ha,hb',hc']
    exact (dec3_3 ⟨i,hi⟩ ⟨j,hj⟩ ⟨k,hk⟩ hi0).symm
   |a::b::c::d::r,hx,hc,hall,hm,hd=>
    exfalso
    obtain ⟨i,hi,ha,hna,hva⟩:=zcQ a (hall a (by simp))
    obtain ⟨j,hj,_,_,hvb⟩:=zcQ b (hall b (by simp))
    obtain ⟨k,hk,_,_,hvc⟩:=zcQ c (hall c (by simp))
    obtain ⟨l,hl,_,_,hvd⟩:=zcQ d (hall d (by simp))
    have hi0:i≠0:=by
     intro e
     apply hc
     simp [hna,e]
    have h4:=zgG (a::b::c::d::r) 4 hd
    have e4:decN ((a::b::c::d::r).take 4)=(((i:Int)*10+j)*10+k)*10+l:=by simp [decN,hva,hvb,hvc,hvd]
    omega
theorem zqA (l:List (List UInt8)): ∀(A x:Int),goS A l=(x,false)→x=0:=by
 induction l with
 |nil=>intro A x h;exact absurd (zxA Prod.snd h) (by simp [goS])
 |cons p r ih=>
  intro A x h
  unfold goS at h
  split at h
  ·exact ih _ _ h
  ·exact (zxA Prod.fst h).symm
theorem zkN (l:List UInt8) (x:Int) (h:zaT l=(x,false)):x=0:=by
 unfold zaT at h
 split at h
 ·exact zqA _ _ _ h
 ·exact (zxA Prod.fst h).symm
theorem zgO {A x:Int} {p:List UInt8} {r:List (List UInt8)} (h:goS A (p::r)=(x,true)): ∃y,decZ p 255=(y,true)∧goS (A*256+y) r=(x,true):=by
 unfold goS at h
 split at h
 ·rename_i hp
  refine ⟨(decZ p 255).1,?_,h⟩
  rw [←hp]
 ·exact absurd (zxA Prod.snd h) (by simp)
theorem zmP (l:List UInt8) (x:Int) (h:zaT l=(x,true)):0≤x∧x≤4294967295∧l=txtZ x:=by
 unfold zaT at h
 split at h
 ·rename_i hl
  have hj:Lib.join (zbU l) [46]=l:=zpH l 46
  match hd:zbU l,hl,h,hj with
  |[p0,p1,p2,p3],_,h,hj=>
   obtain ⟨x0,d0,h⟩:=zgO h
   obtain ⟨x1,d1,h⟩:=zgO h
   obtain ⟨x2,d2,h⟩:=zgO h
   obtain ⟨x3,d3,h⟩:=zgO h
   have hx:(((0*256+x0)*256+x1)*256+x2)*256+x3=x:=zxA Prod.fst h
   obtain ⟨a0,b0,rfl⟩:=zfP p0 x0 d0
   obtain ⟨a1,b1,rfl⟩:=zfP p1 x1 d1
   obtain ⟨a2,b2,rfl⟩:=zfP p2 x2 d2
   obtain ⟨a3,b3,rfl⟩:=zfP p3 x3 d3
   refine ⟨by omega,by omega,?_⟩
   rw [←hj]
   have e0:x/16777216=x0:=by omega
   have e1:x/65536 % 256=x1:=by omega
   have e2:x/256 % 256=x2:=by omega
   have e3:x % 256=x3:=by omega
   unfold txtZ
   rw [e0,e1,e2,e3]
   simp [Lib.join,txt,List.intercalate]
 ·exact absurd (zxA Prod.snd h) (by simp)
def valP (b:Int) (L:List UInt8):Int:=L.foldl (fun n c=>n*b+valZ (c.toNat:Int)) 0
theorem zrS (b:Int) (L:List UInt8): ∀a:Int,L.foldl (fun n c=>n*b+valZ (c.toNat:Int)) a=a*b^L.length+valP b L:=by
 unfold valP
 induction L with
 |nil=>intro a;simp
 |cons c L ih=>
  intro a
  simp only [List.foldl_cons,List.length_cons]
  rw [ih,ih (0*b+_),Int.pow_succ]
  rw [Int.zero_mul,Int.zero_add,Int.add_mul,Int.mul_assoc,Int.mul_comm b (b^L.length),Int.add_assoc]
theorem zsO (b:Int) (c:UInt8) (L:List UInt8):valP b (c::L)=valZ (c.toNat:Int)*b^L.length+valP b L:=by
 show (c::L).foldl _ 0=_
 rw [List.foldl_cons,zrS,Int.zero_mul,Int.zero_add]
theorem zhH (b:Int) (hb:0≤b) (L:List UInt8) (hd:zbJ b L=true):0≤valP b L:=by
 have key: ∀(L:List UInt8) (n:Int),0≤n→zbJ b L=true→0≤L.foldl (fun n c=>n*b+valZ (c.toNat:Int)) n:=by
  intro L
  induction L with
  |nil=>intro n h _;exact h
  |cons c L ih=>
   intro n h hd
   have h2:digC b c=true∧zbJ b L=true:=by simpa [zbJ] using hd
   have h3:=of_decide_eq_true h2.1
   have hp:0≤n*b:=Int.mul_nonneg h hb
   exact ih (n*b+valZ (c.toNat:Int)) (by omega) h2.2
 exact key L 0 (Int.le_refl _) hd
end
section
open Go.RowKit Go.Sort Go.Lib
def bruTab:List Int:=[0,1,56,2,57,49,28,3,61,58,42,50,38,29,17,4,62,47,59,36,45,43,51,22,53,39,33,30,24,18,12,5,63,55,48,27,60,41,37,16,46,35,44,21,52,32,23,11,54,26,40,15,34,20,31,10,25,14,19,9,13,8,7,6]
abbrev BruTab (w:World):Prop:=Lib.TabIs Tryz.prog w "math/bits.deBruijn64tab" .u8 bruTab
theorem zaD {w w':World} (h:BruTab w) (hb:Below w.heap.size w w'):BruTab w':=
 Lib.tabBelow_of_tabIs h w' hb
theorem zvB (w:World) (h:BruTab w) (i:Nat) (hi:i<64):w.cell? ⟨5,i,none⟩=some (.int .u8 (bruTab.getD i 0)):=
 Lib.TabIs.cell h (by kernel_rfl) i (by simpa [bruTab] using hi)
theorem tz64_8 (w:World) (h:BruTab w):Calls Tryz.prog 251 #[.int .u64 8] w fun e w'=>e= .returned (.int .i64 3)∧w=w':=by
 have hc:w.cell? ⟨5,7,none⟩=some (.int .u8 3):=zvB w h 7 (by decide)
 have e1:IntKind.u64.wrap (-8)=18446744073709551608:=by decide
 have e2:bits .and .u64 8 18446744073709551608=8:=by decide
 clear h
 go_enter Tryz.func251,Tryz.ntmps251
 go_wp2
 go_ret
 exact ⟨rfl,rfl⟩
theorem zvW (w:World) (h:BruTab w):Calls Tryz.prog 251 #[.int .u64 16] w fun e w'=>e= .returned (.int .i64 4)∧w=w':=by
 have hc:w.cell? ⟨5,15,none⟩=some (.int .u8 4):=zvB w h 15 (by decide)
 have e1:IntKind.u64.wrap (-16)=18446744073709551600:=by decide
 have e2:bits .and .u64 16 18446744073709551600=16:=by decide
 clear h
 go_enter Tryz.func251,Tryz.ntmps251
 go_wp2
 go_ret
 exact ⟨rfl,rfl⟩
end
end
end Go.Proofs.YtmjappnpedjlnaaGreatDoor
