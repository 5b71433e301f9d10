/-
  What the law ResolveMeets leans on, and its walk (37 of 46).
-/
import Derived.Test.YtmjappnpedjlnaaGreatDoorResolveMeetsPka
import Derived.Test.YtmjappnpedjlnaaGreatDoorResolveMeetsPkk
import Derived.Test.YtmjappnpedjlnaaGreatDoorResolveMeetsPkV
import Derived.Test.YtmjappnpedjlnaaGreatDoorResolveMeetsPkZ
import Derived.Test.YtmjappnpedjlnaaGreatDoorResolveMeetsPkg
namespace Go.Proofs.YtmjappnpedjlnaaGreatDoor
set_option maxRecDepth 100000
set_option maxHeartbeats 16000000
section
open Go.RowKit
theorem zoM: ∀ps:List (List UInt8),zbK ps=zbL ps
 |[]=>rfl
 |s::r=>by
  show 47::(s++zbK r)=47::s++zbL r
  rw [zoM r];rfl
def zuO (l:List UInt8):Prop:= ∀c∈l,(97≤c.toNat∧c.toNat≤122)∨c=46
def zdB (l:List UInt8):Prop:= ∀c∈l,(97≤c.toNat∧c.toNat≤122)∨c=46∨c=47
theorem ydV: ∀d:Fin 256,(97≤d.val∧d.val≤122)∨d.val=46→inB 4 (d.val:Int)=false:=by decide+kernel
theorem zpY {l:List UInt8} (h:zuO l):Out 4 l:=fun b hb=>by
 have hc:(97≤b.toNat∧b.toNat≤122)∨b.toNat=46:=by
  rcases h b hb with q|rfl
  ·exact .inl q
  ·exact .inr rfl
 exact ⟨by omega,ydV ⟨b.toNat,b.toNat_lt⟩ hc⟩
theorem ycU: ∀(l:List UInt8),(37:UInt8)∉l→ptsN l=if l.all (· ==46)=true then some l.length else none
 |[],_=>rfl
 |[c],_=>by
  unfold ptsN
  by_cases hc:c=46
  ·rw [if_pos hc,if_pos (by simp [hc])];rfl
  ·rw [if_neg hc,if_neg (by simp [hc])]
 |[c,d],_=>by
  unfold ptsN
  by_cases hc:c=46∧d=46
  ·rw [if_pos hc,if_pos (by simp [hc.1,hc.2])];rfl
  ·rw [if_neg hc,if_neg (by simpa using hc)]
 |c::d::e::r,h=>by
  have hc37:c≠37:=fun q=>h (by simp [q])
  have ih:=ycU (d::e::r) fun q=>h (List.mem_cons.2 (.inr q))
  rw [ptsN]
  by_cases hc:c=46
  ·rw [if_pos hc,ih]
   by_cases ha:(d::e::r).all (· ==46)=true
   ·rw [if_pos ha,if_pos (by rw [List.all_cons,ha,hc];rfl)];rfl
   ·rw [if_neg ha,if_neg (by rw [List.all_cons,hc];simpa using ha)];rfl
  ·rw [if_neg hc,if_neg (by rintro ⟨q,_⟩;exact hc37 q),if_neg (by rw [List.all_cons];simp [hc])]
theorem yaB {l:List UInt8} (h:zuO l):(l=[46]→ptsW l=1)∧(l=[46,46]→ptsW l=2)∧(l≠[46]→l≠[46,46]→ptsW l=0):=by
 refine ⟨fun e=>by rw [e];rfl,fun e=>by rw [e];rfl,fun h1 h2=> ?_⟩
 have h37:(37:UInt8)∉l:=fun q=>by
  rcases h 37 q with q|q
  ·exact absurd q.1 (by decide)
  ·exact absurd q (by decide)
 unfold ptsW
 rw [ycU l h37]
 split
 ·rename_i n e
  split at e
  ·rename_i ha
   have e:=Option.some.inj e
   subst e
   match l,h1,h2,ha with
   |[],_,_,_=>rfl
   |[c],h1,_,ha=>exact absurd (by simpa using ha) (fun q:c=46=>h1 (by rw [q]))
   |[c,d],_,h2,ha=>
    have:c=46∧d=46:=by simpa using ha
    exact absurd (by rw [this.1,this.2]) h2
   |c::d::e::r,_,_,_=>rw [if_pos (by simp)]
  ·cases e
 ·rfl
theorem zsJ: ∀(r o:List (List UInt8)),(∀s∈r,zuO s)→goD r (o.map (47:: ·))=(goW o r).map (47:: ·)
 |[],_,_=>rfl
 |[s],o,h=>by
  have hd:(o.map (47:: ·)).dropLast=o.dropLast.map (47:: ·):=(List.map_dropLast ..).symm
  have hs:=h s (by simp)
  obtain ⟨p1,p2,p0⟩:=yaB hs
  rw [goW,(zpY hs).same]
  show goD [s] _=(zeD true o s).map _
  unfold goD zeD
  by_cases h1:s=[46]
  ·rw [if_pos h1,p1 h1];simp
  ·by_cases h2:s=[46,46]
   ·rw [if_neg h1,if_pos h2,p2 h2,hd];simp
   ·rw [if_neg h1,if_neg h2,p0 h1 h2];simp
 |s::t::r,o,h=>by
  have hd:(o.map (47:: ·)).dropLast=o.dropLast.map (47:: ·):=(List.map_dropLast ..).symm
  have hs:=h s (by simp)
  have hr: ∀x∈t::r,zuO x:=fun x hx=>h x (List.mem_cons.2 (.inr hx))
  obtain ⟨p1,p2,p0⟩:=yaB hs
  rw [goW,(zpY hs).same,zrN]
  show _=(goW (zeD false o s) (t::r)).map _
  by_cases h1:s=[46]
  ·rw [if_pos h1,zsJ (t::r) o hr]
   unfold zeD
   rw [p1 h1];simp
  ·by_cases h2:s=[46,46]
   ·rw [if_neg h1,if_pos h2,hd,zsJ (t::r) _ hr]
    unfold zeD
    rw [p2 h2];simp
   ·have:=zsJ (t::r) (o++[s]) hr
    rw [if_neg h1,if_neg h2]
    unfold zeD
    rw [p0 h1 h2,if_pos rfl,←this]
    simp
theorem zvB: ∀(f:List (List UInt8)) (r o:List (List UInt8)),(∀s∈f,ycK s)→r≠[]→goD (f++r) o=goD r (o++f.map (47:: ·))
 |[],r,o,_,_=>by simp
 |s::f,r,o,h,hr=>by
  obtain ⟨_,h1,h2⟩:=h s (by simp)
  obtain ⟨t,q,e⟩: ∃t q,f++r=t::q:=by
   cases f with
   |nil=>cases r with
    |nil=>exact absurd rfl hr
    |cons t q=>exact ⟨t,q,rfl⟩
   |cons t q=>exact ⟨t,q++r,rfl⟩
  rw [List.cons_append,e,zrN,if_neg h1,if_neg h2,←e,zvB f r _ (fun x hx=>h x (by simp [hx])) hr]
  simp
theorem zvM {p q:UInt8→Bool}: ∀(l:List UInt8) (st:List (List UInt8)×List UInt8),(∀c∈l,p c=q c)→l.foldl (zaT p) st=l.foldl (zaT q) st
 |[],_,_=>rfl
 |c::l,st,h=>by
  rw [List.foldl_cons,List.foldl_cons,show zaT p st c=zaT q st c by unfold zaT;rw [h c (by simp)]]
  exact zvM l _ fun d hd=>h d (by simp [hd])
theorem ycS {s:List UInt8} (h:zdB s):zbG (hasB [47,92]) s=zbG (hasB [47]) s:=by
 have e:=zvM (p:=hasB [47,92]) (q:=hasB [47]) s ([],[]) fun c hc=>by
  have h92:c≠92:=by
   rintro rfl
   rcases h 92 hc with q|q|q
   ·exact absurd q.1 (by decide)
   ·exact absurd q (by decide)
   ·exact absurd q (by decide)
  rw [←zcF,←zcF]
  simp [h92]
 unfold zbG spl
 rw [e]
theorem z4J {s:List UInt8} (h:zdB s): ∀x∈zbG (hasB [47]) s,zuO x:=fun x hx c hc=>by
 have hp:c≠47:=zmP s x hx c hc
 have hj:=znM s
 have hin: ∀(ps:List (List UInt8)),x∈ps→c∈zbL ps:=by
  intro ps
  induction ps with
  |nil=>intro q;cases q
  |cons y ps ih=>
   intro q
   show c∈47::y++zbL ps
   rcases List.mem_cons.1 q with rfl|q
   ·simp [hc]
   ·have:=ih q
    simp [this]
 have hc2:=hin _ hx
 rw [hj] at hc2
 rcases List.mem_cons.1 hc2 with q|q
 ·exact absurd q hp
 ·rcases h c q with q|q|q
  ·exact .inl q
  ·exact .inr q
  ·exact absurd q hp
theorem zvC: ∀(a b:List (List UInt8)),zbL (a++b)=zbL a++zbL b
 |[],_=>rfl
 |s::a,b=>by
  show 47::s++zbL (a++b)=(47::s++zbL a)++zbL b
  rw [zvC a b,List.append_assoc]
theorem zpK {f:List (List UInt8)} (hf: ∀x∈f,ycK x) {s:List UInt8} (hs:zdB s):zbQ (zbK f++47::s)=zbK (zhO f s):=by
 have hd:=z4J hs
 have hpl: ∀x∈f++zbG (hasB [47]) s,zgS x:=fun x hx=>by
  rcases List.mem_append.1 hx with hx|hx
  ·exact (hf x hx).1
  ·exact zmP s x hx
 unfold zhO
 rw [ycS hs,zoM,zoM,←znM s,←zvC]
 unfold zbQ
 rw [z1N _ [] hpl,zvB f _ [] hf (by simp [zbG]),List.nil_append,zsJ _ _ hd,zsG]
theorem z8N {s:List UInt8} (h:zrW s) (hb:zxT s [47,63,35,92]=true):ycK s:=by
 refine ⟨fun c hc e=> ?_,?_,?_⟩
 ·exact absurd (e▸hc) (zrE hb (c:=47) (by decide))
 ·rintro rfl;exact absurd h.2 (by decide)
 ·rintro rfl;exact absurd h.2 (by decide)
theorem zvH (t:TypeId) (w:World) (b r:PZ):PB t ((w.alloc (.cells b.cells t)).alloc (.cells r.cells t)) w.heap.size b∧PB t ((w.alloc (.cells b.cells t)).alloc (.cells r.cells t)) (w.heap.size+1) r∧Below w.heap.size w ((w.alloc (.cells b.cells t)).alloc (.cells r.cells t))∧w.heap.size+2=((w.alloc (.cells b.cells t)).alloc (.cells r.cells t)).heap.size:=by
 have s0:(w.alloc (.cells b.cells t)).heap.size=w.heap.size+1:=by simp
 have h1:=PB.new t (w.alloc (.cells b.cells t)) r
 rw [s0] at h1
 exact ⟨(PB.new t w b).below ((Below.refl _ _).alloc (Nat.le_refl _) _),h1,((Below.refl _ w).alloc (Nat.le_refl _) _).alloc (by simp) _,by simp⟩
theorem yiD (l:List UInt8):(Lib.hasPrefix l [47]=true∧l.head? =some 47)∨(Lib.hasPrefix l [47]=false∧l.head? ≠some 47):=by
 cases l with
 |nil=>exact .inr ⟨rfl,by simp⟩
 |cons c l=>
  by_cases h:c=47
  ·subst h;exact .inl ⟨rfl,rfl⟩
  ·refine .inr ⟨?_,by simp [h]⟩
   show ((47:UInt8)==c&&true)=false
   rw [Bool.and_true,beq_eq_false_iff_ne]
   exact fun e=>h e.symm
theorem zgK (b r:PZ) (w:World) (hb:b.Few 100000) (hr:r.Few 100000):
  Calls Tryz.prog 60 #[.agg b.cells,.agg r.cells] w (zdT w (zdF b r)):=by
 obtain ⟨h1,h2,h3,h4⟩:=zvH 24 w b r
 have hbp:=hb.2.2.2.2.1
 have hrp:=hr.2.2.2.2.1
 have hmg:=ztZ b.path r.path b.hasA
 have HPX:Hid (∀W,Calls Tryz.prog 110 #[.string ⟨r.path.toArray⟩,.string ⟨#[47]⟩] W fun e w'=>e= .returned (.bool (Lib.hasPrefix r.path [47]))∧W=w'):=fun W=>(Tryz.strings_HasPrefix ⟨r.path.toArray⟩ ⟨#[47]⟩ W).mono (fun e w' h=>⟨h.1,h.2.symm⟩)
 have HRM:=Lib.hid (fun W=>zlY r.path W (by omega))
 have HMG:=Lib.hid (fun W=>zzB b.path r.path b.hasA W (by omega) (by omega))
 have HRN:=Lib.hid (fun W=>zlY (zeG b.path b.hasA r.path) W (by omega))
 have HF:Hid (zdF b r=if r.hasS=true∨r.hasA=true∨r.path.head? =some 47 then zbQ r.path else if r.path=[] then b.path else zbQ (zeG b.path b.hasA r.path)):=rfl
 have hph:=yiD r.path
 obtain ⟨x0,hx0⟩: ∃y,y=(w.alloc (.cells b.cells 24)).alloc (.cells r.cells 24):=⟨_,rfl⟩
 rw [←hx0] at h1 h2 h3 h4
 obtain ⟨-,-,-,-,-,b5,-,-,b8,-,-,-,-⟩:=h1.all
 obtain ⟨-,r1,-,-,-,r5,-,-,r8,-,-,-,-⟩:=h2.all
 have HB:=Lib.hid h3
 dsimp only [PZ.cells] at hx0 ⊢
 clear h1 h2 h3 h4 hb hr hmg
 generalize zdF b r=res at*
 generalize zeG b.path b.hasA r.path=mg at*
 generalize hbq:b.path=bp at*
 generalize hrq:r.path=rp at*
 generalize b.hasA=ba at*
 generalize r.hasS=rs at*
 generalize r.hasA=ra at*
 clear hbq hrq hbp hrp
 by_cases c1:rs=true
 ·subst c1
  have HF2:Hid (res=zbQ rp):=by show _=_;rw [HF.out,if_pos (.inl rfl)]
  clear HF HPX HMG HRN hph b5 b8 r5
  go_enter Tryz.func60,Tryz.ntmps60
  go_upto_region 1 with fail
  rw [←hx0]
  clear hx0
  go_wp2_with fail
  refine (HRM.out _).mono ?_
  rintro e y ⟨rfl,hy⟩
  have HY:=Lib.hid (zaF HB.out hy)
  go_wp2
  go_ret
  obtain rfl:=HF2.out
  exact ⟨rfl,HY.out⟩
 obtain rfl:rs=false:=Bool.not_eq_true _▸c1
 by_cases c2:ra=true
 ·subst c2
  have HF2:Hid (res=zbQ rp):=by show _=_;rw [HF.out,if_pos (.inr (.inl rfl))]
  clear HF HPX HMG HRN hph b5 b8
  go_enter Tryz.func60,Tryz.ntmps60
  go_upto_region 1 with fail
  rw [←hx0]
  clear hx0
  go_wp2_with fail
  refine (HRM.out _).mono ?_
  rintro e y ⟨rfl,hy⟩
  have HY:=Lib.hid (zaF HB.out hy)
  go_wp2
  go_ret
  obtain rfl:=HF2.out
  exact ⟨rfl,HY.out⟩
 obtain rfl:ra=false:=Bool.not_eq_true _▸c2
 rcases hph with ⟨p1,p2⟩|⟨p1,p2⟩
 ·have HF2:Hid (res=zbQ rp):=by show _=_;rw [HF.out,if_pos (.inr (.inr p2))]
  rw [p1] at HPX
  clear HF HMG HRN b5 b8 p1 p2
  go_enter Tryz.func60,Tryz.ntmps60
  go_upto_region 1 with fail
  rw [←hx0]
  clear hx0
  go_wp2_with fail
  refine (HPX.out _).mono ?_
  rintro e y ⟨rfl,rfl⟩
  go_wp2_with fail
  refine (HRM.out _).mono ?_
  rintro e y ⟨rfl,hy⟩
  have HY:=Lib.hid (zaF HB.out hy)
  go_wp2
  go_ret
  obtain rfl:=HF2.out
  exact ⟨rfl,HY.out⟩
 rw [p1] at HPX
 have hc: ¬(false=true∨false=true∨rp.head? =some 47):=by rintro (q|q|q);cases q;cases q;exact p2 q
 by_cases c3:rp=[]
 ·have HF2:Hid (res=bp):=by show _=_;rw [HF.out,if_neg hc,if_pos c3]
  have he:(rp==[])=true:=by rw [c3];rfl
  clear HF HMG HRN HRM p1 p2 c3 hc b5
  go_enter Tryz.func60,Tryz.ntmps60
  go_upto_region 1 with fail
  rw [←hx0]
  clear hx0
  go_wp2_with fail
  refine (HPX.out _).mono ?_
  rintro e y ⟨rfl,rfl⟩
  go_wp2
  go_ret
  obtain rfl:=HF2.out
  exact ⟨rfl,HB.out⟩
 ·have HF2:Hid (res=zbQ mg):=by show _=_;rw [HF.out,if_neg hc,if_neg c3]
  have he:(rp==[])=false:=by rw [beq_eq_false_iff_ne];exact c3
  clear HF HRM p1 p2 c3 hc
  go_enter Tryz.func60,Tryz.ntmps60
  go_upto_region 1 with fail
  rw [←hx0]
  clear hx0
  go_wp2_with fail
  refine (HPX.out _).mono ?_
  rintro e y ⟨rfl,rfl⟩
  go_wp2_with fail
  refine (HMG.out _).mono ?_
  rintro e y ⟨rfl,rfl⟩
  go_wp2_with fail
  refine (HRN.out _).mono ?_
  rintro e y ⟨rfl,hy⟩
  have HY:=Lib.hid (zaF HB.out hy)
  go_wp2
  go_ret
  obtain rfl:=HF2.out
  exact ⟨rfl,HY.out⟩
end
end Go.Proofs.YtmjappnpedjlnaaGreatDoor
