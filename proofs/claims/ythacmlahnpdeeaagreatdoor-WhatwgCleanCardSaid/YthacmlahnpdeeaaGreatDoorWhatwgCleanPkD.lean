/-
  What the law WhatwgClean leans on, and its walk (4 of 31).
-/
import Derived.Lib.Strings
import Derived.Test.YthacmlahnpdeeaaGreatDoorWhatwgCleanPkC
import Derived.Test.YthacmlahnpdeeaaGreatDoorWhatwgCleanPkA
namespace Go.Proofs.YthacmlahnpdeeaaGreatDoor
set_option maxRecDepth 100000
set_option maxHeartbeats 16000000
section
open Go.RowKit
def badL:List UInt8:=[34,35,37,47,58,60,62,63,64,91,92,93,94,96,123,124,125]
def zpO (c:UInt8):Bool:=decide (33≤c.toNat∧c.toNat≤126)&& !hasB badL c
def zaZ (l:List UInt8):List (List UInt8):=(zaQ l).take (zgF (zaQ l))
def zpU (l:List UInt8):Nat:=if l.getLast? =some 46 then l.length - 1 else l.length
def zjH (w:List UInt8):Bool:=decide (1≤w.length∧w.length≤63)
def zrK (w:List UInt8):Bool:=Lib.hasPrefix w [120,110,45,45]
def ziI (l:List UInt8):Bool:=decide (zpU l≤253)&&(zaZ l).all zjH
def zjI (l:List UInt8):Bool:=l.all zpO
def zfK (l:List UInt8):Bool:=l.all fun c=>decide (c.toNat<128)
def zwN (l:List UInt8):Int:=if (ziI l&&zjI l)=false then 6 else if (zaZ l).any zrK=true then 7 else 0
def zmJ (l:List UInt8):Int:=if zfK l=false then 7 else zwN (zbF l)
def zbR (l:List UInt8):List UInt8×Int:=if zmJ l=0 then (zbF l,0) else ([],zmJ l)
def znZ (n m:List UInt8):Bool:=decide ((zaZ m).length<(zaZ n).length)&&(zaZ m).any (fun w=> !w.isEmpty)&&(zaZ n).drop ((zaZ n).length - (zaZ m).length)==zaZ m
theorem z1E (r:List UInt8) (c:UInt8):Lib.hasSuffix r [c]=decide (r.getLast? =some c):=by
 rw [Bool.eq_iff_iff,decide_eq_true_iff]
 unfold Lib.hasSuffix
 rw [List.isSuffixOf_iff_suffix,List.getLast?_eq_some_iff]
 exact ⟨fun ⟨t,h⟩=>⟨t,h.symm⟩,fun ⟨t,h⟩=>⟨t,h.symm⟩⟩
theorem zmY (r:List UInt8) (c:UInt8):Lib.trimSuffix r [c]=if r.getLast? =some c then r.dropLast else r:=by
 unfold Lib.trimSuffix
 rw [z1E]
 simp [List.dropLast_eq_take]
theorem ydL (l:List UInt8):(Lib.trimSuffix l [46]).length=zpU l:=by
 rw [zmY]
 unfold zpU
 split<;>simp
theorem z8J (p:UInt8→Bool) (h: ∀n:Fin 256,p (UInt8.ofNat n.val)=true) (c:UInt8):p c=true:=by
 have:=h ⟨c.toNat,c.toNat_lt⟩
 rwa [show UInt8.ofNat c.toNat=c from by simp] at this
theorem ykQ (c:UInt8):lowC (lowC c)=lowC c:=by simpa using z8J (fun c=>lowC (lowC c)==lowC c) (by decide+kernel) c
theorem z9J (c:UInt8) (h:c.toNat<128):(lowC c).toNat<128:=by
 have:=z8J (fun c=> !decide (c.toNat<128)||decide ((lowC c).toNat<128)) (by decide+kernel) c
 simpa [h] using this
theorem ylU (c:UInt8) (h:zpO c=true):c.toNat<128∧c.toNat≠37∧c.toNat≠91:=by
 have:=z8J (fun c=> !zpO c||(decide (c.toNat<128)&&(decide (c.toNat≠37)&&decide (c.toNat≠91)))) (by decide+kernel) c
 simpa [h] using this
theorem zmM (a b:List UInt8):zbF (a++b)=zbF a++zbF b:=by simp [zbF]
theorem zxT (l:List UInt8):zbF (zbF l)=zbF l:=by simp [zbF,ykQ]
theorem zoI {l:List UInt8}:zfK l=true↔ ∀c∈l,c.toNat<128:=by simp [zfK]
theorem zzN {l:List UInt8} (h:zfK l=true):zfK (zbF l)=true:=by
 rw [zoI] at*
 intro c hc
 obtain ⟨d,hd,rfl⟩:=List.mem_map.1 hc
 exact z9J d (h d hd)
/-- what is a name:its text in small letters,and that is one -/
structure zdP (n:List UInt8):Prop where
 low:zbF n=n
 size:zpU n≤253
 lab: ∀w∈zaZ n,1≤w.length∧w.length≤63
 sign: ∀c∈n,zpO c=true
 code: ∀w∈zaZ n,zrK w=false
theorem yfW {l:List UInt8} (hl:zbF l=l):zwN l=0↔zdP l:=by
 unfold zwN ziI zjI
 constructor
 ·intro h
  split at h
  ·cases h
  ·rename_i h1
   split at h
   ·cases h
   ·rename_i h2
    simp [zjH] at h1 h2
    exact ⟨hl,h1.1,fun w hw=>h1.2.1 w hw,h1.2.2,h2⟩
 ·intro h
  rw [if_neg,if_neg]
  ·simpa using h.code
  ·have h1:(zaZ l).all zjH=true:=List.all_eq_true.2 fun w hw=>decide_eq_true (h.lab w hw)
   have h2:l.all zpO=true:=List.all_eq_true.2 h.sign
   rw [h1,h2,decide_eq_true h.size]
   simp
theorem zdP.plain {n:List UInt8} (h:zdP n):zfK n=true:=zoI.2 fun c hc=>(ylU c (h.sign c hc)).1
theorem ydJ {l:List UInt8} (h:zmJ l=0):zfK l=true∧zdP (zbF l):=by
 unfold zmJ at h
 cases hp:zfK l with
 |false=>rw [hp] at h;cases h
 |true=>rw [hp] at h;exact ⟨rfl,(yfW (zxT l)).1 h⟩
theorem zxM {l:List UInt8} (h:(zbR l).2=0):zbR l=(zbF l,0)∧zdP (zbF l):=by
 unfold zbR at*
 split at h
 ·rename_i h0
  rw [if_pos h0]
  exact ⟨rfl,(ydJ h0).2⟩
 ·rename_i h0
  exact absurd h h0
theorem zqE {l:List UInt8} (h:(zbR l).2=0):zdP (zbR l).1:=by
 have:=zxM h
 rw [this.1]
 exact this.2
theorem ydH {l:List UInt8} (h:(zbR l).2≠0):(zbR l).1=[]:=by
 unfold zbR at*
 split
 ·rename_i h0;rw [if_pos h0] at h;exact absurd rfl h
 ·rfl
theorem z6H {l n:List UInt8} {e:Int} (h:zbR l=(n,e)):n.length≤l.length:=by
 by_cases h0:e=0
 ·have:=(zxM (l:=l) (by rw [h];exact h0)).1
  rw [h] at this
  injection this with h1 _
  rw [h1,zkO]
  exact Nat.le_refl _
 ·have:=ydH (l:=l) (by rw [h];exact h0)
  rw [h] at this
  rw [show n=[] from this]
  exact Nat.zero_le _
theorem ygY (l:List UInt8):(zbR l).2=0∨(zbR l).2=6∨(zbR l).2=7:=by
 unfold zbR zmJ zwN
 repeat' split
 all_goals simp_all
theorem zkQ (l:List UInt8):0<(zaQ l).length:=by simp [zaQ,splitB]
theorem zwJ {ps:List (List UInt8)} (h:0<ps.length):0<zgF ps:=by unfold zgF;split<;>omega
theorem z5V (l:List UInt8):0<(zaZ l).length:=by
 unfold zaZ
 rw [List.length_take]
 have:=zkQ l
 have:=zwJ this
 omega
theorem zyR (a b:List UInt8):zaQ (a++[46]++b)=zaQ a++zaQ b:=by
 have e:spl (hasB [46]) (a++[46]++b)=(zaQ a++(spl (hasB [46]) b).1,(spl (hasB [46]) b).2):=by
  rw [zlW,z3U,yaE]
  rfl
 show (spl (hasB [46]) (a++[46]++b)).1++[(spl (hasB [46]) (a++[46]++b)).2]=_
 rw [e]
 simp [zaQ,splitB]
theorem zwS (xs ys:List (List UInt8)) (h:0<ys.length) (h1:ys≠[[]]):zgF (xs++ys)=xs.length+zgF ys:=by
 have hd:(xs++ys).getD ((xs++ys).length - 1) []=ys.getD (ys.length - 1) []:=by
  simp only [List.getD,List.length_append]
  rw [List.getElem?_append_right (by omega),show xs.length+ys.length - 1 - xs.length=ys.length - 1 from by omega]
 unfold zgF
 rw [hd,List.length_append]
 match ys,h with
 |[y],_=>
  have hy:y≠[]:=fun e=>h1 (by rw [e])
  rw [if_neg (fun h=>hy h.2),if_neg (fun h=>hy h.2)]
 |y::z::ys,_=>
  simp only [List.length_cons]
  by_cases e:(y::z::ys).getD (ys.length+1+1 - 1) []=[]
  ·rw [if_pos ⟨by omega,e⟩,if_pos ⟨by omega,e⟩];omega
  ·rw [if_neg (fun h=>e h.2),if_neg (fun h=>e h.2)]
theorem znN (a b:List UInt8) (h:zaQ b≠[[]]):zaZ (a++[46]++b)=zaQ a++zaZ b:=by
 unfold zaZ
 rw [zyR,zwS _ _ (zkQ b) h,List.take_append,List.take_of_length_le (by omega),show (zaQ a).length+zgF (zaQ b) - (zaQ a).length=zgF (zaQ b) from by omega]
theorem zdP.ne {n:List UInt8} (h:zdP n):zaQ n≠[[]]:=fun e=>by
 have:=(h.lab [] (by unfold zaZ;rw [e];decide)).1
 simp at this
theorem z0B {a:List UInt8} (hn:a≠[]) (h:a.getLast hn≠46):zaZ a=zaQ a:=by
 unfold zaZ
 have:=zlO (spl (hasB [46]) a).1.length (zaQ a) (by rw [zpF];simp) (.inr (by rw [zpF,z8U];exact yfD a hn h))
 rw [this,List.take_of_length_le (by rw [zpF];simp)]
theorem yjR (p:UInt8→Bool): ∀(l:List UInt8) (st:List (List UInt8)×List UInt8) (P:UInt8→Prop),(∀c∈l,P c)→(∀w∈st.1,∀c∈w,P c∧p c=false)→(∀c∈st.2,P c∧p c=false)→
  (∀w∈(l.foldl (zaR p) st).1,∀c∈w,P c∧p c=false)∧ ∀c∈(l.foldl (zaR p) st).2,P c∧p c=false:=by
 intro l
 induction l with
 |nil=>intro st P _ h1 h2;exact ⟨h1,h2⟩
 |cons d l ih=>
  intro st P h0 h1 h2
  rw [List.foldl_cons]
  refine ih _ P (fun c hc=>h0 c (by simp [hc])) ?_ ?_
  ·unfold zaR
   split
   ·intro w hw
    rcases List.mem_append.1 hw with h|h
    ·exact h1 w h
    ·rw [List.mem_singleton.1 h];exact h2
   ·exact h1
  ·unfold zaR
   split
   ·intro c hc;cases hc
   ·rename_i hp
    intro c hc
    rcases List.mem_append.1 hc with h|h
    ·exact h2 c h
    ·rw [List.mem_singleton.1 h];exact ⟨h0 d (by simp),by simpa using hp⟩
theorem yhZ {l w:List UInt8} (h:w∈zaQ l): ∀c∈w,c∈l∧hasB [46] c=false:=by
 have k:=yjR (hasB [46]) l ([],[]) (· ∈l) (fun _ h=>h) (by simp) (by simp)
 rcases List.mem_append.1 h with h|h
 ·exact k.1 w h
 ·rw [List.mem_singleton.1 h];exact k.2
theorem z3L {l w:List UInt8} (h:w∈zaZ l):w∈zaQ l:=List.mem_of_mem_take h
theorem z0X (l:List UInt8):l.length≤zpU l+1:=by unfold zpU;split<;>omega
theorem z7M {l:List UInt8} (h:ziI l=true):l.length≤254:=by
 unfold ziI at h
 have:=of_decide_eq_true (Bool.and_eq_true_iff.1 h).1
 have:=z0X l
 omega
theorem z1Y (l:List UInt8):zpU l≤l.length:=by unfold zpU;split<;>omega
/-- a label of a name is a name -/
theorem zdP.label {n w:List UInt8} (h:zdP n) (hw:w∈zaZ n):zdP w:=by
 have hin:=yhZ (z3L hw)
 have hd:zaQ w=[w]:=z5D w fun c hc=>(hin c hc).2
 have hl:zaZ w=[w]:=by
  unfold zaZ
  rw [hd,zlO 0 [w] rfl (.inl rfl)]
  rfl
 obtain ⟨h1,h2⟩:=h.lab w hw
 refine ⟨?_,Nat.le_trans (z1Y w) (by omega),?_,fun c hc=>h.sign c (hin c hc).1,?_⟩
 ·have key: ∀l:List UInt8,zbF l=l→ ∀c∈l,lowC c=c:=by
   intro l
   induction l with
   |nil=>intro _ c hc;cases hc
   |cons d l ih=>
    intro he c hc
    have he':lowC d::zbF l=d::l:=he
    injection he' with e1 e2
    rcases List.mem_cons.1 hc with rfl|h
    ·exact e1
    ·exact ih e2 c h
  have hk:=key n h.low
  unfold zbF
  conv=>rhs;rw [←List.map_id w]
  exact List.map_congr_left fun c hc=>hk c (hin c hc).1
 ·rw [hl];intro v hv;rw [List.mem_singleton.1 hv];exact ⟨h1,h2⟩
 ·rw [hl];intro v hv;rw [List.mem_singleton.1 hv];exact h.code w hw
theorem z4N {xs:List (List UInt8)} {x n:List UInt8} (hn:zdP n) (hx:zaZ x=xs++zaZ n) (h0:0<xs.length):znZ x n=true:=by
 unfold znZ
 have h1:(zaZ n).any (fun w=> !w.isEmpty)=true:=by
  have hp:=z5V n
  match e:zaZ n,hp with
  |w::ws,_=>
   have:=(hn.lab w (by rw [e];simp)).1
   cases w with
   |nil=>simp at this
   |cons c w=>simp
 rw [h1,hx,List.length_append,decide_eq_true (by omega),show xs.length+(zaZ n).length - (zaZ n).length=xs.length from by omega,List.drop_left]
 simp
theorem zvI {n m:List UInt8} (h:(zaZ n).length≤(zaZ m).length):znZ n m=false:=by
 unfold znZ
 rw [decide_eq_false (by omega)]
 rfl
theorem zdP.join {a b:List UInt8} (ha:zdP a) (hb:zdP b) (hl:a.length+b.length≤250) (hn:a≠[]) (hd:a.getLast hn≠46):zdP (a++[46]++b)∧zaZ (a++[46]++b)=zaZ a++zaZ b:=by
 have e:zaZ (a++[46]++b)=zaZ a++zaZ b:=by rw [znN a b hb.ne,z0B hn hd]
 refine ⟨⟨?_,Nat.le_trans (z1Y _) (by simp;omega),?_,?_,?_⟩,e⟩
 ·rw [zmM,zmM,ha.low,hb.low];rfl
 ·rw [e];intro w hw
  rcases List.mem_append.1 hw with h|h
  ·exact ha.lab w h
  ·exact hb.lab w h
 ·intro c hc
  rcases List.mem_append.1 hc with h|h
  ·rcases List.mem_append.1 h with h|h
   ·exact ha.sign c h
   ·rw [List.mem_singleton.1 h];decide
  ·exact hb.sign c h
 ·rw [e];intro w hw
  rcases List.mem_append.1 hw with h|h
  ·exact ha.code w h
  ·exact hb.code w h
/-- what stands below a name,with a label more ahead -/
theorem zdP.more {a n:List UInt8} (hn:zdP n):znZ (a++[46]++n) n=true∧znZ n (a++[46]++n)=false∧znZ n n=false:=by
 have e:=znN a n hn.ne
 exact ⟨z4N hn e (zkQ a),zvI (by rw [e,List.length_append];omega),zvI (Nat.le_refl _)⟩
end

section
open Go.RowKit
/-- texts that lie in a row from the beginning of block g on -/
def Seen (w:World) (g:Nat) (ps:List (List UInt8)):Prop:=g<w.heap.size∧ ∀j,j<ps.length→w.cell? ⟨g,j,none⟩=some (.string ⟨(ps.getD j []).toArray⟩)
theorem Seen.keep {w w':World} {g:Nat} {ps:List (List UInt8)} (h:Seen w g ps) (hb:Below w.heap.size w w'):Seen w' g ps:=⟨Nat.lt_of_lt_of_le h.1 hb.size,fun j hj=>(hb.cell (p:=⟨g,j,none⟩) h.1).trans (h.2 j hj)⟩
def yaU (w:World) (ps:List (List UInt8)) (e:Ending) (w':World):Prop:= ∃g c,e= .returned (.slice (some ⟨g,0,none⟩) ps.length c)∧ps.length≤c∧Seen w' g ps∧Below w.heap.size w w'
theorem ziU {w w':World} {ps qs:List (List UInt8)} {g c n k:Nat} (hq:ps.take k=qs) (hk:k≤ps.length) (hn:n=k) (hcap:k≤c) (hg:g<w'.heap.size) (hc: ∀j,j<ps.length→w'.cell? ⟨g,j,none⟩=some (.string ⟨(ps.getD j []).toArray⟩)) (hb:Below w.heap.size w w'):yaU w qs (.returned (.slice (some ⟨g,0,none⟩) n c)) w':=by
 subst hq hn
 refine ⟨g,c,by rw [List.length_take,Nat.min_eq_left hk],by rw [List.length_take,Nat.min_eq_left hk];exact hcap,⟨hg,fun j hj=> ?_⟩,hb⟩
 rw [List.length_take,Nat.min_eq_left hk] at hj
 rw [hc j (by omega)]
 simp [List.getD,hj]
theorem zcU (s:ByteArray) (w:World):Calls Tryz.prog 100 #[.string s] w fun e w'=>e= .returned (.string s)∧w=w':=by
 go_enter Tryz.func100,Tryz.ntmps100
 go_wp2
 go_ret
 exact ⟨rfl,rfl⟩
theorem zrF (l:List UInt8):(zaZ l).length≤l.length+1:=by
 have h1:=zdE (hasB [46]) l
 unfold zaZ zaQ
 rw [List.length_take]
 omega
theorem zqQ (s:ByteArray) (w:World) (hs:s.size≤1073741824):
  Calls Tryz.prog 147 #[.string s] w (yaU w (zaZ s.data.toList)):=by
 obtain ⟨L,x,hL,hx,hLl,hc⟩:=zqF s.data.toList
 rw [zaU] at hLl
 go_enter Tryz.func147,Tryz.ntmps147
 go_wp2_with fail
 refine (zcU s _).mono ?_
 rintro e w' ⟨rfl,rfl⟩
 go_wp2_with fail
 refine (zdV s _ _ hs).mono ?_
 rintro e w1 ⟨v,rfl,hp,hb1⟩
 have hp':zbA w.heap.size w1 v (zaQ s.data.toList):=hp
 obtain ⟨g,cap,rfl,hcap,hg,hcell⟩:=hp'.form2 (by omega)
 rw [hL] at hcap ⊢
 have hcx:=hcell L (by omega)
 rw [hx] at hcx
 have HC:=Lib.hid hcell
 have HL:=Lib.hid hL
 have HX:=Lib.hid hx
 clear hcell hp hp' hL hx
 rcases hc with ⟨h1,rfl,hk⟩|⟨rfl|hne,hk⟩
 ·have HK:=Lib.hid hk
  obtain ⟨n,rfl⟩: ∃n,L=n+1:=⟨L - 1,by omega⟩
  clear hk h1
  go_wp2
  go_ret
  exact ziU (k:=n+1) (by unfold zaZ;rw [HK.out]) (by rw [HL.out];omega) (by omega) (by omega) hg HC.out hb1
 ·have HK:=Lib.hid hk
  clear hk
  go_wp2
  go_ret
  exact ziU (k:=1) (by unfold zaZ;rw [HK.out]) (by rw [HL.out];omega) (by omega) (by omega) hg HC.out hb1
 ·have HK:=Lib.hid hk
  have hxe:x.isEmpty=false:=zeU hne
  clear hk hne
  by_cases h0:L=0
  ·subst h0
   go_wp2
   go_ret
   exact ziU (k:=1) (by unfold zaZ;rw [HK.out]) (by rw [HL.out];omega) (by omega) (by omega) hg HC.out hb1
  ·obtain ⟨n,rfl⟩: ∃n,L=n+1:=⟨L - 1,by omega⟩
   go_wp2
   go_ret
   exact ziU (k:=n+2) (by unfold zaZ;rw [HK.out]) (by rw [HL.out];omega) (by omega) (by omega) hg HC.out hb1
end

section
open Go.RowKit
theorem z9Q (q:List UInt8) (w:World):Calls Tryz.prog 148 #[.string ⟨q.toArray⟩] w fun e w'=>e= .returned (.bool (zrK q))∧w=w':=by
 go_enter Tryz.func148,Tryz.ntmps148
 go_wp2_with fail
 refine (Tryz.strings_HasPrefix ⟨q.toArray⟩ _ _).mono ?_
 rintro e w' ⟨rfl,rfl⟩
 go_wp2
 go_ret
 exact ⟨rfl,rfl⟩
theorem yiR {p:List UInt8→Bool} {ps:List (List UInt8)} {k:Nat} {q:List UInt8} (hk:k<ps.length) (hq:ps.getD k []=q) (h:p q=false):ps.all p=false:=by
 rw [List.all_eq_false]
 refine ⟨q,?_,by simp [h]⟩
 rw [←hq,List.getD,List.getElem?_eq_getElem hk]
 exact List.getElem_mem hk
theorem ykT {p:List UInt8→Bool} {ps:List (List UInt8)} (h: ∀j,j<ps.length→p (ps.getD j [])=true):ps.all p=true:=by
 rw [List.all_eq_true]
 intro x hx
 obtain ⟨j,hj,rfl⟩:=List.getElem_of_mem hx
 have:=h j hj
 rwa [List.getD,List.getElem?_eq_getElem hj] at this
theorem z0D (s:ByteArray) (w:World) (hs:s.size≤9223372036854775807):Calls Tryz.prog 181 #[.string s,.string ⟨#[46]⟩] w fun e w'=> ∃t:ByteArray,e= .returned (.string t)∧t.size=zpU s.data.toList∧w=w':=by
 refine (Tryz.strings_TrimSuffix s ⟨#[46]⟩ w (by omega)).mono ?_
 rintro e w' ⟨rfl,rfl⟩
 exact ⟨_,rfl,by rw [zaJ];exact ydL _,rfl⟩
theorem z6P (s:ByteArray) (w:World) (hs:s.size≤9223372036854775807):
  Calls Tryz.prog 144 #[.string s] w (zcN w (ziI s.data.toList)):=by
 obtain ⟨ps,hps⟩: ∃ps,zaZ s.data.toList=ps:=⟨_,rfl⟩
 have HLB:=Lib.hid (fun W h=>zqQ s W h)
 rw [hps] at HLB
 have hlg:=z0X s.data.toList
 rw [zaU] at hlg
 have HS:Hid (ziI s.data.toList=(decide (zpU s.data.toList≤253)&&ps.all zjH)):=by show _=_;rw [←hps];rfl
 have hpl:ps.length≤s.size+1:=by rw [←hps];have:=zrF s.data.toList;rwa [zaU] at this
 clear hps
 go_enter Tryz.func144,Tryz.ntmps144
 go_wp2_with fail
 refine (zcU s _).mono ?_
 rintro e w' ⟨rfl,rfl⟩
 go_wp2_with fail
 refine (z0D s _ hs).mono ?_
 rintro e w' ⟨t,rfl,ht,rfl⟩
 rw [←ht] at HS hlg
 clear ht
 by_cases hb:253<t.size
 ·have hd:decide (253<(t.size:Int))=true:=decide_eq_true (by omega)
  have HF:=Lib.hid (show ziI s.data.toList=false by rw [HS.out,decide_eq_false (by omega)];rfl)
  go_wp2
  go_ret
  exact zaO HF.out (Below.refl _ _)
 have hd:decide (253<(t.size:Int))=false:=decide_eq_false (by omega)
 have HF:Hid (ziI s.data.toList=ps.all zjH):=by show _=_;rw [HS.out,decide_eq_true (by omega)];rfl
 have hss:s.size≤254:=by omega
 clear hb HS hlg
 go_wp2_with fail
 refine (HLB.out _ (by omega)).mono ?_
 rintro e w1 ⟨g,c,rfl,-,hseen,hb1⟩
 have HC:=Lib.hid hseen.2
 have hg:=hseen.1
 clear hseen hd HLB
 go_wp2
 go_loop [13] (fun i=> ∃k:Nat,k≤ps.length∧i= .int .i64 k∧Hid (∀j,j<k→zjH (ps.getD j [])=true)) (fun i=>ps.length - (intOf i).toNat)
 case atStart=>exact ⟨0,Nat.zero_le _,rfl,fun j h=>absurd h (Nat.not_lt_zero j)⟩
 case round=>
  obtain ⟨k,hk,rfl,H⟩:=hrel
  by_cases hlt:k<ps.length
  ·have hcl:=HC.out k hlt
   obtain ⟨q,hq⟩: ∃q,ps.getD k []=q:=⟨_,rfl⟩
   rw [hq] at hcl
   have HQ:=Lib.hid hq
   clear hq
   by_cases h1:q=[]
   ·subst h1
    have HN:=Lib.hid (yiR hlt HQ.out (show zjH []=false from rfl))
    go_wp2
    go_ret
    exact zaO (HF.out.trans HN.out) hb1
   ·have hqe:q.isEmpty=false:=zeU h1
    have hq0:0<q.length:=List.length_pos_iff.2 h1
    by_cases h2:63<q.length
    ·have HN:=Lib.hid (yiR hlt HQ.out (show zjH q=false from decide_eq_false (by omega)))
     have hd:decide (63<(q.length:Int))=true:=decide_eq_true (by omega)
     clear h1
     go_wp2
     go_ret
     exact zaO (HF.out.trans HN.out) hb1
    ·have HY:=Lib.hid (show zjH q=true from decide_eq_true (by omega))
     have hd:decide (63<(q.length:Int))=false:=decide_eq_false (by omega)
     clear h1
     go_wp2
     go_round
     case rel=>
      refine ⟨k+1,by omega,by go_num,fun j hj=> ?_⟩
      by_cases e:j=k
      ·subst e;rw [HQ.out];exact HY.out
      ·exact H.out j (by omega)
     case measure=>simp [intOf];omega
  ·have HN:=Lib.hid (ykT (p:=zjH) (ps:=ps) fun j hj=>H.out j (by omega))
   go_wp2
   go_ret
   exact zaO (HF.out.trans HN.out) hb1
theorem ykO (c:UInt8) (w:World) (hc:c.toNat<128):Calls Tryz.prog 40 #[.string ⟨#[34,35,37,47,58,60,62,63,64,91,92,93,94,96,123,124,125]⟩,.int .i32 (c.toNat:Int)] w fun e w'=>e= .returned (.bool (hasB badL c))∧w=w':=by
 refine (Tryz.strings_ContainsRune_ascii _ _ w (by omega) (by omega)).mono ?_
 rintro e w' ⟨rfl,rfl⟩
 rw [zjS]
 refine ⟨?_,rfl⟩
 show Ending.returned (.bool (decide (0≤Lib.indexByte badL c)))=_
 cases h:hasB badL c with
 |true=>rw [decide_eq_true ((zdQ _ _).1 h)]
 |false=>rw [(zdQ _ _).2 h];rfl
theorem yfU {s:ByteArray} {k:Nat} (hk:k<s.size) (h:zpO s[k]=false):zjI s.data.toList=false:=by
 unfold zjI
 rw [List.all_eq_false]
 refine ⟨s[k],?_,by simp [h]⟩
 show s.data[k]∈_
 simp
theorem z8H {s:ByteArray} (h: ∀k (h:k<s.size),zpO s[k]=true):zjI s.data.toList=true:=by
 unfold zjI
 rw [List.all_eq_true]
 intro x hx
 obtain ⟨j,hj,rfl⟩:=List.getElem_of_mem hx
 exact h j (by simpa using hj)
theorem z4W (s:ByteArray) (k:Nat) (h:k<s.size) (hp:s[k].toNat<128):Utf8.decode s k=(s[k].toNat,1):=by
 have:=zmZ s k h
 rw [zcQ,if_pos (by omega),this]
theorem ydG (s:ByteArray) (w:World) (hp:zfK s.data.toList=true):
  Calls Tryz.prog 145 #[.string s] w (zcN w (zjI s.data.toList)):=by
 have HP:Hid (∀k (h:k<s.size),s[k].toNat<128):=fun k h=>zoI.1 hp _ (by show s.data[k]∈_;simp)
 clear hp
 go_enter Tryz.func145,Tryz.ntmps145
 go_wp2_with fail
 refine (zcU s _).mono ?_
 rintro e w' ⟨rfl,rfl⟩
 go_wp2
 go_loopw [] (fun wr=> ∃k:Nat,wr.heap[w.heap.size]? =some (.stringIter s k)∧Below w.heap.size w wr∧k≤s.size∧Hid (∀j (h:j<s.size),j<k→zpO s[j]=true)) (fun wr=>s.size - wr.iterPos w.heap.size)
 case atStart=>exact ⟨0,World.iter_heap w s 0,(Below.refl _ w).alloc (Nat.le_refl _) _,Nat.zero_le _,fun j _ h=>absurd h (Nat.not_lt_zero j)⟩
 case round=>
  obtain ⟨k,hit,hbw,hk,H⟩:=hrel
  by_cases hlt:k<s.size
  ·have hnx: ∀ty,(Instr.next (.pointer (some ⟨w.heap.size,0,none⟩)) true ty).run Tryz.prog wr=_:=fun ty=>Lib.run_next_any_at wr w.heap.size s k ty hit hlt
   have hp:=HP.out k hlt
   rw [z4W s k hlt hp] at hnx
   have hit2:=Lib.iterAt_heap wr w.heap.size s k (k+1) hit
   have hbw2:=Lib.below_iterAt hbw (k:=w.heap.size) (Nat.le_refl _) s (k+1)
   have HWP:Hid (wr.iterPos w.heap.size=k):=by
    show wr.iterPos w.heap.size=k
    simp only [World.iterPos,hit]
   simp only at hnx
   generalize wr.iterAt w.heap.size s (k+1)=wi at*
   have HBA:=Lib.hid (fun W=>ykO s[k] W hp)
   have HSC:=Lib.hid (show zpO s[k]=(decide (33≤s[k].toNat∧s[k].toNat≤126)&& !hasB badL s[k]) from rfl)
   have HNO:=Lib.hid (fun h=>yfU hlt h)
   obtain ⟨c,hc⟩: ∃c,s[k].toNat=c:=⟨_,rfl⟩
   generalize hbd:hasB badL s[k]=bd at HBA HSC
   rw [hc] at hp hnx HBA HSC
   clear hbd
   have HC:=Lib.hid hc
   clear hc
   by_cases h1:c<33
   ·have HF:=Lib.hid (HNO.out (by rw [HSC.out,decide_eq_false (by omega)];rfl))
    have hd:decide ((c:Int)<33)=true:=decide_eq_true (by omega)
    go_wp2
    go_ret
    exact zaO HF.out hbw2
   ·have hd1:decide ((c:Int)<33)=false:=decide_eq_false (by omega)
    by_cases h2:126<c
    ·have HF:=Lib.hid (HNO.out (by rw [HSC.out,decide_eq_false (by omega)];rfl))
     have hd:decide (126<(c:Int))=true:=decide_eq_true (by omega)
     go_wp2
     go_ret
     exact zaO HF.out hbw2
    ·have hd2:decide (126<(c:Int))=false:=decide_eq_false (by omega)
     cases bd with
     |true=>
      have HF:=Lib.hid (HNO.out (by rw [HSC.out];simp))
      go_wp2_with (go_at_call 40;refine (HBA.out _).mono ?_;rintro e w' ⟨rfl,rfl⟩)
      go_ret
      exact zaO HF.out hbw2
     |false=>
      have HY:=Lib.hid (show zpO s[k]=true by rw [HSC.out,decide_eq_true (by omega)];rfl)
      go_wp2_with (go_at_call 40;refine (HBA.out _).mono ?_;rintro e w' ⟨rfl,rfl⟩)
      go_roundw
      case rel=>
       refine ⟨k+1,hit2,hbw2,by omega,fun j hj hjk=> ?_⟩
       by_cases e:j=k
       ·subst e;exact HY.out
       ·exact H.out j hj (by omega)
      case measure=>
       rw [HWP.out]
       simp only [World.iterPos,hit2]
       omega
  ·have hnx: ∀ty,(Instr.next (.pointer (some ⟨w.heap.size,0,none⟩)) true ty).run Tryz.prog wr=_:=fun ty=>Lib.run_next_end_at wr w.heap.size s k ty hit hlt
   have HF:=Lib.hid (z8H (s:=s) fun j hj=>H.out j hj (by omega))
   go_wp2
   go_ret
   exact zaO HF.out hbw
end

end Go.Proofs.YthacmlahnpdeeaaGreatDoor
