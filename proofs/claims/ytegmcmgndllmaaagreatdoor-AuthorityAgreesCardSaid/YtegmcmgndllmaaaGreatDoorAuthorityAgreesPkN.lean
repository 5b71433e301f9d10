/-
  What the law AuthorityAgrees leans on, and its walk (14 of 43).
-/
import Derived.Lib.Strings
import Derived.Test.YtegmcmgndllmaaaGreatDoorAuthorityAgreesPkC
import Derived.Test.YtegmcmgndllmaaaGreatDoorAuthorityAgreesPkA
namespace Go.Proofs.YtegmcmgndllmaaaGreatDoor
set_option maxRecDepth 100000
set_option maxHeartbeats 16000000
abbrev ynY := @Lib.hid
abbrev ynZ := @decide_eq_false
abbrev yoA := @decide_eq_true
section
open Go.RowKit
def badL:List UInt8:=[34,35,37,47,58,60,62,63,64,91,92,93,94,96,123,124,125]
def zfH (c:UInt8):Bool:=decide (33≤c.toNat∧c.toNat≤126)&& !hasB badL c
def zcH (l:List UInt8):List (List UInt8):=(zaS l).take (zhI (zaS l))
def zoN (l:List UInt8):Nat:=if l.getLast? =some 46 then l.length - 1 else l.length
def ziS (w:List UInt8):Bool:=decide (1≤w.length∧w.length≤63)
def zkF (w:List UInt8):Bool:=Lib.hasPrefix w [120,110,45,45]
def zgZ (l:List UInt8):Bool:=decide (zoN l≤253)&&(zcH l).all ziS
def ziQ (l:List UInt8):Bool:=l.all zfH
def zdV (l:List UInt8):Bool:=l.all fun c=>decide (c.toNat<128)
def ztJ (l:List UInt8):Int:=if (zgZ l&&ziQ l)=false then 6 else if (zcH l).any zkF=true then 7 else 0
def ziP (l:List UInt8):Int:=if zdV l=false then 7 else ztJ (zaI l)
def zbK (l:List UInt8):List UInt8×Int:=if ziP l=0 then (zaI l,0) else ([],ziP l)
theorem zyT (r:List UInt8) (c:UInt8):Lib.hasSuffix r [c]=decide (r.getLast? =some c):=by
 rw [Bool.eq_iff_iff,decide_eq_true_iff]
 unfold Lib.hasSuffix
 rw [List.isSuffixOf_iff_suffix,List.getLast?_eq_some_iff]
 exact ⟨fun ⟨t,h⟩=>⟨t,h.symm⟩,fun ⟨t,h⟩=>⟨t,h.symm⟩⟩
theorem zmA (r:List UInt8) (c:UInt8):Lib.trimSuffix r [c]=if r.getLast? =some c then r.dropLast else r:=by
 unfold Lib.trimSuffix
 rw [zyT]
 simp [List.dropLast_eq_take]
theorem ycJ (l:List UInt8):(Lib.trimSuffix l [46]).length=zoN l:=by
 rw [zmA]
 unfold zoN
 split<;>simp
theorem z6B (p:UInt8→Bool) (h: ∀n:Fin 256,p (UInt8.ofNat n.val)=true) (c:UInt8):p c=true:=by
 have:=h ⟨c.toNat,c.toNat_lt⟩
 rwa [show UInt8.ofNat c.toNat=c from by simp] at this
theorem ykG (c:UInt8):lowC (lowC c)=lowC c:=by simpa using z6B (fun c=>lowC (lowC c)==lowC c) (by decide+kernel) c
theorem z8X (c:UInt8) (h:c.toNat<128):(lowC c).toNat<128:=by
 have:=z6B (fun c=> !decide (c.toNat<128)||decide ((lowC c).toNat<128)) (by decide+kernel) c
 simpa [h] using this
theorem zxQ (c:UInt8) (h:zfH c=true):c.toNat<128∧c.toNat≠37∧c.toNat≠91:=by
 have:=z6B (fun c=> !zfH c||(decide (c.toNat<128)&&(decide (c.toNat≠37)&&decide (c.toNat≠91)))) (by decide+kernel) c
 simpa [h] using this
theorem zoA (l:List UInt8):zaI (zaI l)=zaI l:=by simp [zaI,ykG]
theorem znH {l:List UInt8}:zdV l=true↔ ∀c∈l,c.toNat<128:=by simp [zdV]
theorem zwT {l:List UInt8} (h:zdV l=true):zdV (zaI l)=true:=by
 rw [znH] at*
 intro c e
 obtain ⟨d,f,rfl⟩:=List.mem_map.1 e
 exact z8X d (h d f)
structure zeR (n:List UInt8):Prop where
 low:zaI n=n
 size:zoN n≤253
 lab: ∀w∈zcH n,1≤w.length∧w.length≤63
 sign: ∀c∈n,zfH c=true
 code: ∀w∈zcH n,zkF w=false
theorem zyZ {l:List UInt8} (g:zaI l=l):ztJ l=0↔zeR l:=by
 unfold ztJ zgZ ziQ
 constructor
 ·intro h
  split at h
  ·cases h
  ·rename_i d
   split at h
   ·cases h
   ·rename_i e
    simp [ziS] at d e
    exact ⟨g,d.1,fun w f=>d.2.1 w f,d.2.2,e⟩
 ·intro h
  rw [if_neg,if_neg]
  ·simpa using h.code
  ·have d:(zcH l).all ziS=true:=List.all_eq_true.2 fun w f=>yoA (h.lab w f)
   have e:l.all zfH=true:=List.all_eq_true.2 h.sign
   rw [d,e,yoA h.size]
   simp
theorem zeR.plain {n:List UInt8} (h:zeR n):zdV n=true:=znH.2 fun c d=>(zxQ c (h.sign c d)).1
theorem z8D {l:List UInt8} (d:zdV l=true) (h:zeR (zaI l)):ziP l=0:=by
 unfold ziP
 rw [if_neg (by simp [d]),(zyZ (zoA l)).2 h]
theorem yaG {l:List UInt8} (h:ziP l=0):zdV l=true∧zeR (zaI l):=by
 unfold ziP at h
 cases d:zdV l with
 |false=>rw [d] at h;cases h
 |true=>rw [d] at h;exact ⟨rfl,(zyZ (zoA l)).1 h⟩
theorem z6Y {l n:List UInt8} (d:zdV l=true) (e:zaI l=n) (h:zeR n):zbK l=(n,0):=by
 subst e
 unfold zbK
 rw [if_pos (z8D d h)]
theorem zeR.canon {n:List UInt8} (h:zeR n):zbK n=(n,0):=z6Y h.plain h.low h
theorem ztS {l:List UInt8} (h:(zbK l).2=0):zbK l=(zaI l,0)∧zeR (zaI l):=by
 unfold zbK at*
 split at h
 ·rename_i d
  rw [if_pos d]
  exact ⟨rfl,(yaG d).2⟩
 ·rename_i d
  exact absurd h d
theorem zkW {l:List UInt8} (h:(zbK l).2=0):zeR (zbK l).1:=by
 have:=ztS h
 rw [this.1]
 exact this.2
theorem ycH {l:List UInt8} (h:(zbK l).2≠0):(zbK l).1=[]:=by
 unfold zbK at*
 split
 ·rename_i d;rw [if_pos d] at h;exact absurd rfl h
 ·rfl
theorem z1A {l n:List UInt8} {e:Int} (h:zbK l=(n,e)):n.length≤l.length:=by
 by_cases d:e=0
 ·have:=(ztS (l:=l) (by rw [h];exact d)).1
  rw [h] at this
  injection this with h1 _
  rw [h1,zhL]
  exact Nat.le_refl _
 ·have:=ycH (l:=l) (by rw [h];exact d)
  rw [h] at this
  rw [show n=[] from this]
  exact Nat.zero_le _
theorem yhL (l:List UInt8):(zbK l).2=0∨(zbK l).2=6∨(zbK l).2=7:=by
 unfold zbK ziP ztJ
 repeat' split
 all_goals simp_all
theorem z7V (l:List UInt8):0<(zaS l).length:=by simp [zaS,zbF]
theorem ybM {ps:List (List UInt8)} (h:0<ps.length):0<zhI ps:=by unfold zhI;split<;>omega
theorem zlW (l:List UInt8):l.length≤zoN l+1:=by unfold zoN;split<;>omega
theorem yaD {l:List UInt8} (h:zgZ l=true):l.length≤254:=by
 unfold zgZ at h
 have:=of_decide_eq_true (Bool.and_eq_true_iff.1 h).1
 have:=zlW l
 omega
theorem yeO (l:List UInt8):zoN l≤l.length:=by unfold zoN;split<;>omega
def Seen (w:World) (g:Nat) (ps:List (List UInt8)):Prop:=g<w.heap.size∧ ∀j,j<ps.length→w.cell? ⟨g,j,none⟩=some (.string ⟨(ps.getD j []).toArray⟩)
theorem Seen.keep {w w':World} {g:Nat} {ps:List (List UInt8)} (h:Seen w g ps) (d:Below w.heap.size w w'):Seen w' g ps:=⟨Nat.lt_of_lt_of_le h.1 d.size,fun j e=>(d.cell (p:=⟨g,j,none⟩) h.1).trans (h.2 j e)⟩
def z9X (w:World) (ps:List (List UInt8)) (e:Ending) (w':World):Prop:= ∃g c,e= .returned (.slice (some ⟨g,0,none⟩) ps.length c)∧ps.length≤c∧Seen w' g ps∧Below w.heap.size w w'
theorem zhW {w w':World} {ps f:List (List UInt8)} {g c n k:Nat} (o:ps.take k=f) (e:k≤ps.length) (q:n=k) (d:k≤c) (m:g<w'.heap.size) (A: ∀j,j<ps.length→w'.cell? ⟨g,j,none⟩=some (.string ⟨(ps.getD j []).toArray⟩)) (B:Below w.heap.size w w'):z9X w f (.returned (.slice (some ⟨g,0,none⟩) n c)) w':=by
 subst o q
 refine ⟨g,c,by rw [List.length_take,Nat.min_eq_left e],by rw [List.length_take,Nat.min_eq_left e];exact d,⟨m,fun j i=> ?_⟩,B⟩
 rw [List.length_take,Nat.min_eq_left e] at i
 rw [A j (by omega)]
 simp [List.getD,i]
theorem zcF (s:ByteArray) (w:World):Calls Tryz.prog 54 #[.string s] w fun e w'=>e= .returned (.string s)∧w=w':=by
 go_enter Tryz.func54,Tryz.ntmps54
 go_wp2
 go_ret
 exact ⟨rfl,rfl⟩
theorem zpE (l:List UInt8):(zcH l).length≤l.length+1:=by
 have d:=zcV (hasB [46]) l
 unfold zcH zaS
 rw [List.length_take]
 omega
theorem zpF (s:ByteArray) (w:World) (K:s.size≤1073741824):
  Calls Tryz.prog 176 #[.string s] w (z9X w (zcH s.data.toList)):=by
 obtain ⟨L,x,H,E,D,O⟩:=zpW s.data.toList
 rw [zaN] at D
 go_enter Tryz.func176,Tryz.ntmps176
 go_wp2_with fail
 refine (zcF s _).mono ?_
 rintro e w' ⟨rfl,rfl⟩
 go_wp2_with fail
 refine (zdD s _ _ K).mono ?_
 rintro e S ⟨v,rfl,I,f⟩
 have o:zaZ w.heap.size S v (zaS s.data.toList):=I
 obtain ⟨g,N,rfl,m,A,d⟩:=o.form2 (by omega)
 rw [H] at m ⊢
 have G:=d L (by omega)
 rw [E] at G
 have B:=ynY d
 have C:=ynY H
 have T:=ynY E
 clear d I o H E
 rcases O with ⟨J,rfl,i⟩|⟨rfl|q,i⟩
 ·have j:=ynY i
  obtain ⟨n,rfl⟩: ∃n,L=n+1:=⟨L - 1,by omega⟩
  clear i J
  go_wp2
  go_ret
  exact zhW (k:=n+1) (by unfold zcH;rw [j.out]) (by rw [C.out];omega) (by omega) (by omega) A B.out f
 ·have j:=ynY i
  clear i
  go_wp2
  go_ret
  exact zhW (k:=1) (by unfold zcH;rw [j.out]) (by rw [C.out];omega) (by omega) (by omega) A B.out f
 ·have j:=ynY i
  have Q:x.isEmpty=false:=zeB q
  clear i q
  by_cases M:L=0
  ·subst M
   go_wp2
   go_ret
   exact zhW (k:=1) (by unfold zcH;rw [j.out]) (by rw [C.out];omega) (by omega) (by omega) A B.out f
  ·obtain ⟨n,rfl⟩: ∃n,L=n+1:=⟨L - 1,by omega⟩
   go_wp2
   go_ret
   exact zhW (k:=n+2) (by unfold zcH;rw [j.out]) (by rw [C.out];omega) (by omega) (by omega) A B.out f
theorem z7S (q:List UInt8) (w:World):Calls Tryz.prog 177 #[.string ⟨q.toArray⟩] w fun e w'=>e= .returned (.bool (zkF q))∧w=w':=by
 go_enter Tryz.func177,Tryz.ntmps177
 go_wp2_with fail
 refine (Tryz.strings_HasPrefix ⟨q.toArray⟩ _ _).mono ?_
 rintro e w' ⟨rfl,rfl⟩
 go_wp2
 go_ret
 exact ⟨rfl,rfl⟩
theorem yjB {p:List UInt8→Bool} {ps:List (List UInt8)} {k:Nat} {q:List UInt8} (d:k<ps.length) (e:ps.getD k []=q) (h:p q=false):ps.all p=false:=by
 rw [List.all_eq_false]
 refine ⟨q,?_,by simp [h]⟩
 rw [←e,List.getD,List.getElem?_eq_getElem d]
 exact List.getElem_mem d
theorem yjZ {p:List UInt8→Bool} {ps:List (List UInt8)} (h: ∀j,j<ps.length→p (ps.getD j [])=true):ps.all p=true:=by
 rw [List.all_eq_true]
 intro x e
 obtain ⟨j,d,rfl⟩:=List.getElem_of_mem e
 have:=h j d
 rwa [List.getD,List.getElem?_eq_getElem d] at this
theorem zxL (s:ByteArray) (w:World) (d:s.size≤9223372036854775807):Calls Tryz.prog 234 #[.string s,.string ⟨#[46]⟩] w fun e w'=> ∃t:ByteArray,e= .returned (.string t)∧t.size=zoN s.data.toList∧w=w':=by
 refine (Tryz.strings_TrimSuffix s ⟨#[46]⟩ w (by omega)).mono ?_
 rintro e w' ⟨rfl,rfl⟩
 exact ⟨_,rfl,by rw [zaF];exact ycJ _,rfl⟩
theorem z6G (s:ByteArray) (w:World) (X:s.size≤9223372036854775807):
  Calls Tryz.prog 173 #[.string s] w (zbE w (zgZ s.data.toList)):=by
 obtain ⟨ps,f⟩: ∃ps,zcH s.data.toList=ps:=⟨_,rfl⟩
 have m:=ynY (fun W h=>zpF s W h)
 rw [f] at m
 have A:=zlW s.data.toList
 rw [zaN] at A
 have I:Hid (zgZ s.data.toList=(decide (zoN s.data.toList≤253)&&ps.all ziS)):=by show _=_;rw [←f];rfl
 have S:ps.length≤s.size+1:=by rw [←f];have:=zpE s.data.toList;rwa [zaN] at this
 clear f
 go_enter Tryz.func173,Tryz.ntmps173
 go_wp2_with fail
 refine (zcF s _).mono ?_
 rintro e w' ⟨rfl,rfl⟩
 go_wp2_with fail
 refine (zxL s _ X).mono ?_
 rintro e w' ⟨t,rfl,M,rfl⟩
 rw [←M] at I A
 clear M
 by_cases T:253<t.size
 ·have G:decide (253<(t.size:Int))=true:=yoA (by omega)
  have D:=ynY (show zgZ s.data.toList=false by rw [I.out,ynZ (by omega)];rfl)
  go_wp2
  go_ret
  exact zaE D.out (Below.refl _ _)
 have G:decide (253<(t.size:Int))=false:=ynZ (by omega)
 have D:Hid (zgZ s.data.toList=ps.all ziS):=by show _=_;rw [I.out,yoA (by omega)];rfl
 have Y:s.size≤254:=by omega
 clear T I A
 go_wp2_with fail
 refine (m.out _ (by omega)).mono ?_
 rintro e w1 ⟨g,c,rfl,-,d,o⟩
 have V:=ynY d.2
 have Z:=d.1
 clear d G m
 go_wp2
 go_loop [13] (fun i=> ∃k:Nat,k≤ps.length∧i= .int .i64 k∧Hid (∀j,j<k→ziS (ps.getD j [])=true)) (fun i=>ps.length - (intOf i).toNat)
 case atStart=>exact ⟨0,Nat.zero_le _,rfl,fun j h=>absurd h (Nat.not_lt_zero j)⟩
 case round=>
  obtain ⟨k,hk,rfl,H⟩:=hrel
  by_cases B:k<ps.length
  ·have L:=V.out k B
   obtain ⟨q,K⟩: ∃q,ps.getD k []=q:=⟨_,rfl⟩
   rw [K] at L
   have J:=ynY K
   clear K
   by_cases C:q=[]
   ·subst C
    have E:=ynY (yjB B J.out (show ziS []=false from rfl))
    go_wp2
    go_ret
    exact zaE (D.out.trans E.out) o
   ·have O:q.isEmpty=false:=zeB C
    have U:0<q.length:=List.length_pos_iff.2 C
    by_cases h2:63<q.length
    ·have E:=ynY (yjB B J.out (show ziS q=false from ynZ (by omega)))
     have G:decide (63<(q.length:Int))=true:=yoA (by omega)
     clear C
     go_wp2
     go_ret
     exact zaE (D.out.trans E.out) o
    ·have N:=ynY (show ziS q=true from yoA (by omega))
     have G:decide (63<(q.length:Int))=false:=ynZ (by omega)
     clear C
     go_wp2
     go_round
     case rel=>
      refine ⟨k+1,by omega,by go_num,fun j Q=> ?_⟩
      by_cases e:j=k
      ·subst e;rw [J.out];exact N.out
      ·exact H.out j (by omega)
     case measure=>simp [intOf];omega
  ·have E:=ynY (yjZ (p:=ziS) (ps:=ps) fun j Q=>H.out j (by omega))
   go_wp2
   go_ret
   exact zaE (D.out.trans E.out) o
theorem ylE (c:UInt8) (w:World) (d:c.toNat<128):Calls Tryz.prog 88 #[.string ⟨#[34,35,37,47,58,60,62,63,64,91,92,93,94,96,123,124,125]⟩,.int .i32 (c.toNat:Int)] w fun e w'=>e= .returned (.bool (hasB badL c))∧w=w':=by
 refine (Tryz.strings_ContainsRune_ascii _ _ w (by omega) (by omega)).mono ?_
 rintro e w' ⟨rfl,rfl⟩
 rw [zgK]
 refine ⟨?_,rfl⟩
 show Ending.returned (.bool (decide (0≤Lib.indexByte badL c)))=_
 cases h:hasB badL c with
 |true=>rw [yoA ((zcG _ _).1 h)]
 |false=>rw [(zcG _ _).2 h];rfl
theorem ygS {s:ByteArray} {k:Nat} (d:k<s.size) (h:zfH s[k]=false):ziQ s.data.toList=false:=by
 unfold ziQ
 rw [List.all_eq_false]
 refine ⟨s[k],?_,by simp [h]⟩
 show s.data[k]∈_
 simp
theorem z6T {s:ByteArray} (h: ∀k (h:k<s.size),zfH s[k]=true):ziQ s.data.toList=true:=by
 unfold ziQ
 rw [List.all_eq_true]
 intro x e
 obtain ⟨j,d,rfl⟩:=List.getElem_of_mem e
 exact h j (by simpa using d)
theorem z2V (s:ByteArray) (k:Nat) (h:k<s.size) (d:s[k].toNat<128):Utf8.decode s k=(s[k].toNat,1):=by
 have:=zrS s k h
 rw [zdC,if_pos (by omega),this]
theorem yaX (s:ByteArray) (w:World) (D:zdV s.data.toList=true):
  Calls Tryz.prog 174 #[.string s] w (zbE w (ziQ s.data.toList)):=by
 have N:Hid (∀k (h:k<s.size),s[k].toNat<128):=fun k h=>znH.1 D _ (by show s.data[k]∈_;simp)
 clear D
 go_enter Tryz.func174,Tryz.ntmps174
 go_wp2_with fail
 refine (zcF s _).mono ?_
 rintro e w' ⟨rfl,rfl⟩
 go_wp2
 go_loopw [] (fun wr=> ∃k:Nat,wr.heap[w.heap.size]? =some (.stringIter s k)∧Below w.heap.size w wr∧k≤s.size∧Hid (∀j (h:j<s.size),j<k→zfH s[j]=true)) (fun wr=>s.size - wr.iterPos w.heap.size)
 case atStart=>exact ⟨0,World.iter_heap w s 0,(Below.refl _ w).alloc (Nat.le_refl _) _,Nat.zero_le _,fun j _ h=>absurd h (Nat.not_lt_zero j)⟩
 case round=>
  obtain ⟨k,m,E,Y,H⟩:=hrel
  by_cases g:k<s.size
  ·have o: ∀B,(Instr.next (.pointer (some ⟨w.heap.size,0,none⟩)) true B).run Tryz.prog wr=_:=fun B=>Lib.run_next_any_at wr w.heap.size s k B m g
   have D:=N.out k g
   rw [z2V s k g D] at o
   have q:=Lib.iterAt_heap wr w.heap.size s k (k+1) m
   have d:=Lib.below_iterAt E (k:=w.heap.size) (Nat.le_refl _) s (k+1)
   have J:Hid (wr.iterPos w.heap.size=k):=by
    show wr.iterPos w.heap.size=k
    simp only [World.iterPos,m]
   simp only at o
   generalize wr.iterAt w.heap.size s (k+1)=X at*
   have i:=ynY (fun W=>ylE s[k] W D)
   have f:=ynY (show zfH s[k]=(decide (33≤s[k].toNat∧s[k].toNat≤126)&& !hasB badL s[k]) from rfl)
   have A:=ynY (fun h=>ygS g h)
   obtain ⟨c,K⟩: ∃c,s[k].toNat=c:=⟨_,rfl⟩
   generalize I:hasB badL s[k]=M at i f
   rw [K] at D o i f
   clear I
   have V:=ynY K
   clear K
   by_cases U:c<33
   ·have C:=ynY (A.out (by rw [f.out,ynZ (by omega)];rfl))
    have S:decide ((c:Int)<33)=true:=yoA (by omega)
    go_wp2
    go_ret
    exact zaE C.out d
   ·have hd1:decide ((c:Int)<33)=false:=ynZ (by omega)
    by_cases T:126<c
    ·have C:=ynY (A.out (by rw [f.out,ynZ (by omega)];rfl))
     have S:decide (126<(c:Int))=true:=yoA (by omega)
     go_wp2
     go_ret
     exact zaE C.out d
    ·have Q:decide (126<(c:Int))=false:=ynZ (by omega)
     cases M with
     |true=>
      have C:=ynY (A.out (by rw [f.out];simp))
      go_wp2_with (go_at_call 88;refine (i.out _).mono ?_;rintro e w' ⟨rfl,rfl⟩)
      go_ret
      exact zaE C.out d
     |false=>
      have L:=ynY (show zfH s[k]=true by rw [f.out,yoA (by omega)];rfl)
      go_wp2_with (go_at_call 88;refine (i.out _).mono ?_;rintro e w' ⟨rfl,rfl⟩)
      go_roundw
      case rel=>
       refine ⟨k+1,q,d,by omega,fun j G O=> ?_⟩
       by_cases e:j=k
       ·subst e;exact L.out
       ·exact H.out j G (by omega)
      case measure=>
       rw [J.out]
       simp only [World.iterPos,q]
       omega
  ·have o: ∀B,(Instr.next (.pointer (some ⟨w.heap.size,0,none⟩)) true B).run Tryz.prog wr=_:=fun B=>Lib.run_next_end_at wr w.heap.size s k B m g
   have C:=ynY (z6T (s:=s) fun j G=>H.out j G (by omega))
   go_wp2
   go_ret
   exact zaE C.out E
end
end Go.Proofs.YtegmcmgndllmaaaGreatDoor
