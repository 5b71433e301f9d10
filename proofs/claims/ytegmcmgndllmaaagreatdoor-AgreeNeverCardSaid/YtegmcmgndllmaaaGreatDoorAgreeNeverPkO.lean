/-
  What the law AgreeNever leans on, and its walk (15 of 42).
-/
import Derived.Lib.Strings
import Derived.Test.YtegmcmgndllmaaaGreatDoorAgreeNeverPkC
import Derived.Test.YtegmcmgndllmaaaGreatDoorAgreeNeverPkA
namespace Go.Proofs.YtegmcmgndllmaaaGreatDoor
set_option maxRecDepth 100000
set_option maxHeartbeats 16000000
abbrev ykW := @Lib.hid
abbrev ykX := @decide_eq_false
abbrev ykY := @decide_eq_true
section
open Go.RowKit
def badL:List UInt8:=[34,35,37,47,58,60,62,63,64,91,92,93,94,96,123,124,125]
def zrC (c:UInt8):Bool:=decide (33≤c.toNat∧c.toNat≤126)&& !hasB badL c
def zdB (l:List UInt8):List (List UInt8):=(zaU l).take (ziH (zaU l))
def zsW (l:List UInt8):Nat:=if l.getLast? =some 46 then l.length - 1 else l.length
def ziL (w:List UInt8):Bool:=decide (1≤w.length∧w.length≤63)
def zpE (w:List UInt8):Bool:=Lib.hasPrefix w [120,110,45,45]
def zhN (l:List UInt8):Bool:=decide (zsW l≤253)&&(zdB l).all ziL
def ziM (l:List UInt8):Bool:=l.all zrC
def zfH (l:List UInt8):Bool:=l.all fun c=>decide (c.toNat<128)
def zwV (l:List UInt8):Int:=if (zhN l&&ziM l)=false then 6 else if (zdB l).any zpE=true then 7 else 0
def znL (l:List UInt8):Int:=if zfH l=false then 7 else zwV (zaM l)
def zcR (l:List UInt8):List UInt8×Int:=if znL l=0 then (zaM l,0) else ([],znL l)
theorem zxR (r:List UInt8) (c:UInt8):Lib.hasSuffix r [c]=decide (r.getLast? =some c):=by
 rw [Bool.eq_iff_iff,decide_eq_true_iff]
 unfold Lib.hasSuffix
 rw [List.isSuffixOf_iff_suffix,List.getLast?_eq_some_iff]
 exact ⟨fun ⟨t,h⟩=>⟨t,h.symm⟩,fun ⟨t,h⟩=>⟨t,h.symm⟩⟩
theorem zlV (r:List UInt8) (c:UInt8):Lib.trimSuffix r [c]=if r.getLast? =some c then r.dropLast else r:=by
 unfold Lib.trimSuffix
 rw [zxR]
 simp [List.dropLast_eq_take]
theorem z3H (l:List UInt8):(Lib.trimSuffix l [46]).length=zsW l:=by
 rw [zlV]
 unfold zsW
 split<;>simp
theorem ygP (p:UInt8→Bool) (h: ∀n:Fin 256,p (UInt8.ofNat n.val)=true) (c:UInt8):p c=true:=by
 have:=h ⟨c.toNat,c.toNat_lt⟩
 rwa [show UInt8.ofNat c.toNat=c from by simp] at this
theorem yiL (c:UInt8):lowC (lowC c)=lowC c:=by simpa using ygP (fun c=>lowC (lowC c)==lowC c) (by decide+kernel) c
theorem z7V (c:UInt8) (h:c.toNat<128):(lowC c).toNat<128:=by
 have:=ygP (fun c=> !decide (c.toNat<128)||decide ((lowC c).toNat<128)) (by decide+kernel) c
 simpa [h] using this
theorem zvS (l:List UInt8):zaM (zaM l)=zaM l:=by simp [zaM,yiL]
theorem zsB {l:List UInt8}:zfH l=true↔ ∀c∈l,c.toNat<128:=by simp [zfH]
theorem zvB {l:List UInt8} (h:zfH l=true):zfH (zaM l)=true:=by
 rw [zsB] at*
 intro c f
 obtain ⟨d,i,rfl⟩:=List.mem_map.1 f
 exact z7V d (h d i)
structure zpG (n:List UInt8):Prop where
 low:zaM n=n
 size:zsW n≤253
 lab: ∀w∈zdB n,1≤w.length∧w.length≤63
 sign: ∀c∈n,zrC c=true
 code: ∀w∈zdB n,zpE w=false
theorem yeT {l:List UInt8} (j:zaM l=l):zwV l=0↔zpG l:=by
 unfold zwV zhN ziM
 constructor
 ·intro h
  split at h
  ·cases h
  ·rename_i d
   split at h
   ·cases h
   ·rename_i f
    simp [ziL] at d f
    exact ⟨j,d.1,fun w i=>d.2.1 w i,d.2.2,f⟩
 ·intro h
  rw [if_neg,if_neg]
  ·simpa using h.code
  ·have d:(zdB l).all ziL=true:=List.all_eq_true.2 fun w i=>ykY (h.lab w i)
   have f:l.all zrC=true:=List.all_eq_true.2 h.sign
   rw [d,f,ykY h.size]
   simp
theorem ybJ {l:List UInt8} (h:znL l=0):zfH l=true∧zpG (zaM l):=by
 unfold znL at h
 cases d:zfH l with
 |false=>rw [d] at h;cases h
 |true=>rw [d] at h;exact ⟨rfl,(yeT (zvS l)).1 h⟩
theorem ztF {l:List UInt8} (h:(zcR l).2=0):zcR l=(zaM l,0)∧zpG (zaM l):=by
 unfold zcR at*
 split at h
 ·rename_i d
  rw [if_pos d]
  exact ⟨rfl,(ybJ d).2⟩
 ·rename_i d
  exact absurd h d
theorem zoW {l:List UInt8} (h:(zcR l).2=0):zpG (zcR l).1:=by
 have:=ztF h
 rw [this.1]
 exact this.2
theorem z6J {l:List UInt8} (h:(zcR l).2≠0):(zcR l).1=[]:=by
 unfold zcR at*
 split
 ·rename_i d;rw [if_pos d] at h;exact absurd rfl h
 ·rfl
theorem z1P {l n:List UInt8} {e:Int} (h:zcR l=(n,e)):n.length≤l.length:=by
 by_cases d:e=0
 ·have:=(ztF (l:=l) (by rw [h];exact d)).1
  rw [h] at this
  injection this with h1 _
  rw [h1,zhH]
  exact Nat.le_refl _
 ·have:=z6J (l:=l) (by rw [h];exact d)
  rw [h] at this
  rw [show n=[] from this]
  exact Nat.zero_le _
theorem z9V (l:List UInt8):0<(zaU l).length:=by simp [zaU,zbW]
theorem z4R {ps:List (List UInt8)} (h:0<ps.length):0<ziH ps:=by unfold ziH;split<;>omega
theorem zyA (l:List UInt8):l.length≤zsW l+1:=by unfold zsW;split<;>omega
theorem ybP {l:List UInt8} (h:zhN l=true):l.length≤254:=by
 unfold zhN at h
 have:=of_decide_eq_true (Bool.and_eq_true_iff.1 h).1
 have:=zyA l
 omega
def Seen (w:World) (g:Nat) (ps:List (List UInt8)):Prop:=g<w.heap.size∧ ∀j,j<ps.length→w.cell? ⟨g,j,none⟩=some (.string ⟨(ps.getD j []).toArray⟩)
def ybC (w:World) (ps:List (List UInt8)) (e:Ending) (w':World):Prop:= ∃g c,e= .returned (.slice (some ⟨g,0,none⟩) ps.length c)∧ps.length≤c∧Seen w' g ps∧Below w.heap.size w w'
theorem ziD {w w':World} {ps m:List (List UInt8)} {g c n k:Nat} (o:ps.take k=m) (f:k≤ps.length) (B:n=k) (d:k≤c) (C:g<w'.heap.size) (D: ∀j,j<ps.length→w'.cell? ⟨g,j,none⟩=some (.string ⟨(ps.getD j []).toArray⟩)) (A:Below w.heap.size w w'):ybC w m (.returned (.slice (some ⟨g,0,none⟩) n c)) w':=by
 subst o B
 refine ⟨g,c,by rw [List.length_take,Nat.min_eq_left f],by rw [List.length_take,Nat.min_eq_left f];exact d,⟨C,fun j i=> ?_⟩,A⟩
 rw [List.length_take,Nat.min_eq_left f] at i
 rw [D j (by omega)]
 simp [List.getD,i]
theorem zgH (s:ByteArray) (w:World):Calls Tryz.prog 54 #[.string s] w fun e w'=>e= .returned (.string s)∧w=w':=by
 go_enter Tryz.func54,Tryz.ntmps54
 go_wp2
 go_ret
 exact ⟨rfl,rfl⟩
theorem zpL (l:List UInt8):(zdB l).length≤l.length+1:=by
 have d:=zdF (hasB [46]) l
 unfold zdB zaU
 rw [List.length_take]
 omega
theorem zoQ (s:ByteArray) (w:World) (S:s.size≤1073741824):
  Calls Tryz.prog 176 #[.string s] w (ybC w (zdB s.data.toList)):=by
 obtain ⟨L,x,I,G,H,U⟩:=zoX s.data.toList
 rw [zaR] at H
 go_enter Tryz.func176,Tryz.ntmps176
 go_wp2_with fail
 refine (zgH s _).mono ?_
 rintro e w' ⟨rfl,rfl⟩
 go_wp2_with fail
 refine (zdN s _ _ S).mono ?_
 rintro e K ⟨v,rfl,J,f⟩
 have o:zbI w.heap.size K v (zaU s.data.toList):=J
 obtain ⟨g,Q,rfl,A,D,d⟩:=o.form2 (by omega)
 rw [I] at A ⊢
 have E:=d L (by omega)
 rw [G] at E
 have C:=ykW d
 have B:=ykW I
 have V:=ykW G
 clear d J o I G
 rcases U with ⟨M,rfl,i⟩|⟨rfl|m,i⟩
 ·have j:=ykW i
  obtain ⟨n,rfl⟩: ∃n,L=n+1:=⟨L - 1,by omega⟩
  clear i M
  go_wp2
  go_ret
  exact ziD (k:=n+1) (by unfold zdB;rw [j.out]) (by rw [B.out];omega) (by omega) (by omega) D C.out f
 ·have j:=ykW i
  clear i
  go_wp2
  go_ret
  exact ziD (k:=1) (by unfold zdB;rw [j.out]) (by rw [B.out];omega) (by omega) (by omega) D C.out f
 ·have j:=ykW i
  have N:x.isEmpty=false:=zeI m
  clear i m
  by_cases O:L=0
  ·subst O
   go_wp2
   go_ret
   exact ziD (k:=1) (by unfold zdB;rw [j.out]) (by rw [B.out];omega) (by omega) (by omega) D C.out f
  ·obtain ⟨n,rfl⟩: ∃n,L=n+1:=⟨L - 1,by omega⟩
   go_wp2
   go_ret
   exact ziD (k:=n+2) (by unfold zdB;rw [j.out]) (by rw [B.out];omega) (by omega) (by omega) D C.out f
theorem z7Z (q:List UInt8) (w:World):Calls Tryz.prog 177 #[.string ⟨q.toArray⟩] w fun e w'=>e= .returned (.bool (zpE q))∧w=w':=by
 go_enter Tryz.func177,Tryz.ntmps177
 go_wp2_with fail
 refine (Tryz.strings_HasPrefix ⟨q.toArray⟩ _ _).mono ?_
 rintro e w' ⟨rfl,rfl⟩
 go_wp2
 go_ret
 exact ⟨rfl,rfl⟩
theorem ygH {p:List UInt8→Bool} {ps:List (List UInt8)} {k:Nat} {q:List UInt8} (d:k<ps.length) (f:ps.getD k []=q) (h:p q=false):ps.all p=false:=by
 rw [List.all_eq_false]
 refine ⟨q,?_,by simp [h]⟩
 rw [←f,List.getD,List.getElem?_eq_getElem d]
 exact List.getElem_mem d
theorem yiU {p:List UInt8→Bool} {ps:List (List UInt8)} (h: ∀j,j<ps.length→p (ps.getD j [])=true):ps.all p=true:=by
 rw [List.all_eq_true]
 intro x f
 obtain ⟨j,d,rfl⟩:=List.getElem_of_mem f
 have:=h j d
 rwa [List.getD,List.getElem?_eq_getElem d] at this
theorem zwS (s:ByteArray) (w:World) (d:s.size≤9223372036854775807):Calls Tryz.prog 234 #[.string s,.string ⟨#[46]⟩] w fun e w'=> ∃t:ByteArray,e= .returned (.string t)∧t.size=zsW s.data.toList∧w=w':=by
 refine (Tryz.strings_TrimSuffix s ⟨#[46]⟩ w (by omega)).mono ?_
 rintro e w' ⟨rfl,rfl⟩
 exact ⟨_,rfl,by rw [zaI];exact z3H _,rfl⟩
theorem z4B (s:ByteArray) (w:World) (V:s.size≤9223372036854775807):
  Calls Tryz.prog 173 #[.string s] w (zbN w (zhN s.data.toList)):=by
 obtain ⟨ps,f⟩: ∃ps,zdB s.data.toList=ps:=⟨_,rfl⟩
 have A:=ykW (fun W h=>zoQ s W h)
 rw [f] at A
 have m:=zyA s.data.toList
 rw [zaR] at m
 have G:Hid (zhN s.data.toList=(decide (zsW s.data.toList≤253)&&ps.all ziL)):=by show _=_;rw [←f];rfl
 have Y:ps.length≤s.size+1:=by rw [←f];have:=zpL s.data.toList;rwa [zaR] at this
 clear f
 go_enter Tryz.func173,Tryz.ntmps173
 go_wp2_with fail
 refine (zgH s _).mono ?_
 rintro e w' ⟨rfl,rfl⟩
 go_wp2_with fail
 refine (zwS s _ V).mono ?_
 rintro e w' ⟨t,rfl,N,rfl⟩
 rw [←N] at G m
 clear N
 by_cases Z:253<t.size
 ·have I:decide (253<(t.size:Int))=true:=ykY (by omega)
  have E:=ykW (show zhN s.data.toList=false by rw [G.out,ykX (by omega)];rfl)
  go_wp2
  go_ret
  exact zaE E.out (Below.refl _ _)
 have I:decide (253<(t.size:Int))=false:=ykX (by omega)
 have E:Hid (zhN s.data.toList=ps.all ziL):=by show _=_;rw [G.out,ykY (by omega)];rfl
 have qa:s.size≤254:=by omega
 clear Z G m
 go_wp2_with fail
 refine (A.out _ (by omega)).mono ?_
 rintro e w1 ⟨g,c,rfl,-,d,o⟩
 have U:=ykW d.2
 have hg:=d.1
 clear d I A
 go_wp2
 go_loop [13] (fun i=> ∃k:Nat,k≤ps.length∧i= .int .i64 k∧Hid (∀j,j<k→ziL (ps.getD j [])=true)) (fun i=>ps.length - (intOf i).toNat)
 case atStart=>exact ⟨0,Nat.zero_le _,rfl,fun j h=>absurd h (Nat.not_lt_zero j)⟩
 case round=>
  obtain ⟨k,hk,rfl,H⟩:=hrel
  by_cases B:k<ps.length
  ·have J:=U.out k B
   obtain ⟨q,M⟩: ∃q,ps.getD k []=q:=⟨_,rfl⟩
   rw [M] at J
   have K:=ykW M
   clear M
   by_cases D:q=[]
   ·subst D
    have C:=ykW (ygH B K.out (show ziL []=false from rfl))
    go_wp2
    go_ret
    exact zaE (E.out.trans C.out) o
   ·have X:q.isEmpty=false:=zeI D
    have O:0<q.length:=List.length_pos_iff.2 D
    by_cases h2:63<q.length
    ·have C:=ykW (ygH B K.out (show ziL q=false from ykX (by omega)))
     have I:decide (63<(q.length:Int))=true:=ykY (by omega)
     clear D
     go_wp2
     go_ret
     exact zaE (E.out.trans C.out) o
    ·have Q:=ykW (show ziL q=true from ykY (by omega))
     have I:decide (63<(q.length:Int))=false:=ykX (by omega)
     clear D
     go_wp2
     go_round
     case rel=>
      refine ⟨k+1,by omega,by go_num,fun j S=> ?_⟩
      by_cases e:j=k
      ·subst e;rw [K.out];exact Q.out
      ·exact H.out j (by omega)
     case measure=>simp [intOf];omega
  ·have C:=ykW (yiU (p:=ziL) (ps:=ps) fun j S=>H.out j (by omega))
   go_wp2
   go_ret
   exact zaE (E.out.trans C.out) o
theorem yiO (c:UInt8) (w:World) (d:c.toNat<128):Calls Tryz.prog 88 #[.string ⟨#[34,35,37,47,58,60,62,63,64,91,92,93,94,96,123,124,125]⟩,.int .i32 (c.toNat:Int)] w fun e w'=>e= .returned (.bool (hasB badL c))∧w=w':=by
 refine (Tryz.strings_ContainsRune_ascii _ _ w (by omega) (by omega)).mono ?_
 rintro e w' ⟨rfl,rfl⟩
 rw [zjD]
 refine ⟨?_,rfl⟩
 show Ending.returned (.bool (decide (0≤Lib.indexByte badL c)))=_
 cases h:hasB badL c with
 |true=>rw [ykY ((zcL _ _).1 h)]
 |false=>rw [(zcL _ _).2 h];rfl
theorem yeO {s:ByteArray} {k:Nat} (d:k<s.size) (h:zrC s[k]=false):ziM s.data.toList=false:=by
 unfold ziM
 rw [List.all_eq_false]
 refine ⟨s[k],?_,by simp [h]⟩
 show s.data[k]∈_
 simp
theorem z9T {s:ByteArray} (h: ∀k (h:k<s.size),zrC s[k]=true):ziM s.data.toList=true:=by
 unfold ziM
 rw [List.all_eq_true]
 intro x f
 obtain ⟨j,d,rfl⟩:=List.getElem_of_mem f
 exact h j (by simpa using d)
theorem z2U (s:ByteArray) (k:Nat) (h:k<s.size) (d:s[k].toNat<128):Utf8.decode s k=(s[k].toNat,1):=by
 have:=zqL s k h
 rw [zjS,if_pos (by omega),this]
theorem z9Q (s:ByteArray) (w:World) (G:zfH s.data.toList=true):
  Calls Tryz.prog 174 #[.string s] w (zbN w (ziM s.data.toList)):=by
 have V:Hid (∀k (h:k<s.size),s[k].toNat<128):=fun k h=>zsB.1 G _ (by show s.data[k]∈_;simp)
 clear G
 go_enter Tryz.func174,Tryz.ntmps174
 go_wp2_with fail
 refine (zgH s _).mono ?_
 rintro e w' ⟨rfl,rfl⟩
 go_wp2
 go_loopw [] (fun wr=> ∃k:Nat,wr.heap[w.heap.size]? =some (.stringIter s k)∧Below w.heap.size w wr∧k≤s.size∧Hid (∀j (h:j<s.size),j<k→zrC s[j]=true)) (fun wr=>s.size - wr.iterPos w.heap.size)
 case atStart=>exact ⟨0,World.iter_heap w s 0,(Below.refl _ w).alloc (Nat.le_refl _) _,Nat.zero_le _,fun j _ h=>absurd h (Nat.not_lt_zero j)⟩
 case round=>
  obtain ⟨k,A,I,Z,H⟩:=hrel
  by_cases i:k<s.size
  ·have m: ∀E,(Instr.next (.pointer (some ⟨w.heap.size,0,none⟩)) true E).run Tryz.prog wr=_:=fun E=>Lib.run_next_any_at wr w.heap.size s k E A i
   have G:=V.out k i
   rw [z2U s k i G] at m
   have B:=Lib.iterAt_heap wr w.heap.size s k (k+1) A
   have d:=Lib.below_iterAt I (k:=w.heap.size) (Nat.le_refl _) s (k+1)
   have M:Hid (wr.iterPos w.heap.size=k):=by
    show wr.iterPos w.heap.size=k
    simp only [World.iterPos,A]
   simp only at m
   generalize wr.iterAt w.heap.size s (k+1)=wi at*
   have o:=ykW (fun W=>yiO s[k] W G)
   have f:=ykW (show zrC s[k]=(decide (33≤s[k].toNat∧s[k].toNat≤126)&& !hasB badL s[k]) from rfl)
   have C:=ykW (fun h=>yeO i h)
   obtain ⟨c,N⟩: ∃c,s[k].toNat=c:=⟨_,rfl⟩
   generalize K:hasB badL s[k]=S at o f
   rw [N] at G m o f
   clear K
   have HC:=ykW N
   clear N
   by_cases h1:c<33
   ·have D:=ykW (C.out (by rw [f.out,ykX (by omega)];rfl))
    have U:decide ((c:Int)<33)=true:=ykY (by omega)
    go_wp2
    go_ret
    exact zaE D.out d
   ·have hd1:decide ((c:Int)<33)=false:=ykX (by omega)
    by_cases Y:126<c
    ·have D:=ykW (C.out (by rw [f.out,ykX (by omega)];rfl))
     have U:decide (126<(c:Int))=true:=ykY (by omega)
     go_wp2
     go_ret
     exact zaE D.out d
    ·have X:decide (126<(c:Int))=false:=ykX (by omega)
     cases S with
     |true=>
      have D:=ykW (C.out (by rw [f.out];simp))
      go_wp2_with (go_at_call 88;refine (o.out _).mono ?_;rintro e w' ⟨rfl,rfl⟩)
      go_ret
      exact zaE D.out d
     |false=>
      have O:=ykW (show zrC s[k]=true by rw [f.out,ykY (by omega)];rfl)
      go_wp2_with (go_at_call 88;refine (o.out _).mono ?_;rintro e w' ⟨rfl,rfl⟩)
      go_roundw
      case rel=>
       refine ⟨k+1,B,d,by omega,fun j J Q=> ?_⟩
       by_cases e:j=k
       ·subst e;exact O.out
       ·exact H.out j J (by omega)
      case measure=>
       rw [M.out]
       simp only [World.iterPos,B]
       omega
  ·have m: ∀E,(Instr.next (.pointer (some ⟨w.heap.size,0,none⟩)) true E).run Tryz.prog wr=_:=fun E=>Lib.run_next_end_at wr w.heap.size s k E A i
   have D:=ykW (z9T (s:=s) fun j J=>H.out j J (by omega))
   go_wp2
   go_ret
   exact zaE D.out I
end
end Go.Proofs.YtegmcmgndllmaaaGreatDoor
