/-
  What the law AuthorityAgrees leans on, and its walk (4 of 43).
-/
import Derived.Lib.IndexMore
import Derived.Deep.Onto
import Derived.Laws.CopyOwn
import Derived.Lib.AppendZerosOnto
import Derived.Laws.MakeOwn
import Derived.Test.YtegmcmgndllmaaaGreatDoorAuthorityAgreesPkC
namespace Go.Proofs.YtegmcmgndllmaaaGreatDoor
set_option maxRecDepth 100000
set_option maxHeartbeats 16000000
abbrev ynL := @Lib.hid
abbrev ynM := @Nat.le_refl
abbrev ynN := @Nat.lt_of_lt_of_le
abbrev ynO := @decide_eq_false
abbrev ynP := @decide_eq_true
abbrev ynQ := @Go.RowKit.Below.refl
section
section
open Go.RowKit Go.Sort Go.Lib
def hexD (u:Nat):List UInt8:=if _h:u<16 then [dgt u] else hexD (u/16)++[dgt (u % 16)]
termination_by u
decreasing_by omega
theorem zjA (u:Nat) (h:u<16):hexD u=[dgt u]:=by rw [hexD,dif_pos h]
theorem zlD (u:Nat) (h:16≤u):hexD u=hexD (u/16)++[dgt (u % 16)]:=by rw [hexD,dif_neg (by omega)]
def yjQ (u:Nat) (w:World) (e:Ending) (w':World):Prop:=e= .returned (.tuple #[.slice none 0 0,.string ⟨(hexD u).toArray⟩])∧Below w.heap.size w w'
def z4Y (u:Nat) (w:World) (e:Ending) (w':World):Prop:=e= .returned (.string ⟨(hexD u).toArray⟩)∧Below w.heap.size w w'
theorem ygX (u:Nat) (C:u<18446744073709551616) (w:World) (m:BruTab w):
  Calls Tryz.prog 242 #[.slice none 0 0,.int .u64 u,.int .i64 16,.bool false,.bool false] w (yjQ u w):=by
 have HT:=ynL m
 clear m
 have q:Tryz.prog.arrayLen 306=65:=by simp [Program.arrayLen,Tryz.underlying306]
 have H:=ynL q
 clear q
 go_enter Tryz.func242,Tryz.ntmps242
 go_wp2_with (first
  |(go_at_call 286;refine (ykR _).mono ?_;rintro e w' ⟨rfl,rfl⟩)
  |(go_at_call 287;refine (tz_16 _ (tabIs_alloc HT.out _)).mono ?_;rintro e w' ⟨rfl,rfl⟩))
 go_loopw [1,13] (fun x i wr=> ∃(v n:Nat) (T:List UInt8),x= .int .u64 v∧i= .int .i64 n∧v≤u∧Hid (n+T.length=65)∧zeO w.heap.size n T wr∧Hid (v<2^(64 - T.length))∧Hid ((v:Int)*(16:Nat)^T.length+valP (16:Nat) T=u)∧Hid (T.length≤64)∧Hid (hexD v++T=hexD u)∧Below w.heap.size w wr) (fun x _ _=>(RowKit.intOf x).toNat)
 case atStart=>exact ⟨u,65,[],rfl,rfl,ynM _,rfl,zrH w,C,(by show (u:Int)*_^0+0=u;simp),(by show (0:Nat)≤64;omega),(by show hexD u++[]=hexD u;simp),(ynQ _ w).alloc (ynM _) _⟩
 case round=>
  obtain ⟨v,n,T,rfl,rfl,V,D,U,O,HV,X,Q,B⟩:=hrel
  have f:=ynL U
  clear U
  by_cases Y:16≤v
  ·have hl:=ybY v T.length O.out (by omega)
   obtain ⟨i,rfl⟩: ∃i,n=i+1:=⟨n - 1,by have:=D.out;omega⟩
   have hi:i<65:=by have:=D.out;omega
   obtain ⟨d,I⟩: ∃d,v % 16=d:=⟨_,rfl⟩
   have qa:d<16:=by omega
   have S:bits .and .u64 (v:Int) 15=(d:Int):=by
    have:=bits_mask .u64 64 (by decide) (fun n h0 h1=>by rw [IntKind.wrap_u64];omega) 4 (by decide) (v:Int) (by omega) (by omega)
    rw [show (2:Int)^4 - 1=15 from by decide] at this
    rw [this]
    omega
   obtain ⟨c0,o⟩:=f.out.cell i hi
   have J:=f.out.frozen i
   have M:=fun W=>dig36 W d (by omega)
   have E:=ynL (f.out.put (dgt d))
   have L:=ynL (yhY v T.length 16 O.out hl (by decide))
   have A:=ynL (z8H 16 v T u (by omega) HV.out)
   rw [I] at A
   have K:Hid (hexD (v/16)++(dgt d::T)=hexD u):=by
    show hexD (v/16)++(dgt d::T)=hexD u
    rw [←Q.out,zlD v Y,I,List.append_assoc];rfl
   have g:=B.setCell (p:=⟨w.heap.size,i,none⟩) (ynM _) (.int .u8 ((dgt d).toNat:Int))
   have qb:=ynL I
   clear I
   go_wp2
   go_roundw
   case rel=>exact ⟨v/16,i,dgt d::T,(by first|rfl|go_num|exact congrArg (Value.int .u64) (by omega)),(by first|rfl|go_num),by omega,(by have:=D.out;show i+(T.length+1)=65;omega),E.out,L,A,(by show T.length+1≤64;omega),K,g⟩
   case measure=>simp [RowKit.intOf];omega
  ·have N:T.length≤64:=X.out
   obtain ⟨i,rfl⟩: ∃i,n=i+1:=⟨n - 1,by have:=D.out;omega⟩
   have hi:i<65:=by have:=D.out;omega
   obtain ⟨c0,o⟩:=f.out.cell i hi
   have J:=f.out.frozen i
   have M:=fun W=>dig36 W v (by omega)
   have j:=f.out.put (dgt v)
   have G:Hid (dgt v::T=hexD u):=by
    show dgt v::T=hexD u
    rw [←Q.out,zjA v (by omega)];rfl
   have g:=B.setCell (p:=⟨w.heap.size,i,none⟩) (ynM _) (.int .u8 ((dgt v).toNat:Int))
   have Z:=j.conv
   have qc: ∀W,(Instr.sliceAt 306 (.pointer (some ⟨w.heap.size,0,none⟩)) (some (.int .i64 (i:Int))) none none).run Tryz.prog W= .ok (.slice (some ⟨w.heap.size,i,none⟩) (65 - i) (65 - i)) W:=fun W=>by
    rw [run_sliceAt_array_l W 306 ⟨w.heap.size,0,none⟩ (by simp [Program.arrayLen,Program.elem,Tryz.underlying306]) .i64 (i:Int) (by omega) (by rw [H.out];omega),H.out]
    go_simp
    omega
   clear j
   go_wp2
   go_ret2
   exact ⟨congrArg (fun l:List UInt8=>Ending.returned (.tuple #[.slice none 0 0,.string ⟨l.toArray⟩])) G.out,g⟩
theorem z4M (u:Nat) (f:u<18446744073709551616) (w:World) (d:BruTab w):
  Calls Tryz.prog 281 #[.int .u64 u,.int .i64 16] w (z4Y u w):=by
 have HT:=ynL d
 clear d
 go_enter Tryz.func281,Tryz.ntmps281
 go_wp2_with fail
 refine (ygX u f _ HT.out).mono ?_
 rintro e i ⟨rfl,g⟩
 go_wp2
 go_ret
 exact ⟨rfl,g⟩
theorem z1J (u:Nat) (f:u<18446744073709551616) (w:World) (d:BruTab w):
  Calls Tryz.prog 237 #[.int .u64 u,.int .i64 16] w (z4Y u w):=by
 have HT:=ynL d
 clear d
 go_enter Tryz.func237,Tryz.ntmps237
 go_wp2_with fail
 refine (z4M u f _ HT.out).mono ?_
 rintro e i ⟨rfl,g⟩
 go_wp2
 go_ret
 exact ⟨rfl,g⟩
end
section
open Go.RowKit
def zdG (l:List UInt8):Int×Bool:=if l.length<1∨4<l.length then (0,false) else if zbG 16 l then (valP 16 l,true) else (0,false)
def zcA (l:List UInt8):List (List UInt8):=zbF (hasB [58]) l
def rowP (last:Bool):List Int→List (List UInt8)→List Int×Bool
 |acc,[]=>(acc,true)
 |acc,p::r=>if last=true∧r=[]∧(zbN p).2=true then (acc++[(zbN p).1/65536,(zbN p).1 % 65536],true)
  else if (zdG p).2=true then rowP last (acc++[(zdG p).1]) r else ([],false)
def rowZ (l:List UInt8) (last:Bool):List Int×Bool:=if l=[] then ([],true) else rowP last [] (zcA l)
def ccAt:List UInt8→Option Nat
 |[]=>none
 |a::r=>if a=58∧r.head? =some 58 then some 0 else (ccAt r).map (· +1)
def sixL (l:List UInt8):List Int×Bool:=
 match ccAt l with
 |none=>if (rowZ l true).2=true∧(rowZ l true).1.length=8 then ((rowZ l true).1,true) else ([],false)
 |some k=>if (rowZ (l.take k) false).2=true∧(rowZ (l.drop (k+2)) true).2=true∧(rowZ (l.take k) false).1.length+(rowZ (l.drop (k+2)) true).1.length≤7 then
   ((rowZ (l.take k) false).1++List.replicate (8 - ((rowZ (l.take k) false).1.length+(rowZ (l.drop (k+2)) true).1.length)) 0++(rowZ (l.drop (k+2)) true).1,true)
  else ([],false)
def hi4 (l:List Int):Int:=((l.getD 0 0*65536+l.getD 1 0)*65536+l.getD 2 0)*65536+l.getD 3 0
def lo4 (l:List Int):Int:=((l.getD 4 0*65536+l.getD 5 0)*65536+l.getD 6 0)*65536+l.getD 7 0
def sixZ (l:List UInt8):(Int×Int)×Bool:=((hi4 (sixL l).1,lo4 (sixL l).1),(sixL l).2)
theorem yaE (L:List UInt8) (g:zbG 16 L=true):valP 16 L<16^L.length:=by
 induction L with
 |nil=>decide
 |cons c L e=>
  have d:digC 16 c=true∧zbG 16 L=true:=by simpa [zbG] using g
  have i:=of_decide_eq_true d.1
  have j:=e d.2
  rw [zsS,List.length_cons,Int.pow_succ]
  have f:(0:Int)≤16^L.length:=Int.pow_nonneg (by decide)
  have m:valZ (c.toNat:Int)*16^L.length≤15*16^L.length:=Int.mul_le_mul_of_nonneg_right (by omega) f
  omega
theorem z1O (L:List UInt8) (d:zbG 16 L=true) (h:L.length≤3):0≤valP 16 L∧valP 16 L≤4095:=by
 refine ⟨znZ 16 (by decide) L d,?_⟩
 have f:=yaE L d
 rcases (show L.length=0∨L.length=1∨L.length=2∨L.length=3 from by omega) with e|e|e|e<;>rw [e] at f<;>omega
theorem z8J (L:List UInt8) (d:zbG 16 L=true) (h:L.length≤4):0≤valP 16 L∧valP 16 L≤65535:=by
 refine ⟨znZ 16 (by decide) L d,?_⟩
 have f:=yaE L d
 rcases (show L.length=0∨L.length=1∨L.length=2∨L.length=3∨L.length=4 from by omega) with e|e|e|e|e<;>rw [e] at f<;>omega
theorem z5Y (b:Int) (s:ByteArray) (k:Nat) (h:k<s.size):valP b (s.data.toList.take (k+1))=valP b (s.data.toList.take k)*b+valZ (s[k].toNat:Int):=by
 rw [zcX s k h];simp [valP]
theorem zjT (l:List UInt8):0≤(zdG l).1∧(zdG l).1≤65535:=by
 unfold zdG
 split
 ·exact ⟨Int.le_refl _,by show (0:Int)≤_;omega⟩
 ·split
  ·exact z8J l (by assumption) (by omega)
  ·exact ⟨Int.le_refl _,by show (0:Int)≤_;omega⟩
theorem z2Y {l:List UInt8} (h:l.length<1∨4<l.length):zdG l=(0,false):=by unfold zdG;rw [if_pos h]
theorem yaA {l:List UInt8} (h:zbG 16 l=false):zdG l=(0,false):=by
 unfold zdG;split
 ·rfl
 ·rw [h];rfl
theorem zoU {l:List UInt8} (h: ¬(l.length<1∨4<l.length)) (d:zbG 16 l=true):zdG l=(valP 16 l,true):=by
 unfold zdG;rw [if_neg h,d];rfl
theorem ziO (l:List UInt8):0≤(zbN l).1∧(zbN l).1≤4294967295:=by
 obtain ⟨⟨x,b⟩,d⟩: ∃x,zbN l=x:=⟨_,rfl⟩
 rw [d]
 cases b with
 |true=>have h:=zvY l x d;exact ⟨h.1,h.2.1⟩
 |false=>have h:=zsB l x d;subst h;exact ⟨Int.le_refl _,by show (0:Int)≤_;omega⟩
theorem ydY (last:Bool) (acc:List Int):rowP last acc []=(acc,true):=rfl
theorem z9F {last:Bool} {acc:List Int} {p:List UInt8} {r:List (List UInt8)} {x:Int} (e:last=true) (f:r=[]) (d:zbN p=(x,true)):rowP last acc (p::r)=(acc++[x/65536,x % 65536],true):=by
 unfold rowP;rw [if_pos ⟨e,f,by rw [d]⟩,d]
theorem zrT {last:Bool} {acc:List Int} {p:List UInt8} {r:List (List UInt8)} {x:Int} (h: ¬(last=true∧r=[]∧(zbN p).2=true)) (d:zdG p=(x,false)):rowP last acc (p::r)=([],false):=by
 unfold rowP;rw [if_neg h,d];rfl
theorem zjW {last:Bool} {acc:List Int} {p:List UInt8} {r:List (List UInt8)} {x:Int} (h: ¬(last=true∧r=[]∧(zbN p).2=true)) (d:zdG p=(x,true)):rowP last acc (p::r)=rowP last (acc++[x]) r:=by
 rw [rowP,if_neg h,d];rfl
def In16 (l:List Int):Prop:= ∀x∈l,0≤x∧x≤65535
theorem In16.nil:In16 []:=fun _ h=>by cases h
theorem In16.append {a b:List Int} (e:In16 a) (d:In16 b):In16 (a++b):=fun x f=>(List.mem_append.1 f).elim (e x) (d x)
theorem In16.zeros (n:Nat):In16 (List.replicate n 0):=fun x d=>by rw [(List.mem_replicate.1 d).2];exact ⟨by decide,by decide⟩
theorem In16.getD {l:List Int} (h:In16 l) (k:Nat):0≤l.getD k 0∧l.getD k 0≤65535:=by
 rw [List.getD_eq_getElem?_getD]
 cases e:l[k]? with
 |none=>exact ⟨Int.le_refl _,by show (0:Int)≤_;omega⟩
 |some x=>exact h x (List.mem_of_getElem? e)
theorem ymT (last:Bool) (ps:List (List UInt8)): ∀acc,In16 acc→In16 (rowP last acc ps).1:=by
 induction ps with
 |nil=>intro acc h;exact h
 |cons p r e=>
  intro acc h
  unfold rowP
  split
  ·have f:=ziO p
   refine h.append fun x d=> ?_
   simp only [List.mem_cons,List.not_mem_nil,or_false] at d
   rcases d with rfl|rfl<;>omega
  ·split
   ·refine e _ (h.append fun x d=> ?_)
    simp only [List.mem_cons,List.not_mem_nil,or_false] at d
    subst d
    exact zjT p
   ·exact In16.nil
theorem zkN (l:List UInt8) (last:Bool):In16 (rowZ l last).1:=by
 unfold rowZ
 split
 ·exact In16.nil
 ·exact ymT _ _ _ In16.nil
theorem ygA (last:Bool) (ps:List (List UInt8)): ∀acc,(rowP last acc ps).1.length≤acc.length+ps.length+1:=by
 induction ps with
 |nil=>intro acc;simp [rowP]
 |cons p r d=>
  intro acc
  unfold rowP
  split
  ·simp only [List.length_append,List.length_cons,List.length_nil];omega
  ·split
   ·have:=d (acc++[(zdG p).1])
    simp only [List.length_append,List.length_cons,List.length_nil] at this ⊢
    omega
   ·simp
theorem ydK (l:List UInt8):In16 (sixL l).1:=by
 unfold sixL
 split
 ·split
  ·exact zkN _ _
  ·exact In16.nil
 ·split
  ·exact ((zkN _ _).append (In16.zeros _)).append (zkN _ _)
  ·exact In16.nil
theorem z3W {l:List Int} (h:In16 l):0≤hi4 l∧hi4 l≤18446744073709551615:=by
 have g:=h.getD 0
 have d:=h.getD 1
 have f:=h.getD 2
 have e:=h.getD 3
 unfold hi4
 omega
theorem z4G {l:List Int} (h:In16 l):0≤lo4 l∧lo4 l≤18446744073709551615:=by
 have g:=h.getD 4
 have d:=h.getD 5
 have f:=h.getD 6
 have e:=h.getD 7
 unfold lo4
 omega
theorem z0P (l:List UInt8):Lib.index l [58,58]=match ccAt l with|some k=>(k:Int)|none=> -1:=by
 induction l with
 |nil=>rfl
 |cons a r e=>
  have f:([58,58]:List UInt8).isPrefixOf (a::r)=decide (a=58∧r.head? =some 58):=by
   rw [Bool.eq_iff_iff,decide_eq_true_iff]
   cases r with
   |nil=>simp [List.isPrefixOf]
   |cons b r=>
    rw [List.isPrefixOf,List.isPrefixOf,List.isPrefixOf,Bool.and_true,Bool.and_eq_true,beq_iff_eq,beq_iff_eq,List.head?_cons,Option.some.injEq]
    exact ⟨fun h=>⟨h.1.symm,h.2.symm⟩,fun h=>⟨h.1.symm,h.2.symm⟩⟩
  unfold Lib.index ccAt
  rw [f]
  by_cases d:a=58∧r.head? =some 58
  ·rw [if_pos (by simpa using d),if_pos d];rfl
  ·rw [if_neg (by simpa using d),if_neg d,e]
   cases ccAt r with
   |none=>rfl
   |some k=>
    have:((k:Int)== -1)=false:=by rw [beq_eq_false_iff_ne];omega
    simp [this]
theorem yhA {l:List UInt8} (h:ccAt l=none):Lib.cut l [58,58]=(l,[],false):=by
 unfold Lib.cut
 rw [z0P,h]
 rfl
theorem ygZ {l:List UInt8} {k:Nat} (h:ccAt l=some k):Lib.cut l [58,58]=(l.take k,l.drop (k+2),true):=by
 unfold Lib.cut
 rw [z0P,h]
 show (if (0:Int)≤(k:Int) then _ else _)=_
 rw [if_pos (by omega)]
 rfl
theorem yiP (x y:Int) (e:0≤x) (j:x≤4095) (d:0≤y) (g:y<16):bits .or .u16 (x*16) y=x*16+y:=
 bits_join .u16 16 (by decide) (fun n i f=>by rw [IntKind.wrap_u16];omega) 4 (x*16) y (by omega) (by omega) (by omega) d (by omega) (by omega)
def z0K (w:World) (x:Int×Bool) (e:Ending) (w':World):Prop:=e= .returned (.tuple #[.int .u16 x.1,.bool x.2])∧Below w.heap.size w w'
theorem zeQ {w w':World} {x:Int×Bool} {n:Int} {b:Bool} (h:x=(n,b)) (d:Below w.heap.size w w'):z0K w x (.returned (.tuple #[.int .u16 n,.bool b])) w':=by
 subst h;exact ⟨rfl,d⟩
theorem zbW (s:ByteArray) (w:World) (hs:s.size≤1073741824):
  Calls Tryz.prog 279 #[.string s] w (z0K w (zdG s.data.toList)):=by
 by_cases N:s.size=0
 ·obtain rfl:=zdA s N
  clear N hs
  have i:Hid (zdG (ByteArray.mk #[]).data.toList=(0,false)):=rfl
  go_enter Tryz.func279,Tryz.ntmps279
  go_wp2
  go_ret2
  exact zeQ i.out (ynQ _ _)
 ·have qd:=zdL s N
  by_cases h4:4<s.size
  ·have i:=ynL (z2Y (l:=s.data.toList) (.inr (by rw [zaN];exact h4)))
   clear N
   go_enter Tryz.func279,Tryz.ntmps279
   go_wp2
   go_ret2
   exact zeQ i.out (ynQ _ _)
  ·have K:=ynL (yaA (l:=s.data.toList))
   have L:=ynL (zoU (l:=s.data.toList) (by rw [zaN];omega))
   clear N
   go_enter Tryz.func279,Tryz.ntmps279
   go_wp2
   go_loopw [4] (fun n wr=> ∃(k:Nat) (A:Int),n= .int .u16 A∧k≤s.size∧wr.heap[w.heap.size]? =some (.stringIter s k)∧Below w.heap.size w wr∧w.heap.size+1≤wr.heap.size∧Hid (A=valP 16 (s.data.toList.take k))∧Hid (zbG 16 (s.data.toList.take k)=true)) (fun _ wr=>s.size - wr.iterPos w.heap.size)
   case atStart=>exact ⟨0,0,rfl,Nat.zero_le _,World.iter_heap w s 0,(ynQ _ w).alloc (ynM _) _,by simp [World.iter],rfl,rfl⟩
   case round=>
    obtain ⟨k,A,rfl,hk,g,B,V,X,E⟩:=hrel
    by_cases j:k<s.size
    ·obtain ⟨c,O⟩: ∃c,(s[k]'j).toNat=c:=⟨_,rfl⟩
     have m: ∀H,(Instr.next (.pointer (some ⟨w.heap.size,0,none⟩)) true H).run Tryz.prog wr=_:=fun H=>Lib.run_next_any_at wr w.heap.size s k H g j
     have I:=z1O _ E.out (by rw [List.length_take];omega)
     rw [←X.out] at I
     obtain ⟨Y,U⟩:=I
     by_cases S:c<128
     ·have f:=decode_ascii s k j (by omega)
      rw [O] at f
      rw [f] at m
      have o:=Lib.iterAt_heap wr w.heap.size s k (k+1) g
      have d:=Lib.below_iterAt B (k:=w.heap.size) (ynM _) s (k+1)
      have M:w.heap.size+1≤(wr.iterAt w.heap.size s (k+1)).heap.size:=by rw [Lib.iterAt_size];exact V
      simp only at m
      generalize wr.iterAt w.heap.size s (k+1)=wi at*
      obtain ⟨v,hv⟩: ∃v,valZ (c:Int)=v:=⟨_,rfl⟩
      have J:v<16:=by rw [←hv];exact zxV _
      have HV:Hid (valZ (s[k].toNat:Int)=v):=by show valZ (s[k].toNat:Int)=v;rw [O];exact hv
      have Z:=ynL g
      have HC:=ynL O
      clear g O f
      by_cases h0:v<0
      ·have i:=ynL (K.out (zeD 16 s k j (zfW HV.out (.inl h0))))
       go_wp2_with (go_at_call 107;refine (zbP _ _).mono ?_;rintro e w' ⟨rfl,rfl⟩)
       go_ret2
       exact zeQ i.out d
      ·have i:=ynL (zlX 16 s k j E.out (znV HV.out (by omega) (by omega)))
       have D:=z5Y 16 s k j
       rw [←X.out,HV.out] at D
       have T:=ynL D
       clear D
       have qc:=yiP A v Y U (by omega) J
       go_wp2_with (go_at_call 107;refine (zbP _ _).mono ?_;rintro e w' ⟨rfl,rfl⟩)
       go_roundw
       case rel=>exact ⟨k+1,_,rfl,by omega,o,d,M,T.out.symm,i⟩
       case measure=>
        simp only [World.iterPos,o,Z.out]
        omega
     ·have hh:=decode_high s k j (by omega)
      obtain ⟨r,Q⟩: ∃r,(Utf8.decode s k).1=r:=⟨_,rfl⟩
      obtain ⟨wd,C⟩: ∃r,(Utf8.decode s k).2=r:=⟨_,rfl⟩
      have qa:=decode_le s k
      rw [Q,C] at m
      rw [Q,C] at hh
      rw [Q] at qa
      have d:=Lib.below_iterAt B (k:=w.heap.size) (ynM _) s (k+wd)
      generalize wr.iterAt w.heap.size s (k+wd)=wi at*
      have hv:valZ (r:Int)= -1:=zkA _ (by omega)
      have i:=ynL (K.out (zeD 16 s k j (zfW (zkA _ (by omega)) (.inl (by omega)))))
      clear O Q C
      go_wp2_with (go_at_call 107;refine (zbP _ _).mono ?_;rintro e w' ⟨rfl,rfl⟩)
      go_ret2
      exact zeQ i.out d
    ·have m: ∀H,(Instr.next (.pointer (some ⟨w.heap.size,0,none⟩)) true H).run Tryz.prog wr=_:=fun H=>Lib.run_next_end_at wr w.heap.size s k H g j
     have q:=E.out
     rw [zeF s k j] at q
     have G:=X.out
     rw [zeF s k j] at G
     have i:=ynL (L.out q)
     have qb:=ynL G
     clear q G
     go_wp2
     go_ret2
     exact zeQ (by rw [i.out,qb.out]) B
theorem Tryz.infoU16:(Tryz.prog.info? 88).map (fun i=>(i.zero,i.size,i.bytes))=some (some (.int .u16 0),1,2):=by kernel_rfl
theorem ykY (w:World) (u1 u2:Value) (t:TypeId): ∀j x,[u1,u2][j]? =some x→(w.alloc (.cells #[u1,u2] t)).cell? ((⟨w.heap.size,0,none⟩:Addr).add j)=some x:=by
 intro j x d
 match j,d with
 |0,d=>simp at d;subst d;simp [Addr.add]
 |1,d=>simp at d;subst d;simp [Addr.add]
theorem z4I {P:Program} (w:World) {C:Array Oper} {g:List Oper} {o:Oper} {a:Act} {Q:Exit→Act→World→Prop} (I:o.guard=none) (s x:Operand) (t:TypeId)
  (K:o.op= .call {callee:= .builtin .append,args:= #[s,x],argTypes:= #[t,t]})
  (base:Nat) (e:TypeId) (i:TypeInfo) (z:Value) (d:Nat) (S:P.underlying t=some (.slice e)) (hi:P.info? e=some i) (T:i.zero=some z)
  (A:i.size=1) (H:i.bytes=d) (G:z.cells.size=1)
  (v:Value) (n:Nat) (xs:List Value) (O:a.eval s=v) (j:w.ownsRow base e 1 v n xs) (u1 u2:Value) (L:a.eval x= .slice (some ⟨w.heap.size,0,none⟩) 2 2) (U:u1.oneCell'=true) (M:u2.oneCell'=true)
  (E:n+2≤maxLen) (f:(n+2)*d≤140737488355328) (q:base≤w.heap.size)
  (h: ∀D w',w'.ownsRow base e 1 D (n+2) (xs++[u1,u2])→Below base w w'→wpList P C Q g (a.put o.dst D) w'):wpList P C Q (o::g) a (w.alloc (.cells #[u1,u2] e)):=by
 refine wpList_append_own (w.alloc (.cells #[u1,u2] e)) I s x t K base e i z 1 d S hi T A H G (by decide) v n xs O (j.alloc _) ⟨w.heap.size,0,none⟩ 2 2 [u1,u2] L rfl (ykY w u1 u2 e) ?_ E f (by simp;omega) ?_
 ·intro y J;simp at J;rcases J with rfl|rfl<;>assumption
 ·intro D N m B _
  exact h D N m (((ynQ base w).alloc q _).grown B (by simp;omega) (fun k V=>(j.lt k V).1))
def Nums (t:TypeId) (k:IntKind) (B:Nat) (w:World) (v:Value) (l:List Int):Prop:=w.ownsRow B t 1 v l.length (l.map (Value.int k))
theorem Nums.nil (t:TypeId) (k:IntKind) (B:Nat) (w:World):Nums t k B w (.slice none 0 0) []:=World.ownsRow_nil _ _ _ _
theorem Nums.below {t:TypeId} {k:IntKind} {B:Nat} {w w':World} {v:Value} {l:List Int} (h:Nums t k B w v l) (d:Below w.heap.size w w'):Nums t k B w' v l:=zdE h d
theorem Nums.mono {t:TypeId} {k:IntKind} {B d:Nat} {w:World} {v:Value} {l:List Int} (h:Nums t k B w v l) (e:d≤B):Nums t k d w v l:=World.ownsRow.mono h e
theorem Nums.snoc2 {t:TypeId} {k:IntKind} {B:Nat} {w:World} {v:Value} {l:List Int} {x y:Int} (h:w.ownsRow B t 1 v (l.length+2) (l.map (Value.int k)++[.int k x,.int k y])):Nums t k B w v (l++[x,y]):=by
 unfold Nums;rw [List.length_append,List.map_append];exact h
theorem Nums.row {t:TypeId} {k:IntKind} {B:Nat} {w:World} {v:Value} {l:List Int} (h:Nums t k B w v l):RowR w v (l.map (Value.int k)):=by
 refine RowR.of_own (base:=B) (e:=t) ?_
 rw [List.length_map];exact h
def ybK (t:TypeId) (k:IntKind) (w:World) (x:List Int×Bool) (e:Ending) (w':World):Prop:= ∃v,e= .returned (.tuple #[v,.bool x.2])∧Nums t k w.heap.size w' v x.1∧Below w.heap.size w w'
theorem zdK {t:TypeId} {k:IntKind} {w w':World} {x:List Int×Bool} {v:Value} {l:List Int} {b:Bool} (h:x=(l,b)) (d:Nums t k w.heap.size w' v l) (e:Below w.heap.size w w'):ybK t k w x (.returned (.tuple #[v,.bool b])) w':=by
 subst h;exact ⟨v,rfl,d,e⟩
theorem ymN {l:List UInt8} {last:Bool} (h:l≠[]):rowZ l last=rowP last [] ((zcA l).drop 0):=by unfold rowZ;rw [if_neg h];rfl
theorem z2M (k:Nat) (ps:List (List UInt8)) (h:k<ps.length):ps.drop k=ps.getD k []::ps.drop (k+1):=by
 rw [List.drop_eq_getElem_cons h,List.getD,List.getElem?_eq_getElem h];rfl
theorem zuQ (k:Nat) (ps:List (List UInt8)) (h:ps.length≤k):ps.drop k=[]:=List.drop_eq_nil_of_le h
theorem z4N (k:Nat) (ps:List (List UInt8)) (h:k<ps.length):ps.drop k≠[]:=by intro e;have:=congrArg List.length e;simp at this;omega
theorem zjE (s:ByteArray) (last:Bool) (w:World) (hs:s.size≤1073741824):
  Calls Tryz.prog 229 #[.string s,.bool last] w (ybK 88 .u16 w (rowZ s.data.toList last)):=by
 by_cases hn:s.size=0
 ·obtain rfl:=zdA s hn
  clear hn hs
  have U:Hid (rowZ (ByteArray.mk #[]).data.toList last=([],true)):=rfl
  go_enter Tryz.func229,Tryz.ntmps229
  go_wp2
  go_ret2
  exact zdK U.out (Nums.nil _ _ _ _) (ynQ _ _)
 ·have qA:=zdL s hn
  obtain ⟨i0,hi,Y,qa,qc⟩:=info_parts Tryz.infoU16
  have HZ:=ynL (ymN (last:=last) (zfT s hn))
  clear hn
  obtain ⟨m,hm⟩: ∃m,(zcA s.data.toList).length=m:=⟨_,rfl⟩
  have h0:0<(zcA s.data.toList).length:=zkK _ _
  rw [hm] at h0
  have qC:m≤1073741825:=by
   have h1:=zcV (hasB [58]) s.data.toList
   rw [zaN] at h1
   have h2:=hm
   unfold zcA at h2
   omega
  have HM:=ynL hm
  clear hm
  go_enter Tryz.func229,Tryz.ntmps229
  go_wp2_with fail
  refine (zdD s _ _ hs).mono ?_
  rintro e E ⟨v,rfl,hp,G⟩
  have qm:zaZ w.heap.size E v (zcA s.data.toList):=hp
  obtain ⟨g,qB,rfl,qf,hg,Q⟩:=qm.form2 (by rw [HM.out];exact h0)
  rw [HM.out] at qf Q ⊢
  have qi:=ynL Q
  clear hp qm Q
  have qr:=ynL qf
  go_wp2
  go_loopw [7,20] (fun v i wr=> ∃(k:Nat) (T:List Int),k≤m∧i= .int .i64 k∧wr.ownsRow E.heap.size 88 1 v k (T.map (Value.int .u16))∧Hid (T.length=k)∧Hid (rowP last T ((zcA s.data.toList).drop k)=rowZ s.data.toList last)∧Below E.heap.size E wr) (fun _ i _=>m - (intOf i).toNat)
  case atStart=>exact ⟨0,[],by omega,rfl,World.ownsRow_nil _ _ _ _,rfl,HZ.out.symm,ynQ _ _⟩
  case round=>
   obtain ⟨k,T,hk,rfl,j,V,HG,f⟩:=hrel
   by_cases ql:k<m
   ·obtain ⟨p,qb⟩: ∃p,(zcA s.data.toList).getD k []=p:=⟨_,rfl⟩
    have qk:=qi.out k ql
    rw [qb] at qk
    have qq:wr.cell? ⟨g,k,none⟩=some (.string ⟨p.toArray⟩):=(f.cell (p:=⟨g,k,none⟩) hg).trans qk
    have qx:p.length≤s.size:=by rw [←qb,←zaN];exact ziD _ _ _
    have qj:=z2M k (zcA s.data.toList) (by rw [HM.out];exact ql)
    rw [qb] at qj
    have qn:=ynL qj
    have K:Hid (rowP last T (p::(zcA s.data.toList).drop (k+1))=rowZ s.data.toList last):=by
     show rowP last T (p::(zcA s.data.toList).drop (k+1))=rowZ s.data.toList last
     rw [←qn.out];exact HG.out
    clear qj qk qn
    have HP:=ynL qb
    clear qb
    obtain ⟨x,b,qg⟩: ∃x b,zdG p=(x,b):=⟨_,_,rfl⟩
    have hx:0≤x∧x≤65535:=by have h9:=zjT p;rw [qg] at h9;exact h9
    obtain ⟨qs,qw⟩:=hx
    have B:=ynL qg
    clear qg
    obtain ⟨y,b4,Z⟩: ∃x b,zbN p=(x,b):=⟨_,_,rfl⟩
    have hy:0≤y∧y≤4294967295:=by have h9:=ziO p;rw [Z] at h9;exact h9
    obtain ⟨qz,qv⟩:=hy
    have M:=ynL Z
    clear Z
    by_cases qd:k+1=m
    ·have qp:((k:Int)==(m:Int) - 1)=true:=by rw [beq_iff_eq];omega
     have qh:=ynL (zuQ (k+1) (zcA s.data.toList) (by rw [HM.out];omega))
     have qy:m - 1≤k:=by omega
     clear qd
     cases last with
     |true=>
      cases b4 with
      |true=>
       have U:=ynL (K.out.symm.trans (z9F rfl qh.out M.out))
       go_wp2_with fail
       refine (zlA ⟨p.toArray⟩ _ (by rw [zaF];omega)).mono ?_
       rw [zaM,M.out]
       rintro e w2 ⟨rfl,H⟩
       have N:Below E.heap.size E w2:=f.trans (H.mono f.size)
       have I:=zdE j H
       have qo:=N.size
       clear H j
       go_wp2_with (at_builtin;refine z4I _ rfl _ _ 224 rfl E.heap.size 88 i0 (.int .u16 0) 2 Tryz.underlying224 hi Y qa qc rfl _ _ _ rfl I (.int .u16 (y/65536)) (.int .u16 (y % 65536)) rfl rfl rfl (by unfold maxLen;omega) (by omega) qo ?_;intro v' O o L)
       go_ret2
       exact zdK U.out ((Nums.snoc2 (by rw [V.out];exact o)).mono G.size) (G.trans ((N.trans L).mono G.size))
      |false=>
       have A:Hid (¬(true=true∧(zcA s.data.toList).drop (k+1)=[]∧(zbN p).2=true)):=by
        show ¬_
        rintro ⟨h1,h2,h3⟩
        first|exact qe.out h2|exact absurd h1 (by decide)|(rw [M.out] at h3;exact absurd (show false=true from h3) (by decide))
       cases b with
       |true=>
        have D:=K.out
        rw [zjW A.out B.out] at D
        have S:=ynL D
        clear D
        go_wp2_with fail
        refine (zlA ⟨p.toArray⟩ _ (by rw [zaF];omega)).mono ?_
        rw [zaM,M.out]
        rintro e w2 ⟨rfl,H⟩
        have N:Below E.heap.size E w2:=f.trans (H.mono f.size)
        have I:=zdE j H
        clear H j
        go_wp2_with fail
        refine (zbW ⟨p.toArray⟩ _ (by rw [zaF];omega)).mono ?_
        rw [zaM,B.out]
        rintro e O ⟨rfl,d⟩
        have q:Below E.heap.size E O:=N.trans (d.mono N.size)
        have C:=zdE I d
        have J:=q.size
        clear d I
        go_wp2_with (at_builtin;refine zdI _ rfl _ _ 224 rfl E.heap.size 88 i0 (.int .u16 0) 2 Tryz.underlying224 hi Y qa qc rfl _ _ _ rfl C (.int .u16 x) rfl rfl (by omega) (by omega) J ?_;intro v' w4 o L)
        go_roundw
        case rel=>exact ⟨k+1,T++[x],by omega,by go_num,(by rw [List.map_append];exact o),(by show (T++[x]).length=k+1;rw [List.length_append,V.out];rfl),S,q.trans L⟩
        case measure=>simp [intOf];omega
       |false=>
        have U:=ynL (K.out.symm.trans (zrT A.out B.out))
        go_wp2_with fail
        refine (zlA ⟨p.toArray⟩ _ (by rw [zaF];omega)).mono ?_
        rw [zaM,M.out]
        rintro e w2 ⟨rfl,H⟩
        have N:Below E.heap.size E w2:=f.trans (H.mono f.size)
        have I:=zdE j H
        clear H j
        go_wp2_with fail
        refine (zbW ⟨p.toArray⟩ _ (by rw [zaF];omega)).mono ?_
        rw [zaM,B.out]
        rintro e O ⟨rfl,d⟩
        have q:Below E.heap.size E O:=N.trans (d.mono N.size)
        clear d
        go_wp2
        go_ret2
        exact zdK U.out (Nums.nil _ _ _ _) (G.trans (q.mono G.size))
     |false=>
      have A:Hid (¬(false=true∧(zcA s.data.toList).drop (k+1)=[]∧(zbN p).2=true)):=by
       show ¬_
       rintro ⟨h1,h2,h3⟩
       first|exact qe.out h2|exact absurd h1 (by decide)|(rw [M.out] at h3;exact absurd (show false=true from h3) (by decide))
      cases b with
      |true=>
       have D:=K.out
       rw [zjW A.out B.out] at D
       have S:=ynL D
       clear D
       go_wp2_with fail
       refine (zbW ⟨p.toArray⟩ _ (by rw [zaF];omega)).mono ?_
       rw [zaM,B.out]
       rintro e O ⟨rfl,d⟩
       have q:Below E.heap.size E O:=f.trans (d.mono f.size)
       have C:=zdE j d
       have J:=q.size
       clear d j
       go_wp2_with (at_builtin;refine zdI _ rfl _ _ 224 rfl E.heap.size 88 i0 (.int .u16 0) 2 Tryz.underlying224 hi Y qa qc rfl _ _ _ rfl C (.int .u16 x) rfl rfl (by omega) (by omega) J ?_;intro v' w4 o L)
       go_roundw
       case rel=>exact ⟨k+1,T++[x],by omega,by go_num,(by rw [List.map_append];exact o),(by show (T++[x]).length=k+1;rw [List.length_append,V.out];rfl),S,q.trans L⟩
       case measure=>simp [intOf];omega
      |false=>
       have U:=ynL (K.out.symm.trans (zrT A.out B.out))
       go_wp2_with fail
       refine (zbW ⟨p.toArray⟩ _ (by rw [zaF];omega)).mono ?_
       rw [zaM,B.out]
       rintro e O ⟨rfl,d⟩
       have q:Below E.heap.size E O:=f.trans (d.mono f.size)
       clear d
       go_wp2
       go_ret2
       exact zdK U.out (Nums.nil _ _ _ _) (G.trans (q.mono G.size))
    ·have qp:((k:Int)==(m:Int) - 1)=false:=by rw [beq_eq_false_iff_ne];omega
     have qe:=ynL (z4N (k+1) (zcA s.data.toList) (by rw [HM.out];omega))
     clear qd
     cases last with
     |true=>
      have A:Hid (¬(true=true∧(zcA s.data.toList).drop (k+1)=[]∧(zbN p).2=true)):=by
       show ¬_
       rintro ⟨h1,h2,h3⟩
       first|exact qe.out h2|exact absurd h1 (by decide)|(rw [M.out] at h3;exact absurd (show false=true from h3) (by decide))
      cases b with
      |true=>
       have D:=K.out
       rw [zjW A.out B.out] at D
       have S:=ynL D
       clear D
       go_wp2_with fail
       refine (zbW ⟨p.toArray⟩ _ (by rw [zaF];omega)).mono ?_
       rw [zaM,B.out]
       rintro e O ⟨rfl,d⟩
       have q:Below E.heap.size E O:=f.trans (d.mono f.size)
       have C:=zdE j d
       have J:=q.size
       clear d j
       go_wp2_with (at_builtin;refine zdI _ rfl _ _ 224 rfl E.heap.size 88 i0 (.int .u16 0) 2 Tryz.underlying224 hi Y qa qc rfl _ _ _ rfl C (.int .u16 x) rfl rfl (by omega) (by omega) J ?_;intro v' w4 o L)
       go_roundw
       case rel=>exact ⟨k+1,T++[x],by omega,by go_num,(by rw [List.map_append];exact o),(by show (T++[x]).length=k+1;rw [List.length_append,V.out];rfl),S,q.trans L⟩
       case measure=>simp [intOf];omega
      |false=>
       have U:=ynL (K.out.symm.trans (zrT A.out B.out))
       go_wp2_with fail
       refine (zbW ⟨p.toArray⟩ _ (by rw [zaF];omega)).mono ?_
       rw [zaM,B.out]
       rintro e O ⟨rfl,d⟩
       have q:Below E.heap.size E O:=f.trans (d.mono f.size)
       clear d
       go_wp2
       go_ret2
       exact zdK U.out (Nums.nil _ _ _ _) (G.trans (q.mono G.size))
     |false=>
      have A:Hid (¬(false=true∧(zcA s.data.toList).drop (k+1)=[]∧(zbN p).2=true)):=by
       show ¬_
       rintro ⟨h1,h2,h3⟩
       first|exact qe.out h2|exact absurd h1 (by decide)|(rw [M.out] at h3;exact absurd (show false=true from h3) (by decide))
      cases b with
      |true=>
       have D:=K.out
       rw [zjW A.out B.out] at D
       have S:=ynL D
       clear D
       go_wp2_with fail
       refine (zbW ⟨p.toArray⟩ _ (by rw [zaF];omega)).mono ?_
       rw [zaM,B.out]
       rintro e O ⟨rfl,d⟩
       have q:Below E.heap.size E O:=f.trans (d.mono f.size)
       have C:=zdE j d
       have J:=q.size
       clear d j
       go_wp2_with (at_builtin;refine zdI _ rfl _ _ 224 rfl E.heap.size 88 i0 (.int .u16 0) 2 Tryz.underlying224 hi Y qa qc rfl _ _ _ rfl C (.int .u16 x) rfl rfl (by omega) (by omega) J ?_;intro v' w4 o L)
       go_roundw
       case rel=>exact ⟨k+1,T++[x],by omega,by go_num,(by rw [List.map_append];exact o),(by show (T++[x]).length=k+1;rw [List.length_append,V.out];rfl),S,q.trans L⟩
       case measure=>simp [intOf];omega
      |false=>
       have U:=ynL (K.out.symm.trans (zrT A.out B.out))
       go_wp2_with fail
       refine (zbW ⟨p.toArray⟩ _ (by rw [zaF];omega)).mono ?_
       rw [zaM,B.out]
       rintro e O ⟨rfl,d⟩
       have q:Below E.heap.size E O:=f.trans (d.mono f.size)
       clear d
       go_wp2
       go_ret2
       exact zdK U.out (Nums.nil _ _ _ _) (G.trans (q.mono G.size))
   ·obtain rfl:k=m:=by omega
    have X:=HG.out
    rw [zuQ k _ (by rw [HM.out];omega),ydY] at X
    have U:=ynL X.symm
    clear X
    go_wp2
    go_ret2
    exact zdK U.out (Nums.mono (show Nums _ _ _ _ _ _ from by unfold Nums;rw [V.out];exact j) G.size) (G.trans (f.mono G.size))
theorem z2N (w:World) (d:Array Value) (t:TypeId) (j:Nat):(w.alloc (.cells d t)).frozen? ⟨w.heap.size,j,none⟩=false:=by
 have h:=heap_alloc_new w (.cells d t)
 simp only [World.frozen?,h]
 simp
def hiP (o:Nat) (l:List Int):Nat→Int
 |0=>0
 |k+1=>hiP o l k*65536+l.getD (o+k) 0
theorem hiP_hi (l:List Int):hiP 0 l 4=hi4 l:=by simp [hiP,hi4]
theorem hiP_lo (l:List Int):hiP 4 l 4=lo4 l:=by simp [hiP,lo4]
theorem zqF {l:List Int} (h:In16 l) (o k:Nat) (f:k≤3):0≤hiP o l k∧hiP o l k≤281474976710655:=by
 have e:=h.getD o
 have d:=h.getD (o+1)
 have g:=h.getD (o+2)
 rcases (show k=0∨k=1∨k=2∨k=3 from by omega) with rfl|rfl|rfl|rfl<;>simp only [hiP,Nat.add_zero]<;>omega
theorem zpG (x y:Int) (e:0≤x) (j:x≤281474976710655) (d:0≤y) (g:y≤65535):bits .or .u64 (x*65536) y=x*65536+y:=
 bits_join .u64 64 (by decide) (fun n i f=>by rw [IntKind.wrap_u64];omega) 16 (x*65536) y (by omega) (by omega) (by omega) d (by omega) (by omega)
abbrev zzK:List Value:=[.int .u16 0,.int .u16 0,.int .u16 0,.int .u16 0,.int .u16 0,.int .u16 0,.int .u16 0,.int .u16 0]
theorem ymW (l:List Int) (j:Nat) (d:j<8):(splice zzK 0 ((l.map (Value.int .u16)).take 8))[j]? =some (.int .u16 (l.getD j 0)):=by
 unfold splice
 simp only [List.take_zero,List.nil_append,Nat.zero_add,List.length_take,List.length_map]
 by_cases h:j<l.length
 ·rw [List.getElem?_append_left (by simp;omega),List.getElem?_take,if_pos d,List.getElem?_map,List.getElem?_eq_getElem h,List.getD,List.getElem?_eq_getElem h]
  rfl
 ·rw [List.getElem?_append_right (by simp;omega),List.getElem?_drop,List.getD,List.getElem?_eq_none (by omega:l.length≤j)]
  simp only [List.length_take,List.length_map]
  rw [show min 8 l.length+(j - min 8 l.length)=j from by omega]
  rcases (show j=0∨j=1∨j=2∨j=3∨j=4∨j=5∨j=6∨j=7 from by omega) with rfl|rfl|rfl|rfl|rfl|rfl|rfl|rfl<;>rfl
theorem zsF (v:Value) (l:List Int) (w:World) (hr:RowR w v (l.map (Value.int .u16))) (qa:In16 l) (qG:l.length≤1073741824):
  Calls Tryz.prog 230 #[v] w fun e w'=>e= .returned (.agg #[.int .u64 (hi4 l),.int .u64 (lo4 l)])∧Below w.heap.size w w':=by
 obtain ⟨ao,c,rfl,qg⟩:=hr
 rw [List.length_map]
 have V:=ynL qg
 have C:=ynL qa
 clear qg qa
 have hU:(Tryz.prog.info? 88).map (·.size)=some 1:=by
  obtain ⟨i0,hi,qJ,qr,qN⟩:=info_parts Tryz.infoU16
  rw [hi];simp [qr]
 have B:(w.alloc (.cells #[.int .u64 0,.int .u64 0] 173)).heap.size=w.heap.size+1:=by simp
 have B:(w.alloc (.cells #[.int .u64 0,.int .u64 0] 173)).heap.size=w.heap.size+1:=by simp
 have qc:Below (w.heap.size+1) (w.alloc (.cells #[.int .u64 0,.int .u64 0] 173)) ((w.alloc (.cells #[.int .u64 0,.int .u64 0] 173)).alloc (.cells #[.int .u16 0,.int .u16 0,.int .u16 0,.int .u16 0,.int .u16 0,.int .u16 0,.int .u16 0,.int .u16 0] 219)):=(ynQ _ _).alloc (by rw [B];exact ynM _) _
 have S:Hid (0<((l.map (Value.int .u16)).take 8).length→(some (⟨w.heap.size+1,0,none⟩:Addr))=some ⟨w.heap.size+1,0,none⟩∧ ∃ad,ao=some ad∧ ∀j v,((l.map (Value.int .u16)).take 8)[j]? =some v→((w.alloc (.cells #[.int .u64 0,.int .u64 0] 173)).alloc (.cells #[.int .u16 0,.int .u16 0,.int .u16 0,.int .u16 0,.int .u16 0,.int .u16 0,.int .u16 0,.int .u16 0] 219)).cell? (ad.add j)=some v):=fun hp=>by
  have hl:0<l.length:=by simp at hp;omega
  obtain ⟨ad,Y,_⟩:=V.out 0 (.int .u16 l[0]) (by simp [hl])
  refine ⟨rfl,ad,Y,fun j v N=> ?_⟩
  rw [List.getElem?_take] at N
  split at N
  ·obtain ⟨qL,Z,qb⟩:=V.out j v N
   rw [Y] at Z
   cases Z
   exact ((((ynQ _ w).alloc (ynM _) _).alloc (by simp) _).cell (World.block_lt_of_cell? w _ qb)).trans qb
  ·cases N
 have M:0+((l.map (Value.int .u16)).take 8).length≤zzK.length:=by simp [zzK];omega
 have Q: ∀v∈(l.map (Value.int .u16)).take 8,v.oneCell'=true:=by
  intro v hv
  obtain ⟨x,_,rfl⟩:=List.mem_map.1 (List.mem_of_mem_take hv)
  rfl
 have qf:((l.map (Value.int .u16)).take 8).length=Nat.min l.length 8:=by
  rw [List.length_take,List.length_map];exact Nat.min_comm _ _
 have U:=ynL Q
 have qd:=ynL qf
 clear Q qf B
 go_enter Tryz.func230,Tryz.ntmps230
 go_wp2_with (refine wpList_copy_splice (o:=⟨some 8,_,_,_,_,_⟩) rfl (.tmp 6) (.tmp 7) 224 224 rfl 88 Tryz.underlying224 hU (some ⟨w.heap.size+1,0,none⟩) ao 8 8 l.length c rfl rfl (w.heap.size+1) 0 zzK 219 (by rw [show w.heap.size+1=(w.alloc (.cells #[.int .u64 0,.int .u64 0] 173)).heap.size from by simp];exact heap_alloc_new _ _) ((l.map (Value.int .u16)).take 8) qd.out S.out M U.out (w.heap.size+1) _ qc (by omega) ?_;intro d HB I)
 have T:w.heap.size+1<d.heap.size:=(Array.getElem?_eq_some_iff.1 HB.out).1
 have O:Hid (∀j,j<8→d.cell? ⟨w.heap.size+1,j,none⟩=some (.int .u16 (l.getD j 0))):=fun j N=>by
  rw [cell_of_row d _ j _ _ _ HB.out]
  have:=ymW l j N
  simpa using this
 have A: ∀j u,(#[Value.int .u64 0,Value.int .u64 0]:Array Value)[j]? =some u→d.cell? ⟨w.heap.size,j,none⟩=some u:=fun j u N=>by
  rw [I.cell (p:=⟨w.heap.size,j,none⟩) (by show w.heap.size<w.heap.size+1;omega),cell_of_row _ _ j _ _ _ (heap_alloc_new w _)]
  exact N
 have g: ∀j,d.frozen? ⟨w.heap.size,j,none⟩=false:=fun j=>by
  rw [I.frozen (p:=⟨w.heap.size,j,none⟩) (by show w.heap.size<w.heap.size+1;omega)]
  exact z2N w _ _ j
 have q:=ynL (And.intro (A 0 _ rfl) (And.intro (A 1 _ rfl) (And.intro (g 0) (g 1))))
 have qh:Below w.heap.size w d:=((ynQ _ w).alloc (ynM _) _).trans (I.mono (by omega))
 clear A g I qc M S U qd V hU
 have qz:=ynL (heap_alloc_new d (.cells #[.int .u64 0,.int .u64 0] 173))
 have qp:Below d.heap.size d (d.alloc (.cells #[.int .u64 0,.int .u64 0] 173)):=(ynQ _ d).alloc (ynM _) _
 go_loopw [9] (fun i wr=> ∃k:Nat,k≤4∧i= .int .i64 k∧Hid (wr.heap[d.heap.size]? =some (.cells #[.int .u64 (hiP 0 l k),.int .u64 (hiP 4 l k)] 173 (0,0)))∧Below d.heap.size d wr) (fun i _=>4 - (intOf i).toNat)
 case atStart=>exact ⟨0,by omega,rfl,qz,qp⟩
 case round=>
  obtain ⟨k,hk,rfl,X,f⟩:=hrel
  by_cases qK:k<4
  ·have qE:=zqF C.out 0 k (by omega)
   have qx:=zqF C.out 4 k (by omega)
   have qm:=C.out.getD (0+k)
   have qj:=C.out.getD (4+k)
   have D:wr.cell? ⟨w.heap.size+1,0+k,none⟩=some (.int .u16 (l.getD (0+k) 0)):=(f.cell (p:=⟨w.heap.size+1,0+k,none⟩) T).trans (O.out (0+k) (by omega))
   have G:wr.cell? ⟨w.heap.size+1,4+k,none⟩=some (.int .u16 (l.getD (4+k) 0)):=(f.cell (p:=⟨w.heap.size+1,4+k,none⟩) T).trans (O.out (4+k) (by omega))
   have E:Hid (hiP 0 l (k+1)=hiP 0 l k*65536+l.getD (0+k) 0):=rfl
   have K:Hid (hiP 4 l (k+1)=hiP 4 l k*65536+l.getD (4+k) 0):=rfl
   generalize hiP 0 l k=H at*
   generalize hiP 4 l k=L at*
   generalize l.getD (0+k) 0=x at*
   generalize l.getD (4+k) 0=y at*
   obtain ⟨qs,qo⟩:=qE
   obtain ⟨qB,qn⟩:=qx
   obtain ⟨qk,qC⟩:=qm
   obtain ⟨qq,qA⟩:=qj
   have qI:=zpG H x qs qo qk qC
   have qH:=zpG L y qB qn qq qA
   have qw:wr.cell? ⟨d.heap.size,0,none⟩=some (.int .u64 H):=by rw [cell_of_row wr _ 0 _ _ _ X.out];rfl
   have qF:wr.cell? ⟨d.heap.size,1,none⟩=some (.int .u64 L):=by rw [cell_of_row wr _ 1 _ _ _ X.out];rfl
   have qy:wr.frozen? ⟨d.heap.size,0,none⟩=false:=by simp [World.frozen?,X.out]
   have ql:wr.frozen? ⟨d.heap.size,1,none⟩=false:=by simp [World.frozen?,X.out]
   have qM:w.heap.size+1≠d.heap.size:=by omega
   have J:Hid (((wr.setCell ⟨d.heap.size,0,none⟩ (.int .u64 (H*65536+x))).setCell ⟨d.heap.size,1,none⟩ (.int .u64 (L*65536+y))).heap[d.heap.size]? =some (.cells #[.int .u64 (H*65536+x),.int .u64 (L*65536+y)] 173 (0,0))):=by
    show _=_
    simp [World.setCell,Array.getElem?_modify,X.out]
   have m:Below d.heap.size d ((wr.setCell ⟨d.heap.size,0,none⟩ (.int .u64 (H*65536+x))).setCell ⟨d.heap.size,1,none⟩ (.int .u64 (L*65536+y))):=(f.setCell (ynM _) _).setCell (ynM _) _
   rcases (show k=0∨k=1∨k=2∨k=3 from by omega) with rfl|rfl|rfl|rfl
   ·rw [show 0+0=0 from rfl] at D
    rw [show 4+0=4 from rfl] at G
    rw [show ((0:Nat):Int)=0 from rfl]
    go_wp2
    go_region
    go_wp2
    go_region
    go_wp2
    go_roundw
    case rel=>exact ⟨1,by omega,(by first|rfl|go_num),(by show _=_;rw [E.out,K.out];exact J.out),(m.drew).drew⟩
    case measure=>first|(simp [intOf];done)|(simp [intOf];omega)
   ·rw [show 0+1=1 from rfl] at D
    rw [show 4+1=5 from rfl] at G
    rw [show ((1:Nat):Int)=1 from rfl]
    go_wp2
    go_region
    go_wp2
    go_region
    go_wp2
    go_roundw
    case rel=>exact ⟨2,by omega,(by first|rfl|go_num),(by show _=_;rw [E.out,K.out];exact J.out),(m.drew).drew⟩
    case measure=>first|(simp [intOf];done)|(simp [intOf];omega)
   ·rw [show 0+2=2 from rfl] at D
    rw [show 4+2=6 from rfl] at G
    rw [show ((2:Nat):Int)=2 from rfl]
    go_wp2
    go_region
    go_wp2
    go_region
    go_wp2
    go_roundw
    case rel=>exact ⟨3,by omega,(by first|rfl|go_num),(by show _=_;rw [E.out,K.out];exact J.out),(m.drew).drew⟩
    case measure=>first|(simp [intOf];done)|(simp [intOf];omega)
   ·rw [show 0+3=3 from rfl] at D
    rw [show 4+3=7 from rfl] at G
    rw [show ((3:Nat):Int)=3 from rfl]
    go_wp2
    go_region
    go_wp2
    go_region
    go_wp2
    go_roundw
    case rel=>exact ⟨4,by omega,(by first|rfl|go_num),(by show _=_;rw [E.out,K.out];exact J.out),(m.drew).drew⟩
    case measure=>first|(simp [intOf];done)|(simp [intOf];omega)
  ·obtain rfl:k=4:=by omega
   rw [show ((4:Nat):Int)=4 from rfl]
   have Y:=X.out
   rw [hiP_hi,hiP_lo] at Y
   have qi:=ynL Y
   clear Y
   have qw:wr.cell? ⟨d.heap.size,0,none⟩=some (.int .u64 (hi4 l)):=by rw [cell_of_row wr _ 0 _ _ _ qi.out];rfl
   have qF:wr.cell? ⟨d.heap.size,1,none⟩=some (.int .u64 (lo4 l)):=by rw [cell_of_row wr _ 1 _ _ _ qi.out];rfl
   have qv:wr.cell? ⟨w.heap.size,0,none⟩=some (.int .u64 0):=(f.cell (p:=⟨w.heap.size,0,none⟩) (by show w.heap.size<_;omega)).trans q.out.1
   have qD:wr.cell? ⟨w.heap.size,1,none⟩=some (.int .u64 0):=(f.cell (p:=⟨w.heap.size,1,none⟩) (by show w.heap.size<_;omega)).trans q.out.2.1
   have qy:wr.frozen? ⟨w.heap.size,0,none⟩=false:=(f.frozen (p:=⟨w.heap.size,0,none⟩) (by show w.heap.size<_;omega)).trans q.out.2.2.1
   have ql:wr.frozen? ⟨w.heap.size,1,none⟩=false:=(f.frozen (p:=⟨w.heap.size,1,none⟩) (by show w.heap.size<_;omega)).trans q.out.2.2.2
   have qe:Below w.heap.size w ((wr.setCell ⟨w.heap.size,0,none⟩ (.int .u64 (hi4 l))).setCell ⟨w.heap.size,1,none⟩ (.int .u64 (lo4 l))):=((qh.trans (f.mono (by omega))).setCell (ynM _) _).setCell (ynM _) _
   go_wp2
   exact bodyPost_ret (v:= .agg #[.int .u64 (hi4 l),.int .u64 (lo4 l)]) (by simp [results,Tryz.results230,go_sem,qv,qD]) rfl ⟨rfl,qe⟩
theorem zeC (k:IntKind) (n:Nat):Builtin.zeroCells (Value.int k 0).cells n=(List.replicate n (Value.int k 0)).toArray:=by
 unfold Builtin.zeroCells
 have e:(Value.int k 0).cells= #[.int k 0]:=rfl
 rw [e]
 apply Array.ext'
 simp only [Array.toList_map]
 apply List.ext_getElem
 ·simp
 ·intro i d f
  simp [Nat.mod_one]
theorem ztX (w:World) (base:Nat) (e:TypeId) (i:IntKind) (n k d:Nat) (xs:List Value) (g:xs.length=n) (m:n+k≤maxLen) (f:base≤w.heap.size):
  (w.drew.alloc (.cells (xs.toArray++Builtin.zeroCells (Value.int i 0).cells k++Builtin.zeroCells (Value.int i 0).cells (grownCap w (n+k) d e - (n+k))) e)).ownsRow base e 1
   (.slice (some ⟨w.heap.size,0,none⟩) (n+k) (grownCap w (n+k) d e)) (n+k) (xs++List.replicate k (.int i 0)):=by
 have o:=grownCap_ge w (n+k) d e
 have j:=grownCap_le_maxLen w (n+k) d e m
 refine ⟨by rw [List.length_append,List.length_replicate,g,Nat.mul_one],.inr ⟨w.heap.size,_,_,rfl,f,heap_alloc_new w.drew _,o,j,?_,?_⟩⟩
 ·simp only [Array.size_append,List.size_toArray,zeC,List.length_replicate,g];omega
 ·rw [zeC,zeC]
  simp only [Array.toList_append,Nat.mul_one]
  rw [show n+k=(xs++List.replicate k (Value.int i 0)).length from by rw [List.length_append,List.length_replicate,g]]
  exact List.take_left
theorem ziI {P:Program} (w:World) (base:Nat) (t U Y e:TypeId) (i:TypeInfo) (C kn Z:IntKind) (A:Nat) (ht:P.underlying t=some (.slice e)) (H:P.underlying U=some (.int kn)) (hi:P.info? e=some i)
  (hz:i.zero=some (.int C 0)) (D:i.size=1) (qd:i.bytes=A) (v:Value) (n:Nat) (xs:List Value) (B:w.ownsRow base e 1 v n xs) (k:Nat) (h0:0<k)
  (I:n+k≤maxLen) (E:(n+k)*A≤140737488355328) (f:base≤w.heap.size):
  ∃v' w',(Builtin.append_ #[t,U] Y #[v,.int Z k]).run P w= .ok v' w'∧w'.ownsRow base e 1 v' (n+k) (xs++List.replicate k (.int C 0))∧Below base w w'∧w.grownBy w' v.ownBlock:=by
 subst qd
 have X:n+k≤9223372036854775807:=by simp only [maxLen] at I;omega
 have G:xs.length=n:=by have:=B.1;omega
 have Q:k*i.bytes≤281474976710656:=by
  have:k*i.bytes≤(n+k)*i.bytes:=Nat.mul_le_mul_right _ (by omega)
  omega
 rcases B.2 with ⟨rfl,rfl⟩|⟨g,d,m,rfl,S,hg,qe,qc,qa,o⟩
 ·have hx:xs=[]:=List.eq_nil_of_length_eq_zero G
  subst hx
  have hr:=Lib.run_append_nil_zeros (P:=P) w t U Y e i (.int C 0) Z kn ht H hi hz k h0 (by omega) (by omega) Q
  have ho:=ztX w base e C 0 k 0 [] rfl I f
  simp only [Nat.zero_add,Array.empty_append] at ho ⊢
  exact ⟨_,_,hr,ho,(ynQ _ _).drew.alloc f _,⟨rfl,rfl,rfl,by simp,fun j N _=>Below.heap_alloc w.drew _ j N⟩⟩
 ·by_cases q:n+k≤d
  ·have M:n+(List.replicate k (Value.int C 0)).length≤m.size:=by rw [List.length_replicate,qa];omega
   have J:=run_storeCells_at P g (n*1) e (List.replicate k (Value.int C 0)) 0 m w hg (by simpa using M) (fun u hu=>by rw [(List.mem_replicate.1 hu).2];rfl)
   simp only [Nat.add_zero] at J
   have hw:IntKind.i64.wrap (k:Int)=k:=by rw [IntKind.wrap_i64];omega
   have T: ¬(281474976710656<(k:Int)*(i.bytes:Int)):=by
    rw [←Int.natCast_mul]
    omega
   have V: ¬((k:Int)<0):=by omega
   have qb: ¬(k=0):=by omega
   have L:(Builtin.append_ #[t,U] Y #[.slice (some ⟨g,0,none⟩) n d,.int Z k]).run P w= .ok (.slice (some ⟨g,0,none⟩) (n+k) d) (w.setRow g (m.toList.take (n*1)++List.replicate k (Value.int C 0)++m.toList.drop (n*1+(List.replicate k (Value.int C 0)).length)).toArray):=by
    simp only [Nat.mul_one] at J ⊢
    simp [Builtin.append_,run_underlying ht,run_underlying H,sizeOf,typeInfo,zeroValue,hi,hz,D,asInt,asIntOf,hw,V,qb,T,q,Addr.add_lit,zeC]
    simpa using congrArg (fun r=>Result.andThen r fun _ w'=>Result.ok (Value.slice (some ⟨g,0,none⟩) (n+k) d) w') J
   refine ⟨_,_,L,⟨by rw [List.length_append,List.length_replicate,G,Nat.mul_one],.inr ⟨g,d,_,rfl,S,setRow_heap w g m _ e _ hg,q,qc,?_,?_⟩⟩,below_setRow (ynQ _ _) S _,⟨rfl,rfl,rfl,by simp,fun j _ N=>setRow_other w g j _ (fun e=>N (by simp [Value.ownBlock,e]))⟩⟩
   ·simp only [List.size_toArray,List.length_append,List.length_take,List.length_drop,Array.length_toList,List.length_replicate]
    omega
   ·simp only [Nat.mul_one] at o ⊢
    rw [o,show n+k=(xs++List.replicate k (Value.int C 0)).length from by rw [List.length_append,List.length_replicate,G]]
    exact List.take_left
  ·have K: ∀j u,xs[j]? =some u→w.cell? ((⟨g,0,none⟩:Addr).add j)=some u:=B.cells (g:=g) rfl
   have O:(Builtin.firstCells i.size n (.slice (some ⟨g,0,none⟩) n d)).run P w.drew= .ok xs.toArray w.drew:=run_firstCells_some w.drew i.size n ⟨g,0,none⟩ n d xs (by rw [D];omega) (by simpa using K)
   have hr:=Lib.run_append_grow_zeros (P:=P) w t U Y e i (.int C 0) Z kn ht H hi hz (some ⟨g,0,none⟩) n d xs O k h0 (by omega) (by omega) (by omega) Q (growslice_fits (by omega) E)
   exact ⟨_,_,hr,ztX w base e C n k d xs G I f,(ynQ _ _).drew.alloc f _,⟨rfl,rfl,rfl,by simp,fun j N _=>Below.heap_alloc w.drew _ j N⟩⟩
theorem znG {P:Program} (w:World) {A:Array Oper} {g:List Oper} {o:Oper} {a:Act} {Q:Exit→Act→World→Prop} (I:o.guard=none) (s x:Operand) (t C:TypeId)
  (L:o.op= .call {callee:= .builtin .append,args:= #[s,x],argTypes:= #[t,C]})
  (base:Nat) (e:TypeId) (i:TypeInfo) (G J K:IntKind) (d:Nat) (V:P.underlying t=some (.slice e)) (D:P.underlying C=some (.int J)) (hi:P.info? e=some i) (X:i.zero=some (.int G 0)) (m:i.size=1) (H:i.bytes=d)
  (v:Value) (n:Nat) (xs:List Value) (O:a.eval s=v) (q:w.ownsRow base e 1 v n xs) (k:Nat) (N:a.eval x= .int K k) (T:0<k)
  (E:n+k≤maxLen) (f:(n+k)*d≤140737488355328) (j:base≤w.heap.size)
  (h: ∀B w',w'.ownsRow base e 1 B (n+k) (xs++List.replicate k (.int G 0))→Below base w w'→w.grownBy w' v.ownBlock→wpList P A Q g (a.put o.dst B) w'):wpList P A Q (o::g) a w:=by
 obtain ⟨B,w',Y,M,S,U⟩:=ziI (P:=P) w base t C o.type e i G J K d V D hi X m H v n xs q k T E f j
 exact Lib.wpList_append_run w I s x t C L _ _ O N B w' Y (h B w' M S U)
theorem zrU {P:Program} (w:World) {J:Array Oper} {B:List Oper} {o:Oper} {a:Act} {Q:Exit→Act→World→Prop} (L:o.guard=none) (s x:Operand) (t:TypeId)
  (X:o.op= .call {callee:= .builtin .append,args:= #[s,x],argTypes:= #[t,t]})
  (base:Nat) (e:TypeId) (i:TypeInfo) (z:Value) (d:Nat) (T:P.underlying t=some (.slice e)) (hi:P.info? e=some i) (hz:i.zero=some z)
  (D:i.size=1) (V:i.bytes=d) (U:z.cells.size=1)
  (v:Value) (n:Nat) (xs:List Value) (Y:a.eval s=v) (f:w.ownsRow base e 1 v n xs) (Z:Value) (q:List Value) (M:a.eval x=Z) (K:RowR w Z q) (h1: ∀u∈q,u.oneCell'=true)
  (qf:0<n) (S:n+q.length≤maxLen) (A:(n+q.length)*d≤140737488355328) (m:base≤w.heap.size)
  (h: ∀N w',w'.ownsRow base e 1 N (n+q.length) (xs++q)→Below base w w'→wpList P J Q B (a.put o.dst N) w'):wpList P J Q (o::B) a w:=by
 obtain ⟨ao,c,rfl,hc⟩:=K
 cases q with
 |nil=>
  rcases f.2 with ⟨_,h0⟩|⟨g,H,qa,rfl,qd,hg,I,qe,qb,O⟩
  ·omega
  ·have G:(Builtin.append_ #[t,t] o.type #[.slice (some ⟨g,0,none⟩) n H,.slice ao ([]:List Value).length c]).run P w= .ok (.slice (some ⟨g,0,none⟩) n H) w:=by
    cases ao with
    |none=>simp [Builtin.append_,run_underlying T,sizeOf,typeInfo,hi,Builtin.lenOf,Builtin.firstCells,I,Addr.add_lit,storeCells]
    |some ad=>simp [Builtin.append_,run_underlying T,sizeOf,typeInfo,hi,Builtin.lenOf,Builtin.firstCells,loadCells,loadCellsFrom,I,Addr.add_lit,storeCells]
   refine Lib.wpList_append_run w L s x t t X _ _ Y M _ _ G (h _ _ ?_ (ynQ _ _))
   simpa using f
 |cons y q=>
  obtain ⟨ad,rfl,_⟩:=hc 0 y rfl
  refine wpList_append_own w L s x t X base e i z 1 d T hi hz D V U (by decide) v n xs Y f ad (y::q).length c (y::q) M (by rw [Nat.mul_one]) (fun j u hj=> ?_) h1 S A m ?_
  ·obtain ⟨qc,ha,M⟩:=hc j u hj
   cases ha
   exact M
  ·intro N w1 C E _
   exact h N w1 C ((ynQ base w).grown E m (fun k hk=>(f.lt k hk).1))
def MaxVar (w:World):Prop:= ∃m,w.cell? ⟨0,0,none⟩=some (.int .i64 m)
theorem zaD {w w':World} (h:MaxVar w) (e:Below w.heap.size w w'):MaxVar w':=by
 obtain ⟨m,d⟩:=h
 exact ⟨m,(e.cell (World.block_lt_of_cell? w _ d)).trans d⟩
def ztQ (w:World) (x:(Int×Int)×Bool) (e:Ending) (w':World):Prop:=e= .returned (.tuple #[.agg #[.int .u64 x.1.1,.int .u64 x.1.2],.bool x.2])∧Below w.heap.size w w'
theorem zhQ {w w':World} {l:List UInt8} (h:sixL l=([],false)) (d:Below w.heap.size w w'):ztQ w (sixZ l) (.returned (.tuple #[.agg #[.int .u64 0,.int .u64 0],.bool false])) w':=by
 unfold sixZ;rw [h];exact ⟨rfl,d⟩
theorem zpZ {w w':World} {l:List UInt8} {T:List Int} (h:sixL l=(T,true)) (d:Below w.heap.size w w'):ztQ w (sixZ l) (.returned (.tuple #[.agg #[.int .u64 (hi4 T),.int .u64 (lo4 T)],.bool true])) w':=by
 unfold sixZ;rw [h];exact ⟨rfl,d⟩
theorem zuR {l:List UInt8} {T:List Int} {b:Bool} (h:ccAt l=none) (d:rowZ l true=(T,b)):sixL l=if b=true∧T.length=8 then (T,true) else ([],false):=by
 unfold sixL;rw [h];simp only [d]
theorem zsL {l:List UInt8} {k:Nat} {T U:List Int} {b c:Bool} (h:ccAt l=some k) (e:rowZ (l.take k) false=(T,b)) (d:rowZ (l.drop (k+2)) true=(U,c)):
  sixL l=if b=true∧c=true∧T.length+U.length≤7 then (T++List.replicate (8 - (T.length+U.length)) 0++U,true) else ([],false):=by
 unfold sixL;rw [h];simp only [e,d]
theorem zsA (l:List UInt8) (last:Bool):(rowZ l last).1.length≤l.length+3:=by
 unfold rowZ
 split
 ·simp
 ·have d:=ygA last (zcA l) []
  have e:=zcV (hasB [58]) l
  unfold zcA at*
  simp at d
  omega
theorem zvQ (s:ByteArray) (w:World) (hs:s.size≤1073741824) (O:MaxVar w) (J:ccAt s.data.toList=none):
  Calls Tryz.prog 168 #[.string s] w (ztQ w (sixZ s.data.toList)):=by
 obtain ⟨m,hm⟩:=O
 have qe:=World.block_lt_of_cell? w _ hm
 have HM:=ynL hm
 clear hm
 obtain ⟨T,b,X⟩: ∃T b,rowZ s.data.toList true=(T,b):=⟨_,_,rfl⟩
 have V:=ynL (yhA J)
 have K:=ynL (zuR J X)
 have qj:T.length≤1073741827:=by have:=zsA s.data.toList true;rw [X,zaN] at this;simp at this;omega
 have Z:Hid (In16 T):=by show In16 T;have:=zkN s.data.toList true;rw [X] at this;exact this
 have HT:=ynL X
 clear J X
 have qa:Hid ((w.alloc (.cells #[.int .u64 0,.int .u64 0] 173)).cell? ⟨0,0,none⟩=some (.int .i64 m)):=(((ynQ _ w).alloc (ynM _) _).cell qe).trans HM.out
 go_enter Tryz.func168,Tryz.ntmps168
 go_wp2_with fail
 refine (Tryz.strings_Cut s ⟨#[58,58]⟩ m _ (by omega) qa.out).mono ?_
 rw [show (ByteArray.mk #[58,58]).data.toList=[58,58] from rfl,V.out]
 rintro e w1 ⟨rfl,n,rfl⟩
 have H:Below w.heap.size w ((w.alloc (.cells #[.int .u64 0,.int .u64 0] 173)).drewN n):=zcD ((ynQ _ w).alloc (ynM _) _) n
 have I:((w.alloc (.cells #[.int .u64 0,.int .u64 0] 173)).drewN n).heap[w.heap.size]? =some (.cells #[.int .u64 0,.int .u64 0] 173 (0,0)):=heap_alloc_new w _
 have G:w.heap.size<((w.alloc (.cells #[.int .u64 0,.int .u64 0] 173)).drewN n).heap.size:=(Array.getElem?_eq_some_iff.1 I).1
 generalize (w.alloc (.cells #[.int .u64 0,.int .u64 0] 173)).drewN n=x1 at*
 have qg:=ynL I
 clear I
 go_wp2_with fail
 refine (zjE s true _ hs).mono ?_
 rw [HT.out]
 rintro e i ⟨v,rfl,E,A⟩
 have D:=E.row
 have C:=ynL D
 obtain ⟨ao,c,rfl,qb⟩:=D
 rw [List.length_map] at C ⊢
 clear qb E
 have o:Below w.heap.size w i:=H.trans (A.mono H.size)
 have f:w.heap.size<i.heap.size:=ynN G A.size
 have q:Hid (i.heap[w.heap.size]? =some (.cells #[.int .u64 0,.int .u64 0] 173 (0,0))):=(A.block w.heap.size G).trans qg.out
 have B:i.cell? ⟨w.heap.size,0,none⟩=some (.int .u64 0):=by rw [cell_of_row i _ 0 _ _ _ q.out];rfl
 have j:i.cell? ⟨w.heap.size,1,none⟩=some (.int .u64 0):=by rw [cell_of_row i _ 1 _ _ _ q.out];rfl
 have U:i.frozen? ⟨w.heap.size,0,none⟩=false:=by simp [World.frozen?,q.out]
 have M:i.frozen? ⟨w.heap.size,1,none⟩=false:=by simp [World.frozen?,q.out]
 clear A H
 cases b with
 |false=>
  have Q:=ynL (K.out.trans (if_neg (fun h=>by cases h.1)))
  have d:Below w.heap.size w ((i.setCell ⟨w.heap.size,0,none⟩ (.int .u64 0)).setCell ⟨w.heap.size,1,none⟩ (.int .u64 0)):=(o.setCell (ynM _) _).setCell (ynM _) _
  go_wp2
  exact bodyPost_ret (v:= .tuple #[.agg #[.int .u64 0,.int .u64 0],.bool false]) (by simp [results,Tryz.results168,go_sem,B,j]) rfl (zhQ Q.out d)
 |true=>
  by_cases Y:T.length=8
  ·have Q:=ynL (K.out.trans (if_pos ⟨rfl,Y⟩))
   rw [Y]
   have qd:((8:Int) !=8)=false:=by decide
   have qf:Hid (RowR i (.slice ao 8 c) (T.map (Value.int .u16))):=by
    show RowR _ _ _
    have:=C.out;rw [Y] at this;exact this
   go_wp2_with fail
   refine (zsF (.slice ao 8 c) T _ qf.out Z.out (by omega)).mono ?_
   rintro e L ⟨rfl,g⟩
   have qc:Below w.heap.size w L:=o.trans (g.mono o.size)
   have S:L.cell? ⟨w.heap.size,0,none⟩=some (.int .u64 0):=(g.cell (p:=⟨w.heap.size,0,none⟩) f).trans B
   have N:L.cell? ⟨w.heap.size,1,none⟩=some (.int .u64 0):=(g.cell (p:=⟨w.heap.size,1,none⟩) f).trans j
   have qi:L.frozen? ⟨w.heap.size,0,none⟩=false:=(g.frozen (p:=⟨w.heap.size,0,none⟩) f).trans U
   have qh:L.frozen? ⟨w.heap.size,1,none⟩=false:=(g.frozen (p:=⟨w.heap.size,1,none⟩) f).trans M
   clear B j U M g
   have d:Below w.heap.size w ((L.setCell ⟨w.heap.size,0,none⟩ (.int .u64 (hi4 T))).setCell ⟨w.heap.size,1,none⟩ (.int .u64 (lo4 T))):=(qc.setCell (ynM _) _).setCell (ynM _) _
   go_wp2
   exact bodyPost_ret (v:= .tuple #[.agg #[.int .u64 (hi4 T),.int .u64 (lo4 T)],.bool true]) (by simp [results,Tryz.results168,go_sem,S,N]) rfl (zpZ Q.out d)
  ·have Q:=ynL (K.out.trans (if_neg (fun h=>Y h.2)))
   have qd:((T.length:Int) !=8)=true:=by rw [bne_iff_ne];omega
   have d:Below w.heap.size w ((i.setCell ⟨w.heap.size,0,none⟩ (.int .u64 0)).setCell ⟨w.heap.size,1,none⟩ (.int .u64 0)):=(o.setCell (ynM _) _).setCell (ynM _) _
   go_wp2
   exact bodyPost_ret (v:= .tuple #[.agg #[.int .u64 0,.int .u64 0],.bool false]) (by simp [results,Tryz.results168,go_sem,B,j]) rfl (zhQ Q.out d)
theorem zvT (s:ByteArray) (k:Nat) (w:World) (hs:s.size≤1073741824) (qj:MaxVar w) (qb:ccAt s.data.toList=some k):
  Calls Tryz.prog 168 #[.string s] w (ztQ w (sixZ s.data.toList)):=by
 obtain ⟨m,hm⟩:=qj
 have qI:=World.block_lt_of_cell? w _ hm
 have HM:=ynL hm
 clear hm
 obtain ⟨i0,hi,qf,qm,qs⟩:=info_parts Tryz.infoU16
 obtain ⟨p,hp⟩: ∃p,s.data.toList.take k=p:=⟨_,rfl⟩
 obtain ⟨q,hq⟩: ∃q,s.data.toList.drop (k+2)=q:=⟨_,rfl⟩
 have qz:p.length≤1073741824:=by have:=List.length_take_le k s.data.toList;have h2:=List.length_take_le' k s.data.toList;rw [hp,zaN] at h2;omega
 have qD:q.length≤1073741824:=by rw [←hq,List.length_drop,zaN];omega
 obtain ⟨T,b,hT⟩: ∃T b,rowZ p false=(T,b):=⟨_,_,rfl⟩
 obtain ⟨U,d,hU⟩: ∃T b,rowZ q true=(T,b):=⟨_,_,rfl⟩
 have hcut:=ygZ qb
 rw [hp,hq] at hcut
 have qo:=ynL hcut
 have qq:=ynL (zsL (T:=T) (U:=U) (b:=b) (c:=d) qb (by rw [hp,hT]) (by rw [hq,hU]))
 have qR:T.length≤1073741827:=by have:=zsA p false;rw [hT] at this;simp at this;omega
 have qU:U.length≤1073741827:=by have:=zsA q true;rw [hU] at this;simp at this;omega
 have qy:Hid (In16 T):=by show In16 T;have:=zkN p false;rw [hT] at this;exact this
 have qx:Hid (In16 U):=by show In16 U;have:=zkN q true;rw [hU] at this;exact this
 have HT:=ynL hT
 have HU:=ynL hU
 clear qb hT hU hcut hp hq
 have qA:Hid ((w.alloc (.cells #[.int .u64 0,.int .u64 0] 173)).cell? ⟨0,0,none⟩=some (.int .i64 m)):=(((ynQ _ w).alloc (ynM _) _).cell qI).trans HM.out
 go_enter Tryz.func168,Tryz.ntmps168
 go_wp2_with fail
 refine (Tryz.strings_Cut s ⟨#[58,58]⟩ m _ (by omega) qA.out).mono ?_
 rw [show (ByteArray.mk #[58,58]).data.toList=[58,58] from rfl,qo.out]
 rintro e w1 ⟨rfl,n,rfl⟩
 have Z:Below w.heap.size w ((w.alloc (.cells #[.int .u64 0,.int .u64 0] 173)).drewN n):=zcD ((ynQ _ w).alloc (ynM _) _) n
 have qa:((w.alloc (.cells #[.int .u64 0,.int .u64 0] 173)).drewN n).heap[w.heap.size]? =some (.cells #[.int .u64 0,.int .u64 0] 173 (0,0)):=heap_alloc_new w _
 have f:w.heap.size<((w.alloc (.cells #[.int .u64 0,.int .u64 0] 173)).drewN n).heap.size:=(Array.getElem?_eq_some_iff.1 qa).1
 generalize (w.alloc (.cells #[.int .u64 0,.int .u64 0] 173)).drewN n=J at*
 have qK:=ynL qa
 clear qa
 go_wp2_with fail
 refine (zjE ⟨p.toArray⟩ false _ (by rw [zaF];exact qz)).mono ?_
 rw [zaM,HT.out]
 rintro e x2 ⟨v,rfl,S,M⟩
 have I:=ynL S
 clear S
 go_wp2_with fail
 refine (zjE ⟨q.toArray⟩ true _ (by rw [zaF];exact qD)).mono ?_
 rw [zaM,HU.out]
 rintro e B ⟨v2,rfl,A,qe⟩
 have G:=ynL (show B.ownsRow x2.heap.size 88 1 v2 U.length (U.map (Value.int .u16)) from A)
 have qw:=ynL (show B.ownsRow J.heap.size 88 1 v T.length (T.map (Value.int .u16)) from I.out.below qe)
 have qF:=ynL (World.ownsRow.lt (show x2.ownsRow J.heap.size 88 1 v T.length (T.map (Value.int .u16)) from I.out))
 obtain ⟨ao,c,hv,_⟩:=I.out.row
 obtain ⟨K,c2,qr,_⟩:=A.row
 rw [List.length_map] at hv qr
 subst hv qr
 clear A
 have O:Below J.heap.size J B:=M.trans (qe.mono M.size)
 have V:J.heap.size≤B.heap.size:=O.size
 have qi:Below w.heap.size w B:=Z.trans (O.mono Z.size)
 have L:Hid (B.heap[w.heap.size]? =some (.cells #[.int .u64 0,.int .u64 0] 173 (0,0))):=(O.block w.heap.size f).trans qK.out
 have HK:Hid (B.cell? ⟨w.heap.size,0,none⟩=some (.int .u64 0)∧B.cell? ⟨w.heap.size,1,none⟩=some (.int .u64 0)∧B.frozen? ⟨w.heap.size,0,none⟩=false∧B.frozen? ⟨w.heap.size,1,none⟩=false):=
  ⟨by rw [cell_of_row B _ 0 _ _ _ L.out];rfl,by rw [cell_of_row B _ 1 _ _ _ L.out];rfl,by simp [World.frozen?,L.out],by simp [World.frozen?,L.out]⟩
 have qL:=M.size
 clear Z M qe O
 by_cases o:b=true∧d=true∧T.length+U.length≤7
 ·have HF:=ynL (qq.out.trans (if_pos o))
  obtain ⟨rfl,rfl,h7⟩:=o
  obtain ⟨z,hz⟩: ∃z,8 - (T.length+U.length)=z:=⟨_,rfl⟩
  have qJ:0<z:=by omega
  have qS:(8:Int) - (T.length:Int) - (U.length:Int)=(z:Int):=by omega
  have ql:decide ((z:Int)<1)=false:=ynO (by omega)
  rw [hz] at HF
  have qP:T.length+z≤8:=by omega
  clear hz
  have qQ:Hid (T.length+z+U.length=8):=by show _=_;omega
  have qp:(Value.slice K U.length c2).ownBlock=none∨(Value.slice K U.length c2).ownBlock≠(Value.slice ao T.length c).ownBlock:=by
   cases h:(Value.slice K U.length c2).ownBlock with
   |none=>exact .inl rfl
   |some j=>
    refine .inr fun e=> ?_
    have h1:=(World.ownsRow.lt G.out j h).1
    have h2:=(qF.out j e.symm).2
    omega
  have qC:=ynL qp
  clear qp
  go_wp2_with (first
   |(at_builtin;refine znG _ rfl _ _ 224 3 rfl J.heap.size 88 i0 .u16 .i64 .i64 2 Tryz.underlying224 Tryz.underlying3 hi qf qm qs _ _ _ rfl qw.out z rfl qJ (by unfold maxLen;omega) (by omega) V ?_;intro v' x4 H N qG)
   |(at_builtin;refine zrU _ rfl _ _ 224 rfl J.heap.size 88 i0 (.int .u16 0) 2 Tryz.underlying224 hi qf qm qs rfl _ _ _ rfl H _ (U.map (Value.int .u16)) rfl (Nums.row (show Nums 88 .u16 x2.heap.size x4 (.slice K U.length c2) U from World.ownsRow.kept G.out qG qC.out)) (fun u hu=>by obtain ⟨y,_,rfl⟩:=List.mem_map.1 hu;rfl) (by omega) (by rw [List.length_map];unfold maxLen;omega) (by rw [List.length_map];omega) (Nat.le_trans V N.size) ?_;intro v5 x5 g qd)
   |fail)
  have qH:J.heap.size≤x4.heap.size:=Nat.le_trans V N.size
  have Q:Nums 88 .u16 J.heap.size x5 v5 (T++List.replicate z 0++U):=by
   unfold Nums
   rw [List.length_map] at g
   rw [Nat.add_assoc] at g
   simpa [List.map_append,List.map_replicate,List.length_append,List.length_replicate] using g
  have qk:=ynL Q.row
  have qv:=ynL ((qy.out.append (In16.zeros z)).append qx.out)
  have qB:(T++List.replicate z 0++U).length≤1073741824:=by
   simp only [List.length_append,List.length_replicate];omega
  have E:Below J.heap.size B x5:=N.trans qd
  have qg:Below w.heap.size w x5:=qi.trans (E.mono (by omega))
  have C:w.heap.size<x5.heap.size:=ynN f (Nat.le_trans qH qd.size)
  clear Q g H
  generalize T++List.replicate z 0++U=Y at*
  refine (zsF _ Y _ qk.out qv.out qB).mono ?_
  rintro e x6 ⟨rfl,D⟩
  have qE:Below w.heap.size w x6:=qg.trans (D.mono qg.size)
  have qn:x6.cell? ⟨w.heap.size,0,none⟩=some (.int .u64 0):=(D.cell (p:=⟨w.heap.size,0,none⟩) C).trans ((E.cell (p:=⟨w.heap.size,0,none⟩) f).trans HK.out.1)
  have qh:x6.cell? ⟨w.heap.size,1,none⟩=some (.int .u64 0):=(D.cell (p:=⟨w.heap.size,1,none⟩) C).trans ((E.cell (p:=⟨w.heap.size,1,none⟩) f).trans HK.out.2.1)
  have qN:x6.frozen? ⟨w.heap.size,0,none⟩=false:=(D.frozen (p:=⟨w.heap.size,0,none⟩) C).trans ((E.frozen (p:=⟨w.heap.size,0,none⟩) f).trans HK.out.2.2.1)
  have qM:x6.frozen? ⟨w.heap.size,1,none⟩=false:=(D.frozen (p:=⟨w.heap.size,1,none⟩) C).trans ((E.frozen (p:=⟨w.heap.size,1,none⟩) f).trans HK.out.2.2.2)
  clear D N qd
  have i:Below w.heap.size w ((x6.setCell ⟨w.heap.size,0,none⟩ (.int .u64 (hi4 Y))).setCell ⟨w.heap.size,1,none⟩ (.int .u64 (lo4 Y))):=(qE.setCell (ynM _) _).setCell (ynM _) _
  go_wp2
  exact bodyPost_ret (v:= .tuple #[.agg #[.int .u64 (hi4 Y),.int .u64 (lo4 Y)],.bool true]) (by simp [results,Tryz.results168,go_sem,qn,qh]) rfl (zpZ HF.out i)
 ·have HF:=ynL (qq.out.trans (if_neg o))
  obtain ⟨qc,X,qT,qO⟩:=HK.out
  have i:Below w.heap.size w ((B.setCell ⟨w.heap.size,0,none⟩ (.int .u64 0)).setCell ⟨w.heap.size,1,none⟩ (.int .u64 0)):=(qi.setCell (ynM _) _).setCell (ynM _) _
  cases b with
  |false=>
   clear o
   go_wp2
   exact bodyPost_ret (v:= .tuple #[.agg #[.int .u64 0,.int .u64 0],.bool false]) (by simp [results,Tryz.results168,go_sem,qc,X]) rfl (zhQ HF.out i)
  |true=>
   cases d with
   |false=>
    clear o
    go_wp2
    exact bodyPost_ret (v:= .tuple #[.agg #[.int .u64 0,.int .u64 0],.bool false]) (by simp [results,Tryz.results168,go_sem,qc,X]) rfl (zhQ HF.out i)
   |true=>
    have h7:7<T.length+U.length:=by
     rcases Nat.lt_or_ge 7 (T.length+U.length) with h|h
     ·exact h
     ·exact absurd ⟨rfl,rfl,h⟩ o
    have ql:decide ((8:Int) - (T.length:Int) - (U.length:Int)<1)=true:=ynP (by omega)
    clear o
    go_wp2
    exact bodyPost_ret (v:= .tuple #[.agg #[.int .u64 0,.int .u64 0],.bool false]) (by simp [results,Tryz.results168,go_sem,qc,X]) rfl (zhQ HF.out i)
theorem zqD (s:ByteArray) (w:World) (e:s.size≤1073741824) (d:MaxVar w):
  Calls Tryz.prog 168 #[.string s] w (ztQ w (sixZ s.data.toList)):=by
 cases h:ccAt s.data.toList with
 |none=>exact zvQ s w e d h
 |some k=>exact zvT s k w e d h
def pcs (hi lo:Int):List Int:=[hi/281474976710656,hi/4294967296 % 65536,hi/65536 % 65536,hi % 65536,lo/281474976710656,lo/4294967296 % 65536,lo/65536 % 65536,lo % 65536]
theorem ydS {hi lo:Int} (i:0≤hi) (f:hi≤18446744073709551615) (e:0≤lo) (g:lo≤18446744073709551615):In16 (pcs hi lo):=by
 intro x d
 simp only [pcs,List.mem_cons,List.not_mem_nil,or_false] at d
 rcases d with rfl|rfl|rfl|rfl|rfl|rfl|rfl|rfl<;>omega
theorem ylW {hi lo:Int}:hi4 (pcs hi lo)=hi:=by
 simp only [hi4,pcs,List.getD_cons_zero,List.getD_cons_succ];omega
theorem ylG {hi lo:Int}:lo4 (pcs hi lo)=lo:=by
 simp only [lo4,pcs,List.getD_cons_zero,List.getD_cons_succ];omega
theorem zeW (x:Int):IntKind.u16.wrap x=x % 65536:=by rw [IntKind.wrap_u16]
theorem zaJ {w:World} {g:Nat} {t:TypeId} {d:Array Value} (h:w.heap[g]? =some (.cells d t (0,0))) (j:Nat):w.frozen? ⟨g,j,none⟩=false:=by
 simp [World.frozen?,h]
def arrV (d f j o e g i m:Int):Nat→Array Value
 |0=> #[.int .u16 0,.int .u16 0,.int .u16 0,.int .u16 0,.int .u16 0,.int .u16 0,.int .u16 0,.int .u16 0]
 |1=> #[.int .u16 d,.int .u16 0,.int .u16 0,.int .u16 0,.int .u16 e,.int .u16 0,.int .u16 0,.int .u16 0]
 |2=> #[.int .u16 d,.int .u16 f,.int .u16 0,.int .u16 0,.int .u16 e,.int .u16 g,.int .u16 0,.int .u16 0]
 |3=> #[.int .u16 d,.int .u16 f,.int .u16 j,.int .u16 0,.int .u16 e,.int .u16 g,.int .u16 i,.int .u16 0]
 |_=> #[.int .u16 d,.int .u16 f,.int .u16 j,.int .u16 o,.int .u16 e,.int .u16 g,.int .u16 i,.int .u16 m]
theorem zwQ (hi lo:Int) (w:World) (h0:0≤hi) (h1:hi≤18446744073709551615) (l0:0≤lo) (l1:lo≤18446744073709551615):
  Calls Tryz.prog 180 #[.agg #[.int .u64 hi,.int .u64 lo]] w fun e w'=>e= .returned (.agg #[.int .u16 (hi/281474976710656),.int .u16 (hi/4294967296 % 65536),.int .u16 (hi/65536 % 65536),.int .u16 (hi % 65536),.int .u16 (lo/281474976710656),.int .u16 (lo/4294967296 % 65536),.int .u16 (lo/65536 % 65536),.int .u16 (lo % 65536)])∧Below w.heap.size w w':=by
 obtain ⟨D,Z⟩: ∃a,hi/281474976710656=a:=⟨_,rfl⟩
 have V:IntKind.u16.wrap (hi/281474976710656)=D:=by rw [zeW];omega
 obtain ⟨K,qc⟩: ∃a,hi/4294967296 % 65536=a:=⟨_,rfl⟩
 have e1:IntKind.u16.wrap (hi/4294967296)=K:=by rw [zeW];omega
 obtain ⟨J,qg⟩: ∃a,hi/65536 % 65536=a:=⟨_,rfl⟩
 have e2:IntKind.u16.wrap (hi/65536)=J:=by rw [zeW];omega
 obtain ⟨C,qa⟩: ∃a,hi % 65536=a:=⟨_,rfl⟩
 have e3:IntKind.u16.wrap (hi/1)=C:=by rw [zeW];omega
 obtain ⟨H,qj⟩: ∃a,lo/281474976710656=a:=⟨_,rfl⟩
 have U:IntKind.u16.wrap (lo/281474976710656)=H:=by rw [zeW];omega
 obtain ⟨G,qb⟩: ∃a,lo/4294967296 % 65536=a:=⟨_,rfl⟩
 have e5:IntKind.u16.wrap (lo/4294967296)=G:=by rw [zeW];omega
 obtain ⟨L,qk⟩: ∃a,lo/65536 % 65536=a:=⟨_,rfl⟩
 have e6:IntKind.u16.wrap (lo/65536)=L:=by rw [zeW];omega
 obtain ⟨A,qh⟩: ∃a,lo % 65536=a:=⟨_,rfl⟩
 have e7:IntKind.u16.wrap (lo/1)=A:=by rw [zeW];omega
 rw [Z,qc,qg,qa,qj,qb,qk,qh]
 have E:=ynL (And.intro V (And.intro e1 (And.intro e2 (And.intro e3 (And.intro U (And.intro e5 (And.intro e6 e7)))))))
 clear Z qc qg qa qj qb qk qh V e1 e2 e3 U e5 e6 e7
 obtain ⟨T,B⟩: ∃x,w.alloc (.cells #[.int .u64 hi,.int .u64 lo] 173)=x:=⟨_,rfl⟩
 have qq:=ynL B
 have O:T.heap.size=w.heap.size+1:=by rw [←B];simp
 have qi:Below w.heap.size w T:=by rw [←B];exact (ynQ _ w).alloc (ynM _) _
 have qe:T.heap[w.heap.size]? =some (.cells #[.int .u64 hi,.int .u64 lo] 173 (0,0)):=by rw [←B];exact heap_alloc_new w _
 obtain ⟨d,I⟩: ∃x,T.alloc (.cells #[.int .u16 0,.int .u16 0,.int .u16 0,.int .u16 0,.int .u16 0,.int .u16 0,.int .u16 0,.int .u16 0] 219)=x:=⟨_,rfl⟩
 have ql:d.heap.size=w.heap.size+2:=by rw [←I];simp [O]
 have X:Below T.heap.size T d:=by rw [←I];exact (ynQ _ T).alloc (ynM _) _
 have qf:d.heap[w.heap.size+1]? =some (.cells #[.int .u16 0,.int .u16 0,.int .u16 0,.int .u16 0,.int .u16 0,.int .u16 0,.int .u16 0,.int .u16 0] 219 (0,0)):=by rw [←I,←O];exact heap_alloc_new T _
 have qy:=ynL I
 have Y:d.heap[w.heap.size]? =some (.cells #[.int .u64 hi,.int .u64 lo] 173 (0,0)):=(X.block w.heap.size (by omega)).trans qe
 have qd:Below w.heap.size w d:=qi.trans (X.mono (by omega))
 have o:=ynL (And.intro Y qf)
 have HS:=ynL ql
 have qC:=ynL O
 have qx:Hid ((d.alloc (.cells #[.int .u16 0,.int .u16 0,.int .u16 0,.int .u16 0,.int .u16 0,.int .u16 0,.int .u16 0,.int .u16 0] 219)).heap[d.heap.size]? =some (.cells (arrV D K J C H G L A 0) 219 (0,0))):=heap_alloc_new d _
 have qp:Below d.heap.size d (d.alloc (.cells #[.int .u16 0,.int .u16 0,.int .u16 0,.int .u16 0,.int .u16 0,.int .u16 0,.int .u16 0,.int .u16 0] 219)):=(ynQ _ d).alloc (ynM _) _
 clear B I O ql qe qf Y qi X
 go_enter Tryz.func180,Tryz.ntmps180
 go_wp2
 rw [qq.out,qy.out]
 rw [show w.heap.size+1+1=d.heap.size from HS.out.symm]
 go_loopw [6] (fun i wr=> ∃k:Nat,k≤4∧i= .int .i64 k∧Hid (wr.heap[d.heap.size]? =some (.cells (arrV D K J C H G L A k) 219 (0,0)))∧Below d.heap.size d wr) (fun i _=>4 - (intOf i).toNat)
 case atStart=>exact ⟨0,by omega,rfl,qx,qp⟩
 case round=>
  obtain ⟨k,hk,rfl,j,f⟩:=hrel
  have qm:w.heap.size<d.heap.size:=by rw [HS.out];omega
  have g:w.heap.size+1<d.heap.size:=by rw [HS.out];omega
  by_cases qN:k<4
  ·have qK:wr.cell? ⟨w.heap.size,0,none⟩=some (.int .u64 hi):=by rw [f.cell (p:=⟨w.heap.size,0,none⟩) qm,cell_of_row d _ 0 _ _ _ o.out.1];rfl
   have qP:wr.cell? ⟨w.heap.size,1,none⟩=some (.int .u64 lo):=by rw [f.cell (p:=⟨w.heap.size,1,none⟩) qm,cell_of_row d _ 1 _ _ _ o.out.1];rfl
   have qJ:w.heap.size≠d.heap.size:=by omega
   rcases (show k=0∨k=1∨k=2∨k=3 from by omega) with rfl|rfl|rfl|rfl
   ·rw [show ((0:Nat):Int)=0 from rfl]
    have S:wr.cell? ⟨d.heap.size,0,none⟩=some (.int .u16 0):=by rw [cell_of_row wr _ 0 _ _ _ j.out];rfl
    have Q:wr.cell? ⟨d.heap.size,4,none⟩=some (.int .u16 0):=by rw [cell_of_row wr _ 4 _ _ _ j.out];rfl
    have M:wr.frozen? ⟨d.heap.size,0,none⟩=false:=zaJ j.out 0
    have N:wr.frozen? ⟨d.heap.size,4,none⟩=false:=zaJ j.out 4
    have q:Hid (((wr.setCell ⟨d.heap.size,0,none⟩ (.int .u16 D)).setCell ⟨d.heap.size,4,none⟩ (.int .u16 H)).heap[d.heap.size]? =some (.cells (arrV D K J C H G L A 1) 219 (0,0))):=by
     show _=_
     simp [World.setCell,Array.getElem?_modify,j.out,arrV]
    have m:Below d.heap.size d ((wr.setCell ⟨d.heap.size,0,none⟩ (.int .u16 D)).setCell ⟨d.heap.size,4,none⟩ (.int .u16 H)):=(f.setCell (ynM _) _).setCell (ynM _) _
    have V:=E.out.1
    have U:=E.out.2.2.2.2.1
    skip
    go_wp2
    go_roundw
    case rel=>exact ⟨1,by omega,(by first|rfl|go_num),q,m⟩
    case measure=>first|(simp [intOf];done)|(simp [intOf];omega)
   ·rw [show ((1:Nat):Int)=1 from rfl]
    have S:wr.cell? ⟨d.heap.size,1,none⟩=some (.int .u16 0):=by rw [cell_of_row wr _ 1 _ _ _ j.out];rfl
    have Q:wr.cell? ⟨d.heap.size,5,none⟩=some (.int .u16 0):=by rw [cell_of_row wr _ 5 _ _ _ j.out];rfl
    have M:wr.frozen? ⟨d.heap.size,1,none⟩=false:=zaJ j.out 1
    have N:wr.frozen? ⟨d.heap.size,5,none⟩=false:=zaJ j.out 5
    have q:Hid (((wr.setCell ⟨d.heap.size,1,none⟩ (.int .u16 K)).setCell ⟨d.heap.size,5,none⟩ (.int .u16 G)).heap[d.heap.size]? =some (.cells (arrV D K J C H G L A 2) 219 (0,0))):=by
     show _=_
     simp [World.setCell,Array.getElem?_modify,j.out,arrV]
    have m:Below d.heap.size d ((wr.setCell ⟨d.heap.size,1,none⟩ (.int .u16 K)).setCell ⟨d.heap.size,5,none⟩ (.int .u16 G)):=(f.setCell (ynM _) _).setCell (ynM _) _
    have V:=E.out.2.1
    have U:=E.out.2.2.2.2.2.1
    skip
    go_wp2
    go_roundw
    case rel=>exact ⟨2,by omega,(by first|rfl|go_num),q,m⟩
    case measure=>first|(simp [intOf];done)|(simp [intOf];omega)
   ·rw [show ((2:Nat):Int)=2 from rfl]
    have S:wr.cell? ⟨d.heap.size,2,none⟩=some (.int .u16 0):=by rw [cell_of_row wr _ 2 _ _ _ j.out];rfl
    have Q:wr.cell? ⟨d.heap.size,6,none⟩=some (.int .u16 0):=by rw [cell_of_row wr _ 6 _ _ _ j.out];rfl
    have M:wr.frozen? ⟨d.heap.size,2,none⟩=false:=zaJ j.out 2
    have N:wr.frozen? ⟨d.heap.size,6,none⟩=false:=zaJ j.out 6
    have q:Hid (((wr.setCell ⟨d.heap.size,2,none⟩ (.int .u16 J)).setCell ⟨d.heap.size,6,none⟩ (.int .u16 L)).heap[d.heap.size]? =some (.cells (arrV D K J C H G L A 3) 219 (0,0))):=by
     show _=_
     simp [World.setCell,Array.getElem?_modify,j.out,arrV]
    have m:Below d.heap.size d ((wr.setCell ⟨d.heap.size,2,none⟩ (.int .u16 J)).setCell ⟨d.heap.size,6,none⟩ (.int .u16 L)):=(f.setCell (ynM _) _).setCell (ynM _) _
    have V:=E.out.2.2.1
    have U:=E.out.2.2.2.2.2.2.1
    skip
    go_wp2
    go_roundw
    case rel=>exact ⟨3,by omega,(by first|rfl|go_num),q,m⟩
    case measure=>first|(simp [intOf];done)|(simp [intOf];omega)
   ·rw [show ((3:Nat):Int)=3 from rfl]
    have S:wr.cell? ⟨d.heap.size,3,none⟩=some (.int .u16 0):=by rw [cell_of_row wr _ 3 _ _ _ j.out];rfl
    have Q:wr.cell? ⟨d.heap.size,7,none⟩=some (.int .u16 0):=by rw [cell_of_row wr _ 7 _ _ _ j.out];rfl
    have M:wr.frozen? ⟨d.heap.size,3,none⟩=false:=zaJ j.out 3
    have N:wr.frozen? ⟨d.heap.size,7,none⟩=false:=zaJ j.out 7
    have q:Hid (((wr.setCell ⟨d.heap.size,3,none⟩ (.int .u16 C)).setCell ⟨d.heap.size,7,none⟩ (.int .u16 A)).heap[d.heap.size]? =some (.cells (arrV D K J C H G L A 4) 219 (0,0))):=by
     show _=_
     simp [World.setCell,Array.getElem?_modify,j.out,arrV]
    have m:Below d.heap.size d ((wr.setCell ⟨d.heap.size,3,none⟩ (.int .u16 C)).setCell ⟨d.heap.size,7,none⟩ (.int .u16 A)):=(f.setCell (ynM _) _).setCell (ynM _) _
    have V:=E.out.2.2.2.1
    have U:=E.out.2.2.2.2.2.2.2
    rw [Int.ediv_one] at V U
    go_wp2
    go_roundw
    case rel=>exact ⟨4,by omega,(by first|rfl|go_num),q,m⟩
    case measure=>first|(simp [intOf];done)|(simp [intOf];omega)
  ·obtain rfl:k=4:=by omega
   rw [show ((4:Nat):Int)=4 from rfl]
   have qH:wr.cell? ⟨d.heap.size,0,none⟩=some (.int .u16 D):=by rw [cell_of_row wr _ 0 _ _ _ j.out];rfl
   have qr:wr.cell? ⟨w.heap.size+1,0,none⟩=some (.int .u16 0):=by rw [f.cell (p:=⟨w.heap.size+1,0,none⟩) g,cell_of_row d _ 0 _ _ _ o.out.2];rfl
   have qI:wr.frozen? ⟨w.heap.size+1,0,none⟩=false:=(f.frozen (p:=⟨w.heap.size+1,0,none⟩) g).trans (zaJ o.out.2 0)
   have S:wr.cell? ⟨d.heap.size,1,none⟩=some (.int .u16 K):=by rw [cell_of_row wr _ 1 _ _ _ j.out];rfl
   have qA:wr.cell? ⟨w.heap.size+1,1,none⟩=some (.int .u16 0):=by rw [f.cell (p:=⟨w.heap.size+1,1,none⟩) g,cell_of_row d _ 1 _ _ _ o.out.2];rfl
   have M:wr.frozen? ⟨w.heap.size+1,1,none⟩=false:=(f.frozen (p:=⟨w.heap.size+1,1,none⟩) g).trans (zaJ o.out.2 1)
   have Q:wr.cell? ⟨d.heap.size,2,none⟩=some (.int .u16 J):=by rw [cell_of_row wr _ 2 _ _ _ j.out];rfl
   have qv:wr.cell? ⟨w.heap.size+1,2,none⟩=some (.int .u16 0):=by rw [f.cell (p:=⟨w.heap.size+1,2,none⟩) g,cell_of_row d _ 2 _ _ _ o.out.2];rfl
   have N:wr.frozen? ⟨w.heap.size+1,2,none⟩=false:=(f.frozen (p:=⟨w.heap.size+1,2,none⟩) g).trans (zaJ o.out.2 2)
   have qQ:wr.cell? ⟨d.heap.size,3,none⟩=some (.int .u16 C):=by rw [cell_of_row wr _ 3 _ _ _ j.out];rfl
   have qn:wr.cell? ⟨w.heap.size+1,3,none⟩=some (.int .u16 0):=by rw [f.cell (p:=⟨w.heap.size+1,3,none⟩) g,cell_of_row d _ 3 _ _ _ o.out.2];rfl
   have qF:wr.frozen? ⟨w.heap.size+1,3,none⟩=false:=(f.frozen (p:=⟨w.heap.size+1,3,none⟩) g).trans (zaJ o.out.2 3)
   have qL:wr.cell? ⟨d.heap.size,4,none⟩=some (.int .u16 H):=by rw [cell_of_row wr _ 4 _ _ _ j.out];rfl
   have qw:wr.cell? ⟨w.heap.size+1,4,none⟩=some (.int .u16 0):=by rw [f.cell (p:=⟨w.heap.size+1,4,none⟩) g,cell_of_row d _ 4 _ _ _ o.out.2];rfl
   have qM:wr.frozen? ⟨w.heap.size+1,4,none⟩=false:=(f.frozen (p:=⟨w.heap.size+1,4,none⟩) g).trans (zaJ o.out.2 4)
   have qD:wr.cell? ⟨d.heap.size,5,none⟩=some (.int .u16 G):=by rw [cell_of_row wr _ 5 _ _ _ j.out];rfl
   have qz:wr.cell? ⟨w.heap.size+1,5,none⟩=some (.int .u16 0):=by rw [f.cell (p:=⟨w.heap.size+1,5,none⟩) g,cell_of_row d _ 5 _ _ _ o.out.2];rfl
   have qR:wr.frozen? ⟨w.heap.size+1,5,none⟩=false:=(f.frozen (p:=⟨w.heap.size+1,5,none⟩) g).trans (zaJ o.out.2 5)
   have qO:wr.cell? ⟨d.heap.size,6,none⟩=some (.int .u16 L):=by rw [cell_of_row wr _ 6 _ _ _ j.out];rfl
   have qo:wr.cell? ⟨w.heap.size+1,6,none⟩=some (.int .u16 0):=by rw [f.cell (p:=⟨w.heap.size+1,6,none⟩) g,cell_of_row d _ 6 _ _ _ o.out.2];rfl
   have qS:wr.frozen? ⟨w.heap.size+1,6,none⟩=false:=(f.frozen (p:=⟨w.heap.size+1,6,none⟩) g).trans (zaJ o.out.2 6)
   have qE:wr.cell? ⟨d.heap.size,7,none⟩=some (.int .u16 A):=by rw [cell_of_row wr _ 7 _ _ _ j.out];rfl
   have qs:wr.cell? ⟨w.heap.size+1,7,none⟩=some (.int .u16 0):=by rw [f.cell (p:=⟨w.heap.size+1,7,none⟩) g,cell_of_row d _ 7 _ _ _ o.out.2];rfl
   have qG:wr.frozen? ⟨w.heap.size+1,7,none⟩=false:=(f.frozen (p:=⟨w.heap.size+1,7,none⟩) g).trans (zaJ o.out.2 7)
   have qB:Below w.heap.size w wr:=qd.trans (f.mono (by omega))
   go_wp2
   exact bodyPost_ret (v:= .agg #[.int .u16 D,.int .u16 K,.int .u16 J,.int .u16 C,.int .u16 H,.int .u16 G,.int .u16 L,.int .u16 A]) (by simp [results,Tryz.results180,go_sem,qr,qA,qv,qn,qw,qz,qo,qs]) rfl ⟨rfl,(((((((qB.setCell (by show _≤w.heap.size+1;omega) _).setCell (by show _≤w.heap.size+1;omega) _).setCell (by show _≤w.heap.size+1;omega) _).setCell (by show _≤w.heap.size+1;omega) _).setCell (by show _≤w.heap.size+1;omega) _).setCell (by show _≤w.heap.size+1;omega) _).setCell (by show _≤w.heap.size+1;omega) _).setCell (by show _≤w.heap.size+1;omega) _⟩
def z0I (st:Nat×Nat×Nat) (d:Nat×Bool):Nat×Nat×Nat:=
 if d.2=false then (d.1+1,st.2) else if 1<d.1+1 - st.1∧st.2.2 - st.2.1<d.1+1 - st.1 then (st.1,st.1,d.1+1) else st
def lrAt (d:List Bool):Nat→Nat×Nat×Nat
 |0=>(0,0,0)
 |k+1=>z0I (lrAt d k) (k,d.getD k false)
theorem z4U (d:List Bool) (k:Nat):(lrAt d k).1≤k∧(lrAt d k).2.1≤(lrAt d k).2.2∧(lrAt d k).2.2≤k:=by
 induction k with
 |zero=>exact ⟨ynM _,ynM _,ynM _⟩
 |succ k f=>
  obtain ⟨g,e,i⟩:=f
  unfold lrAt z0I
  split
  ·exact ⟨ynM _,e,by show (lrAt d k).2.2≤k+1;omega⟩
  ·split
   ·exact ⟨by show (lrAt d k).1≤k+1;omega,by show (lrAt d k).1≤k+1;omega,ynM _⟩
   ·exact ⟨by omega,e,by omega⟩
def zcT (p:List Int):List Bool:=p.map fun x=>decide (x=0)
theorem lr_no {d:List Bool} {k s f t:Nat} (h:lrAt d k=(s,f,t)) (e:d.getD k false=false):lrAt d (k+1)=(k+1,f,t):=by
 rw [lrAt,h,e];rfl
theorem lr_yes {d:List Bool} {k s f t:Nat} (h:lrAt d k=(s,f,t)) (g:d.getD k false=true) (e:1<k+1 - s∧t - f<k+1 - s):lrAt d (k+1)=(s,s,k+1):=by
 rw [lrAt,h,g];unfold z0I;rw [if_neg (by simp),if_pos e]
theorem ylY {d:List Bool} {k s f t:Nat} (h:lrAt d k=(s,f,t)) (g:d.getD k false=true) (e: ¬(1<k+1 - s∧t - f<k+1 - s)):lrAt d (k+1)=(s,f,t):=by
 rw [lrAt,h,g];unfold z0I;rw [if_neg (by simp),if_neg e]
theorem index8 (W:World) (e d o j m i g f:Int) (k:Nat) (q:k<8):(Instr.index 219 (.agg #[.int .u16 e,.int .u16 d,.int .u16 o,.int .u16 j,.int .u16 m,.int .u16 i,.int .u16 g,.int .u16 f]) (.int .i64 (k:Int))).run Tryz.prog W= .ok (.int .u16 ([e,d,o,j,m,i,g,f].getD k 0)) W:=by
 rcases (show k=0∨k=1∨k=2∨k=3∨k=4∨k=5∨k=6∨k=7 from by omega) with rfl|rfl|rfl|rfl|rfl|rfl|rfl|rfl
 all_goals simp [Instr.index,run_underlying Tryz.underlying219,asIntOf,go_sem,Tryz.sizeOf88,Tryz.isAgg88]
theorem zwM (g q C B o m A j:Int) (w:World):
  Calls Tryz.prog 181 #[.agg #[.int .u16 g,.int .u16 q,.int .u16 C,.int .u16 B,.int .u16 o,.int .u16 m,.int .u16 A,.int .u16 j]] w fun e w'=>
   e= .returned (.tuple #[.int .i64 ((lrAt (zcT [g,q,C,B,o,m,A,j]) 8).2.1:Int),.int .i64 ((lrAt (zcT [g,q,C,B,o,m,A,j]) 8).2.2:Int)])∧Below w.heap.size w w':=by
 obtain ⟨p,L⟩: ∃p,[g,q,C,B,o,m,A,j]=p:=⟨_,rfl⟩
 have E:p.length=8:=by rw [←L];rfl
 have Q:Hid (∀(k:Nat) (_:k<8) (W:World),(Instr.index 219 (.agg #[.int .u16 g,.int .u16 q,.int .u16 C,.int .u16 B,.int .u16 o,.int .u16 m,.int .u16 A,.int .u16 j]) (.int .i64 (k:Int))).run Tryz.prog W= .ok (.int .u16 (p.getD k 0)) W):=fun k M W=>by
  rw [←L];exact index8 W g q C B o m A j k M
 rw [L]
 have HZ:Hid (∀k,k<8→(zcT p).getD k false=decide (p.getD k 0=0)):=fun k M=>by
  simp [zcT,List.getD,E,M]
 clear L E
 have V:Below w.heap.size w (w.alloc (.cells #[.int .u16 g,.int .u16 q,.int .u16 C,.int .u16 B,.int .u16 o,.int .u16 m,.int .u16 A,.int .u16 j] 219)):=(ynQ _ w).alloc (ynM _) _
 go_enter Tryz.func181,Tryz.ntmps181
 go_wp2
 go_loop [2,3,4,9] (fun f t s i=> ∃(k S F T:Nat),k≤8∧i= .int .i64 k∧s= .int .i64 S∧f= .int .i64 F∧t= .int .i64 T∧S≤k∧F≤T∧T≤k∧Hid (lrAt (zcT p) k=(S,F,T))) (fun _ _ _ i=>8 - (intOf i).toNat)
 case atStart=>exact ⟨0,0,0,0,by omega,rfl,rfl,rfl,rfl,by omega,by omega,by omega,rfl⟩
 case round=>
  obtain ⟨k,S,F,T,M,rfl,rfl,rfl,rfl,hS,hF,Z,I⟩:=hrel
  by_cases D:k<8
  ·have Y:=Q.out k D
   have K:=HZ.out k D
   generalize p.getD k 0=x at*
   by_cases N:x=0
   ·subst N
    have J:=ynL (show (zcT p).getD k false=true from by rw [K];rfl)
    clear K
    have O:((0:Int) !=0)=false:=by decide
    by_cases G:1<k+1 - S∧T - F<k+1 - S
    ·have d:=ynL (lr_yes I.out J.out G)
     have H:decide ((1:Int)<(k:Int)+1 - (S:Int))=true:=ynP (by omega)
     have U:decide ((T:Int) - (F:Int)<(k:Int)+1 - (S:Int))=true:=ynP (by omega)
     clear G
     go_wp2
     go_round
     case rel=>exact ⟨k+1,S,S,k+1,by omega,by go_num,rfl,rfl,by go_num,by omega,by omega,by omega,d⟩
     case measure=>simp [intOf];omega
    ·have d:=ynL (ylY I.out J.out G)
     by_cases X:1<k+1 - S
     ·have H:decide ((1:Int)<(k:Int)+1 - (S:Int))=true:=ynP (by omega)
      have U:decide ((T:Int) - (F:Int)<(k:Int)+1 - (S:Int))=false:=ynO (by omega)
      clear G X
      go_wp2
      go_round
      case rel=>exact ⟨k+1,S,F,T,by omega,by go_num,rfl,rfl,rfl,by omega,by omega,by omega,d⟩
      case measure=>simp [intOf];omega
     ·have H:decide ((1:Int)<(k:Int)+1 - (S:Int))=false:=ynO (by omega)
      clear G X
      go_wp2
      go_round
      case rel=>exact ⟨k+1,S,F,T,by omega,by go_num,rfl,rfl,rfl,by omega,by omega,by omega,d⟩
      case measure=>simp [intOf];omega
   ·have J:=ynL (show (zcT p).getD k false=false from by rw [K];exact ynO N)
    have d:=ynL (lr_no I.out J.out)
    have O:(x !=0)=true:=by rw [bne_iff_ne];exact N
    clear K
    go_wp2
    go_round
    case rel=>exact ⟨k+1,k+1,F,T,by omega,by go_num,by go_num,rfl,rfl,by omega,by omega,by omega,d⟩
    case measure=>simp [intOf];omega
  ·obtain rfl:k=8:=by omega
   go_wp2
   go_ret2
   exact ⟨by rw [I.out];rfl,V⟩
def hexI (x:Int):List UInt8:=hexD x.toNat
def zbB (l:List Int):List UInt8:=Lib.join (l.map hexI) [58]
theorem yfR (u:Nat) (h:u<65536):(hexD u).length≤4:=by
 by_cases d:u<16
 ·rw [zjA u d];simp
 ·rw [zlD u (by omega),List.length_append,List.length_singleton]
  by_cases f:u/16<16
  ·rw [zjA _ f];simp
  ·rw [zlD _ (by omega),List.length_append,List.length_singleton]
   by_cases e:u/16/16<16
   ·rw [zjA _ e];simp
   ·rw [zlD _ (by omega),List.length_append,List.length_singleton,zjA _ (by omega)];simp
theorem zrZ {x:Int} (h:0≤x∧x≤65535):(hexI x).length≤4:=yfR _ (by omega)
theorem yiV (d:List UInt8) (i:d.length=1) (ps:List (List UInt8)) (h: ∀p∈ps,p.length≤4):(Lib.join ps d).length≤5*ps.length:=by
 induction ps with
 |nil=>simp [Lib.join]
 |cons p r g=>
  have j:=h p (by simp)
  have m:=g fun q f=>h q (by simp [f])
  cases r with
  |nil=>simp [Lib.join];omega
  |cons q r=>
   have e:Lib.join (p::q::r) d=p++d++Lib.join (q::r) d:=by simp [Lib.join,List.intercalate]
   rw [e,List.length_append,List.length_append,List.length_cons,i]
   omega
theorem zhA {l:List Int} (h:In16 l):(zbB l).length≤5*l.length:=by
 have:=yiV [58] rfl (l.map hexI) (fun p d=>by
  obtain ⟨x,e,rfl⟩:=List.mem_map.1 d
  exact zrZ (h x e))
 rwa [List.length_map] at this
theorem yfH {w:World} {g:Nat} {t:TypeId} {a r:List Value} {y:Value} (x:Value) (h:w.heap[g]? =some (.cells (a++y::r).toArray t (0,0))):
  (w.setCell ⟨g,a.length,none⟩ x).heap[g]? =some (.cells (a++x::r).toArray t (0,0)):=by
 have e:((a++y::r).toArray).setIfInBounds a.length x=(a++x::r).toArray:=by
  apply Array.ext'
  simp
 rw [←e]
 simp [World.setCell,Array.getElem?_modify,h]
theorem zqO (n:Nat):madeCells (Value.string ⟨#[]⟩).cells n=(List.replicate n (Value.string ⟨#[]⟩)).toArray:=by
 unfold madeCells
 have e:(Value.string ⟨#[]⟩).cells= #[.string ⟨#[]⟩]:=rfl
 rw [e]
 apply Array.ext'
 simp only [Array.toList_map]
 apply List.ext_getElem
 ·simp
 ·intro i d f
  simp [Nat.mod_one]
theorem yjR (n:Nat) (i:n≤1073741824) (W:World):(Instr.makeSlice 25 (.int .i64 (n:Int)) (.int .i64 (n:Int))).run Tryz.prog W= .ok (.slice (some ⟨W.heap.size,0,none⟩) n n) (W.alloc (.cells (List.replicate n (Value.string ⟨#[]⟩)).toArray 9)):=by
 obtain ⟨g,hi,e,f,d⟩:=info_parts Tryz.infoStr
 rw [run_make W 25 9 g (.string ⟨#[]⟩) Tryz.underlying25 hi e .i64 .i64 n n (by omega) (by omega) (by rw [d];omega) (by omega),f,Int.toNat_natCast,Nat.mul_one,zqO]
def zoD (w:World) (d:Option Addr) (k:IntKind) (l:List Int):Prop:= ∀j,j<l.length→ ∃g o,d=some ⟨g,o,none⟩∧w.cell? ⟨g,o+j,none⟩=some (.int k (l.getD j 0))
theorem z3S (T:List Int) (k:Nat) (d:k<T.length) (r:List Value):(T.take (k+1)).map (fun x=>strC (hexI x))++r=(T.take k).map (fun x=>strC (hexI x))++strC (hexI (T.getD k 0))::r:=by
 rw [List.take_succ_eq_append_getElem d,List.getD,List.getElem?_eq_getElem d,List.map_append,List.append_assoc]
 rfl
theorem zhM (ao:Option Addr) (c:Nat) (l:List Int) (w:World) (V:zoD w ao .u16 l) (Q:In16 l) (qj:l.length≤1000) (D:BruTab w):
  Calls Tryz.prog 182 #[.slice ao l.length c] w (zdY w (zbB l)):=by
 have qe:=ynL V
 have L:=ynL Q
 have HT:=ynL D
 clear V Q D
 have qb:=yjR l.length (by omega)
 have qf:Hid ((w.alloc (.cells (List.replicate l.length (Value.string ⟨#[]⟩)).toArray 9)).heap[w.heap.size]? =some (.cells ((l.take 0).map (fun x=>strC (hexI x))++List.replicate (l.length - 0) (Value.string ⟨#[]⟩)).toArray 9 (0,0))):=by
  show _=_
  simpa using heap_alloc_new w (.cells (List.replicate l.length (Value.string ⟨#[]⟩)).toArray 9)
 have qg:Below w.heap.size w (w.alloc (.cells (List.replicate l.length (Value.string ⟨#[]⟩)).toArray 9)):=(ynQ _ w).alloc (ynM _) _
 go_enter Tryz.func182,Tryz.ntmps182
 go_wp2
 clear qb
 go_loopw [11] (fun i wr=> ∃k:Nat,k≤l.length∧i= .int .i64 k∧Hid (wr.heap[w.heap.size]? =some (.cells ((l.take k).map (fun x=>strC (hexI x))++List.replicate (l.length - k) (Value.string ⟨#[]⟩)).toArray 9 (0,0)))∧Below w.heap.size w wr∧w.heap.size<wr.heap.size) (fun i _=>l.length - (intOf i).toNat)
 case atStart=>exact ⟨0,by omega,rfl,qf,qg,by simp⟩
 case round=>
  obtain ⟨k,hk,rfl,X,q,A⟩:=hrel
  by_cases O:k<l.length
  ·obtain ⟨g,o,rfl,hc⟩:=qe.out k O
   have qa:wr.cell? ⟨g,o+k,none⟩=some (.int .u16 (l.getD k 0)):=(q.cell (World.block_lt_of_cell? w _ hc)).trans hc
   have B: ∀W:World,W.heap[w.heap.size]? =some (.cells ((l.take k).map (fun x=>strC (hexI x))++List.replicate (l.length - k) (Value.string ⟨#[]⟩)).toArray 9 (0,0))→
     (W.setCell ⟨w.heap.size,k,none⟩ (strC (hexI (l.getD k 0)))).heap[w.heap.size]? =some (.cells ((l.take (k+1)).map (fun x=>strC (hexI x))++List.replicate (l.length - (k+1)) (Value.string ⟨#[]⟩)).toArray 9 (0,0)):=fun W hW=>by
    have h2:=yfH (a:=(l.take k).map (fun x=>strC (hexI x))) (r:=List.replicate (l.length - (k+1)) (Value.string ⟨#[]⟩)) (strC (hexI (l.getD k 0))) (show W.heap[w.heap.size]? =some (.cells ((l.take k).map (fun x=>strC (hexI x))++(Value.string ⟨#[]⟩)::List.replicate (l.length - (k+1)) (Value.string ⟨#[]⟩)).toArray 9 (0,0)) from by
     rwa [show l.length - k=(l.length - (k+1))+1 from by omega,List.replicate_succ] at hW)
    rwa [←z3S l k O,List.length_map,List.length_take,show min k l.length=k from by omega] at h2
   have E:=ynL B
   have U:=L.out.getD k
   have f: ∃I,wr.cell? ⟨w.heap.size,k,none⟩=some I:=by
    rw [cell_of_row wr _ k _ _ _ X.out]
    exact ⟨_,Array.getElem?_eq_getElem (by simp;omega)⟩
   obtain ⟨I,f⟩:=f
   have T:=ynL f
   have Y:=ynL (zaJ X.out k)
   clear hc B f
   obtain ⟨x,hx⟩: ∃x,l.getD k 0=x:=⟨_,rfl⟩
   rw [hx] at qa U E
   obtain ⟨ql,qn⟩:=U
   obtain ⟨u,rfl⟩: ∃u:Nat,x=(u:Int):=⟨x.toNat,by omega⟩
   clear hx
   go_wp2_with fail
   refine (z1J u (by omega) _ (zaB HT.out q)).mono ?_
   rintro e J ⟨rfl,m⟩
   have M:J.heap[w.heap.size]? =_:=(m.block w.heap.size A).trans X.out
   have qi:=ynL (E.out J M)
   have qm:J.cell? ⟨w.heap.size,k,none⟩=some I:=(m.cell (p:=⟨w.heap.size,k,none⟩) A).trans T.out
   have qk:J.frozen? ⟨w.heap.size,k,none⟩=false:=(m.frozen (p:=⟨w.heap.size,k,none⟩) A).trans Y.out
   have K:Below w.heap.size w (J.setCell ⟨w.heap.size,k,none⟩ (strC (hexI (u:Int)))):=(q.trans (m.mono q.size)).setCell (ynM _) _
   have S:w.heap.size<(J.setCell ⟨w.heap.size,k,none⟩ (strC (hexI (u:Int)))).heap.size:=by simp [World.setCell];exact ynN A m.size
   clear M m
   go_wp2
   go_roundw
   case rel=>exact ⟨k+1,by omega,by go_num,qi,K,S⟩
   case measure=>simp [intOf];omega
  ·obtain rfl:k=l.length:=by omega
   have qd:Hid (∀(j:Nat) x,(l.map (fun x=>ByteArray.mk (hexI x).toArray))[j]? =some x→wr.cell? ⟨w.heap.size,0+j,none⟩=some (.string x)):=fun j x Z=>by
    rw [Nat.zero_add,cell_of_row wr _ j _ _ _ X.out]
    rw [List.take_of_length_le (ynM _),Nat.sub_self,List.replicate_zero,List.append_nil]
    rw [List.getElem?_map] at Z
    simp only [Option.map_eq_some_iff] at Z
    obtain ⟨y,hy,rfl⟩:=Z
    simp [hy,strC]
   have qc:=zhA L.out
   have C:(l.map (fun x=>ByteArray.mk (hexI x).toArray)).map (fun x=>x.data.toList)=l.map hexI:=by simp [Function.comp_def]
   have G:=ynL C
   have N:(l.map (fun x=>ByteArray.mk (hexI x).toArray)).length=l.length:=by simp
   have H:=ynL N
   clear C N
   have d:=Tryz.strings_Join w.heap.size 0 l.length (l.map (fun x=>ByteArray.mk (hexI x).toArray)) ⟨#[58]⟩ wr qd.out A (by rw [H.out];omega) (by rw [H.out];exact ynM _) (by rw [G.out];exact Nat.le_trans qc (by omega))
   rw [G.out,H.out] at d
   have HJ:=ynL d
   clear d
   go_wp2_with fail
   refine HJ.out.mono ?_
   rintro e w3 ⟨rfl,qh⟩
   go_wp2
   go_ret
   exact ⟨rfl,q.trans (qh.mono q.size)⟩
def zsJ (p:List Int):List UInt8:=
 if (lrAt (zcT p) 8).2.1=(lrAt (zcT p) 8).2.2 then zbB p else zbB (p.take (lrAt (zcT p) 8).2.1)++[58,58]++zbB (p.drop (lrAt (zcT p) 8).2.2)
def zdH (hi lo:Int):List UInt8:=zsJ (pcs hi lo)
theorem z8I (B T:Nat) (g:T≤8): ∃e,(∀W,(Instr.sliceAt 219 (.pointer (some ⟨B,0,none⟩)) (some (.int .i64 (T:Int))) none none).run Tryz.prog W= .ok (.slice e (8 - T) (8 - T)) W)∧(T<8→e=some ⟨B,T,none⟩):=by
 have d:Tryz.prog.arrayLen 219=8:=by simp [Program.arrayLen,Tryz.underlying219]
 by_cases f:T=8
 ·subst f
  refine ⟨some ⟨B,0,none⟩,fun W=> ?_,fun h=>by omega⟩
  rw [run_sliceAt_array_l W 219 ⟨B,0,none⟩ (by simp [Program.arrayLen,Program.elem,Tryz.underlying219]) .i64 _ (by omega) (by rw [d];omega),d]
  go_simp
 ·refine ⟨some ⟨B,T,none⟩,fun W=> ?_,fun _=>rfl⟩
  rw [run_sliceAt_array_l W 219 ⟨B,0,none⟩ (by simp [Program.arrayLen,Program.elem,Tryz.underlying219]) .i64 _ (by omega) (by rw [d];omega),d]
  go_simp
  omega
theorem z3Y (B F:Nat) (hF:F≤8) (W:World):(Instr.sliceAt 219 (.pointer (some ⟨B,0,none⟩)) none (some (.int .i64 (F:Int))) none).run Tryz.prog W= .ok (.slice (some ⟨B,0,none⟩) F 8) W:=by
 have d:Tryz.prog.arrayLen 219=8:=by simp [Program.arrayLen,Tryz.underlying219]
 rw [run_sliceAt_array_h W 219 ⟨B,0,none⟩ (by simp [Program.arrayLen,Program.elem,Tryz.underlying219]) .i64 _ (by omega) (by rw [d];omega),d]
 go_simp
theorem zoD.of_row {w:World} {g o:Nat} {k:IntKind} {l:List Int} (h: ∀j,j<l.length→w.cell? ⟨g,o+j,none⟩=some (.int k (l.getD j 0))):zoD w (some ⟨g,o,none⟩) k l:=fun j d=>⟨g,o,rfl,h j d⟩
theorem In16.take {l:List Int} (h:In16 l) (n:Nat):In16 (l.take n):=fun x d=>h x (List.mem_of_mem_take d)
theorem In16.drop {l:List Int} (h:In16 l) (n:Nat):In16 (l.drop n):=fun x d=>h x (List.mem_of_mem_drop d)
theorem z2A (l:List Int) (n j:Nat) (h:j<n):(l.take n).getD j 0=l.getD j 0:=by simp [List.getD,h]
theorem z1U (l:List Int) (n j:Nat):(l.drop n).getD j 0=l.getD (n+j) 0:=by simp [List.getD]
theorem zaH (x:World):Below x.heap.size x x.drew:=(ynQ _ _).drew
theorem zgM {x w:World} (h:Below x.drew.heap.size x.drew w):Below x.heap.size x w:=(ynQ _ _).drew.trans h
theorem zxI (p:List Int):(lrAt (zcT p) 8).2.1≤(lrAt (zcT p) 8).2.2∧(lrAt (zcT p) 8).2.2≤8:=(z4U _ 8).2
theorem z9U (hi lo:Int) (w:World) (h0:0≤hi) (h1:hi≤18446744073709551615) (l0:0≤lo) (l1:lo≤18446744073709551615) (Q:BruTab w):
  Calls Tryz.prog 108 #[.agg #[.int .u64 hi,.int .u64 lo]] w (zdY w (zdH hi lo)):=by
 have HT:=ynL Q
 clear Q
 have C:Below w.heap.size w (w.alloc (.cells #[.int .u64 hi,.int .u64 lo] 173)):=(ynQ _ w).alloc (ynM _) _
 have qy:=ynL (zaB HT.out C)
 go_enter Tryz.func108,Tryz.ntmps108
 go_wp2_with fail
 refine (zwQ hi lo _ h0 h1 l0 l1).mono ?_
 rintro e d ⟨rfl,V⟩
 have qw:=ynL (zaB qy.out V)
 have qc:Below w.heap.size w d:=C.trans (V.mono C.size)
 have f:=ynL (ydS h0 h1 l0 l1)
 clear C V
 obtain ⟨p,K⟩: ∃p,pcs hi lo=p:=⟨_,rfl⟩
 have qd:Hid (zdH hi lo=zsJ p):=by show zdH hi lo=zsJ p;rw [zdH,K]
 rw [K] at f
 unfold pcs at K
 obtain ⟨L,qh⟩: ∃a,hi/281474976710656=a:=⟨_,rfl⟩
 obtain ⟨H,qp⟩: ∃a,hi/4294967296 % 65536=a:=⟨_,rfl⟩
 obtain ⟨S,qe⟩: ∃a,hi/65536 % 65536=a:=⟨_,rfl⟩
 obtain ⟨J,qi⟩: ∃a,hi % 65536=a:=⟨_,rfl⟩
 obtain ⟨N,qk⟩: ∃a,lo/281474976710656=a:=⟨_,rfl⟩
 obtain ⟨M,ql⟩: ∃a,lo/4294967296 % 65536=a:=⟨_,rfl⟩
 obtain ⟨O,qn⟩: ∃a,lo/65536 % 65536=a:=⟨_,rfl⟩
 obtain ⟨E,qj⟩: ∃a,lo % 65536=a:=⟨_,rfl⟩
 rw [qh,qp,qe,qi,qk,ql,qn,qj] at K ⊢
 clear qh qp qe qi qk ql qn qj
 have Z:Below d.heap.size d (d.alloc (.cells #[.int .u16 L,.int .u16 H,.int .u16 S,.int .u16 J,.int .u16 N,.int .u16 M,.int .u16 O,.int .u16 E] 219)):=(ynQ _ d).alloc (ynM _) _
 have hB:(d.alloc (.cells #[.int .u16 L,.int .u16 H,.int .u16 S,.int .u16 J,.int .u16 N,.int .u16 M,.int .u16 O,.int .u16 E] 219)).heap[d.heap.size]? =some (.cells #[.int .u16 L,.int .u16 H,.int .u16 S,.int .u16 J,.int .u16 N,.int .u16 M,.int .u16 O,.int .u16 E] 219 (0,0)):=heap_alloc_new d _
 have HP:=ynL K
 have qg:p.length=8:=by rw [←K];rfl
 have g:=ynL qg
 have qo: ∀j,j<8→(d.alloc (.cells #[.int .u16 L,.int .u16 H,.int .u16 S,.int .u16 J,.int .u16 N,.int .u16 M,.int .u16 O,.int .u16 E] 219)).cell? ⟨d.heap.size,j,none⟩=some (.int .u16 (p.getD j 0)):=fun j G=>by
  rw [cell_of_row _ _ j _ _ _ hB,←K]
  rcases (show j=0∨j=1∨j=2∨j=3∨j=4∨j=5∨j=6∨j=7 from by omega) with rfl|rfl|rfl|rfl|rfl|rfl|rfl|rfl<;>rfl
 have m:d.heap.size<(d.alloc (.cells #[.int .u16 L,.int .u16 H,.int .u16 S,.int .u16 J,.int .u16 N,.int .u16 M,.int .u16 O,.int .u16 E] 219)).heap.size:=by simp
 have qx:=ynL qo
 have qs:=ynL (zaB qw.out Z)
 have U:Below w.heap.size w (d.alloc (.cells #[.int .u16 L,.int .u16 H,.int .u16 S,.int .u16 J,.int .u16 N,.int .u16 M,.int .u16 O,.int .u16 E] 219)):=qc.trans (Z.mono qc.size)
 clear K qg qo hB Z
 go_wp2_with fail
 generalize d.alloc (.cells #[.int .u16 L,.int .u16 H,.int .u16 S,.int .u16 J,.int .u16 N,.int .u16 M,.int .u16 O,.int .u16 E] 219)=x2 at*
 refine (zwM L H S J N M O E _).mono ?_
 rw [HP.out]
 rintro e A ⟨rfl,q⟩
 have qC:=zxI p
 have qf:Hid (zsJ p=if (lrAt (zcT p) 8).2.1=(lrAt (zcT p) 8).2.2 then zbB p else zbB (p.take (lrAt (zcT p) 8).2.1)++[58,58]++zbB (p.drop (lrAt (zcT p) 8).2.2)):=rfl
 generalize (lrAt (zcT p) 8).2.1=F at*
 generalize (lrAt (zcT p) 8).2.2=T at*
 obtain ⟨qK,qv⟩:=qC
 have qb:=ynL (zaB qs.out q)
 have D:Below w.heap.size w A:=U.trans (q.mono U.size)
 have i:Hid (∀j,j<8→A.cell? ⟨d.heap.size,j,none⟩=some (.int .u16 (p.getD j 0))):=fun j G=>(q.cell (p:=⟨d.heap.size,j,none⟩) m).trans (qx.out j G)
 have I:d.heap.size<A.heap.size:=ynN m q.size
 clear q U qc m
 generalize d.heap.size=B at*
 by_cases qa:F=T
 ·subst qa
  have HE:=ynL (qd.out.trans (qf.out.trans (if_pos rfl)))
  have HW:Hid (Calls Tryz.prog 182 #[.slice (some ⟨B,0,none⟩) 8 8] A (zdY A (zbB p))):=by
   show Calls _ _ _ _ _
   rw [show (8:Nat)=p.length from g.out.symm]
   exact zhM _ _ p A (zoD.of_row fun j G=>by rw [Nat.zero_add];exact i.out j (by rw [g.out] at G;exact G)) f.out (by rw [g.out];omega) qb.out
  go_wp2_with fail
  refine HW.out.mono ?_
  rintro e x4 ⟨rfl,o⟩
  go_wp2
  go_ret
  exact ⟨congrArg (fun l:List UInt8=>Ending.returned (.string ⟨l.toArray⟩)) HE.out.symm,D.trans (o.mono D.size)⟩
 ·have HE:=ynL (qd.out.trans (qf.out.trans (if_neg qa)))
  have qL:((F:Int)==(T:Int))=false:=by rw [beq_eq_false_iff_ne];omega
  obtain ⟨ao,qI,qq⟩:=z8I B T qv
  have qJ:=z3Y B F (by omega)
  have qB:Hid (∀W,Below A.heap.size A W→Calls Tryz.prog 182 #[.slice (some ⟨B,0,none⟩) F 8] W (zdY W (zbB (p.take F)))):=fun W hW=>by
   have hl:(p.take F).length=F:=by rw [List.length_take,g.out];omega
   have hq:=zhM (some ⟨B,0,none⟩) 8 (p.take F) W (zoD.of_row fun j G=>by
    rw [Nat.zero_add,z2A p F j (by omega)]
    exact (hW.cell (p:=⟨B,j,none⟩) I).trans (i.out j (by omega))) (f.out.take F) (by omega) (zaB qb.out hW)
   rwa [hl] at hq
  have qz:Hid (∀W,Below A.heap.size A W→Calls Tryz.prog 182 #[.slice ao (8 - T) (8 - T)] W (zdY W (zbB (p.drop T)))):=fun W hW=>by
   have hl:(p.drop T).length=8 - T:=by rw [List.length_drop,g.out]
   have hq:=zhM ao (8 - T) (p.drop T) W (fun j G=>by
    rw [hl] at G
    refine ⟨B,T,qq (by omega),?_⟩
    rw [z1U p T j]
    exact (hW.cell (p:=⟨B,T+j,none⟩) I).trans (i.out (T+j) (by omega))) (f.out.drop T) (by omega) (zaB qb.out hW)
   rwa [hl] at hq
  clear qq qa
  have qG:(zbB (p.take F)).length≤40:=Nat.le_trans (zhA (f.out.take F)) (by rw [List.length_take];omega)
  have qF:(zbB (p.drop T)).length≤40:=Nat.le_trans (zhA (f.out.drop T)) (by rw [List.length_drop,g.out];omega)
  generalize zbB (p.take F)=X at*
  generalize zbB (p.drop T)=Y at*
  have qE: ∀W,(Op.stringOp .add ⟨X.toArray⟩ ⟨#[58,58]⟩).run Tryz.prog W= .ok (.string ⟨(X++[58,58]).toArray⟩) W:=fun W=>by
   rw [run_string_add_sum W _ _ (by rw [zaF];show X.length+2≤_;omega),show (ByteArray.mk #[58,58])=ByteArray.mk [58,58].toArray from rfl,cat2]
  have qA: ∀W,(Op.stringOp .add ⟨(X++[58,58]).toArray⟩ ⟨Y.toArray⟩).run Tryz.prog W= .ok (.string ⟨(X++[58,58]++Y).toArray⟩) W:=fun W=>by
   rw [run_string_add_sum W _ _ (by rw [zaF,zaF,List.length_append];show X.length+2+Y.length≤_;omega),cat2]
  have qH: ¬((ByteArray.mk X.toArray).size+(ByteArray.mk #[58,58]).size>9223372036854775807):=by rw [zaF];show ¬(X.length+2>_);omega
  have qM: ¬((ByteArray.mk (X++[58,58]).toArray).size+(ByteArray.mk Y.toArray).size>9223372036854775807):=by rw [zaF,zaF,List.length_append];show ¬(X.length+2+Y.length>_);omega
  go_wp2
  go_region_held3 (fun _=>True) (exact trivial)
   (first
    |(go_simp;go_at_call 182;((with_reducible refine (qB.out _ (zaH _)).mono ?_);rintro e w4 ⟨rfl,o⟩))
    |(go_simp;go_at_call 182;((with_reducible refine (qz.out _ (zgM o)).mono ?_);rintro e w5 ⟨rfl,qD⟩)))
  have qm:Below w.heap.size w w5:=D.trans (((zgM o).trans (qD.mono (zgM o).size)).mono D.size)
  have qr:Hid (X++58::58::Y=zdH hi lo):=by show X++58::58::Y=zdH hi lo;rw [HE.out];simp
  go_wp2
  go_ret
  exact ⟨congrArg (fun l:List UInt8=>Ending.returned (.string ⟨l.toArray⟩)) qr.out,qm⟩
def zrB (p:List Int) (f n:Nat):Bool:=((p.drop f).take n).all fun x=>decide (x=0)
def zrBB (d:List Bool) (f n:Nat):Bool:=((d.drop f).take n).all id
theorem zr_BB (p:List Int) (f n:Nat):zrB p f n=zrBB (zcT p) f n:=by
 unfold zrB zrBB zcT
 rw [←List.map_drop,←List.map_take,List.all_map]
 rfl
def cands:List (Nat×Nat):=[(8,0),(7,0),(7,1),(6,0),(6,1),(6,2),(5,0),(5,1),(5,2),(5,3),(4,0),(4,1),(4,2),(4,3),(4,4),(3,0),(3,1),(3,2),(3,3),(3,4),(3,5),(2,0),(2,1),(2,2),(2,3),(2,4),(2,5),(2,6)]
def ymX (d:List Bool):Bool:=
 cands.all (fun c=> !(zrBB d c.2 c.1)||decide (c.1<(lrAt d 8).2.2 - (lrAt d 8).2.1)||(decide (c.1=(lrAt d 8).2.2 - (lrAt d 8).2.1)&&decide ((lrAt d 8).2.1≤c.2)))&&
  (decide ((lrAt d 8).2.1=(lrAt d 8).2.2)||(decide (2≤(lrAt d 8).2.2 - (lrAt d 8).2.1)&&zrBB d (lrAt d 8).2.1 ((lrAt d 8).2.2 - (lrAt d 8).2.1)))
theorem spec8: ∀f i e d j g o m:Bool,ymX [f,i,e,d,j,g,o,m]=true:=by decide+kernel
theorem ykZ {p:List Int} (d:p.length=8):ymX (zcT p)=true:=by
 match p,d with
 |[j,f,m,o,i,q,e,g],_=>exact spec8 _ _ _ _ _ _ _ _
theorem lr_is {p:List Int} (f:p.length=8) (h:(lrAt (zcT p) 8).2.1≠(lrAt (zcT p) 8).2.2):
  2≤(lrAt (zcT p) 8).2.2 - (lrAt (zcT p) 8).2.1∧zrB p (lrAt (zcT p) 8).2.1 ((lrAt (zcT p) 8).2.2 - (lrAt (zcT p) 8).2.1)=true:=by
 have d:=ykZ f
 unfold ymX at d
 rw [Bool.and_eq_true] at d
 rw [zr_BB]
 have:=d.2
 simp only [Bool.or_eq_true,Bool.and_eq_true,decide_eq_true_eq] at this
 rcases this with e|e
 ·exact absurd e h
 ·exact e
theorem ymD: ∀d:Fin 16,(dgt d.val).toNat≠58∧(dgt d.val).toNat≠46:=by decide+kernel
theorem yiX (d:Nat) (h:d<16):(dgt d).toNat≠58∧(dgt d).toNat≠46:=ymD ⟨d,h⟩
theorem z6D (a:List UInt8) (c:UInt8):valP 16 (a++[c])=valP 16 a*16+valZ (c.toNat:Int):=by simp [valP]
theorem ybD (a:List UInt8) (c:UInt8):zbG 16 (a++[c])=(zbG 16 a&&digC 16 c):=by simp [zbG]
theorem zeJ (u:Nat):zbG 16 (hexD u)=true∧valP 16 (hexD u)=(u:Int)∧hexD u≠[]∧ ∀c∈hexD u,c.toNat≠58∧c.toNat≠46:=by
 induction u using Nat.strongRecOn with
 |ind u g=>
  by_cases h:u<16
  ·rw [zjA u h]
   refine ⟨?_,?_,by simp,fun c d=> ?_⟩
   ·simp [zbG,ycU 16 u h (by omega)]
   ·simp [valP,zrN u h]
   ·simp at d;subst d;exact yiX u h
  ·rw [zlD u (by omega)]
   obtain ⟨f,i,m,j⟩:=g (u/16) (by omega)
   have e:u % 16<16:=by omega
   refine ⟨?_,?_,by simp,fun c d=> ?_⟩
   ·rw [ybD,f,ycU 16 _ e (by omega)];rfl
   ·rw [z6D,i,zrN _ e];omega
   ·rcases List.mem_append.1 d with d|d
    ·exact j c d
    ·simp at d;subst d;exact yiX _ e
theorem yjF {k c:UInt8} (h:c.toNat≠k.toNat):hasB [k] c=false:=by
 have:k≠c:=fun e=>h (by rw [e])
 simp [hasB,this]
theorem z3R {x:Int} (h:0≤x∧x≤65535):zdG (hexI x)=(x,true):=by
 obtain ⟨d,f,e,_⟩:=zeJ x.toNat
 have i:(hexD x.toNat).length≤4:=zrZ h
 have g:0<(hexD x.toNat).length:=List.length_pos_iff.2 e
 unfold hexI
 rw [zoU (by omega) d]
 congr 1
 rw [f];omega
theorem zwU (x:Int):(zbN (hexI x)).2=false:=by
 unfold hexI
 rw [zpA]
 rw [zpM _ (fun c d=>yjF ((zeJ x.toNat).2.2.2 c d).2)]
 simp
theorem zvP (a r:List UInt8) (h: ∀c∈a,hasB [58] c=false):zcA (a++[58]++r)=a::zcA r:=by
 unfold zcA zbF spl
 rw [List.foldl_append,List.foldl_append,zlU _ a [] [] h]
 have e:[58].foldl (zaP (hasB [58])) (([]:List (List UInt8)),([]:List UInt8)++a)=([a],[]):=by simp [zaP,hasB]
 rw [e,zvD _ r [a] []]
 simp
theorem z3J (a:List UInt8) (h: ∀c∈a,hasB [58] c=false):zcA a=[a]:=by
 unfold zcA zbF spl
 rw [zlU _ a [] [] h]
 simp
theorem join_cons (d x y:List UInt8) (z:List (List UInt8)):Lib.join (x::y::z) d=x++d++Lib.join (y::z) d:=by simp [Lib.join,List.intercalate]
theorem z0F (x:Int): ∀c∈hexI x,hasB [58] c=false:=fun c d=>yjF ((zeJ x.toNat).2.2.2 c d).1
theorem zwD (l:List Int) (h:l≠[]):zcA (zbB l)=l.map hexI:=by
 induction l with
 |nil=>exact absurd rfl h
 |cons x r d=>
  cases r with
  |nil=>simp only [zbB,List.map_cons,List.map_nil];rw [show Lib.join [hexI x] [58]=hexI x from by simp [Lib.join]];exact z3J _ (z0F x)
  |cons y r=>
   have e:zbB (x::y::r)=hexI x++[58]++zbB (y::r):=join_cons _ _ _ _
   rw [e,zvP _ _ (z0F x),d (by simp)]
   rfl
theorem yfZ (last:Bool) (l:List Int) (h:In16 l): ∀acc,rowP last acc (l.map hexI)=(acc++l,true):=by
 induction l with
 |nil=>intro acc;simp [rowP]
 |cons x r e=>
  intro acc
  rw [List.map_cons,zjW (x:=x) (fun d=>by rw [zwU] at d;exact absurd d.2.2 (by decide)) (z3R (h x (by simp))),e (fun y f=>h y (by simp [f]))]
  simp
theorem z0J (l:List Int) (h:l≠[]):zbB l≠[]:=by
 cases l with
 |nil=>exact absurd rfl h
 |cons x r=>
  have d:hexI x≠[]:=(zeJ x.toNat).2.2.1
  cases r with
  |nil=>simpa [zbB,Lib.join] using d
  |cons y r=>
   rw [show zbB (x::y::r)=hexI x++[58]++zbB (y::r) from join_cons _ _ _ _]
   simp
theorem zoF (last:Bool) (l:List Int) (h:In16 l):rowZ (zbB l) last=(l,true):=by
 by_cases e:l=[]
 ·subst e;rfl
 ·unfold rowZ
  rw [if_neg (z0J l e),zwD l e,yfZ last l h]
  rfl
theorem zrA (x y:List UInt8) (h: ∀c∈x,c≠58):ccAt (x++y)=(ccAt y).map (· +x.length):=by
 induction x with
 |nil=>show ccAt y=_;cases ccAt y<;>rfl
 |cons a r e=>
  rw [List.cons_append,ccAt,if_neg (fun d=>h a (by simp) d.1),e (fun c d=>h c (by simp [d]))]
  cases ccAt y with
  |none=>rfl
  |some k=>simp;omega
theorem zxU (z:List UInt8) (h:z.head? ≠some 58):ccAt (58::z)=(ccAt z).map (· +1):=by
 rw [ccAt,if_neg (fun d=>h d.2)]
theorem zhF (x:Int): ∀c∈hexI x,c≠58:=fun c d e=>((zeJ x.toNat).2.2.2 c d).1 (by rw [e];rfl)
theorem zpD (l:List Int):(zbB l).head? ≠some 58:=by
 cases l with
 |nil=>simp [zbB,Lib.join]
 |cons x r=>
  have i:=(zeJ x.toNat).2.2.1
  have d:=zhF x
  have f: ∀y,(hexI x++y).head? ≠some 58:=fun y=>by
   cases e:hexI x with
   |nil=>exact absurd e i
   |cons c s=>
    rw [e] at d
    intro g
    simp at g
    exact d c (by simp) g
  cases r with
  |nil=>have:=f [];simpa [zbB,Lib.join] using this
  |cons y r=>
   rw [show zbB (x::y::r)=hexI x++[58]++zbB (y::r) from join_cons _ _ _ _,List.append_assoc]
   exact f _
theorem ylJ (l:List Int):ccAt (zbB l)=none:=by
 induction l with
 |nil=>rfl
 |cons x r d=>
  cases r with
  |nil=>
   rw [show zbB [x]=hexI x++[] from by simp [zbB,Lib.join],zrA _ _ (zhF x)]
   rfl
  |cons y r=>
   rw [show zbB (x::y::r)=hexI x++[58]++zbB (y::r) from join_cons _ _ _ _,List.append_assoc,zrA _ _ (zhF x)]
   rw [show [58]++zbB (y::r)=58::zbB (y::r) from rfl,zxU _ (zpD _),d]
   rfl
theorem cc_two (l:List Int) (y:List UInt8):ccAt (zbB l++58::58::y)=some (zbB l).length:=by
 induction l with
 |nil=>rfl
 |cons x r f=>
  cases r with
  |nil=>
   rw [show zbB [x]=hexI x from by simp [zbB,Lib.join],zrA _ _ (zhF x)]
   rw [show ccAt (58::58::y)=some 0 from by rw [ccAt,if_pos ⟨rfl,rfl⟩]]
   simp
  |cons z r=>
   rw [show zbB (x::z::r)=hexI x++[58]++zbB (z::r) from join_cons _ _ _ _,List.append_assoc,List.append_assoc,zrA _ _ (zhF x)]
   have i:(zbB (z::r)++58::58::y).head? ≠some 58:=by
    have d:=zpD (z::r)
    have g:=z0J (z::r) (by simp)
    cases e:zbB (z::r) with
    |nil=>exact absurd e g
    |cons c s=>rw [e] at d;simpa using d
   rw [show [58]++(zbB (z::r)++58::58::y)=58::(zbB (z::r)++58::58::y) from rfl,zxU _ i,f]
   simp only [Option.map_some,List.length_append,List.length_singleton]
   congr 1
   omega
theorem ykB {p:List Int} {f n:Nat} (g:f+n≤p.length) (h:zrB p f n=true):p.take f++List.replicate n 0++p.drop (f+n)=p:=by
 have e:(p.drop f).take n=List.replicate n 0:=by
  rw [List.eq_replicate_iff]
  refine ⟨by simp;omega,fun x d=> ?_⟩
  have:=List.all_eq_true.1 h x d
  exact of_decide_eq_true this
 rw [←e,←List.drop_drop,List.append_assoc,List.take_append_drop,List.take_append_drop]
theorem z7N {p:List Int} (j:p.length=8) (d:In16 p):sixL (zsJ p)=(p,true):=by
 have A:=zxI p
 unfold zsJ
 split
 ·rw [zuR (ylJ p) (zoF true p d),if_pos ⟨rfl,j⟩]
 ·rename_i i
  have m:=lr_is j i
  generalize (lrAt (zcT p) 8).2.1=F at*
  generalize (lrAt (zcT p) 8).2.2=T at*
  have g:zbB (p.take F)++[58,58]++zbB (p.drop T)=zbB (p.take F)++58::58::zbB (p.drop T):=by simp
  rw [g]
  have o:(zbB (p.take F)++58::58::zbB (p.drop T)).take (zbB (p.take F)).length=zbB (p.take F):=List.take_left
  have q:(zbB (p.take F)++58::58::zbB (p.drop T)).drop ((zbB (p.take F)).length+2)=zbB (p.drop T):=by
   rw [←List.drop_drop,List.drop_left];rfl
  rw [zsL (T:=p.take F) (U:=p.drop T) (b:=true) (c:=true) (cc_two (p.take F) (zbB (p.drop T))) (by rw [o];exact zoF false _ (d.take F)) (by rw [q];exact zoF true _ (d.drop T))]
  have e:(p.take F).length+(p.drop T).length=8 - (T - F):=by rw [List.length_take,List.length_drop,j];omega
  rw [if_pos ⟨rfl,rfl,by omega⟩,e,show 8 - (8 - (T - F))=T - F from by omega]
  have:=ykB (p:=p) (f:=F) (n:=T - F) (by omega) m.2
  rw [show F+(T - F)=T from by omega] at this
  rw [this]
theorem z0B {hi lo:Int} (g:0≤hi) (e:hi≤18446744073709551615) (d:0≤lo) (f:lo≤18446744073709551615):sixZ (zdH hi lo)=((hi,lo),true):=by
 unfold sixZ zdH
 rw [z7N rfl (ydS g e d f),ylW,ylG]
theorem z4Z (ps:List (List UInt8)) (h: ∀p∈ps,p.length≤4) (d:ps≠[]):(Lib.join ps [58]).length+1≤5*ps.length:=by
 induction ps with
 |nil=>exact absurd rfl d
 |cons p r e=>
  have g:=h p (by simp)
  cases r with
  |nil=>simp [Lib.join];omega
  |cons q r=>
   have i:=e (fun x f=>h x (by simp [f])) (by simp)
   rw [join_cons,List.length_append,List.length_append,List.length_cons (a:=p)]
   simp only [List.length_singleton]
   omega
theorem zuS {hi lo:Int} (D:0≤hi) (B:hi≤18446744073709551615) (G:0≤lo) (j:lo≤18446744073709551615):(zdH hi lo).length≤39:=by
 have d:=ydS D B G j
 have f:(pcs hi lo).length=8:=rfl
 unfold zdH
 generalize pcs hi lo=p at*
 have m:=zxI p
 unfold zsJ
 split
 ·have:=z4Z (p.map hexI) (fun q C=>by
   obtain ⟨x,i,rfl⟩:=List.mem_map.1 C
   exact zrZ (d x i)) (by intro e;rw [List.map_eq_nil_iff] at e;rw [e] at f;cases f)
  rw [List.length_map,f] at this
  unfold zbB
  omega
 ·rename_i g
  have o:=lr_is f g
  have A:=zhA (d.take (lrAt (zcT p) 8).2.1)
  have E:=zhA (d.drop (lrAt (zcT p) 8).2.2)
  rw [List.length_take,f] at A
  rw [List.length_drop,f] at E
  simp only [List.length_append,List.length_cons,List.length_nil]
  omega
end
end
end Go.Proofs.YtegmcmgndllmaaaGreatDoor
