/-
  What the law AgreeNever leans on, and its walk (4 of 42).
-/
import Derived.Lib.IndexMore
import Derived.Deep.Onto
import Derived.Laws.CopyOwn
import Derived.Lib.AppendZerosOnto
import Derived.Laws.MakeOwn
import Derived.Test.YtegmcmgndllmaaaGreatDoorAgreeNeverPkC
namespace Go.Proofs.YtegmcmgndllmaaaGreatDoor
set_option maxRecDepth 100000
set_option maxHeartbeats 16000000
abbrev ykH := @Lib.hid
abbrev ykI := @Nat.le_refl
abbrev ykJ := @Go.RowKit.Below.refl
section
section
open Go.RowKit Go.Sort Go.Lib
end
section
open Go.RowKit
def zdQ (l:List UInt8):Int×Bool:=if l.length<1∨4<l.length then (0,false) else if zbO 16 l then (valP 16 l,true) else (0,false)
def zdG (l:List UInt8):List (List UInt8):=zbW (hasB [58]) l
def rowP (last:Bool):List Int→List (List UInt8)→List Int×Bool
 |d,[]=>(d,true)
 |d,p::r=>if last=true∧r=[]∧(zaP p).2=true then (d++[(zaP p).1/65536,(zaP p).1 % 65536],true)
  else if (zdQ p).2=true then rowP last (d++[(zdQ p).1]) r else ([],false)
def rowZ (l:List UInt8) (last:Bool):List Int×Bool:=if l=[] then ([],true) else rowP last [] (zdG l)
def ccAt:List UInt8→Option Nat
 |[]=>none
 |a::r=>if a=58∧r.head? =some 58 then some 0 else (ccAt r).map (· +1)
def sixL (l:List UInt8):List Int×Bool:=
 match ccAt l with
 |none=>if (rowZ l true).2=true∧(rowZ l true).1.length=8 then ((rowZ l true).1,true) else ([],false)
 |some k=>if (rowZ (l.take k) false).2=true∧(rowZ (l.drop (k+2)) true).2=true∧(rowZ (l.take k) false).1.length+(rowZ (l.drop (k+2)) true).1.length≤7 then
   ((rowZ (l.take k) false).1++List.replicate (8 - ((rowZ (l.take k) false).1.length+(rowZ (l.drop (k+2)) true).1.length)) 0++(rowZ (l.drop (k+2)) true).1,true)
  else ([],false)
def hi4 (l:List Int):Int:=((l.getD 0 0*65536+l.getD 1 0)*65536+l.getD 2 0)*65536+l.getD 3 0
def lo4 (l:List Int):Int:=((l.getD 4 0*65536+l.getD 5 0)*65536+l.getD 6 0)*65536+l.getD 7 0
def sixZ (l:List UInt8):(Int×Int)×Bool:=((hi4 (sixL l).1,lo4 (sixL l).1),(sixL l).2)
theorem z5M (L:List UInt8) (i:zbO 16 L=true):valP 16 L<16^L.length:=by
 induction L with
 |nil=>decide
 |cons c L j=>
  have d:digC 16 c=true∧zbO 16 L=true:=by simpa [zbO] using i
  have A:=of_decide_eq_true d.1
  have o:=j d.2
  rw [z8U,List.length_cons,Int.pow_succ]
  have f:(0:Int)≤16^L.length:=Int.pow_nonneg (by decide)
  have m:valZ (c.toNat:Int)*16^L.length≤15*16^L.length:=Int.mul_le_mul_of_nonneg_right (by omega) f
  omega
theorem z0D (L:List UInt8) (d:zbO 16 L=true) (h:L.length≤3):0≤valP 16 L∧valP 16 L≤4095:=by
 refine ⟨zmC 16 (by decide) L d,?_⟩
 have f:=z5M L d
 rcases (show L.length=0∨L.length=1∨L.length=2∨L.length=3 from by omega) with e|e|e|e<;>rw [e] at f<;>omega
theorem z3S (L:List UInt8) (d:zbO 16 L=true) (h:L.length≤4):0≤valP 16 L∧valP 16 L≤65535:=by
 refine ⟨zmC 16 (by decide) L d,?_⟩
 have f:=z5M L d
 rcases (show L.length=0∨L.length=1∨L.length=2∨L.length=3∨L.length=4 from by omega) with e|e|e|e|e<;>rw [e] at f<;>omega
theorem z9L (b:Int) (s:ByteArray) (k:Nat) (h:k<s.size):valP b (s.data.toList.take (k+1))=valP b (s.data.toList.take k)*b+valZ (s[k].toNat:Int):=by
 rw [zdE s k h];simp [valP]
theorem zjL (l:List UInt8):0≤(zdQ l).1∧(zdQ l).1≤65535:=by
 unfold zdQ
 split
 ·exact ⟨Int.le_refl _,by show (0:Int)≤_;omega⟩
 ·split
  ·exact z3S l (by assumption) (by omega)
  ·exact ⟨Int.le_refl _,by show (0:Int)≤_;omega⟩
theorem z2A {l:List UInt8} (h:l.length<1∨4<l.length):zdQ l=(0,false):=by unfold zdQ;rw [if_pos h]
theorem z9Z {l:List UInt8} (h:zbO 16 l=false):zdQ l=(0,false):=by
 unfold zdQ;split
 ·rfl
 ·rw [h];rfl
theorem z0R {l:List UInt8} (h: ¬(l.length<1∨4<l.length)) (d:zbO 16 l=true):zdQ l=(valP 16 l,true):=by
 unfold zdQ;rw [if_neg h,d];rfl
theorem zfL (l:List UInt8):0≤(zaP l).1∧(zaP l).1≤4294967295:=by
 obtain ⟨⟨x,b⟩,d⟩: ∃x,zaP l=x:=⟨_,rfl⟩
 rw [d]
 cases b with
 |true=>have h:=zxB l x d;exact ⟨h.1,h.2.1⟩
 |false=>have h:=ztI l x d;subst h;exact ⟨Int.le_refl _,by show (0:Int)≤_;omega⟩
theorem yfD (last:Bool) (d:List Int):rowP last d []=(d,true):=rfl
theorem z7N {last:Bool} {d:List Int} {p:List UInt8} {r:List (List UInt8)} {x:Int} (i:last=true) (j:r=[]) (f:zaP p=(x,true)):rowP last d (p::r)=(d++[x/65536,x % 65536],true):=by
 unfold rowP;rw [if_pos ⟨i,j,by rw [f]⟩,f]
theorem zpP {last:Bool} {d:List Int} {p:List UInt8} {r:List (List UInt8)} {x:Int} (h: ¬(last=true∧r=[]∧(zaP p).2=true)) (f:zdQ p=(x,false)):rowP last d (p::r)=([],false):=by
 unfold rowP;rw [if_neg h,f];rfl
theorem zlT {last:Bool} {d:List Int} {p:List UInt8} {r:List (List UInt8)} {x:Int} (h: ¬(last=true∧r=[]∧(zaP p).2=true)) (f:zdQ p=(x,true)):rowP last d (p::r)=rowP last (d++[x]) r:=by
 rw [rowP,if_neg h,f];rfl
def In16 (l:List Int):Prop:= ∀x∈l,0≤x∧x≤65535
theorem In16.nil:In16 []:=fun _ h=>by cases h
theorem In16.append {a b:List Int} (f:In16 a) (i:In16 b):In16 (a++b):=fun x d=>(List.mem_append.1 d).elim (f x) (i x)
theorem In16.zeros (n:Nat):In16 (List.replicate n 0):=fun x d=>by rw [(List.mem_replicate.1 d).2];exact ⟨by decide,by decide⟩
theorem In16.getD {l:List Int} (h:In16 l) (k:Nat):0≤l.getD k 0∧l.getD k 0≤65535:=by
 rw [List.getD_eq_getElem?_getD]
 cases e:l[k]? with
 |none=>exact ⟨Int.le_refl _,by show (0:Int)≤_;omega⟩
 |some x=>exact h x (List.mem_of_getElem? e)
theorem yjI (last:Bool) (ps:List (List UInt8)): ∀d,In16 d→In16 (rowP last d ps).1:=by
 induction ps with
 |nil=>intro d h;exact h
 |cons p r i=>
  intro d h
  unfold rowP
  split
  ·have j:=zfL p
   refine h.append fun x f=> ?_
   simp only [List.mem_cons,List.not_mem_nil,or_false] at f
   rcases f with rfl|rfl<;>omega
  ·split
   ·refine i _ (h.append fun x f=> ?_)
    simp only [List.mem_cons,List.not_mem_nil,or_false] at f
    subst f
    exact zjL p
   ·exact In16.nil
theorem zkK (l:List UInt8) (last:Bool):In16 (rowZ l last).1:=by
 unfold rowZ
 split
 ·exact In16.nil
 ·exact yjI _ _ _ In16.nil
theorem ycW (last:Bool) (ps:List (List UInt8)): ∀d,(rowP last d ps).1.length≤d.length+ps.length+1:=by
 induction ps with
 |nil=>intro d;simp [rowP]
 |cons p r f=>
  intro d
  unfold rowP
  split
  ·simp only [List.length_append,List.length_cons,List.length_nil];omega
  ·split
   ·have:=f (d++[(zdQ p).1])
    simp only [List.length_append,List.length_cons,List.length_nil] at this ⊢
    omega
   ·simp
theorem z7P (l:List UInt8):In16 (sixL l).1:=by
 unfold sixL
 split
 ·split
  ·exact zkK _ _
  ·exact In16.nil
 ·split
  ·exact ((zkK _ _).append (In16.zeros _)).append (zkK _ _)
  ·exact In16.nil
theorem z1O {l:List Int} (h:In16 l):0≤hi4 l∧hi4 l≤18446744073709551615:=by
 have j:=h.getD 0
 have d:=h.getD 1
 have f:=h.getD 2
 have i:=h.getD 3
 unfold hi4
 omega
theorem z2K {l:List Int} (h:In16 l):0≤lo4 l∧lo4 l≤18446744073709551615:=by
 have j:=h.getD 4
 have d:=h.getD 5
 have f:=h.getD 6
 have i:=h.getD 7
 unfold lo4
 omega
theorem zzZ (l:List UInt8):Lib.index l [58,58]=match ccAt l with|some k=>(k:Int)|none=> -1:=by
 induction l with
 |nil=>rfl
 |cons a r i=>
  have f:([58,58]:List UInt8).isPrefixOf (a::r)=decide (a=58∧r.head? =some 58):=by
   rw [Bool.eq_iff_iff,decide_eq_true_iff]
   cases r with
   |nil=>simp [List.isPrefixOf]
   |cons b r=>
    rw [List.isPrefixOf,List.isPrefixOf,List.isPrefixOf,Bool.and_true,Bool.and_eq_true,beq_iff_eq,beq_iff_eq,List.head?_cons,Option.some.injEq]
    exact ⟨fun h=>⟨h.1.symm,h.2.symm⟩,fun h=>⟨h.1.symm,h.2.symm⟩⟩
  unfold Lib.index ccAt
  rw [f]
  by_cases d:a=58∧r.head? =some 58
  ·rw [if_pos (by simpa using d),if_pos d];rfl
  ·rw [if_neg (by simpa using d),if_neg d,i]
   cases ccAt r with
   |none=>rfl
   |some k=>
    have:((k:Int)== -1)=false:=by rw [beq_eq_false_iff_ne];omega
    simp [this]
theorem ygB {l:List UInt8} (h:ccAt l=none):Lib.cut l [58,58]=(l,[],false):=by
 unfold Lib.cut
 rw [zzZ,h]
 rfl
theorem ydC {l:List UInt8} {k:Nat} (h:ccAt l=some k):Lib.cut l [58,58]=(l.take k,l.drop (k+2),true):=by
 unfold Lib.cut
 rw [zzZ,h]
 show (if (0:Int)≤(k:Int) then _ else _)=_
 rw [if_pos (by omega)]
 rfl
theorem ycF (x y:Int) (f:0≤x) (o:x≤4095) (d:0≤y) (j:y<16):bits .or .u16 (x*16) y=x*16+y:=
 bits_join .u16 16 (by decide) (fun n m i=>by rw [IntKind.wrap_u16];omega) 4 (x*16) y (by omega) (by omega) (by omega) d (by omega) (by omega)
def zzT (w:World) (x:Int×Bool) (e:Ending) (w':World):Prop:=e= .returned (.tuple #[.int .u16 x.1,.bool x.2])∧Below w.heap.size w w'
theorem zeV {w w':World} {x:Int×Bool} {n:Int} {b:Bool} (h:x=(n,b)) (d:Below w.heap.size w w'):zzT w x (.returned (.tuple #[.int .u16 n,.bool b])) w':=by
 subst h;exact ⟨rfl,d⟩
theorem zcA (s:ByteArray) (w:World) (hs:s.size≤1073741824):
  Calls Tryz.prog 279 #[.string s] w (zzT w (zdQ s.data.toList)):=by
 by_cases N:s.size=0
 ·obtain rfl:=zdO s N
  clear N hs
  have m:Hid (zdQ (ByteArray.mk #[]).data.toList=(0,false)):=rfl
  go_enter Tryz.func279,Tryz.ntmps279
  go_wp2
  go_ret2
  exact zeV m.out (ykJ _ _)
 ·have qh:=zeA s N
  by_cases h4:4<s.size
  ·have m:=ykH (z2A (l:=s.data.toList) (.inr (by rw [zaR];exact h4)))
   clear N
   go_enter Tryz.func279,Tryz.ntmps279
   go_wp2
   go_ret2
   exact zeV m.out (ykJ _ _)
  ·have K:=ykH (z9Z (l:=s.data.toList))
   have S:=ykH (z0R (l:=s.data.toList) (by rw [zaR];omega))
   clear N
   go_enter Tryz.func279,Tryz.ntmps279
   go_wp2
   go_loopw [4] (fun n wr=> ∃(k:Nat) (A:Int),n= .int .u16 A∧k≤s.size∧wr.heap[w.heap.size]? =some (.stringIter s k)∧Below w.heap.size w wr∧w.heap.size+1≤wr.heap.size∧Hid (A=valP 16 (s.data.toList.take k))∧Hid (zbO 16 (s.data.toList.take k)=true)) (fun _ wr=>s.size - wr.iterPos w.heap.size)
   case atStart=>exact ⟨0,0,rfl,Nat.zero_le _,World.iter_heap w s 0,(ykJ _ w).alloc (ykI _) _,by simp [World.iter],rfl,rfl⟩
   case round=>
    obtain ⟨k,A,rfl,hk,f,D,Z,HA,J⟩:=hrel
    by_cases i:k<s.size
    ·obtain ⟨c,U⟩: ∃c,(s[k]'i).toNat=c:=⟨_,rfl⟩
     have o: ∀I,(Instr.next (.pointer (some ⟨w.heap.size,0,none⟩)) true I).run Tryz.prog wr=_:=fun I=>Lib.run_next_any_at wr w.heap.size s k I f i
     have O:=z0D _ J.out (by rw [List.length_take];omega)
     rw [←HA.out] at O
     obtain ⟨qa,qc⟩:=O
     by_cases qf:c<128
     ·have j:=decode_ascii s k i (by omega)
      rw [U] at j
      rw [j] at o
      have B:=Lib.iterAt_heap wr w.heap.size s k (k+1) f
      have d:=Lib.below_iterAt D (k:=w.heap.size) (ykI _) s (k+1)
      have Q:w.heap.size+1≤(wr.iterAt w.heap.size s (k+1)).heap.size:=by rw [Lib.iterAt_size];exact Z
      simp only at o
      generalize wr.iterAt w.heap.size s (k+1)=wi at*
      obtain ⟨v,hv⟩: ∃v,valZ (c:Int)=v:=⟨_,rfl⟩
      have M:v<16:=by rw [←hv];exact zzQ _
      have Y:Hid (valZ (s[k].toNat:Int)=v):=by show valZ (s[k].toNat:Int)=v;rw [U];exact hv
      have qb:=ykH f
      have HC:=ykH U
      clear f U j
      by_cases h0:v<0
      ·have m:=ykH (K.out (zeH 16 s k i (zfN Y.out (.inl h0))))
       go_wp2_with (go_at_call 107;refine (zbS _ _).mono ?_;rintro e w' ⟨rfl,rfl⟩)
       go_ret2
       exact zeV m.out d
      ·have m:=ykH (zlX 16 s k i J.out (zuR Y.out (by omega) (by omega)))
       have H:=z9L 16 s k i
       rw [←HA.out,Y.out] at H
       have qd:=ykH H
       clear H
       have qg:=ycF A v qa qc (by omega) M
       go_wp2_with (go_at_call 107;refine (zbS _ _).mono ?_;rintro e w' ⟨rfl,rfl⟩)
       go_roundw
       case rel=>exact ⟨k+1,_,rfl,by omega,B,d,Q,qd.out.symm,m⟩
       case measure=>
        simp only [World.iterPos,B,qb.out]
        omega
     ·have hh:=decode_high s k i (by omega)
      obtain ⟨r,V⟩: ∃r,(Utf8.decode s k).1=r:=⟨_,rfl⟩
      obtain ⟨wd,C⟩: ∃r,(Utf8.decode s k).2=r:=⟨_,rfl⟩
      have X:=decode_le s k
      rw [V,C] at o
      rw [V,C] at hh
      rw [V] at X
      have d:=Lib.below_iterAt D (k:=w.heap.size) (ykI _) s (k+wd)
      generalize wr.iterAt w.heap.size s (k+wd)=wi at*
      have hv:valZ (r:Int)= -1:=zjP _ (by omega)
      have m:=ykH (K.out (zeH 16 s k i (zfN (zjP _ (by omega)) (.inl (by omega)))))
      clear U V C
      go_wp2_with (go_at_call 107;refine (zbS _ _).mono ?_;rintro e w' ⟨rfl,rfl⟩)
      go_ret2
      exact zeV m.out d
    ·have o: ∀I,(Instr.next (.pointer (some ⟨w.heap.size,0,none⟩)) true I).run Tryz.prog wr=_:=fun I=>Lib.run_next_end_at wr w.heap.size s k I f i
     have G:=J.out
     rw [zeG s k i] at G
     have E:=HA.out
     rw [zeG s k i] at E
     have m:=ykH (S.out G)
     have qe:=ykH E
     clear G E
     go_wp2
     go_ret2
     exact zeV (by rw [m.out,qe.out]) D
theorem Tryz.infoU16:(Tryz.prog.info? 88).map (fun i=>(i.zero,i.size,i.bytes))=some (some (.int .u16 0),1,2):=by kernel_rfl
theorem yhX (w:World) (u1 u2:Value) (t:TypeId): ∀j x,[u1,u2][j]? =some x→(w.alloc (.cells #[u1,u2] t)).cell? ((⟨w.heap.size,0,none⟩:Addr).add j)=some x:=by
 intro j x d
 match j,d with
 |0,d=>simp at d;subst d;simp [Addr.add]
 |1,d=>simp at d;subst d;simp [Addr.add]
theorem z0Z {P:Program} (w:World) {E:Array Oper} {m:List Oper} {o:Oper} {a:Act} {Q:Exit→Act→World→Prop} (H:o.guard=none) (s x:Operand) (t:TypeId)
  (ho:o.op= .call {callee:= .builtin .append,args:= #[s,x],argTypes:= #[t,t]})
  (base:Nat) (e:TypeId) (i:TypeInfo) (z:Value) (d:Nat) (N:P.underlying t=some (.slice e)) (hi:P.info? e=some i) (S:i.zero=some z)
  (B:i.size=1) (K:i.bytes=d) (I:z.cells.size=1)
  (v:Value) (n:Nat) (xs:List Value) (U:a.eval s=v) (j:w.ownsRow base e 1 v n xs) (u1 u2:Value) (X:a.eval x= .slice (some ⟨w.heap.size,0,none⟩) 2 2) (Y:u1.oneCell'=true) (Z:u2.oneCell'=true)
  (J:n+2≤maxLen) (f:(n+2)*d≤140737488355328) (C:base≤w.heap.size)
  (h: ∀G w',w'.ownsRow base e 1 G (n+2) (xs++[u1,u2])→Below base w w'→wpList P E Q m (a.put o.dst G) w'):wpList P E Q (o::m) a (w.alloc (.cells #[u1,u2] e)):=by
 refine wpList_append_own (w.alloc (.cells #[u1,u2] e)) H s x t ho base e i z 1 d N hi S B K I (by decide) v n xs U (j.alloc _) ⟨w.heap.size,0,none⟩ 2 2 [u1,u2] X rfl (yhX w u1 u2 e) ?_ J f (by simp;omega) ?_
 ·intro y M;simp at M;rcases M with rfl|rfl<;>assumption
 ·intro G V D A _
  exact h G V D (((ykJ base w).alloc C _).grown A (by simp;omega) (fun k O=>(j.lt k O).1))
def Nums (t:TypeId) (k:IntKind) (B:Nat) (w:World) (v:Value) (l:List Int):Prop:=w.ownsRow B t 1 v l.length (l.map (Value.int k))
theorem Nums.nil (t:TypeId) (k:IntKind) (B:Nat) (w:World):Nums t k B w (.slice none 0 0) []:=World.ownsRow_nil _ _ _ _
theorem Nums.below {t:TypeId} {k:IntKind} {B:Nat} {w w':World} {v:Value} {l:List Int} (h:Nums t k B w v l) (d:Below w.heap.size w w'):Nums t k B w' v l:=zdJ h d
theorem Nums.mono {t:TypeId} {k:IntKind} {B d:Nat} {w:World} {v:Value} {l:List Int} (h:Nums t k B w v l) (f:d≤B):Nums t k d w v l:=World.ownsRow.mono h f
theorem Nums.snoc2 {t:TypeId} {k:IntKind} {B:Nat} {w:World} {v:Value} {l:List Int} {x y:Int} (h:w.ownsRow B t 1 v (l.length+2) (l.map (Value.int k)++[.int k x,.int k y])):Nums t k B w v (l++[x,y]):=by
 unfold Nums;rw [List.length_append,List.map_append];exact h
theorem Nums.row {t:TypeId} {k:IntKind} {B:Nat} {w:World} {v:Value} {l:List Int} (h:Nums t k B w v l):RowR w v (l.map (Value.int k)):=by
 refine RowR.of_own (base:=B) (e:=t) ?_
 rw [List.length_map];exact h
def ybE (t:TypeId) (k:IntKind) (w:World) (x:List Int×Bool) (e:Ending) (w':World):Prop:= ∃v,e= .returned (.tuple #[v,.bool x.2])∧Nums t k w.heap.size w' v x.1∧Below w.heap.size w w'
theorem zdU {t:TypeId} {k:IntKind} {w w':World} {x:List Int×Bool} {v:Value} {l:List Int} {b:Bool} (h:x=(l,b)) (f:Nums t k w.heap.size w' v l) (d:Below w.heap.size w w'):ybE t k w x (.returned (.tuple #[v,.bool b])) w':=by
 subst h;exact ⟨v,rfl,f,d⟩
theorem yhH {l:List UInt8} {last:Bool} (h:l≠[]):rowZ l last=rowP last [] ((zdG l).drop 0):=by unfold rowZ;rw [if_neg h];rfl
theorem z0G (k:Nat) (ps:List (List UInt8)) (h:k<ps.length):ps.drop k=ps.getD k []::ps.drop (k+1):=by
 rw [List.drop_eq_getElem_cons h,List.getD,List.getElem?_eq_getElem h];rfl
theorem zsS (k:Nat) (ps:List (List UInt8)) (h:ps.length≤k):ps.drop k=[]:=List.drop_eq_nil_of_le h
theorem z0K (k:Nat) (ps:List (List UInt8)) (h:k<ps.length):ps.drop k≠[]:=by intro e;have:=congrArg List.length e;simp at this;omega
theorem ziS (s:ByteArray) (last:Bool) (w:World) (hs:s.size≤1073741824):
  Calls Tryz.prog 229 #[.string s,.bool last] w (ybE 88 .u16 w (rowZ s.data.toList last)):=by
 by_cases hn:s.size=0
 ·obtain rfl:=zdO s hn
  clear hn hs
  have Y:Hid (rowZ (ByteArray.mk #[]).data.toList last=([],true)):=rfl
  go_enter Tryz.func229,Tryz.ntmps229
  go_wp2
  go_ret2
  exact zdU Y.out (Nums.nil _ _ _ _) (ykJ _ _)
 ·have qz:=zeA s hn
  obtain ⟨i0,hi,qe,qa,qd⟩:=info_parts Tryz.infoU16
  have HZ:=ykH (yhH (last:=last) (zfM s hn))
  clear hn
  obtain ⟨m,hm⟩: ∃m,(zdG s.data.toList).length=m:=⟨_,rfl⟩
  have h0:0<(zdG s.data.toList).length:=zjK _ _
  rw [hm] at h0
  have qy:m≤1073741825:=by
   have h1:=zdF (hasB [58]) s.data.toList
   rw [zaR] at h1
   have h2:=hm
   unfold zdG at h2
   omega
  have HM:=ykH hm
  clear hm
  go_enter Tryz.func229,Tryz.ntmps229
  go_wp2_with fail
  refine (zdN s _ _ hs).mono ?_
  rintro e E ⟨v,rfl,hp,H⟩
  have qq:zbI w.heap.size E v (zdG s.data.toList):=hp
  obtain ⟨g,qD,rfl,qh,hg,V⟩:=qq.form2 (by rw [HM.out];exact h0)
  rw [HM.out] at qh V ⊢
  have ql:=ykH V
  clear hp qq V
  have qv:=ykH qh
  go_wp2
  go_loopw [7,20] (fun v i wr=> ∃(k:Nat) (T:List Int),k≤m∧i= .int .i64 k∧wr.ownsRow E.heap.size 88 1 v k (T.map (Value.int .u16))∧Hid (T.length=k)∧Hid (rowP last T ((zdG s.data.toList).drop k)=rowZ s.data.toList last)∧Below E.heap.size E wr) (fun _ i _=>m - (intOf i).toNat)
  case atStart=>exact ⟨0,[],by omega,rfl,World.ownsRow_nil _ _ _ _,rfl,HZ.out.symm,ykJ _ _⟩
  case round=>
   obtain ⟨k,T,hk,rfl,j,X,HG,f⟩:=hrel
   by_cases qp:k<m
   ·obtain ⟨p,qf⟩: ∃p,(zdG s.data.toList).getD k []=p:=⟨_,rfl⟩
    have qm:=ql.out k qp
    rw [qf] at qm
    have qs:wr.cell? ⟨g,k,none⟩=some (.string ⟨p.toArray⟩):=(f.cell (p:=⟨g,k,none⟩) hg).trans qm
    have qB:p.length≤s.size:=by rw [←qf,←zaR];exact ziA _ _ _
    have qk:=z0G k (zdG s.data.toList) (by rw [HM.out];exact qp)
    rw [qf] at qk
    have qo:=ykH qk
    have M:Hid (rowP last T (p::(zdG s.data.toList).drop (k+1))=rowZ s.data.toList last):=by
     show rowP last T (p::(zdG s.data.toList).drop (k+1))=rowZ s.data.toList last
     rw [←qo.out];exact HG.out
    clear qk qm qo
    have HP:=ykH qf
    clear qf
    obtain ⟨x,b,qj⟩: ∃x b,zdQ p=(x,b):=⟨_,_,rfl⟩
    have hx:0≤x∧x≤65535:=by have h9:=zjL p;rw [qj] at h9;exact h9
    obtain ⟨qw,qC⟩:=hx
    have C:=ykH qj
    clear qj
    obtain ⟨y,b4,qc⟩: ∃x b,zaP p=(x,b):=⟨_,_,rfl⟩
    have hy:0≤y∧y≤4294967295:=by have h9:=zfL p;rw [qc] at h9;exact h9
    obtain ⟨qE,qx⟩:=hy
    have O:=ykH qc
    clear qc
    by_cases Z:k+1=m
    ·have qr:((k:Int)==(m:Int) - 1)=true:=by rw [beq_iff_eq];omega
     have qi:=ykH (zsS (k+1) (zdG s.data.toList) (by rw [HM.out];omega))
     have qA:m - 1≤k:=by omega
     clear Z
     cases last with
     |true=>
      cases b4 with
      |true=>
       have Y:=ykH (M.out.symm.trans (z7N rfl qi.out O.out))
       go_wp2_with fail
       refine (zfX ⟨p.toArray⟩ _ (by rw [zaI];omega)).mono ?_
       rw [zaQ,O.out]
       rintro e w2 ⟨rfl,J⟩
       have Q:Below E.heap.size E w2:=f.trans (J.mono f.size)
       have I:=zdJ j J
       have qn:=Q.size
       clear J j
       go_wp2_with (at_builtin;refine z0Z _ rfl _ _ 224 rfl E.heap.size 88 i0 (.int .u16 0) 2 Tryz.underlying224 hi qe qa qd rfl _ _ _ rfl I (.int .u16 (y/65536)) (.int .u16 (y % 65536)) rfl rfl rfl (by unfold maxLen;omega) (by omega) qn ?_;intro v' S A N)
       go_ret2
       exact zdU Y.out ((Nums.snoc2 (by rw [X.out];exact A)).mono H.size) (H.trans ((Q.trans N).mono H.size))
      |false=>
       have B:Hid (¬(true=true∧(zdG s.data.toList).drop (k+1)=[]∧(zaP p).2=true)):=by
        show ¬_
        rintro ⟨h1,h2,h3⟩
        first|exact qg.out h2|exact absurd h1 (by decide)|(rw [O.out] at h3;exact absurd (show false=true from h3) (by decide))
       cases b with
       |true=>
        have G:=M.out
        rw [zlT B.out C.out] at G
        have U:=ykH G
        clear G
        go_wp2_with fail
        refine (zfX ⟨p.toArray⟩ _ (by rw [zaI];omega)).mono ?_
        rw [zaQ,O.out]
        rintro e w2 ⟨rfl,J⟩
        have Q:Below E.heap.size E w2:=f.trans (J.mono f.size)
        have I:=zdJ j J
        clear J j
        go_wp2_with fail
        refine (zcA ⟨p.toArray⟩ _ (by rw [zaI];omega)).mono ?_
        rw [zaQ,C.out]
        rintro e S ⟨rfl,d⟩
        have o:Below E.heap.size E S:=Q.trans (d.mono Q.size)
        have D:=zdJ I d
        have K:=o.size
        clear d I
        go_wp2_with (at_builtin;refine zdX _ rfl _ _ 224 rfl E.heap.size 88 i0 (.int .u16 0) 2 Tryz.underlying224 hi qe qa qd rfl _ _ _ rfl D (.int .u16 x) rfl rfl (by omega) (by omega) K ?_;intro v' w4 A N)
        go_roundw
        case rel=>exact ⟨k+1,T++[x],by omega,by go_num,(by rw [List.map_append];exact A),(by show (T++[x]).length=k+1;rw [List.length_append,X.out];rfl),U,o.trans N⟩
        case measure=>simp [intOf];omega
       |false=>
        have Y:=ykH (M.out.symm.trans (zpP B.out C.out))
        go_wp2_with fail
        refine (zfX ⟨p.toArray⟩ _ (by rw [zaI];omega)).mono ?_
        rw [zaQ,O.out]
        rintro e w2 ⟨rfl,J⟩
        have Q:Below E.heap.size E w2:=f.trans (J.mono f.size)
        have I:=zdJ j J
        clear J j
        go_wp2_with fail
        refine (zcA ⟨p.toArray⟩ _ (by rw [zaI];omega)).mono ?_
        rw [zaQ,C.out]
        rintro e S ⟨rfl,d⟩
        have o:Below E.heap.size E S:=Q.trans (d.mono Q.size)
        clear d
        go_wp2
        go_ret2
        exact zdU Y.out (Nums.nil _ _ _ _) (H.trans (o.mono H.size))
     |false=>
      have B:Hid (¬(false=true∧(zdG s.data.toList).drop (k+1)=[]∧(zaP p).2=true)):=by
       show ¬_
       rintro ⟨h1,h2,h3⟩
       first|exact qg.out h2|exact absurd h1 (by decide)|(rw [O.out] at h3;exact absurd (show false=true from h3) (by decide))
      cases b with
      |true=>
       have G:=M.out
       rw [zlT B.out C.out] at G
       have U:=ykH G
       clear G
       go_wp2_with fail
       refine (zcA ⟨p.toArray⟩ _ (by rw [zaI];omega)).mono ?_
       rw [zaQ,C.out]
       rintro e S ⟨rfl,d⟩
       have o:Below E.heap.size E S:=f.trans (d.mono f.size)
       have D:=zdJ j d
       have K:=o.size
       clear d j
       go_wp2_with (at_builtin;refine zdX _ rfl _ _ 224 rfl E.heap.size 88 i0 (.int .u16 0) 2 Tryz.underlying224 hi qe qa qd rfl _ _ _ rfl D (.int .u16 x) rfl rfl (by omega) (by omega) K ?_;intro v' w4 A N)
       go_roundw
       case rel=>exact ⟨k+1,T++[x],by omega,by go_num,(by rw [List.map_append];exact A),(by show (T++[x]).length=k+1;rw [List.length_append,X.out];rfl),U,o.trans N⟩
       case measure=>simp [intOf];omega
      |false=>
       have Y:=ykH (M.out.symm.trans (zpP B.out C.out))
       go_wp2_with fail
       refine (zcA ⟨p.toArray⟩ _ (by rw [zaI];omega)).mono ?_
       rw [zaQ,C.out]
       rintro e S ⟨rfl,d⟩
       have o:Below E.heap.size E S:=f.trans (d.mono f.size)
       clear d
       go_wp2
       go_ret2
       exact zdU Y.out (Nums.nil _ _ _ _) (H.trans (o.mono H.size))
    ·have qr:((k:Int)==(m:Int) - 1)=false:=by rw [beq_eq_false_iff_ne];omega
     have qg:=ykH (z0K (k+1) (zdG s.data.toList) (by rw [HM.out];omega))
     clear Z
     cases last with
     |true=>
      have B:Hid (¬(true=true∧(zdG s.data.toList).drop (k+1)=[]∧(zaP p).2=true)):=by
       show ¬_
       rintro ⟨h1,h2,h3⟩
       first|exact qg.out h2|exact absurd h1 (by decide)|(rw [O.out] at h3;exact absurd (show false=true from h3) (by decide))
      cases b with
      |true=>
       have G:=M.out
       rw [zlT B.out C.out] at G
       have U:=ykH G
       clear G
       go_wp2_with fail
       refine (zcA ⟨p.toArray⟩ _ (by rw [zaI];omega)).mono ?_
       rw [zaQ,C.out]
       rintro e S ⟨rfl,d⟩
       have o:Below E.heap.size E S:=f.trans (d.mono f.size)
       have D:=zdJ j d
       have K:=o.size
       clear d j
       go_wp2_with (at_builtin;refine zdX _ rfl _ _ 224 rfl E.heap.size 88 i0 (.int .u16 0) 2 Tryz.underlying224 hi qe qa qd rfl _ _ _ rfl D (.int .u16 x) rfl rfl (by omega) (by omega) K ?_;intro v' w4 A N)
       go_roundw
       case rel=>exact ⟨k+1,T++[x],by omega,by go_num,(by rw [List.map_append];exact A),(by show (T++[x]).length=k+1;rw [List.length_append,X.out];rfl),U,o.trans N⟩
       case measure=>simp [intOf];omega
      |false=>
       have Y:=ykH (M.out.symm.trans (zpP B.out C.out))
       go_wp2_with fail
       refine (zcA ⟨p.toArray⟩ _ (by rw [zaI];omega)).mono ?_
       rw [zaQ,C.out]
       rintro e S ⟨rfl,d⟩
       have o:Below E.heap.size E S:=f.trans (d.mono f.size)
       clear d
       go_wp2
       go_ret2
       exact zdU Y.out (Nums.nil _ _ _ _) (H.trans (o.mono H.size))
     |false=>
      have B:Hid (¬(false=true∧(zdG s.data.toList).drop (k+1)=[]∧(zaP p).2=true)):=by
       show ¬_
       rintro ⟨h1,h2,h3⟩
       first|exact qg.out h2|exact absurd h1 (by decide)|(rw [O.out] at h3;exact absurd (show false=true from h3) (by decide))
      cases b with
      |true=>
       have G:=M.out
       rw [zlT B.out C.out] at G
       have U:=ykH G
       clear G
       go_wp2_with fail
       refine (zcA ⟨p.toArray⟩ _ (by rw [zaI];omega)).mono ?_
       rw [zaQ,C.out]
       rintro e S ⟨rfl,d⟩
       have o:Below E.heap.size E S:=f.trans (d.mono f.size)
       have D:=zdJ j d
       have K:=o.size
       clear d j
       go_wp2_with (at_builtin;refine zdX _ rfl _ _ 224 rfl E.heap.size 88 i0 (.int .u16 0) 2 Tryz.underlying224 hi qe qa qd rfl _ _ _ rfl D (.int .u16 x) rfl rfl (by omega) (by omega) K ?_;intro v' w4 A N)
       go_roundw
       case rel=>exact ⟨k+1,T++[x],by omega,by go_num,(by rw [List.map_append];exact A),(by show (T++[x]).length=k+1;rw [List.length_append,X.out];rfl),U,o.trans N⟩
       case measure=>simp [intOf];omega
      |false=>
       have Y:=ykH (M.out.symm.trans (zpP B.out C.out))
       go_wp2_with fail
       refine (zcA ⟨p.toArray⟩ _ (by rw [zaI];omega)).mono ?_
       rw [zaQ,C.out]
       rintro e S ⟨rfl,d⟩
       have o:Below E.heap.size E S:=f.trans (d.mono f.size)
       clear d
       go_wp2
       go_ret2
       exact zdU Y.out (Nums.nil _ _ _ _) (H.trans (o.mono H.size))
   ·obtain rfl:k=m:=by omega
    have qb:=HG.out
    rw [zsS k _ (by rw [HM.out];omega),yfD] at qb
    have Y:=ykH qb.symm
    clear qb
    go_wp2
    go_ret2
    exact zdU Y.out (Nums.mono (show Nums _ _ _ _ _ _ from by unfold Nums;rw [X.out];exact j) H.size) (H.trans (f.mono H.size))
theorem z1Y (w:World) (d:Array Value) (t:TypeId) (j:Nat):(w.alloc (.cells d t)).frozen? ⟨w.heap.size,j,none⟩=false:=by
 have h:=heap_alloc_new w (.cells d t)
 simp only [World.frozen?,h]
 simp
def hiP (o:Nat) (l:List Int):Nat→Int
 |0=>0
 |k+1=>hiP o l k*65536+l.getD (o+k) 0
theorem hiP_hi (l:List Int):hiP 0 l 4=hi4 l:=by simp [hiP,hi4]
theorem hiP_lo (l:List Int):hiP 4 l 4=lo4 l:=by simp [hiP,lo4]
theorem zpO {l:List Int} (h:In16 l) (o k:Nat) (i:k≤3):0≤hiP o l k∧hiP o l k≤281474976710655:=by
 have j:=h.getD o
 have d:=h.getD (o+1)
 have f:=h.getD (o+2)
 rcases (show k=0∨k=1∨k=2∨k=3 from by omega) with rfl|rfl|rfl|rfl<;>simp only [hiP,Nat.add_zero]<;>omega
theorem zoK (x y:Int) (f:0≤x) (o:x≤281474976710655) (d:0≤y) (j:y≤65535):bits .or .u64 (x*65536) y=x*65536+y:=
 bits_join .u64 64 (by decide) (fun n m i=>by rw [IntKind.wrap_u64];omega) 16 (x*65536) y (by omega) (by omega) (by omega) d (by omega) (by omega)
abbrev zyW:List Value:=[.int .u16 0,.int .u16 0,.int .u16 0,.int .u16 0,.int .u16 0,.int .u16 0,.int .u16 0,.int .u16 0]
theorem yiC (l:List Int) (j:Nat) (d:j<8):(splice zyW 0 ((l.map (Value.int .u16)).take 8))[j]? =some (.int .u16 (l.getD j 0)):=by
 unfold splice
 simp only [List.take_zero,List.nil_append,Nat.zero_add,List.length_take,List.length_map]
 by_cases h:j<l.length
 ·rw [List.getElem?_append_left (by simp;omega),List.getElem?_take,if_pos d,List.getElem?_map,List.getElem?_eq_getElem h,List.getD,List.getElem?_eq_getElem h]
  rfl
 ·rw [List.getElem?_append_right (by simp;omega),List.getElem?_drop,List.getD,List.getElem?_eq_none (by omega:l.length≤j)]
  simp only [List.length_take,List.length_map]
  rw [show min 8 l.length+(j - min 8 l.length)=j from by omega]
  rcases (show j=0∨j=1∨j=2∨j=3∨j=4∨j=5∨j=6∨j=7 from by omega) with rfl|rfl|rfl|rfl|rfl|rfl|rfl|rfl<;>rfl
theorem zsA (v:Value) (l:List Int) (w:World) (hr:RowR w v (l.map (Value.int .u16))) (qe:In16 l) (qJ:l.length≤1073741824):
  Calls Tryz.prog 230 #[v] w fun e w'=>e= .returned (.agg #[.int .u64 (hi4 l),.int .u64 (lo4 l)])∧Below w.heap.size w w':=by
 obtain ⟨ao,c,rfl,qb⟩:=hr
 rw [List.length_map]
 have Z:=ykH qb
 have G:=ykH qe
 clear qb qe
 have hU:(Tryz.prog.info? 88).map (·.size)=some 1:=by
  obtain ⟨i0,hi,qM,qs,qK⟩:=info_parts Tryz.infoU16
  rw [hi];simp [qs]
 have D:(w.alloc (.cells #[.int .u64 0,.int .u64 0] 173)).heap.size=w.heap.size+1:=by simp
 have D:(w.alloc (.cells #[.int .u64 0,.int .u64 0] 173)).heap.size=w.heap.size+1:=by simp
 have qc:Below (w.heap.size+1) (w.alloc (.cells #[.int .u64 0,.int .u64 0] 173)) ((w.alloc (.cells #[.int .u64 0,.int .u64 0] 173)).alloc (.cells #[.int .u16 0,.int .u16 0,.int .u16 0,.int .u16 0,.int .u16 0,.int .u16 0,.int .u16 0,.int .u16 0] 219)):=(ykJ _ _).alloc (by rw [D];exact ykI _) _
 have S:Hid (0<((l.map (Value.int .u16)).take 8).length→(some (⟨w.heap.size+1,0,none⟩:Addr))=some ⟨w.heap.size+1,0,none⟩∧ ∃ad,ao=some ad∧ ∀j v,((l.map (Value.int .u16)).take 8)[j]? =some v→((w.alloc (.cells #[.int .u64 0,.int .u64 0] 173)).alloc (.cells #[.int .u16 0,.int .u16 0,.int .u16 0,.int .u16 0,.int .u16 0,.int .u16 0,.int .u16 0,.int .u16 0] 219)).cell? (ad.add j)=some v):=fun hp=>by
  have hl:0<l.length:=by simp at hp;omega
  obtain ⟨ad,ha,_⟩:=Z.out 0 (.int .u16 l[0]) (by simp [hl])
  refine ⟨rfl,ad,ha,fun j v O=> ?_⟩
  rw [List.getElem?_take] at O
  split at O
  ·obtain ⟨qO,qd,qj⟩:=Z.out j v O
   rw [ha] at qd
   cases qd
   exact ((((ykJ _ w).alloc (ykI _) _).alloc (by simp) _).cell (World.block_lt_of_cell? w _ qj)).trans qj
  ·cases O
 have X:0+((l.map (Value.int .u16)).take 8).length≤zyW.length:=by simp [zyW];omega
 have V: ∀v∈(l.map (Value.int .u16)).take 8,v.oneCell'=true:=by
  intro v hv
  obtain ⟨x,_,rfl⟩:=List.mem_map.1 (List.mem_of_mem_take hv)
  rfl
 have qa:((l.map (Value.int .u16)).take 8).length=Nat.min l.length 8:=by
  rw [List.length_take,List.length_map];exact Nat.min_comm _ _
 have U:=ykH V
 have qi:=ykH qa
 clear V qa D
 go_enter Tryz.func230,Tryz.ntmps230
 go_wp2_with (refine wpList_copy_splice (o:=⟨some 8,_,_,_,_,_⟩) rfl (.tmp 6) (.tmp 7) 224 224 rfl 88 Tryz.underlying224 hU (some ⟨w.heap.size+1,0,none⟩) ao 8 8 l.length c rfl rfl (w.heap.size+1) 0 zyW 219 (by rw [show w.heap.size+1=(w.alloc (.cells #[.int .u64 0,.int .u64 0] 173)).heap.size from by simp];exact heap_alloc_new _ _) ((l.map (Value.int .u16)).take 8) qi.out S.out X U.out (w.heap.size+1) _ qc (by omega) ?_;intro d HB E)
 have Q:w.heap.size+1<d.heap.size:=(Array.getElem?_eq_some_iff.1 HB.out).1
 have Y:Hid (∀j,j<8→d.cell? ⟨w.heap.size+1,j,none⟩=some (.int .u16 (l.getD j 0))):=fun j O=>by
  rw [cell_of_row d _ j _ _ _ HB.out]
  have:=yiC l j O
  simpa using this
 have C: ∀j u,(#[Value.int .u64 0,Value.int .u64 0]:Array Value)[j]? =some u→d.cell? ⟨w.heap.size,j,none⟩=some u:=fun j u O=>by
  rw [E.cell (p:=⟨w.heap.size,j,none⟩) (by show w.heap.size<w.heap.size+1;omega),cell_of_row _ _ j _ _ _ (heap_alloc_new w _)]
  exact O
 have m: ∀j,d.frozen? ⟨w.heap.size,j,none⟩=false:=fun j=>by
  rw [E.frozen (p:=⟨w.heap.size,j,none⟩) (by show w.heap.size<w.heap.size+1;omega)]
  exact z1Y w _ _ j
 have B:=ykH (And.intro (C 0 _ rfl) (And.intro (C 1 _ rfl) (And.intro (m 0) (m 1))))
 have qh:Below w.heap.size w d:=((ykJ _ w).alloc (ykI _) _).trans (E.mono (by omega))
 clear C m E qc X S U qi Z hU
 have qB:=ykH (heap_alloc_new d (.cells #[.int .u64 0,.int .u64 0] 173))
 have ql:Below d.heap.size d (d.alloc (.cells #[.int .u64 0,.int .u64 0] 173)):=(ykJ _ d).alloc (ykI _) _
 go_loopw [9] (fun i wr=> ∃k:Nat,k≤4∧i= .int .i64 k∧Hid (wr.heap[d.heap.size]? =some (.cells #[.int .u64 (hiP 0 l k),.int .u64 (hiP 4 l k)] 173 (0,0)))∧Below d.heap.size d wr) (fun i _=>4 - (intOf i).toNat)
 case atStart=>exact ⟨0,by omega,rfl,qB,ql⟩
 case round=>
  obtain ⟨k,hk,rfl,HA,f⟩:=hrel
  by_cases qN:k<4
  ·have qG:=zpO G.out 0 k (by omega)
   have qv:=zpO G.out 4 k (by omega)
   have qq:=G.out.getD (0+k)
   have qD:=G.out.getD (4+k)
   have M:wr.cell? ⟨w.heap.size+1,0+k,none⟩=some (.int .u16 (l.getD (0+k) 0)):=(f.cell (p:=⟨w.heap.size+1,0+k,none⟩) Q).trans (Y.out (0+k) (by omega))
   have I:wr.cell? ⟨w.heap.size+1,4+k,none⟩=some (.int .u16 (l.getD (4+k) 0)):=(f.cell (p:=⟨w.heap.size+1,4+k,none⟩) Q).trans (Y.out (4+k) (by omega))
   have J:Hid (hiP 0 l (k+1)=hiP 0 l k*65536+l.getD (0+k) 0):=rfl
   have N:Hid (hiP 4 l (k+1)=hiP 4 l k*65536+l.getD (4+k) 0):=rfl
   generalize hiP 0 l k=H at*
   generalize hiP 4 l k=L at*
   generalize l.getD (0+k) 0=x at*
   generalize l.getD (4+k) 0=y at*
   obtain ⟨qz,qk⟩:=qG
   obtain ⟨qx,qw⟩:=qv
   obtain ⟨qp,qA⟩:=qq
   obtain ⟨qC,qy⟩:=qD
   have qH:=zoK H x qz qk qp qA
   have qI:=zoK L y qx qw qC qy
   have qm:wr.cell? ⟨d.heap.size,0,none⟩=some (.int .u64 H):=by rw [cell_of_row wr _ 0 _ _ _ HA.out];rfl
   have qr:wr.cell? ⟨d.heap.size,1,none⟩=some (.int .u64 L):=by rw [cell_of_row wr _ 1 _ _ _ HA.out];rfl
   have qn:wr.frozen? ⟨d.heap.size,0,none⟩=false:=by simp [World.frozen?,HA.out]
   have qo:wr.frozen? ⟨d.heap.size,1,none⟩=false:=by simp [World.frozen?,HA.out]
   have qL:w.heap.size+1≠d.heap.size:=by omega
   have K:Hid (((wr.setCell ⟨d.heap.size,0,none⟩ (.int .u64 (H*65536+x))).setCell ⟨d.heap.size,1,none⟩ (.int .u64 (L*65536+y))).heap[d.heap.size]? =some (.cells #[.int .u64 (H*65536+x),.int .u64 (L*65536+y)] 173 (0,0))):=by
    show _=_
    simp [World.setCell,Array.getElem?_modify,HA.out]
   have A:Below d.heap.size d ((wr.setCell ⟨d.heap.size,0,none⟩ (.int .u64 (H*65536+x))).setCell ⟨d.heap.size,1,none⟩ (.int .u64 (L*65536+y))):=(f.setCell (ykI _) _).setCell (ykI _) _
   rcases (show k=0∨k=1∨k=2∨k=3 from by omega) with rfl|rfl|rfl|rfl
   ·rw [show 0+0=0 from rfl] at M
    rw [show 4+0=4 from rfl] at I
    rw [show ((0:Nat):Int)=0 from rfl]
    go_wp2
    go_region
    go_wp2
    go_region
    go_wp2
    go_roundw
    case rel=>exact ⟨1,by omega,(by first|rfl|go_num),(by show _=_;rw [J.out,N.out];exact K.out),(A.drew).drew⟩
    case measure=>first|(simp [intOf];done)|(simp [intOf];omega)
   ·rw [show 0+1=1 from rfl] at M
    rw [show 4+1=5 from rfl] at I
    rw [show ((1:Nat):Int)=1 from rfl]
    go_wp2
    go_region
    go_wp2
    go_region
    go_wp2
    go_roundw
    case rel=>exact ⟨2,by omega,(by first|rfl|go_num),(by show _=_;rw [J.out,N.out];exact K.out),(A.drew).drew⟩
    case measure=>first|(simp [intOf];done)|(simp [intOf];omega)
   ·rw [show 0+2=2 from rfl] at M
    rw [show 4+2=6 from rfl] at I
    rw [show ((2:Nat):Int)=2 from rfl]
    go_wp2
    go_region
    go_wp2
    go_region
    go_wp2
    go_roundw
    case rel=>exact ⟨3,by omega,(by first|rfl|go_num),(by show _=_;rw [J.out,N.out];exact K.out),(A.drew).drew⟩
    case measure=>first|(simp [intOf];done)|(simp [intOf];omega)
   ·rw [show 0+3=3 from rfl] at M
    rw [show 4+3=7 from rfl] at I
    rw [show ((3:Nat):Int)=3 from rfl]
    go_wp2
    go_region
    go_wp2
    go_region
    go_wp2
    go_roundw
    case rel=>exact ⟨4,by omega,(by first|rfl|go_num),(by show _=_;rw [J.out,N.out];exact K.out),(A.drew).drew⟩
    case measure=>first|(simp [intOf];done)|(simp [intOf];omega)
  ·obtain rfl:k=4:=by omega
   rw [show ((4:Nat):Int)=4 from rfl]
   have ha:=HA.out
   rw [hiP_hi,hiP_lo] at ha
   have qg:=ykH ha
   clear ha
   have qm:wr.cell? ⟨d.heap.size,0,none⟩=some (.int .u64 (hi4 l)):=by rw [cell_of_row wr _ 0 _ _ _ qg.out];rfl
   have qr:wr.cell? ⟨d.heap.size,1,none⟩=some (.int .u64 (lo4 l)):=by rw [cell_of_row wr _ 1 _ _ _ qg.out];rfl
   have qF:wr.cell? ⟨w.heap.size,0,none⟩=some (.int .u64 0):=(f.cell (p:=⟨w.heap.size,0,none⟩) (by show w.heap.size<_;omega)).trans B.out.1
   have qE:wr.cell? ⟨w.heap.size,1,none⟩=some (.int .u64 0):=(f.cell (p:=⟨w.heap.size,1,none⟩) (by show w.heap.size<_;omega)).trans B.out.2.1
   have qn:wr.frozen? ⟨w.heap.size,0,none⟩=false:=(f.frozen (p:=⟨w.heap.size,0,none⟩) (by show w.heap.size<_;omega)).trans B.out.2.2.1
   have qo:wr.frozen? ⟨w.heap.size,1,none⟩=false:=(f.frozen (p:=⟨w.heap.size,1,none⟩) (by show w.heap.size<_;omega)).trans B.out.2.2.2
   have qf:Below w.heap.size w ((wr.setCell ⟨w.heap.size,0,none⟩ (.int .u64 (hi4 l))).setCell ⟨w.heap.size,1,none⟩ (.int .u64 (lo4 l))):=((qh.trans (f.mono (by omega))).setCell (ykI _) _).setCell (ykI _) _
   go_wp2
   exact bodyPost_ret (v:= .agg #[.int .u64 (hi4 l),.int .u64 (lo4 l)]) (by simp [results,Tryz.results230,go_sem,qF,qE]) rfl ⟨rfl,qf⟩
theorem zeJ (k:IntKind) (n:Nat):Builtin.zeroCells (Value.int k 0).cells n=(List.replicate n (Value.int k 0)).toArray:=by
 unfold Builtin.zeroCells
 have e:(Value.int k 0).cells= #[.int k 0]:=rfl
 rw [e]
 apply Array.ext'
 simp only [Array.toList_map]
 apply List.ext_getElem
 ·simp
 ·intro i d f
  simp [Nat.mod_one]
theorem zuI (w:World) (base:Nat) (e:TypeId) (j:IntKind) (n k d:Nat) (xs:List Value) (f:xs.length=n) (m:n+k≤maxLen) (i:base≤w.heap.size):
  (w.drew.alloc (.cells (xs.toArray++Builtin.zeroCells (Value.int j 0).cells k++Builtin.zeroCells (Value.int j 0).cells (grownCap w (n+k) d e - (n+k))) e)).ownsRow base e 1
   (.slice (some ⟨w.heap.size,0,none⟩) (n+k) (grownCap w (n+k) d e)) (n+k) (xs++List.replicate k (.int j 0)):=by
 have o:=grownCap_ge w (n+k) d e
 have A:=grownCap_le_maxLen w (n+k) d e m
 refine ⟨by rw [List.length_append,List.length_replicate,f,Nat.mul_one],.inr ⟨w.heap.size,_,_,rfl,i,heap_alloc_new w.drew _,o,A,?_,?_⟩⟩
 ·simp only [Array.size_append,List.size_toArray,zeJ,List.length_replicate,f];omega
 ·rw [zeJ,zeJ]
  simp only [Array.toList_append,Nat.mul_one]
  rw [show n+k=(xs++List.replicate k (Value.int j 0)).length from by rw [List.length_append,List.length_replicate,f]]
  exact List.take_left
theorem ziG {P:Program} (w:World) (base:Nat) (t X ty e:TypeId) (i:TypeInfo) (o kn kq:IntKind) (C:Nat) (ht:P.underlying t=some (.slice e)) (M:P.underlying X=some (.int kn)) (hi:P.info? e=some i)
  (hz:i.zero=some (.int o 0)) (E:i.size=1) (qc:i.bytes=C) (v:Value) (n:Nat) (xs:List Value) (m:w.ownsRow base e 1 v n xs) (k:Nat) (h0:0<k)
  (K:n+k≤maxLen) (H:(n+k)*C≤140737488355328) (f:base≤w.heap.size):
  ∃v' w',(Builtin.append_ #[t,X] ty #[v,.int kq k]).run P w= .ok v' w'∧w'.ownsRow base e 1 v' (n+k) (xs++List.replicate k (.int o 0))∧Below base w w'∧w.grownBy w' v.ownBlock:=by
 subst qc
 have qa:n+k≤9223372036854775807:=by simp only [maxLen] at K;omega
 have G:xs.length=n:=by have:=m.1;omega
 have U:k*i.bytes≤281474976710656:=by
  have:k*i.bytes≤(n+k)*i.bytes:=Nat.mul_le_mul_right _ (by omega)
  omega
 rcases m.2 with ⟨rfl,rfl⟩|⟨g,d,B,rfl,Q,hg,qf,qe,qb,A⟩
 ·have hx:xs=[]:=List.eq_nil_of_length_eq_zero G
  subst hx
  have hr:=Lib.run_append_nil_zeros (P:=P) w t X ty e i (.int o 0) kq kn ht M hi hz k h0 (by omega) (by omega) U
  have ho:=zuI w base e o 0 k 0 [] rfl K f
  simp only [Nat.zero_add,Array.empty_append] at ho ⊢
  exact ⟨_,_,hr,ho,(ykJ _ _).drew.alloc f _,⟨rfl,rfl,rfl,by simp,fun j O _=>Below.heap_alloc w.drew _ j O⟩⟩
 ·by_cases D:n+k≤d
  ·have Y:n+(List.replicate k (Value.int o 0)).length≤B.size:=by rw [List.length_replicate,qb];omega
   have J:=run_storeCells_at P g (n*1) e (List.replicate k (Value.int o 0)) 0 B w hg (by simpa using Y) (fun u hu=>by rw [(List.mem_replicate.1 hu).2];rfl)
   simp only [Nat.add_zero] at J
   have hw:IntKind.i64.wrap (k:Int)=k:=by rw [IntKind.wrap_i64];omega
   have Z: ¬(281474976710656<(k:Int)*(i.bytes:Int)):=by
    rw [←Int.natCast_mul]
    omega
   have S: ¬((k:Int)<0):=by omega
   have qd: ¬(k=0):=by omega
   have V:(Builtin.append_ #[t,X] ty #[.slice (some ⟨g,0,none⟩) n d,.int kq k]).run P w= .ok (.slice (some ⟨g,0,none⟩) (n+k) d) (w.setRow g (B.toList.take (n*1)++List.replicate k (Value.int o 0)++B.toList.drop (n*1+(List.replicate k (Value.int o 0)).length)).toArray):=by
    simp only [Nat.mul_one] at J ⊢
    simp [Builtin.append_,run_underlying ht,run_underlying M,sizeOf,typeInfo,zeroValue,hi,hz,E,asInt,asIntOf,hw,S,qd,Z,D,Addr.add_lit,zeJ]
    simpa using congrArg (fun r=>Result.andThen r fun _ w'=>Result.ok (Value.slice (some ⟨g,0,none⟩) (n+k) d) w') J
   refine ⟨_,_,V,⟨by rw [List.length_append,List.length_replicate,G,Nat.mul_one],.inr ⟨g,d,_,rfl,Q,setRow_heap w g B _ e _ hg,D,qe,?_,?_⟩⟩,below_setRow (ykJ _ _) Q _,⟨rfl,rfl,rfl,by simp,fun j _ O=>setRow_other w g j _ (fun e=>O (by simp [Value.ownBlock,e]))⟩⟩
   ·simp only [List.size_toArray,List.length_append,List.length_take,List.length_drop,Array.length_toList,List.length_replicate]
    omega
   ·simp only [Nat.mul_one] at A ⊢
    rw [A,show n+k=(xs++List.replicate k (Value.int o 0)).length from by rw [List.length_append,List.length_replicate,G]]
    exact List.take_left
  ·have I: ∀j u,xs[j]? =some u→w.cell? ((⟨g,0,none⟩:Addr).add j)=some u:=m.cells (g:=g) rfl
   have N:(Builtin.firstCells i.size n (.slice (some ⟨g,0,none⟩) n d)).run P w.drew= .ok xs.toArray w.drew:=run_firstCells_some w.drew i.size n ⟨g,0,none⟩ n d xs (by rw [E];omega) (by simpa using I)
   have hr:=Lib.run_append_grow_zeros (P:=P) w t X ty e i (.int o 0) kq kn ht M hi hz (some ⟨g,0,none⟩) n d xs N k h0 (by omega) (by omega) (by omega) U (growslice_fits (by omega) H)
   exact ⟨_,_,hr,zuI w base e o n k d xs G K f,(ykJ _ _).drew.alloc f _,⟨rfl,rfl,rfl,by simp,fun j O _=>Below.heap_alloc w.drew _ j O⟩⟩
theorem znS {P:Program} (w:World) {C:Array Oper} {j:List Oper} {o:Oper} {a:Act} {Q:Exit→Act→World→Prop} (G:o.guard=none) (s x:Operand) (t E:TypeId)
  (ho:o.op= .call {callee:= .builtin .append,args:= #[s,x],argTypes:= #[t,E]})
  (base:Nat) (e:TypeId) (i:TypeInfo) (H N M:IntKind) (d:Nat) (O:P.underlying t=some (.slice e)) (K:P.underlying E=some (.int N)) (hi:P.info? e=some i) (U:i.zero=some (.int H 0)) (m:i.size=1) (J:i.bytes=d)
  (v:Value) (n:Nat) (xs:List Value) (V:a.eval s=v) (B:w.ownsRow base e 1 v n xs) (k:Nat) (Y:a.eval x= .int M k) (X:0<k)
  (I:n+k≤maxLen) (f:(n+k)*d≤140737488355328) (A:base≤w.heap.size)
  (h: ∀D w',w'.ownsRow base e 1 D (n+k) (xs++List.replicate k (.int H 0))→Below base w w'→w.grownBy w' v.ownBlock→wpList P C Q j (a.put o.dst D) w'):wpList P C Q (o::j) a w:=by
 obtain ⟨D,w',Z,S,h3,h4⟩:=ziG (P:=P) w base t E o.type e i H N M d O K hi U m J v n xs B k X I f A
 exact Lib.wpList_append_run w G s x t E ho _ _ V Y D w' Z (h D w' S h3 h4)
theorem zqE {P:Program} (w:World) {K:Array Oper} {C:List Oper} {o:Oper} {a:Act} {Q:Exit→Act→World→Prop} (H:o.guard=none) (s x:Operand) (t:TypeId)
  (ho:o.op= .call {callee:= .builtin .append,args:= #[s,x],argTypes:= #[t,t]})
  (base:Nat) (e:TypeId) (i:TypeInfo) (z:Value) (d:Nat) (U:P.underlying t=some (.slice e)) (hi:P.info? e=some i) (hz:i.zero=some z)
  (E:i.size=1) (Z:i.bytes=d) (V:z.cells.size=1)
  (v:Value) (n:Nat) (xs:List Value) (hs:a.eval s=v) (f:w.ownsRow base e 1 v n xs) (vx:Value) (A:List Value) (S:a.eval x=vx) (I:RowR w vx A) (h1: ∀u∈A,u.oneCell'=true)
  (qe:0<n) (Y:n+A.length≤maxLen) (B:(n+A.length)*d≤140737488355328) (m:base≤w.heap.size)
  (h: ∀O w',w'.ownsRow base e 1 O (n+A.length) (xs++A)→Below base w w'→wpList P K Q C (a.put o.dst O) w'):wpList P K Q (o::C) a w:=by
 obtain ⟨ao,c,rfl,hc⟩:=I
 cases A with
 |nil=>
  rcases f.2 with ⟨_,h0⟩|⟨g,N,qc,rfl,qa,hg,J,qd,qb,X⟩
  ·omega
  ·have M:(Builtin.append_ #[t,t] o.type #[.slice (some ⟨g,0,none⟩) n N,.slice ao ([]:List Value).length c]).run P w= .ok (.slice (some ⟨g,0,none⟩) n N) w:=by
    cases ao with
    |none=>simp [Builtin.append_,run_underlying U,sizeOf,typeInfo,hi,Builtin.lenOf,Builtin.firstCells,J,Addr.add_lit,storeCells]
    |some ad=>simp [Builtin.append_,run_underlying U,sizeOf,typeInfo,hi,Builtin.lenOf,Builtin.firstCells,loadCells,loadCellsFrom,J,Addr.add_lit,storeCells]
   refine Lib.wpList_append_run w H s x t t ho _ _ hs S _ _ M (h _ _ ?_ (ykJ _ _))
   simpa using f
 |cons y A=>
  obtain ⟨ad,rfl,_⟩:=hc 0 y rfl
  refine wpList_append_own w H s x t ho base e i z 1 d U hi hz E Z V (by decide) v n xs hs f ad (y::A).length c (y::A) S (by rw [Nat.mul_one]) (fun j u hj=> ?_) h1 Y B m ?_
  ·obtain ⟨qf,ha,S⟩:=hc j u hj
   cases ha
   exact S
  ·intro O w1 G D _
   exact h O w1 G ((ykJ base w).grown D m (fun k hk=>(f.lt k hk).1))
def MaxVar (w:World):Prop:= ∃m,w.cell? ⟨0,0,none⟩=some (.int .i64 m)
theorem zaA {w w':World} (h:MaxVar w) (f:Below w.heap.size w w'):MaxVar w':=by
 obtain ⟨m,d⟩:=h
 exact ⟨m,(f.cell (World.block_lt_of_cell? w _ d)).trans d⟩
def zsK (w:World) (x:(Int×Int)×Bool) (e:Ending) (w':World):Prop:=e= .returned (.tuple #[.agg #[.int .u64 x.1.1,.int .u64 x.1.2],.bool x.2])∧Below w.heap.size w w'
theorem zhP {w w':World} {l:List UInt8} (h:sixL l=([],false)) (d:Below w.heap.size w w'):zsK w (sixZ l) (.returned (.tuple #[.agg #[.int .u64 0,.int .u64 0],.bool false])) w':=by
 unfold sixZ;rw [h];exact ⟨rfl,d⟩
theorem zoM {w w':World} {l:List UInt8} {T:List Int} (h:sixL l=(T,true)) (d:Below w.heap.size w w'):zsK w (sixZ l) (.returned (.tuple #[.agg #[.int .u64 (hi4 T),.int .u64 (lo4 T)],.bool true])) w':=by
 unfold sixZ;rw [h];exact ⟨rfl,d⟩
theorem ybM {l:List UInt8} {T:List Int} {b:Bool} (h:ccAt l=none) (d:rowZ l true=(T,b)):sixL l=if b=true∧T.length=8 then (T,true) else ([],false):=by
 unfold sixL;rw [h];simp only [d]
theorem z8Y {l:List UInt8} {k:Nat} {T U:List Int} {b c:Bool} (h:ccAt l=some k) (d:rowZ (l.take k) false=(T,b)) (f:rowZ (l.drop (k+2)) true=(U,c)):
  sixL l=if b=true∧c=true∧T.length+U.length≤7 then (T++List.replicate (8 - (T.length+U.length)) 0++U,true) else ([],false):=by
 unfold sixL;rw [h];simp only [d,f]
theorem zqD (l:List UInt8) (last:Bool):(rowZ l last).1.length≤l.length+3:=by
 unfold rowZ
 split
 ·simp
 ·have d:=ycW last (zdG l) []
  have f:=zdF (hasB [58]) l
  unfold zdG at*
  simp at d
  omega
theorem zvP (s:ByteArray) (w:World) (hs:s.size≤1073741824) (V:MaxVar w) (K:ccAt s.data.toList=none):
  Calls Tryz.prog 168 #[.string s] w (zsK w (sixZ s.data.toList)):=by
 obtain ⟨m,hm⟩:=V
 have qb:=World.block_lt_of_cell? w _ hm
 have HM:=ykH hm
 clear hm
 obtain ⟨T,b,Z⟩: ∃T b,rowZ s.data.toList true=(T,b):=⟨_,_,rfl⟩
 have U:=ykH (ygB K)
 have N:=ykH (ybM K Z)
 have qk:T.length≤1073741827:=by have:=zqD s.data.toList true;rw [Z,zaR] at this;simp at this;omega
 have qc:Hid (In16 T):=by show In16 T;have:=zkK s.data.toList true;rw [Z] at this;exact this
 have HT:=ykH Z
 clear K Z
 have qg:Hid ((w.alloc (.cells #[.int .u64 0,.int .u64 0] 173)).cell? ⟨0,0,none⟩=some (.int .i64 m)):=(((ykJ _ w).alloc (ykI _) _).cell qb).trans HM.out
 go_enter Tryz.func168,Tryz.ntmps168
 go_wp2_with fail
 refine (Tryz.strings_Cut s ⟨#[58,58]⟩ m _ (by omega) qg.out).mono ?_
 rw [show (ByteArray.mk #[58,58]).data.toList=[58,58] from rfl,U.out]
 rintro e w1 ⟨rfl,n,rfl⟩
 have J:Below w.heap.size w ((w.alloc (.cells #[.int .u64 0,.int .u64 0] 173)).drewN n):=zbV ((ykJ _ w).alloc (ykI _) _) n
 have M:((w.alloc (.cells #[.int .u64 0,.int .u64 0] 173)).drewN n).heap[w.heap.size]? =some (.cells #[.int .u64 0,.int .u64 0] 173 (0,0)):=heap_alloc_new w _
 have E:w.heap.size<((w.alloc (.cells #[.int .u64 0,.int .u64 0] 173)).drewN n).heap.size:=(Array.getElem?_eq_some_iff.1 M).1
 generalize (w.alloc (.cells #[.int .u64 0,.int .u64 0] 173)).drewN n=x1 at*
 have qd:=ykH M
 clear M
 go_wp2_with fail
 refine (ziS s true _ hs).mono ?_
 rw [HT.out]
 rintro e j ⟨v,rfl,G,B⟩
 have H:=G.row
 have I:=ykH H
 obtain ⟨ao,c,rfl,qa⟩:=H
 rw [List.length_map] at I ⊢
 clear qa G
 have D:Below w.heap.size w j:=J.trans (B.mono J.size)
 have f:w.heap.size<j.heap.size:=Nat.lt_of_lt_of_le E B.size
 have o:Hid (j.heap[w.heap.size]? =some (.cells #[.int .u64 0,.int .u64 0] 173 (0,0))):=(B.block w.heap.size E).trans qd.out
 have C:j.cell? ⟨w.heap.size,0,none⟩=some (.int .u64 0):=by rw [cell_of_row j _ 0 _ _ _ o.out];rfl
 have A:j.cell? ⟨w.heap.size,1,none⟩=some (.int .u64 0):=by rw [cell_of_row j _ 1 _ _ _ o.out];rfl
 have Q:j.frozen? ⟨w.heap.size,0,none⟩=false:=by simp [World.frozen?,o.out]
 have S:j.frozen? ⟨w.heap.size,1,none⟩=false:=by simp [World.frozen?,o.out]
 clear B J
 cases b with
 |false=>
  have HF:=ykH (N.out.trans (if_neg (fun h=>by cases h.1)))
  have d:Below w.heap.size w ((j.setCell ⟨w.heap.size,0,none⟩ (.int .u64 0)).setCell ⟨w.heap.size,1,none⟩ (.int .u64 0)):=(D.setCell (ykI _) _).setCell (ykI _) _
  go_wp2
  exact bodyPost_ret (v:= .tuple #[.agg #[.int .u64 0,.int .u64 0],.bool false]) (by simp [results,Tryz.results168,go_sem,C,A]) rfl (zhP HF.out d)
 |true=>
  by_cases h8:T.length=8
  ·have HF:=ykH (N.out.trans (if_pos ⟨rfl,h8⟩))
   rw [h8]
   have qe:((8:Int) !=8)=false:=by decide
   have qh:Hid (RowR j (.slice ao 8 c) (T.map (Value.int .u16))):=by
    show RowR _ _ _
    have:=I.out;rw [h8] at this;exact this
   go_wp2_with fail
   refine (zsA (.slice ao 8 c) T _ qh.out qc.out (by omega)).mono ?_
   rintro e O ⟨rfl,i⟩
   have qf:Below w.heap.size w O:=D.trans (i.mono D.size)
   have X:O.cell? ⟨w.heap.size,0,none⟩=some (.int .u64 0):=(i.cell (p:=⟨w.heap.size,0,none⟩) f).trans C
   have Y:O.cell? ⟨w.heap.size,1,none⟩=some (.int .u64 0):=(i.cell (p:=⟨w.heap.size,1,none⟩) f).trans A
   have qi:O.frozen? ⟨w.heap.size,0,none⟩=false:=(i.frozen (p:=⟨w.heap.size,0,none⟩) f).trans Q
   have qj:O.frozen? ⟨w.heap.size,1,none⟩=false:=(i.frozen (p:=⟨w.heap.size,1,none⟩) f).trans S
   clear C A Q S i
   have d:Below w.heap.size w ((O.setCell ⟨w.heap.size,0,none⟩ (.int .u64 (hi4 T))).setCell ⟨w.heap.size,1,none⟩ (.int .u64 (lo4 T))):=(qf.setCell (ykI _) _).setCell (ykI _) _
   go_wp2
   exact bodyPost_ret (v:= .tuple #[.agg #[.int .u64 (hi4 T),.int .u64 (lo4 T)],.bool true]) (by simp [results,Tryz.results168,go_sem,X,Y]) rfl (zoM HF.out d)
  ·have HF:=ykH (N.out.trans (if_neg (fun h=>h8 h.2)))
   have qe:((T.length:Int) !=8)=true:=by rw [bne_iff_ne];omega
   have d:Below w.heap.size w ((j.setCell ⟨w.heap.size,0,none⟩ (.int .u64 0)).setCell ⟨w.heap.size,1,none⟩ (.int .u64 0)):=(D.setCell (ykI _) _).setCell (ykI _) _
   go_wp2
   exact bodyPost_ret (v:= .tuple #[.agg #[.int .u64 0,.int .u64 0],.bool false]) (by simp [results,Tryz.results168,go_sem,C,A]) rfl (zhP HF.out d)
theorem zwG (s:ByteArray) (k:Nat) (w:World) (hs:s.size≤1073741824) (qm:MaxVar w) (qe:ccAt s.data.toList=some k):
  Calls Tryz.prog 168 #[.string s] w (zsK w (sixZ s.data.toList)):=by
 obtain ⟨m,hm⟩:=qm
 have qF:=World.block_lt_of_cell? w _ hm
 have HM:=ykH hm
 clear hm
 obtain ⟨i0,hi,qs,qn,qj⟩:=info_parts Tryz.infoU16
 obtain ⟨p,hp⟩: ∃p,s.data.toList.take k=p:=⟨_,rfl⟩
 obtain ⟨q,hq⟩: ∃q,s.data.toList.drop (k+2)=q:=⟨_,rfl⟩
 have qI:p.length≤1073741824:=by have:=List.length_take_le k s.data.toList;have h2:=List.length_take_le' k s.data.toList;rw [hp,zaR] at h2;omega
 have qE:q.length≤1073741824:=by rw [←hq,List.length_drop,zaR];omega
 obtain ⟨T,b,hT⟩: ∃T b,rowZ p false=(T,b):=⟨_,_,rfl⟩
 obtain ⟨U,d,hU⟩: ∃T b,rowZ q true=(T,b):=⟨_,_,rfl⟩
 have hcut:=ydC qe
 rw [hp,hq] at hcut
 have qi:=ykH hcut
 have qy:=ykH (z8Y (T:=T) (U:=U) (b:=b) (c:=d) qe (by rw [hp,hT]) (by rw [hq,hU]))
 have qV:T.length≤1073741827:=by have:=zqD p false;rw [hT] at this;simp at this;omega
 have qU:U.length≤1073741827:=by have:=zqD q true;rw [hU] at this;simp at this;omega
 have qH:Hid (In16 T):=by show In16 T;have:=zkK p false;rw [hT] at this;exact this
 have qz:Hid (In16 U):=by show In16 U;have:=zkK q true;rw [hU] at this;exact this
 have HT:=ykH hT
 have HU:=ykH hU
 clear qe hT hU hcut hp hq
 have qM:Hid ((w.alloc (.cells #[.int .u64 0,.int .u64 0] 173)).cell? ⟨0,0,none⟩=some (.int .i64 m)):=(((ykJ _ w).alloc (ykI _) _).cell qF).trans HM.out
 go_enter Tryz.func168,Tryz.ntmps168
 go_wp2_with fail
 refine (Tryz.strings_Cut s ⟨#[58,58]⟩ m _ (by omega) qM.out).mono ?_
 rw [show (ByteArray.mk #[58,58]).data.toList=[58,58] from rfl,qi.out]
 rintro e w1 ⟨rfl,n,rfl⟩
 have Z:Below w.heap.size w ((w.alloc (.cells #[.int .u64 0,.int .u64 0] 173)).drewN n):=zbV ((ykJ _ w).alloc (ykI _) _) n
 have qg:((w.alloc (.cells #[.int .u64 0,.int .u64 0] 173)).drewN n).heap[w.heap.size]? =some (.cells #[.int .u64 0,.int .u64 0] 173 (0,0)):=heap_alloc_new w _
 have f:w.heap.size<((w.alloc (.cells #[.int .u64 0,.int .u64 0] 173)).drewN n).heap.size:=(Array.getElem?_eq_some_iff.1 qg).1
 generalize (w.alloc (.cells #[.int .u64 0,.int .u64 0] 173)).drewN n=K at*
 have qJ:=ykH qg
 clear qg
 go_wp2_with fail
 refine (ziS ⟨p.toArray⟩ false _ (by rw [zaI];exact qI)).mono ?_
 rw [zaQ,HT.out]
 rintro e x2 ⟨v,rfl,V,Q⟩
 have I:=ykH V
 clear V
 go_wp2_with fail
 refine (ziS ⟨q.toArray⟩ true _ (by rw [zaI];exact qE)).mono ?_
 rw [zaQ,HU.out]
 rintro e C ⟨v2,rfl,B,qa⟩
 have H:=ykH (show C.ownsRow x2.heap.size 88 1 v2 U.length (U.map (Value.int .u16)) from B)
 have qh:=ykH (show C.ownsRow K.heap.size 88 1 v T.length (T.map (Value.int .u16)) from I.out.below qa)
 have qK:=ykH (World.ownsRow.lt (show x2.ownsRow K.heap.size 88 1 v T.length (T.map (Value.int .u16)) from I.out))
 obtain ⟨ao,c,hv,_⟩:=I.out.row
 obtain ⟨O,c2,qq,_⟩:=B.row
 rw [List.length_map] at hv qq
 subst hv qq
 clear B
 have S:Below K.heap.size K C:=Q.trans (qa.mono Q.size)
 have qf:K.heap.size≤C.heap.size:=S.size
 have qx:Below w.heap.size w C:=Z.trans (S.mono Z.size)
 have M:Hid (C.heap[w.heap.size]? =some (.cells #[.int .u64 0,.int .u64 0] 173 (0,0))):=(S.block w.heap.size f).trans qJ.out
 have HK:Hid (C.cell? ⟨w.heap.size,0,none⟩=some (.int .u64 0)∧C.cell? ⟨w.heap.size,1,none⟩=some (.int .u64 0)∧C.frozen? ⟨w.heap.size,0,none⟩=false∧C.frozen? ⟨w.heap.size,1,none⟩=false):=
  ⟨by rw [cell_of_row C _ 0 _ _ _ M.out];rfl,by rw [cell_of_row C _ 1 _ _ _ M.out];rfl,by simp [World.frozen?,M.out],by simp [World.frozen?,M.out]⟩
 have qO:=Q.size
 clear Z Q qa S
 by_cases A:b=true∧d=true∧T.length+U.length≤7
 ·have HF:=ykH (qy.out.trans (if_pos A))
  obtain ⟨rfl,rfl,h7⟩:=A
  obtain ⟨z,hz⟩: ∃z,8 - (T.length+U.length)=z:=⟨_,rfl⟩
  have qC:0<z:=by omega
  have qS:(8:Int) - (T.length:Int) - (U.length:Int)=(z:Int):=by omega
  have qk:decide ((z:Int)<1)=false:=decide_eq_false (by omega)
  rw [hz] at HF
  have qT:T.length+z≤8:=by omega
  clear hz
  have qW:Hid (T.length+z+U.length=8):=by show _=_;omega
  have qp:(Value.slice O U.length c2).ownBlock=none∨(Value.slice O U.length c2).ownBlock≠(Value.slice ao T.length c).ownBlock:=by
   cases h:(Value.slice O U.length c2).ownBlock with
   |none=>exact .inl rfl
   |some j=>
    refine .inr fun e=> ?_
    have h1:=(World.ownsRow.lt H.out j h).1
    have h2:=(qK.out j e.symm).2
    omega
  have qD:=ykH qp
  clear qp
  go_wp2_with (first
   |(at_builtin;refine znS _ rfl _ _ 224 3 rfl K.heap.size 88 i0 .u16 .i64 .i64 2 Tryz.underlying224 Tryz.underlying3 hi qs qn qj _ _ _ rfl qh.out z rfl qC (by unfold maxLen;omega) (by omega) qf ?_;intro v' x4 J N qL)
   |(at_builtin;refine zqE _ rfl _ _ 224 rfl K.heap.size 88 i0 (.int .u16 0) 2 Tryz.underlying224 hi qs qn qj rfl _ _ _ rfl J _ (U.map (Value.int .u16)) rfl (Nums.row (show Nums 88 .u16 x2.heap.size x4 (.slice O U.length c2) U from World.ownsRow.kept H.out qL qD.out)) (fun u hu=>by obtain ⟨y,_,rfl⟩:=List.mem_map.1 hu;rfl) (by omega) (by rw [List.length_map];unfold maxLen;omega) (by rw [List.length_map];omega) (Nat.le_trans qf N.size) ?_;intro v5 x5 i qb)
   |fail)
  have qA:K.heap.size≤x4.heap.size:=Nat.le_trans qf N.size
  have X:Nums 88 .u16 K.heap.size x5 v5 (T++List.replicate z 0++U):=by
   unfold Nums
   rw [List.length_map] at i
   rw [Nat.add_assoc] at i
   simpa [List.map_append,List.map_replicate,List.length_append,List.length_replicate] using i
  have ql:=ykH X.row
  have qw:=ykH ((qH.out.append (In16.zeros z)).append qz.out)
  have qG:(T++List.replicate z 0++U).length≤1073741824:=by
   simp only [List.length_append,List.length_replicate];omega
  have G:Below K.heap.size C x5:=N.trans qb
  have qv:Below w.heap.size w x5:=qx.trans (G.mono (by omega))
  have D:w.heap.size<x5.heap.size:=Nat.lt_of_lt_of_le f (Nat.le_trans qA qb.size)
  clear X i J
  generalize T++List.replicate z 0++U=Y at*
  refine (zsA _ Y _ ql.out qw.out qG).mono ?_
  rintro e x6 ⟨rfl,E⟩
  have qB:Below w.heap.size w x6:=qv.trans (E.mono qv.size)
  have qo:x6.cell? ⟨w.heap.size,0,none⟩=some (.int .u64 0):=(E.cell (p:=⟨w.heap.size,0,none⟩) D).trans ((G.cell (p:=⟨w.heap.size,0,none⟩) f).trans HK.out.1)
  have qr:x6.cell? ⟨w.heap.size,1,none⟩=some (.int .u64 0):=(E.cell (p:=⟨w.heap.size,1,none⟩) D).trans ((G.cell (p:=⟨w.heap.size,1,none⟩) f).trans HK.out.2.1)
  have qN:x6.frozen? ⟨w.heap.size,0,none⟩=false:=(E.frozen (p:=⟨w.heap.size,0,none⟩) D).trans ((G.frozen (p:=⟨w.heap.size,0,none⟩) f).trans HK.out.2.2.1)
  have qP:x6.frozen? ⟨w.heap.size,1,none⟩=false:=(E.frozen (p:=⟨w.heap.size,1,none⟩) D).trans ((G.frozen (p:=⟨w.heap.size,1,none⟩) f).trans HK.out.2.2.2)
  clear E N qb
  have o:Below w.heap.size w ((x6.setCell ⟨w.heap.size,0,none⟩ (.int .u64 (hi4 Y))).setCell ⟨w.heap.size,1,none⟩ (.int .u64 (lo4 Y))):=(qB.setCell (ykI _) _).setCell (ykI _) _
  go_wp2
  exact bodyPost_ret (v:= .tuple #[.agg #[.int .u64 (hi4 Y),.int .u64 (lo4 Y)],.bool true]) (by simp [results,Tryz.results168,go_sem,qo,qr]) rfl (zoM HF.out o)
 ·have HF:=ykH (qy.out.trans (if_neg A))
  obtain ⟨qd,qc,qQ,qR⟩:=HK.out
  have o:Below w.heap.size w ((C.setCell ⟨w.heap.size,0,none⟩ (.int .u64 0)).setCell ⟨w.heap.size,1,none⟩ (.int .u64 0)):=(qx.setCell (ykI _) _).setCell (ykI _) _
  cases b with
  |false=>
   clear A
   go_wp2
   exact bodyPost_ret (v:= .tuple #[.agg #[.int .u64 0,.int .u64 0],.bool false]) (by simp [results,Tryz.results168,go_sem,qd,qc]) rfl (zhP HF.out o)
  |true=>
   cases d with
   |false=>
    clear A
    go_wp2
    exact bodyPost_ret (v:= .tuple #[.agg #[.int .u64 0,.int .u64 0],.bool false]) (by simp [results,Tryz.results168,go_sem,qd,qc]) rfl (zhP HF.out o)
   |true=>
    have h7:7<T.length+U.length:=by
     rcases Nat.lt_or_ge 7 (T.length+U.length) with h|h
     ·exact h
     ·exact absurd ⟨rfl,rfl,h⟩ A
    have qk:decide ((8:Int) - (T.length:Int) - (U.length:Int)<1)=true:=decide_eq_true (by omega)
    clear A
    go_wp2
    exact bodyPost_ret (v:= .tuple #[.agg #[.int .u64 0,.int .u64 0],.bool false]) (by simp [results,Tryz.results168,go_sem,qd,qc]) rfl (zhP HF.out o)
theorem zkN (s:ByteArray) (w:World) (f:s.size≤1073741824) (d:MaxVar w):
  Calls Tryz.prog 168 #[.string s] w (zsK w (sixZ s.data.toList)):=by
 cases h:ccAt s.data.toList with
 |none=>exact zvP s w f d h
 |some k=>exact zwG s k w f d h
theorem zaT {w:World} {g:Nat} {t:TypeId} {d:Array Value} (h:w.heap[g]? =some (.cells d t (0,0))) (j:Nat):w.frozen? ⟨g,j,none⟩=false:=by
 simp [World.frozen?,h]
theorem ztZ (hi lo:Int) (w:World):
  Calls Tryz.prog 351 #[.agg #[.int .u64 hi,.int .u64 lo]] w fun e w'=>e= .returned (.tuple #[.int .u64 hi,.int .u64 lo])∧Below w.heap.size w w':=by
 go_enter Tryz.func351,Tryz.ntmps351
 go_wp2
 go_quiet (fail)
 go_wp2
 go_ret2
 exact ⟨rfl,zbV ((ykJ _ w).alloc (ykI _) _) _⟩
theorem zaW (x:World):Below x.heap.size x x.drew:=(ykJ _ _).drew
end
end
end Go.Proofs.YtegmcmgndllmaaaGreatDoor
