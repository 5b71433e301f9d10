/-
  What the law AuthorityAgrees leans on, and its walk (1 of 43).
-/
import Derived.Test.YtegmcmgndllmaaaGreatDoorChecked
import Derived.WalkKit
import Derived.WalkLawsBesides
import Derived.BigQuiet
import Derived.Deep.QuietTactic
import Derived.Lib.Hide
import Derived.Lib.OthersKept
import Derived.Lib.RuneBytes
import Derived.Test.YtegmcmgndllmaaaGreatDoorShelf
import Derived.OpenShut
import Derived.Lib.ConvBytes
import Derived.WalkSpells
import Derived.Lib.Join
namespace Go.Proofs.YtegmcmgndllmaaaGreatDoor
set_option maxRecDepth 100000
set_option maxHeartbeats 16000000
abbrev ymZ := @Lib.hid
abbrev ynA := @Nat.le_refl
abbrev ynB := @decide_eq_false
abbrev ynC := @decide_eq_true
section
section
open Go.RowKit
theorem zaV {a b:Bool} (h:a=b):Ending.returned (.bool a)= .returned (.bool b):=by rw [h]
def zmN (s:ByteArray):Bool:=s.data.toList.all fun c=>decide (c.toNat<128)
theorem zsY (s:ByteArray) (k:Nat) (h:k<s.size) (d:128≤(s[k]'h).toNat):zmN s=false:=by
 unfold zmN
 rw [List.all_eq_false]
 refine ⟨s[k]'h,?_,by simp;omega⟩
 show s.data[k]∈_
 simp
theorem zwH (s:ByteArray) (h: ∀k (h:k<s.size),(s[k]'h).toNat<128):zmN s=true:=by
 unfold zmN
 rw [List.all_eq_true]
 intro c e
 obtain ⟨k,d,rfl⟩:=List.getElem_of_mem e
 have:=h k (by simpa using d)
 simp only [decide_eq_true_eq]
 exact this
def RowR (w:World) (v:Value) (xs:List Value):Prop:=
 ∃d c,v= .slice d xs.length c∧ ∀j u,xs[j]? =some u→ ∃ad,d=some ad∧w.cell? (ad.add j)=some u
theorem RowR.of_own {w:World} {base:Nat} {e:TypeId} {v:Value} {xs:List Value} (h:w.ownsRow base e 1 v xs.length xs):RowR w v xs:=by
 rcases h.2 with ⟨rfl,m⟩|⟨g,i,f,rfl,_,o,D,_,C,B⟩
 ·refine ⟨none,0,by rw [m],fun j u d=> ?_⟩
  have:=List.length_eq_zero_iff.1 m
  subst this
  simp at d
 ·refine ⟨some ⟨g,0,none⟩,i,rfl,fun j u d=>⟨_,rfl,?_⟩⟩
  have A:j<xs.length:=(List.getElem?_eq_some_iff.1 d).1
  have q:(Addr.add ⟨g,0,none⟩ j)=⟨g,j,none⟩:=by
   unfold Addr.add;split<;>simp_all
  rw [q,cell_of_row w g j f e (0,0) o]
  rw [←B,List.getElem?_take] at d
  rw [if_pos (by omega)] at d
  simpa using d
def zaW (s:ByteArray) (i:Nat):Nat:=(s.get! i).toNat
theorem zrS (s:ByteArray) (i:Nat) (h:i<s.size):zaW s i=(s[i]'h).toNat:=by
 unfold zaW
 rw [show s.get! i=s.get! (i+0) from rfl,get_at s i h]
theorem zyQ (s:ByteArray) (i:Nat):zaW s i<256:=(s.get! i).toNat_lt
def isB (r:Int):Bool:=decide (0≤r∧r≤1114111∧(r<55296∨57343<r))
theorem znR (r:Nat):Utf8.valid (r:Int)=isB (r:Int):=by
 unfold Utf8.valid isB
 rw [Bool.eq_iff_iff]
 simp only [Bool.or_eq_true,Bool.and_eq_true,decide_eq_true_eq]
 omega
theorem zxD (s:ByteArray) (i:Nat):Utf8.decode s i=
  if zaW s i<128 then (zaW s i,1)
  else if (zaW s i/32==6&&(decide (i+1<s.size)&&zaW s (i+1)/64==2))=true then
   if 128≤zaW s i % 32*64+zaW s (i+1) % 64 then (zaW s i % 32*64+zaW s (i+1) % 64,2) else (65533,1)
  else if (zaW s i/16==14&&(decide (i+1<s.size)&&zaW s (i+1)/64==2)&&(decide (i+2<s.size)&&zaW s (i+2)/64==2))=true then
   if (decide (2048≤zaW s i % 16*4096+zaW s (i+1) % 64*64+zaW s (i+2) % 64)&&isB (zaW s i % 16*4096+zaW s (i+1) % 64*64+zaW s (i+2) % 64:Nat))=true
   then (zaW s i % 16*4096+zaW s (i+1) % 64*64+zaW s (i+2) % 64,3) else (65533,1)
  else if (zaW s i/8==30&&(decide (i+1<s.size)&&zaW s (i+1)/64==2)&&(decide (i+2<s.size)&&zaW s (i+2)/64==2)&&(decide (i+3<s.size)&&zaW s (i+3)/64==2))=true then
   if (decide (65536≤zaW s i % 8*262144+zaW s (i+1) % 64*4096+zaW s (i+2) % 64*64+zaW s (i+3) % 64)&&isB (zaW s i % 8*262144+zaW s (i+1) % 64*4096+zaW s (i+2) % 64*64+zaW s (i+3) % 64:Nat))=true
   then (zaW s i % 8*262144+zaW s (i+1) % 64*4096+zaW s (i+2) % 64*64+zaW s (i+3) % 64,4) else (65533,1)
  else (65533,1):=by
 rw [←znR,←znR]
 rfl
theorem zdC (s:ByteArray) (i:Nat):Utf8.decode s i=
  if zaW s i<128 then (zaW s i,1)
  else if zaW s i/32=6∧(i+1<s.size∧zaW s (i+1)/64=2) then
   if 128≤zaW s i % 32*64+zaW s (i+1) % 64 then (zaW s i % 32*64+zaW s (i+1) % 64,2) else (65533,1)
  else if (zaW s i/16=14∧(i+1<s.size∧zaW s (i+1)/64=2))∧(i+2<s.size∧zaW s (i+2)/64=2) then
   if 2048≤zaW s i % 16*4096+zaW s (i+1) % 64*64+zaW s (i+2) % 64∧isB (zaW s i % 16*4096+zaW s (i+1) % 64*64+zaW s (i+2) % 64:Nat)=true
   then (zaW s i % 16*4096+zaW s (i+1) % 64*64+zaW s (i+2) % 64,3) else (65533,1)
  else if ((zaW s i/8=30∧(i+1<s.size∧zaW s (i+1)/64=2))∧(i+2<s.size∧zaW s (i+2)/64=2))∧(i+3<s.size∧zaW s (i+3)/64=2) then
   if 65536≤zaW s i % 8*262144+zaW s (i+1) % 64*4096+zaW s (i+2) % 64*64+zaW s (i+3) % 64∧isB (zaW s i % 8*262144+zaW s (i+1) % 64*4096+zaW s (i+2) % 64*64+zaW s (i+3) % 64:Nat)=true
   then (zaW s i % 8*262144+zaW s (i+1) % 64*4096+zaW s (i+2) % 64*64+zaW s (i+3) % 64,4) else (65533,1)
  else (65533,1):=by
 rw [zxD]
 simp only [beq_iff_eq,Bool.and_eq_true,decide_eq_true_eq]
def zkO (s:ByteArray):Nat→Nat→List Int
 |0,_=>[]
 |f+1,p=>if p<s.size then ((Utf8.decode s p).1:Int)::zkO s f (p+(Utf8.decode s p).2) else []
def scal (s:ByteArray):List Int:=zkO s s.size 0
theorem zeP (s:ByteArray) (p:Nat) (h:p<s.size):1≤(Utf8.decode s p).2:=by
 by_cases d:(s[p]'h).toNat<128
 ·rw [decode_ascii s p h d];exact ynA _
 ·exact (decode_high s p h (by omega)).2
theorem yeB (s:ByteArray) (p:Nat):(Utf8.decode s p).2≤4:=by
 rw [zdC]
 repeat' split
 all_goals simp
theorem zjP (s:ByteArray) (f p:Nat) (h: ¬p<s.size):zkO s f p=[]:=by
 cases f with
 |zero=>rfl
 |succ f=>simp [zkO,h]
theorem zhZ (s:ByteArray) (f p:Nat) (h:p<s.size):zkO s (f+1) p=((Utf8.decode s p).1:Int)::zkO s f (p+(Utf8.decode s p).2):=by
 simp [zkO,h]
theorem ztA (s:ByteArray): ∀f p,(zkO s f p).length≤f
 |0,_=>by simp [zkO]
 |f+1,p=>by
  by_cases h:p<s.size
  ·rw [zhZ s f p h];have:=ztA s f (p+(Utf8.decode s p).2);simp;omega
  ·rw [zjP s _ p h];simp
theorem yfK (s:ByteArray):(scal s).length≤s.size:=ztA s _ _
theorem zwR (w:World) (u:Value) (t:TypeId): ∀j x,[u][j]? =some x→(w.alloc (.cells #[u] t)).cell? ((⟨w.heap.size,0,none⟩:Addr).add j)=some x:=by
 intro j x d
 match j,d with
 |0,d=>simp at d;subst d;simp [Addr.add]
theorem zcD {B:Nat} {a w:World} (h:Below B a w) (n:Nat):Below B a (w.drewN n):=⟨h.os,h.tape,h.output,h.size,h.block⟩
theorem zdE {w w':World} {B:Nat} {t:TypeId} {v:Value} {n:Nat} {xs:List Value} (h:w.ownsRow B t 1 v n xs) (m:Below w.heap.size w w'):w'.ownsRow B t 1 v n xs:=by
 refine ⟨h.1,?_⟩
 rcases h.2 with e|⟨g,f,d,j,e,i,o⟩
 ·exact .inl e
 ·exact .inr ⟨g,f,d,j,e,(m.block g (Array.getElem?_eq_some_iff.1 i).1).trans i,o⟩
theorem z1T (l:List UInt8): ∀b:ByteArray,(l.map fun c=>(c.toNat:Int)).foldl (fun r n=>r.push (UInt8.ofNat n.toNat)) b=⟨(b.data.toList++l).toArray⟩:=by
 induction l with
 |nil=>intro b;simp
 |cons c l d=>
  intro b
  simp only [List.map_cons,List.foldl_cons]
  rw [d]
  simp [ByteArray.push]
theorem zeI {P:Program} (w:World) (f d e:TypeId) (v:Value) (l:List UInt8) (E:RowR w v (Lib.byteCells l))
  (o:P.underlying f=some (.slice e)) (D:P.underlying e=some (.int .u8)) (G:P.underlying d=some .string):
  (convert f d v).run P w= .ok (.string ⟨l.toArray⟩) w:=by
 obtain ⟨i,c,rfl,g⟩:=E
 rw [run_convert_bytes_string w f d e i _ c o D G]
 cases i with
 |none=>
  have C:l=[]:=by
   cases l with
   |nil=>rfl
   |cons x l=>
    obtain ⟨ad,h,_⟩:=g 0 (.int .u8 x.toNat) rfl
    cases h
  subst C
  rfl
 |some a=>
  have m:=run_loadCells_list (P:=P) (w:=w) a (Lib.byteCells l) (fun j u A=>by
   obtain ⟨ad,h,B⟩:=g j u A
   cases h
   exact B)
  have q:Lib.byteCells l=(l.map fun c=>(c.toNat:Int)).map (Value.int .u8):=by simp [Lib.byteCells]
  rw [run_bytesToString w a _ c (l.map fun c=>(c.toNat:Int)) (by rw [m,q]),z1T]
  rfl
def zpQ (l:List Int):List UInt8:=l.map fun x=>x.toNat.toUInt8
theorem yeU {P:Program} (W:World) (d f e:TypeId) (l:List Int) (i: ∀x∈l,0≤x∧x<256)
  (o:P.underlying d=some (.slice e)) (m:P.underlying e=some (.int .u8)) (q:P.underlying f=some .string):
  (convert d f (.slice (some ⟨W.heap.size,0,none⟩) l.length l.length)).run P (W.alloc (.cells (l.map (Value.int .u8)).toArray e))= .ok (.string ⟨(zpQ l).toArray⟩) (W.alloc (.cells (l.map (Value.int .u8)).toArray e)):=by
 have g:Lib.byteCells (zpQ l)=l.map (Value.int .u8):=by
  simp only [Lib.byteCells,zpQ,List.map_map]
  apply List.map_congr_left
  intro x A
  obtain ⟨D,C⟩:=i x A
  simp only [Function.comp]
  congr 1
  have:x.toNat % 256=x.toNat:=Nat.mod_eq_of_lt (by omega)
  simp [Nat.toUInt8,this]
  omega
 refine zeI _ d f e _ (zpQ l) ?_ o m q
 rw [g]
 refine ⟨_,l.length,by rw [List.length_map],fun j u B=>⟨_,rfl,?_⟩⟩
 rw [show (Addr.add ⟨W.heap.size,0,none⟩ j)=⟨W.heap.size,j,none⟩ from by unfold Addr.add;split<;>simp_all]
 rw [cell_of_row _ W.heap.size j _ e (0,0) (heap_alloc_new W _)]
 simpa using B
def zdT (l:List Int):List UInt8:=l.flatMap Lib.encodeRune
theorem zgO (r:Int):(Lib.encodeRune r).length≤4:=by
 simp only [Lib.encodeRune,List.length_map];exact (Lib.encodeRuneZ_length r).2
theorem zqE (l:List Int) (k:Nat) (h:k<l.length):zdT (l.take (k+1))=zdT (l.take k)++Lib.encodeRune l[k]:=by
 unfold zdT
 rw [List.take_succ_eq_append_getElem h,List.flatMap_append]
 simp
theorem zjL (l:List Int): ∀k,(zdT (l.take k)).length≤4*k
 |0=>by simp [zdT]
 |k+1=>by
  have d:=zjL l k
  by_cases h:k<l.length
  ·rw [zqE l k h,List.length_append];have:=zgO l[k];omega
  ·rw [List.take_of_length_le (by omega)];rw [List.take_of_length_le (by omega)] at d;omega
def Runes (l:List Int):Prop:= ∀x∈l,-2147483648≤x∧x≤2147483647
theorem yiI (v:Value) (l:List Int) (w:World) (h:RowR w v (l.map (Value.int .i32))) (Z:l.length≤268435456) (K:Runes l):
  Calls Tryz.prog 274 #[v] w fun e w'=>e= .returned (.string ⟨(zdT l).toArray⟩)∧Below w.heap.size w w':=by
 obtain ⟨ao,c,rfl,L⟩:=h
 simp only [List.length_map]
 have U:=ymZ L
 have V:=ymZ K
 clear L K
 go_enter Tryz.func274,Tryz.ntmps274
 go_wp2
 go_loopw [3,8] (fun v i wr=> ∃k:Nat,k≤l.length∧i= .int .i64 k∧wr.ownsRow w.heap.size 5 1 v (zdT (l.take k)).length (Lib.byteCells (zdT (l.take k)))∧Below w.heap.size w wr) (fun _ i _=>l.length - (intOf i).toNat)
 case atStart=>exact ⟨0,Nat.zero_le _,rfl,World.ownsRow_nil _ _ _ _,Below.refl _ _⟩
 case round=>
  obtain ⟨k,hk,rfl,d,g⟩:=hrel
  have A:=g.size
  by_cases q:k<l.length
  ·have Y:=zjL l k
   obtain ⟨x,C⟩: ∃x,x=l[k]:=⟨_,rfl⟩
   obtain ⟨Q,rfl,hd1⟩:=U.out k (.int .i32 x) (by simp [C,q])
   have X:wr.cell? (Q.add k)=some (.int .i32 x):=(g.cell (World.block_lt_of_cell? w _ hd1)).trans hd1
   have I:=V.out x (by rw [C];exact List.getElem_mem _)
   obtain ⟨E,H⟩:=I
   have j:=zqE l k q
   rw [←C] at j
   have G:=ymZ j
   clear j C
   generalize S:zdT (l.take k)=T at*
   clear S
   go_wp2_with (go_at_call 306;refine (Tryz.utf8_AppendRune_plain w.heap.size _ _ _ x E H wr d (by omega) A).mono ?_)
   rintro e O ⟨v',rfl,m,o,J⟩
   have B:Below w.heap.size w O:=(g.alloc A o).grown J (by simp;omega) (fun b N=>by have:=d.lt b N;omega)
   clear J d
   go_wp2
   go_roundw
   case rel=>
    refine ⟨k+1,by omega,by go_num,?_,B⟩
    rw [G.out,Lib.byteCells_append,Lib.byteCells_encodeRune,List.length_append]
    have M:(Lib.runeCells x).length=(Lib.encodeRune x).length:=by rw [←Lib.byteCells_encodeRune,Lib.byteCells_length]
    rw [←M]
    exact m
   case measure=>simp [intOf];omega
  ·have D:=zeI (P:=Tryz.prog) wr 158 9 5 _ (zdT (l.take k)) (RowR.of_own (by rw [Lib.byteCells_length];exact d)) Tryz.underlying158 Tryz.underlying5 Tryz.underlying9
   have f:zdT (l.take k)=zdT l:=by rw [List.take_of_length_le (by omega)]
   rw [f] at D
   have HF:=ymZ f
   clear f
   go_wp2
   go_ret
   exact ⟨rfl,g⟩
theorem zjO (x y:List UInt8):(ByteArray.mk x.toArray++ByteArray.mk y.toArray)=ByteArray.mk (x++y).toArray:=ByteArray.mk_append_mk x y
theorem Tryz.infoByte:(Tryz.prog.info? 5).map (fun i=>(i.zero,i.size,i.bytes))=some (some (.int .u8 0),1,1):=by kernel_rfl
def lowC (c:UInt8):UInt8:=if 65≤c.toNat∧c.toNat≤90 then c+32 else c
def zaI (l:List UInt8):List UInt8:=l.map lowC
def zxM (c:UInt8):Bool:= !(c==9||c==10||c==13)
def zgX (l:List UInt8):List UInt8:=l.filter zxM
theorem ydI {c:UInt8} (d:65≤c.toNat) (e:c.toNat≤90):(lowC c).toNat=c.toNat+32:=by
 unfold lowC
 rw [if_pos ⟨d,e⟩,UInt8.toNat_add]
 simp
 omega
theorem ydX {c:UInt8} (h:c.toNat<65∨90<c.toNat):lowC c=c:=by
 unfold lowC
 rw [if_neg (by omega)]
theorem zeH (s:ByteArray) (k:Nat) (h:k<s.size):s.data.toList[k]? =some s[k]:=by
 rw [List.getElem?_eq_getElem (by simpa using h)]
 rfl
theorem zcX (s:ByteArray) (k:Nat) (h:k<s.size):s.data.toList.take (k+1)=s.data.toList.take k++[s[k]]:=by
 rw [List.take_succ_eq_append_getElem (by simpa using h)]
 rfl
theorem zeF (s:ByteArray) (k:Nat) (h: ¬k<s.size):s.data.toList.take k=s.data.toList:=List.take_of_length_le (by simpa using h)
theorem zaN (s:ByteArray):s.data.toList.length=s.size:=by simp
theorem zhL (l:List UInt8):(zaI l).length=l.length:=by simp [zaI]
theorem z5I (s:ByteArray) (k:Nat) (h:k<s.size) (d:zxM s[k]=true):zgX (s.data.toList.take (k+1))=zgX (s.data.toList.take k)++[s[k]]:=by
 rw [zcX s k h];simp [zgX,d]
theorem yaC (s:ByteArray) (k:Nat) (h:k<s.size) (d:zxM s[k]=false):zgX (s.data.toList.take (k+1))=zgX (s.data.toList.take k):=by
 rw [zcX s k h];simp [zgX,d]
theorem yeY (l:List UInt8):(zgX l).length≤l.length:=List.length_filter_le _ _
theorem z3L {c:UInt8} (d:c.toNat≠9) (m:c.toNat≠10) (j:c.toNat≠13):zxM c=true:=by
 unfold zxM
 have f:(c==9)=false:=beq_eq_false_iff_ne.2 fun e=>d (by rw [e];rfl)
 have i:(c==10)=false:=beq_eq_false_iff_ne.2 fun e=>m (by rw [e];rfl)
 have g:(c==13)=false:=beq_eq_false_iff_ne.2 fun e=>j (by rw [e];rfl)
 rw [f,i,g];rfl
theorem zwA {c:UInt8} (h:c.toNat=9∨c.toNat=10∨c.toNat=13):zxM c=false:=by
 rcases h with h|h|h
 ·rw [show c=9 from UInt8.toNat_inj.1 h];rfl
 ·rw [show c=10 from UInt8.toNat_inj.1 h];rfl
 ·rw [show c=13 from UInt8.toNat_inj.1 h];rfl
theorem zlB (l:List UInt8) (c:UInt8) (n:Int) (h:(c.toNat:Int)=n):Lib.byteCells (l++[c])=Lib.byteCells l++[.int .u8 n]:=by
 rw [Lib.byteCells_append,←h];rfl
theorem zdI {P:Program} (w:World) {C:Array Oper} {g:List Oper} {o:Oper} {a:Act} {Q:Exit→Act→World→Prop} (I:o.guard=none) (s x:Operand) (t:TypeId)
  (K:o.op= .call {callee:= .builtin .append,args:= #[s,x],argTypes:= #[t,t]})
  (base:Nat) (e:TypeId) (i:TypeInfo) (z:Value) (d:Nat) (S:P.underlying t=some (.slice e)) (hi:P.info? e=some i) (T:i.zero=some z)
  (A:i.size=1) (H:i.bytes=d) (G:z.cells.size=1)
  (v:Value) (n:Nat) (xs:List Value) (O:a.eval s=v) (j:w.ownsRow base e 1 v n xs) (u:Value) (M:a.eval x= .slice (some ⟨w.heap.size,0,none⟩) 1 1) (L:u.oneCell'=true)
  (E:n+1≤9223372036854775807) (f:(n+1)*d≤140737488355328) (q:base≤w.heap.size)
  (h: ∀D w',w'.ownsRow base e 1 D (n+1) (xs++[u])→Below base w w'→wpList P C Q g (a.put o.dst D) w'):wpList P C Q (o::g) a (w.alloc (.cells #[u] e)):=by
 refine wpList_append_own (w.alloc (.cells #[u] e)) I s x t K base e i z 1 d S hi T A H G (by decide) v n xs O (j.alloc _) ⟨w.heap.size,0,none⟩ 1 1 [u] M rfl (zwR w u e) ?_ E f (by simp;omega) ?_
 ·intro y J;simp at J;subst J;exact L
 ·intro D N m B _
  exact h D N m (((Below.refl base w).alloc q _).grown B (by simp;omega) (fun k U=>(j.lt k U).1))
def Gath (B:Nat) (w:World) (v:Value) (l:List UInt8):Prop:=w.ownsRow B 5 1 v l.length (Lib.byteCells l)
theorem Gath.conv {B:Nat} {w:World} {v:Value} {l:List UInt8} (h:Gath B w v l):(convert 158 9 v).run Tryz.prog w= .ok (.string ⟨l.toArray⟩) w:=
 zeI w _ _ 5 _ l (RowR.of_own (by rw [Lib.byteCells_length];exact h)) Tryz.underlying158 Tryz.underlying5 Tryz.underlying9
theorem Gath.nil (B:Nat) (w:World):Gath B w (.slice none 0 0) []:=World.ownsRow_nil _ _ _ _
theorem Gath.snoc {B:Nat} {w:World} {v:Value} {l:List UInt8} {c:UInt8} {n:Int} (h:w.ownsRow B 5 1 v (l.length+1) (Lib.byteCells l++[.int .u8 n])) (d:(c.toNat:Int)=n):Gath B w v (l++[c]):=by
 unfold Gath
 rw [zlB l c n d,List.length_append]
 exact h
theorem yeL (s:ByteArray) (w:World) (X:s.size≤1073741824):
  Calls Tryz.prog 83 #[.string s] w fun e w'=>e= .returned (.string ⟨(zgX s.data.toList).toArray⟩)∧Below w.heap.size w w':=by
 obtain ⟨N,hi,A,D,E⟩:=info_parts Tryz.infoByte
 go_enter Tryz.func83,Tryz.ntmps83
 go_wp2
 go_loopw [3,8] (fun v i wr=> ∃(k:Nat) (T:List UInt8),k≤s.size∧i= .int .i64 k∧Gath w.heap.size wr v T∧T.length≤k∧Hid (T=zgX (s.data.toList.take k))∧Below w.heap.size w wr) (fun _ i _=>s.size - (intOf i).toNat)
 case atStart=>exact ⟨0,[],Nat.zero_le _,rfl,Gath.nil _ _,by simp,rfl,Below.refl _ _⟩
 case round=>
  obtain ⟨k,T,Y,rfl,f,L,HT,j⟩:=hrel
  have C:=j.size
  unfold Gath at f
  by_cases g:k<s.size
  ·obtain ⟨c,J⟩: ∃c,(s[k]'g).toNat=c:=⟨_,rfl⟩
   have G:c<256:=by rw [←J];exact (s[k]'g).toNat_lt
   by_cases I:c=9∨c=10∨c=13
   ·have d:=yaC s k g (zwA (by omega))
    rw [←HT.out] at d
    have q:=ymZ d
    clear d
    rcases I with rfl|rfl|rfl
    all_goals
     go_wp2
     go_roundw
     case rel=>exact ⟨k+1,T,by omega,by go_num,f,by omega,q.out.symm,j⟩
     case measure=>simp [intOf];omega
   ·have d:=z5I s k g (z3L (by omega) (by omega) (by omega))
    rw [←HT.out] at d
    have q:=ymZ d
    have H:=ymZ J
    have S:((c:Int) !=9)=true:=by rw [bne_iff_ne];omega
    have V:((c:Int) !=10)=true:=by rw [bne_iff_ne];omega
    have O:((c:Int) !=13)=true:=by rw [bne_iff_ne];omega
    clear d I
    go_wp2_with (first|(at_builtin;refine zdI _ rfl _ _ 158 rfl w.heap.size 5 N (.int .u8 0) 1 Tryz.underlying158 hi A D E rfl _ _ _ rfl f (.int .u8 (c:Int)) rfl rfl (by omega) (by omega) C ?_;intro Q U o B))
    go_roundw
    case rel=>exact ⟨k+1,T++[s[k]],by omega,by go_num,Gath.snoc o (by rw [H.out]),by simp;omega,q.out.symm,j.trans B⟩
    case measure=>simp [intOf];omega
  ·have M:=Gath.conv f
   have m:zgX s.data.toList=T:=by rw [HT.out,zeF s k g]
   have K:=ymZ m
   clear m
   go_wp2
   go_ret
   exact ⟨by rw [K.out];rfl,j⟩
def zfE (B:Nat) (s:ByteArray) (k d:Nat) (w:World):Prop:=
 ∃e:Array Value,w.heap[B]? =some (.cells e 5 (d,d+1))∧e.size=d∧s.size≤d∧
  ∀j (h:j<s.size),e[j]? =some (.int .u8 ((if j<k then lowC s[j] else s[j]).toNat:Int))
theorem zsC (w:World) (s:ByteArray):zfE w.heap.size s 0 (grownCap w s.size 0 5) (Lib.bytesWorld w 5 s):=by
 have e:s.size≤grownCap w s.size 0 5:=grownCap_ge _ _ _ _
 have d:(Lib.bytesCells w 5 s).size=grownCap w s.size 0 5:=by
  unfold Lib.bytesCells
  have:s.data.size=s.size:=rfl
  simp [this];omega
 refine ⟨Lib.bytesCells w 5 s,?_,d,e,?_⟩
 ·rw [Lib.bytesWorld_at_new,d]
 ·intro j h
  have f:j<s.data.size:=h
  rw [if_neg (by omega)]
  unfold Lib.bytesCells
  rw [Array.getElem?_append_left (by simpa using f)]
  simp
  exact ⟨s.data[j],Array.getElem?_eq_getElem f,rfl⟩
theorem zfE.cell {B:Nat} {s:ByteArray} {k e:Nat} {w:World} (h:zfE B s k e w) (g:k<s.size):w.cell? ⟨B,k,none⟩=some (.int .u8 (s[k].toNat:Int)):=by
 obtain ⟨d,f,_,_,i⟩:=h
 rw [cell_of_row w B k d _ _ f,i k g,if_neg (by omega)]
theorem zfE.frozen {B:Nat} {s:ByteArray} {k d:Nat} {w:World} (h:zfE B s k d w) (g:k<s.size):w.frozen? ⟨B,k,none⟩=false:=by
 obtain ⟨f,e,_,i,_⟩:=h
 simp [World.frozen?,e]
 omega
theorem zfE.same {B:Nat} {s:ByteArray} {k d:Nat} {w:World} (h:zfE B s k d w) (D:k<s.size) (o:lowC s[k]=s[k]):zfE B s (k+1) d w:=by
 obtain ⟨f,i,q,A,C⟩:=h
 refine ⟨f,i,q,A,fun j m=> ?_⟩
 rw [C j m]
 by_cases e:j=k
 ·subst e;rw [if_neg (by omega),if_pos (by omega),o]
 ·by_cases g:j<k
  ·rw [if_pos g,if_pos (by omega)]
  ·rw [if_neg g,if_neg (by omega)]
theorem zfE.put {B:Nat} {s:ByteArray} {k d:Nat} {w:World} (h:zfE B s k d w) (D:k<s.size) (n:Int) (i:n=((lowC s[k]).toNat:Int)):zfE B s (k+1) d (w.setCell ⟨B,k,none⟩ (.int .u8 n)):=by
 obtain ⟨f,m,q,A,C⟩:=h
 refine ⟨f.setIfInBounds k (.int .u8 n),?_,by simpa using q,A,fun j o=> ?_⟩
 ·simp [World.setCell,Array.getElem?_modify,m]
 ·rw [Array.getElem?_setIfInBounds]
  by_cases e:k=j
  ·subst e;rw [if_pos rfl,if_pos (by omega),if_pos (by omega),i]
  ·rw [if_neg e,C j o]
   by_cases g:j<k
   ·rw [if_pos g,if_pos (by omega)]
   ·rw [if_neg g,if_neg (by omega)]
theorem zfE.conv {B:Nat} {s:ByteArray} {d:Nat} {w:World} {k:Nat} (h:zfE B s k d w) (A: ¬k<s.size):
  (convert 158 9 (.slice (some ⟨B,0,none⟩) s.size d)).run Tryz.prog w= .ok (.string ⟨(zaI s.data.toList).toArray⟩) w:=by
 refine zeI w _ _ 5 _ _ ?_ Tryz.underlying158 Tryz.underlying5 Tryz.underlying9
 obtain ⟨f,m,q,C,o⟩:=h
 have i:(Lib.byteCells (zaI s.data.toList)).length=s.size:=by rw [Lib.byteCells_length,zhL,zaN]
 refine ⟨_,d,by rw [i],fun j u g=>⟨_,rfl,?_⟩⟩
 have e:j<s.size:=by rw [←i];exact (List.getElem?_eq_some_iff.1 g).1
 rw [show (Addr.add ⟨B,0,none⟩ j)=⟨B,j,none⟩ from by unfold Addr.add;split<;>simp_all]
 rw [cell_of_row w B j f _ _ m,o j e,if_pos (by omega),←g]
 simp only [Lib.byteCells,zaI,List.map_map,List.getElem?_map,zeH s j e]
 rfl
theorem zkI (s:ByteArray) (w:World) (U:s.size≤1073741824):
  Calls Tryz.prog 44 #[.string s] w fun e w'=>e= .returned (.string ⟨(zaI s.data.toList).toArray⟩)∧Below w.heap.size w w':=by
 have A:=Lib.run_convert_string_bytes (P:=Tryz.prog) w 9 158 5 s Tryz.underlying9 Tryz.underlying158 Tryz.underlying5
 have E:=zsC w s
 have H:Below w.heap.size w (Lib.bytesWorld w 5 s):=⟨rfl,rfl,rfl,by rw [Lib.bytesWorld_size];omega,fun k L=>Lib.bytesWorld_at_old w _ s k L⟩
 have G:=ymZ E
 clear E
 generalize C:grownCap w s.size 0 5=I at*
 generalize Lib.bytesWorld w 5 s=V at*
 clear C
 go_enter Tryz.func44,Tryz.ntmps44
 go_wp2
 clear A
 go_loopw [10] (fun i wr=> ∃k:Nat,k≤s.size∧i= .int .i64 k∧zfE w.heap.size s k I wr∧Below w.heap.size w wr) (fun i _=>s.size - (intOf i).toNat)
 case atStart=>exact ⟨0,Nat.zero_le _,rfl,G.out,H⟩
 case round=>
  obtain ⟨k,L,rfl,D,m⟩:=hrel
  by_cases d:k<s.size
  ·have o:=D.cell d
   have Q:=D.frozen d
   obtain ⟨c,q⟩: ∃c,(s[k]'d).toNat=c:=⟨_,rfl⟩
   have J:c<256:=by rw [←q];exact (s[k]'d).toNat_lt
   rw [q] at o
   by_cases N:65≤c∧c≤90
   ·have B:((lowC s[k]).toNat:Int)=(c:Int)+32:=by rw [ydI (by omega) (by omega),q];omega
    have f:=D.put d ((c:Int)+32) B.symm
    have g:=ymZ f
    have j:=m.setCell (p:=⟨w.heap.size,k,none⟩) (ynA _) (.int .u8 ((c:Int)+32))
    have T:=ymZ q
    obtain ⟨S,O⟩:=N
    have K:(c:Int) - 65+97=(c:Int)+32:=by omega
    clear B f q
    go_wp2
    go_roundw
    case rel=>exact ⟨k+1,by omega,by go_num,by first|exact g.out|(rw [K];exact g.out),by first|exact j|(rw [K];exact j)⟩
    case measure=>simp [intOf];omega
   ·have f:=D.same d (ydX (by omega))
    have g:=ymZ f
    clear f q
    go_wp2
    all_goals
     go_roundw
     case rel=>exact ⟨k+1,by omega,by go_num,g.out,m⟩
     case measure=>simp [intOf];omega
  ·have M:=D.conv d
   go_wp2
   go_ret
   exact ⟨rfl,m⟩
def zcM (c:UInt8):Bool:=decide (c.toNat≤32)
theorem znI {c:UInt8} (h:c.toNat≤32):zcM c=true:=ynC h
theorem zeX {c:UInt8} (h:32<c.toNat):zcM c=false:=ynB (by omega)
def zgP (l:List UInt8):List UInt8:=((l.dropWhile zcM).reverse.dropWhile zcM).reverse
theorem zfG (p:UInt8→Bool): ∀(l:List UInt8) (n:Nat),n≤l.length→(∀k x,l[k]? =some x→k<n→p x=true)→(n=l.length∨ ∃x,l[n]? =some x∧p x=false)→l.dropWhile p=l.drop n
 |[],n,h,_,_=>by simp
 |x::l,0,_,_,d=>by
  rcases d with d|⟨y,f,g⟩
  ·simp at d
  ·simp at f;subst f;simp [g]
 |x::l,n+1,h,i,d=>by
  have o:p x=true:=i 0 x rfl (by omega)
  rw [List.dropWhile_cons,if_pos o,List.drop_succ_cons]
  exact zfG p l n (by simp at h;omega) (fun k y m j=>i (k+1) y (by simpa using m) (by omega)) (d.imp (fun e=>by simp at e;exact e) (fun ⟨y,f,g⟩=>⟨y,by simpa using f,g⟩))
theorem ybG (l:List UInt8) (i j:Nat) (m:i≤j) (D:j≤l.length) (g: ∀k x,l[k]? =some x→k<i→zcM x=true) (q:i=l.length∨ ∃x,l[i]? =some x∧zcM x=false)
  (o: ∀k x,l[k]? =some x→j≤k→zcM x=true) (f:i=j∨(i<j∧ ∃x,l[j - 1]? =some x∧zcM x=false)):(l.drop i).take (j - i)=zgP l:=by
 unfold zgP
 rw [zfG zcM l i (by omega) g q,zfG zcM (l.drop i).reverse (l.length - j) (by simp;omega),List.drop_reverse,List.reverse_reverse]
 ·congr 1
  simp
  omega
 ·intro k x e B
  have d:k<(l.drop i).reverse.length:=(List.getElem?_eq_some_iff.1 e).1
  simp at d
  rw [List.getElem?_reverse (by simpa using d),List.getElem?_drop] at e
  exact o _ x e (by simp;omega)
 ·rcases f with f|⟨d,x,A,C⟩
  ·left;simp;omega
  ·right
   refine ⟨x,?_,C⟩
   rw [List.getElem?_reverse (by simp;omega),List.getElem?_drop]
   rw [←A]
   congr 1
   simp
   omega
theorem zsH (s:ByteArray) (k:Nat):s.extract k k=ByteArray.empty:=by
 apply ByteArray.ext
 apply Array.ext'
 rw [Lib.extract_data]
 simp
theorem zuZ (s:ByteArray) (k m:Nat) (o:k≤m) (A:m≤s.size) (D: ∀j (h:j<s.size),j<k→zcM s[j]=true) (C:k=s.size∨ ∃h:k<s.size,zcM s[k]=false)
  (q: ∀j (h:j<s.size),m≤j→zcM s[j]=true) (B:k=m∨ ∃h:m - 1<s.size,k<m∧zcM s[m - 1]=false):(s.extract k m)=⟨(zgP s.data.toList).toArray⟩:=by
 have at_: ∀j x,s.data.toList[j]? =some x→ ∃h:j<s.size,x=s[j]:=by
  intro j x g
  have d:j<s.size:=by have:=(List.getElem?_eq_some_iff.1 g).1;simpa using this
  rw [zeH s j d] at g
  exact ⟨d,(Option.some.inj g).symm⟩
 have e:=ybG s.data.toList k m o (by rw [zaN];exact A)
  (fun j x g f=>by obtain ⟨h,rfl⟩:=at_ j x g;exact D j h f)
  (by rw [zaN];exact C.imp id (fun ⟨h,i⟩=>⟨_,zeH s k h,i⟩))
  (fun j x g f=>by obtain ⟨h,rfl⟩:=at_ j x g;exact q j h f)
  (B.imp id (fun ⟨h,d,i⟩=>⟨d,_,zeH s (m - 1) h,i⟩))
 rw [←e]
 apply ByteArray.ext
 apply Array.ext'
 rw [Lib.extract_data]
theorem yhZ (s:ByteArray) (w:World) (hs:s.size≤1073741824):
  Calls Tryz.prog 84 #[.string s] w fun e w'=>e= .returned (.string ⟨(zgP s.data.toList).toArray⟩)∧w=w':=by
 go_enter Tryz.func84,Tryz.ntmps84
 go_wp2
 go_loop [3] (fun i=> ∃k:Nat,k≤s.size∧i= .int .i64 k∧Hid (∀j (h:j<s.size),j<k→zcM s[j]=true)) (fun i=>s.size - (intOf i).toNat)
 case atStart=>exact ⟨0,Nat.zero_le _,rfl,fun j _ h=>by omega⟩
 case round=>
  obtain ⟨k,hk,rfl,Q⟩:=hrel
  by_cases g: ∃h:k<s.size,(s[k]'h).toNat≤32
  ·obtain ⟨f,o⟩:=g
   obtain ⟨c,K⟩: ∃c,(s[k]'f).toNat=c:=⟨_,rfl⟩
   rw [K] at o
   have V:=ymZ K
   go_wp2
   go_round
   case rel=>
    refine ⟨k+1,by omega,by go_num,fun j G T=> ?_⟩
    by_cases e:j=k
    ·subst e;exact znI (by rw [V.out];exact o)
    ·exact Q.out j G (by omega)
   case measure=>simp [intOf];omega
  ·have S:Hid (k=s.size∨ ∃h:k<s.size,zcM s[k]=false):=by
    by_cases f:k<s.size
    ·refine .inr ⟨f,?_⟩
     by_cases o:(s[k]'f).toNat≤32
     ·exact absurd ⟨f,o⟩ g
     ·exact zeX (by omega)
    ·exact .inl (by omega)
   have B: ∀m:Nat,k≤m→m≤s.size→(∀j (h:j<s.size),m≤j→zcM s[j]=true)→(k=m∨ ∃h:m - 1<s.size,k<m∧zcM s[m - 1]=false)→(s.extract k m)=⟨(zgP s.data.toList).toArray⟩:=
    fun m I E Y Z=>zuZ s k m I E Q.out S.out Y Z
   have A:=ymZ B
   clear B
   by_cases f:k<s.size
   ·obtain ⟨c,K⟩: ∃c,(s[k]'f).toNat=c:=⟨_,rfl⟩
    have X:32<c:=by
     by_cases o:(s[k]'f).toNat≤32
     ·exact absurd ⟨f,o⟩ g
     ·omega
    clear g
    go_wp2
    go_loop [4] (fun i=> ∃m:Nat,k≤m∧m≤s.size∧i= .int .i64 m∧Hid (∀j (h:j<s.size),m≤j→zcM s[j]=true)) (fun i=>(intOf i).toNat)
    case atStart=>exact ⟨s.size,by omega,ynA _,rfl,fun j I E=>by omega⟩
    case round=>
     obtain ⟨m,J,M,rfl,H⟩:=hrel
     by_cases D:k<m
     ·have C:m - 1<s.size:=by omega
      obtain ⟨d,hd⟩: ∃d,(s[m - 1]'C).toNat=d:=⟨_,rfl⟩
      have O:=ymZ hd
      have ei:((m:Int) - 1).toNat=m - 1:=by omega
      have ej:(m:Int) - 1=((m - 1:Nat):Int):=by omega
      by_cases o:d≤32
      ·go_wp2
       go_round
       case rel=>
        refine ⟨m - 1,by omega,by omega,by go_num,fun j G U=> ?_⟩
        by_cases e:j=m - 1
        ·subst e;exact znI (by rw [O.out];exact o)
        ·exact H.out j G (by omega)
       case measure=>simp [intOf];omega
      ·have L:=ymZ (A.out m J M H.out (.inr ⟨C,D,zeX (by rw [O.out];omega)⟩))
       go_wp2
       go_ret
       exact ⟨by rw [←L.out];rfl,rfl⟩
     ·have q:False:=by
       have N:=f
       have:=H.out k f (by omega)
       rw [zeX (by omega)] at this
       cases this
      exact q.elim
   ·obtain rfl:k=s.size:=by omega
    have L:=ymZ (A.out s.size (ynA _) (ynA _) (fun j I E=>by omega) (.inl rfl))
    clear g
    go_wp2
    refine wp_loop_rounds 1 ?_
    rw [rounds_succ]
    go_wp2
    go_ret
    exact ⟨congrArg (fun b=>Ending.returned (Value.string b)) ((zsH s s.size).symm.trans L.out),rfl⟩
theorem Tryz.infoStr:(Tryz.prog.info? 9).map (fun i=>(i.zero,i.size,i.bytes))=some (some (.string ⟨#[]⟩),1,16):=by kernel_rfl
def hasB (l:List UInt8) (c:UInt8):Bool:=l.any (· ==c)
theorem zcG (l:List UInt8) (c:UInt8):(hasB l c=true→0≤Lib.indexByte l c)∧(hasB l c=false→Lib.indexByte l c= -1):=by
 induction l with
 |nil=>simp [hasB,Lib.indexByte]
 |cons b l d=>
  have j:=Lib.indexByte_ge l c
  by_cases e:b==c
  ·simp [hasB,Lib.indexByte,e]
  ·have f:(b==c)=false:=by simpa using e
   have i:hasB (b::l) c=hasB l c:=by simp [hasB,f]
   simp only [Lib.indexByte,f,i,Bool.false_eq_true,if_false]
   refine ⟨fun h=> ?_,fun h=> ?_⟩
   ·have g:=d.1 h
    rw [if_neg (by simp;omega)]
    omega
   ·have g:=d.2 h
    rw [if_pos (by simp [g])]
theorem zgK (c:UInt8):((c.toNat:Int).toNat).toUInt8=c:=by
 simp
theorem ib_yes (s:ByteArray) (c:UInt8) (w:World) (h:hasB s.data.toList c=true):
  Calls Tryz.prog 184 #[.string s,.int .u8 (c.toNat:Int)] w fun e w'=> ∃x:Int,e= .returned (.int .i64 x)∧0≤x∧w=w':=by
 refine (Tryz.strings_IndexByte s _ w).mono ?_
 rintro e w' ⟨rfl,rfl⟩
 rw [zgK]
 exact ⟨_,rfl,(zcG _ _).1 h,rfl⟩
theorem ib_no (s:ByteArray) (c:UInt8) (w:World) (h:hasB s.data.toList c=false):
  Calls Tryz.prog 184 #[.string s,.int .u8 (c.toNat:Int)] w fun e w'=>e= .returned (.int .i64 (-1))∧w=w':=by
 refine (Tryz.strings_IndexByte s _ w).mono ?_
 rintro e w' ⟨rfl,rfl⟩
 rw [zgK,(zcG _ _).2 h]
 exact ⟨rfl,rfl⟩
theorem ylB (s:ByteArray) (c:UInt8) (h: ∀k (h:k<s.size),s[k].toNat≠c.toNat):hasB s.data.toList c=false:=by
 unfold hasB
 rw [List.any_eq_false]
 intro x f
 obtain ⟨k,g,rfl⟩:=List.getElem_of_mem f
 have:=h k (by simpa using g)
 intro e
 have d:s.data[k]=c:=by simpa using e
 exact this (congrArg UInt8.toNat d)
def zaP (p:UInt8→Bool) (st:List (List UInt8)×List UInt8) (c:UInt8):List (List UInt8)×List UInt8:=
 if p c then (st.1++[st.2],[]) else (st.1,st.2++[c])
def spl (p:UInt8→Bool) (l:List UInt8):List (List UInt8)×List UInt8:=l.foldl (zaP p) ([],[])
def zbF (p:UInt8→Bool) (l:List UInt8):List (List UInt8):=(spl p l).1++[(spl p l).2]
def strC (l:List UInt8):Value:= .string ⟨l.toArray⟩
def zjF (l:List (List UInt8)):List Value:=l.map strC
theorem ymF (p:UInt8→Bool) (s:ByteArray) (k:Nat) (h:k<s.size) (d:p s[k]=true):spl p (s.data.toList.take (k+1))=((spl p (s.data.toList.take k)).1++[(spl p (s.data.toList.take k)).2],[]):=by
 rw [zcX s k h]
 simp [spl,zaP,d]
theorem spl_no (p:UInt8→Bool) (s:ByteArray) (k:Nat) (h:k<s.size) (d:p s[k]=false):spl p (s.data.toList.take (k+1))=((spl p (s.data.toList.take k)).1,(spl p (s.data.toList.take k)).2++[s[k]]):=by
 rw [zcX s k h]
 simp [spl,zaP,d]
theorem zkV (s:ByteArray) (a b:Nat) (l:List UInt8) (h:(s.data.toList.drop a).take (b - a)=l):s.extract a b=⟨l.toArray⟩:=by
 apply ByteArray.ext
 apply Array.ext'
 rw [Lib.extract_data,h]
theorem yeD (s:ByteArray) (a k:Nat) (d:a≤k) (h:k<s.size):(s.data.toList.drop a).take (k+1 - a)=(s.data.toList.drop a).take (k - a)++[s[k]]:=by
 rw [show k+1 - a=(k - a)+1 from by omega,List.take_succ_eq_append_getElem (by simp;omega)]
 congr 2
 rw [List.getElem_drop]
 have:a+(k - a)=k:=by omega
 simp only [this]
 rfl
def zaZ (B:Nat) (w:World) (v:Value) (ps:List (List UInt8)):Prop:=w.ownsRow B 9 1 v ps.length (zjF ps)
theorem zaZ.nil (B:Nat) (w:World):zaZ B w (.slice none 0 0) []:=World.ownsRow_nil _ _ _ _
theorem zaZ.snoc {B:Nat} {w:World} {v:Value} {ps:List (List UInt8)} {x:ByteArray} {l:List UInt8} (h:w.ownsRow B 9 1 v (ps.length+1) (zjF ps++[.string x])) (d:x=⟨l.toArray⟩):zaZ B w v (ps++[l]):=by
 unfold zaZ zjF
 rw [List.map_append,List.length_append]
 subst d
 exact h
def ygI (B:Nat) (ps:List (List UInt8)) (w:World) (e:Ending) (w':World):Prop:= ∃v,e= .returned v∧zaZ B w' v ps∧Below B w w'
theorem zdD (s at_:ByteArray) (w:World) (U:s.size≤1073741824):
  Calls Tryz.prog 111 #[.string s,.string at_] w (ygI w.heap.size (zbF (hasB at_.data.toList) s.data.toList) w):=by
 obtain ⟨L,hi,C,G,H⟩:=info_parts Tryz.infoStr
 go_enter Tryz.func111,Tryz.ntmps111
 go_wp2
 go_loopw [5,6,10] (fun v O i wr=> ∃(k a:Nat) (ps:List (List UInt8)),k≤s.size∧a≤k∧i= .int .i64 k∧O= .int .i64 a∧zaZ w.heap.size wr v ps∧ps.length≤k∧Hid (spl (hasB at_.data.toList) (s.data.toList.take k)=(ps,(s.data.toList.drop a).take (k - a)))∧Below w.heap.size w wr) (fun _ _ i _=>s.size - (intOf i).toNat)
 case atStart=>exact ⟨0,0,[],Nat.zero_le _,Nat.zero_le _,rfl,rfl,zaZ.nil _ _,by simp,rfl,Below.refl _ _⟩
 case round=>
  obtain ⟨k,a,ps,V,S,rfl,rfl,g,M,J,j⟩:=hrel
  have D:=j.size
  unfold zaZ at g
  by_cases m:k<s.size
  ·by_cases E:hasB at_.data.toList s[k]=true
   ·have f:=ymF (hasB at_.data.toList) s k m E
    rw [J.out] at f
    have B:=ymZ f
    have I:=ymZ E
    clear f E
    go_wp2_with (first|(go_at_call 184;refine (ib_yes _ _ _ I.out).mono ?_;rintro e w' ⟨x,rfl,T,rfl⟩)|(at_builtin;refine zdI _ rfl _ _ 25 rfl w.heap.size 9 L (.string ⟨#[]⟩) 16 Tryz.underlying25 hi C G H rfl _ _ _ rfl g (.string (s.extract a k)) rfl rfl (by omega) (by omega) D ?_;intro K Q d q))
    go_roundw
    case rel=>
     refine ⟨k+1,k+1,ps++[(s.data.toList.drop a).take (k - a)],by omega,by omega,by go_num,by go_num,zaZ.snoc d (zkV s a k _ rfl),by simp;omega,?_,j.trans q⟩
     show _=_
     rw [B.out,Nat.sub_self,List.take_zero]
    case measure=>simp [intOf];omega
   ·have A:hasB at_.data.toList s[k]=false:=by simpa using E
    have f:=spl_no (hasB at_.data.toList) s k m A
    rw [J.out] at f
    have B:=ymZ f
    have I:=ymZ A
    clear f E A
    go_wp2_with (go_at_call 184;refine (ib_no _ _ _ I.out).mono ?_;rintro e w' ⟨rfl,rfl⟩)
    go_roundw
    case rel=>
     refine ⟨k+1,a,ps,by omega,by omega,by go_num,rfl,g,by omega,?_,j⟩
     show _=_
     rw [B.out,yeD s a k S m]
    case measure=>simp [intOf];omega
  ·obtain rfl:k=s.size:=by omega
   have o:zbF (hasB at_.data.toList) s.data.toList=ps++[(s.data.toList.drop a).take (s.size - a)]:=by
    have:=J.out
    rw [zeF s s.size m] at this
    unfold zbF
    rw [this]
   have N:=ymZ o
   clear o
   go_wp2_with (at_builtin;refine zdI _ rfl _ _ 25 rfl w.heap.size 9 L (.string ⟨#[]⟩) 16 Tryz.underlying25 hi C G H rfl _ _ _ rfl g (.string (s.extract a s.size)) rfl rfl (by omega) (by omega) D ?_;intro K Q d q)
   go_ret
   exact ⟨K,rfl,by rw [N.out];exact zaZ.snoc d (zkV s a s.size _ rfl),j.trans q⟩
theorem zgT {k:IntKind} {a b:Int} (h:a=b):Ending.returned (.int k a)= .returned (.int k b):=by rw [h]
def zaU (r:Int):Bool:=decide (48≤r∧r≤57)
def zbY (r:Int):Bool:=decide ((97≤r∧r≤122)∨(65≤r∧r≤90))
def valZ (r:Int):Int:=if 48≤r∧r≤57 then r - 48 else if 65≤r∧r≤70 then r - 55 else if 97≤r∧r≤102 then r - 87 else -1
theorem zbO (r:Int) (w:World):
  Calls Tryz.prog 97 #[.int .i32 r] w fun e w'=>e= .returned (.bool (zaU r))∧w=w':=by
 rcases (show r<48∨(48≤r∧r≤57)∨(57<r∧r<65)∨(65≤r∧r≤70)∨(70<r∧r≤90)∨(90<r∧r<97)∨(97≤r∧r≤102)∨(102<r∧r≤122)∨122<r from by omega) with f|⟨f,g⟩|⟨f,g⟩|⟨f,g⟩|⟨f,g⟩|⟨f,g⟩|⟨f,g⟩|⟨f,g⟩|f
 ·have d:=ymZ (show zaU r=false from ynB (by omega))
  go_enter Tryz.func97,Tryz.ntmps97
  go_wp2
  go_ret
  exact ⟨zaV (by first|exact d.out.symm|(rw [d.out];simp;omega)),rfl⟩
 ·have d:=ymZ (show zaU r=true from ynC (by omega))
  go_enter Tryz.func97,Tryz.ntmps97
  go_wp2
  go_ret
  exact ⟨zaV (by first|exact d.out.symm|(rw [d.out];simp;omega)),rfl⟩
 ·have d:=ymZ (show zaU r=false from ynB (by omega))
  go_enter Tryz.func97,Tryz.ntmps97
  go_wp2
  go_ret
  exact ⟨zaV (by first|exact d.out.symm|(rw [d.out];simp;omega)),rfl⟩
 ·have d:=ymZ (show zaU r=false from ynB (by omega))
  go_enter Tryz.func97,Tryz.ntmps97
  go_wp2
  go_ret
  exact ⟨zaV (by first|exact d.out.symm|(rw [d.out];simp;omega)),rfl⟩
 ·have d:=ymZ (show zaU r=false from ynB (by omega))
  go_enter Tryz.func97,Tryz.ntmps97
  go_wp2
  go_ret
  exact ⟨zaV (by first|exact d.out.symm|(rw [d.out];simp;omega)),rfl⟩
 ·have d:=ymZ (show zaU r=false from ynB (by omega))
  go_enter Tryz.func97,Tryz.ntmps97
  go_wp2
  go_ret
  exact ⟨zaV (by first|exact d.out.symm|(rw [d.out];simp;omega)),rfl⟩
 ·have d:=ymZ (show zaU r=false from ynB (by omega))
  go_enter Tryz.func97,Tryz.ntmps97
  go_wp2
  go_ret
  exact ⟨zaV (by first|exact d.out.symm|(rw [d.out];simp;omega)),rfl⟩
 ·have d:=ymZ (show zaU r=false from ynB (by omega))
  go_enter Tryz.func97,Tryz.ntmps97
  go_wp2
  go_ret
  exact ⟨zaV (by first|exact d.out.symm|(rw [d.out];simp;omega)),rfl⟩
 ·have d:=ymZ (show zaU r=false from ynB (by omega))
  go_enter Tryz.func97,Tryz.ntmps97
  go_wp2
  go_ret
  exact ⟨zaV (by first|exact d.out.symm|(rw [d.out];simp;omega)),rfl⟩
theorem zoB (r:Int) (w:World):
  Calls Tryz.prog 96 #[.int .i32 r] w fun e w'=>e= .returned (.bool (zbY r))∧w=w':=by
 rcases (show r<48∨(48≤r∧r≤57)∨(57<r∧r<65)∨(65≤r∧r≤70)∨(70<r∧r≤90)∨(90<r∧r<97)∨(97≤r∧r≤102)∨(102<r∧r≤122)∨122<r from by omega) with f|⟨f,g⟩|⟨f,g⟩|⟨f,g⟩|⟨f,g⟩|⟨f,g⟩|⟨f,g⟩|⟨f,g⟩|f
 ·have d:=ymZ (show zbY r=false from ynB (by omega))
  go_enter Tryz.func96,Tryz.ntmps96
  go_wp2
  go_ret
  exact ⟨zaV (by first|exact d.out.symm|(rw [d.out];simp;omega)),rfl⟩
 ·have d:=ymZ (show zbY r=false from ynB (by omega))
  go_enter Tryz.func96,Tryz.ntmps96
  go_wp2
  go_ret
  exact ⟨zaV (by first|exact d.out.symm|(rw [d.out];simp;omega)),rfl⟩
 ·have d:=ymZ (show zbY r=false from ynB (by omega))
  go_enter Tryz.func96,Tryz.ntmps96
  go_wp2
  go_ret
  exact ⟨zaV (by first|exact d.out.symm|(rw [d.out];simp;omega)),rfl⟩
 ·have d:=ymZ (show zbY r=true from ynC (by omega))
  go_enter Tryz.func96,Tryz.ntmps96
  go_wp2
  go_ret
  exact ⟨zaV (by first|exact d.out.symm|(rw [d.out];simp;omega)),rfl⟩
 ·have d:=ymZ (show zbY r=true from ynC (by omega))
  go_enter Tryz.func96,Tryz.ntmps96
  go_wp2
  go_ret
  exact ⟨zaV (by first|exact d.out.symm|(rw [d.out];simp;omega)),rfl⟩
 ·have d:=ymZ (show zbY r=false from ynB (by omega))
  go_enter Tryz.func96,Tryz.ntmps96
  go_wp2
  go_ret
  exact ⟨zaV (by first|exact d.out.symm|(rw [d.out];simp;omega)),rfl⟩
 ·have d:=ymZ (show zbY r=true from ynC (by omega))
  go_enter Tryz.func96,Tryz.ntmps96
  go_wp2
  go_ret
  exact ⟨zaV (by first|exact d.out.symm|(rw [d.out];simp;omega)),rfl⟩
 ·have d:=ymZ (show zbY r=true from ynC (by omega))
  go_enter Tryz.func96,Tryz.ntmps96
  go_wp2
  go_ret
  exact ⟨zaV (by first|exact d.out.symm|(rw [d.out];simp;omega)),rfl⟩
 ·have d:=ymZ (show zbY r=false from ynB (by omega))
  go_enter Tryz.func96,Tryz.ntmps96
  go_wp2
  go_ret
  exact ⟨zaV (by first|exact d.out.symm|(rw [d.out];simp;omega)),rfl⟩
theorem zbP (r:Int) (w:World):
  Calls Tryz.prog 107 #[.int .i32 r] w fun e w'=>e= .returned (.int .i64 (valZ r))∧w=w':=by
 rcases (show r<48∨(48≤r∧r≤57)∨(57<r∧r<65)∨(65≤r∧r≤70)∨(70<r∧r≤90)∨(90<r∧r<97)∨(97≤r∧r≤102)∨(102<r∧r≤122)∨122<r from by omega) with f|⟨f,g⟩|⟨f,g⟩|⟨f,g⟩|⟨f,g⟩|⟨f,g⟩|⟨f,g⟩|⟨f,g⟩|f
 ·have d:=ymZ (show valZ r= -1 from by unfold valZ;(repeat' split)<;>omega)
  go_enter Tryz.func107,Tryz.ntmps107
  go_wp2
  go_ret
  exact ⟨zgT (by first|exact d.out.symm|(rw [d.out];omega)),rfl⟩
 ·have d:=ymZ (show valZ r=r - 48 from by unfold valZ;(repeat' split)<;>omega)
  go_enter Tryz.func107,Tryz.ntmps107
  go_wp2
  go_ret
  exact ⟨zgT (by first|exact d.out.symm|(rw [d.out];omega)),rfl⟩
 ·have d:=ymZ (show valZ r= -1 from by unfold valZ;(repeat' split)<;>omega)
  go_enter Tryz.func107,Tryz.ntmps107
  go_wp2
  go_ret
  exact ⟨zgT (by first|exact d.out.symm|(rw [d.out];omega)),rfl⟩
 ·have d:=ymZ (show valZ r=r - 55 from by unfold valZ;(repeat' split)<;>omega)
  go_enter Tryz.func107,Tryz.ntmps107
  go_wp2
  go_ret
  exact ⟨zgT (by first|exact d.out.symm|(rw [d.out];omega)),rfl⟩
 ·have d:=ymZ (show valZ r= -1 from by unfold valZ;(repeat' split)<;>omega)
  go_enter Tryz.func107,Tryz.ntmps107
  go_wp2
  go_ret
  exact ⟨zgT (by first|exact d.out.symm|(rw [d.out];omega)),rfl⟩
 ·have d:=ymZ (show valZ r= -1 from by unfold valZ;(repeat' split)<;>omega)
  go_enter Tryz.func107,Tryz.ntmps107
  go_wp2
  go_ret
  exact ⟨zgT (by first|exact d.out.symm|(rw [d.out];omega)),rfl⟩
 ·have d:=ymZ (show valZ r=r - 87 from by unfold valZ;(repeat' split)<;>omega)
  go_enter Tryz.func107,Tryz.ntmps107
  go_wp2
  go_ret
  exact ⟨zgT (by first|exact d.out.symm|(rw [d.out];omega)),rfl⟩
 ·have d:=ymZ (show valZ r= -1 from by unfold valZ;(repeat' split)<;>omega)
  go_enter Tryz.func107,Tryz.ntmps107
  go_wp2
  go_ret
  exact ⟨zgT (by first|exact d.out.symm|(rw [d.out];omega)),rfl⟩
 ·have d:=ymZ (show valZ r= -1 from by unfold valZ;(repeat' split)<;>omega)
  go_enter Tryz.func107,Tryz.ntmps107
  go_wp2
  go_ret
  exact ⟨zgT (by first|exact d.out.symm|(rw [d.out];omega)),rfl⟩
def fixZ (r:Int):Int:=if isB r=true then r else 65533
theorem z3E (l:List UInt8) (i:Nat):zaW ⟨l.toArray⟩ i=(l.getD i 0).toNat:=by
 unfold zaW
 congr 1
 by_cases h:i<l.length
 ·rw [show (ByteArray.mk l.toArray).get! i=(ByteArray.mk l.toArray).get! (i+0) from rfl,get_at _ i (by simpa [ByteArray.size] using h)]
  simp [List.getD,List.getElem?_eq_getElem h]
  rfl
 ·have: ¬i<(ByteArray.mk l.toArray).size:=by simpa [ByteArray.size] using h
  simp only [List.getD,List.getElem?_eq_none (Nat.le_of_not_lt h),Option.getD_none]
  show (l.toArray)[i]! =_
  rw [getElem!_neg _ _ (by simpa using h)]
  rfl
theorem zaF (l:List UInt8):(ByteArray.mk l.toArray).size=l.length:=by simp [ByteArray.size]
theorem ygV (f e d:List UInt8) (k:Nat) (h:k<e.length):(f++e++d).getD (f.length+k) 0=e.getD k 0:=by
 simp only [List.getD]
 rw [List.append_assoc,List.getElem?_append_right (by omega),List.getElem?_append_left (by omega)]
 congr 2
 omega
theorem z3V (x:Int) (d:0≤x) (e:x<256):(x.toNat.toUInt8).toNat=x.toNat:=by
 have:x.toNat % 256=x.toNat:=Nat.mod_eq_of_lt (by omega)
 simp [Nat.toUInt8,this]
theorem zrM (g d:List UInt8) (r:Int):
  Utf8.decode ⟨(g++Lib.encodeRune r++d).toArray⟩ g.length=((fixZ r).toNat,(Lib.encodeRune r).length):=by
 obtain ⟨e,E⟩: ∃e,Lib.encodeRune r=e:=⟨_,rfl⟩
 have j: ∀k,k<e.length→zaW ⟨(g++e++d).toArray⟩ (g.length+k)=(e.getD k 0).toNat:=fun k M=>by
  rw [z3E,ygV g e d k M]
 have D:(ByteArray.mk (g++e++d).toArray).size=g.length+e.length+d.length:=by rw [zaF];simp;omega
 rw [E]
 generalize ByteArray.mk (g++e++d).toArray=t at*
 have q:isB r=true∨isB r=false:=by cases isB r<;>simp
 rcases q with q|q
 ·have G:=of_decide_eq_true q
  have H:fixZ r=r:=if_pos q
  rw [H]
  by_cases a:r<128
  ·have C:=Lib.encodeRuneZ_one G.1 (by omega)
   have B:e=[r.toNat.toUInt8]:=by rw [←E];unfold Lib.encodeRune;rw [C];rfl
   subst B
   have f:=j 0 (by simp)
   simp only [List.getD_cons_zero,Nat.add_zero] at f
   rw [z3V r G.1 (by omega)] at f
   rw [zdC,f,if_pos (by omega)]
   rfl
  ·by_cases b:r<2048
   ·have C:=Lib.encodeRuneZ_two (r:=r) (by omega) (by omega)
    have B:e=[(192+r/64).toNat.toUInt8,(128+r % 64).toNat.toUInt8]:=by rw [←E];unfold Lib.encodeRune;rw [C];rfl
    subst B
    have f:=j 0 (by simp)
    have i:=j 1 (by simp)
    simp only [List.getD_cons_zero,List.getD_cons_succ,Nat.add_zero] at f i
    rw [z3V _ (by omega) (by omega)] at f i
    simp only [List.length_cons,List.length_nil] at D ⊢
    rw [zdC,f,i,if_neg (by omega),if_pos (by omega),if_pos (by omega)]
    congr 1
    omega
   ·by_cases c:r<65536
    ·have C:=Lib.encodeRuneZ_three (r:=r) (by omega)
     have B:e=[(224+r/4096).toNat.toUInt8,(128+r/64 % 64).toNat.toUInt8,(128+r % 64).toNat.toUInt8]:=by rw [←E];unfold Lib.encodeRune;rw [C];rfl
     subst B
     have f:=j 0 (by simp)
     have i:=j 1 (by simp)
     have o:=j 2 (by simp)
     simp only [List.getD_cons_zero,List.getD_cons_succ,Nat.add_zero] at f i o
     rw [z3V _ (by omega) (by omega)] at f i o
     simp only [List.length_cons,List.length_nil] at D ⊢
     have m:(224+r/4096).toNat % 16*4096+(128+r/64 % 64).toNat % 64*64+(128+r % 64).toNat % 64=r.toNat:=by omega
     have A:isB ((r.toNat:Nat):Int)=true:=by rw [Int.toNat_of_nonneg G.1];exact q
     rw [zdC,f,i,o,if_neg (by omega),if_neg (by omega),if_pos (by omega),m,if_pos ⟨by omega,A⟩]
    ·have C:=Lib.encodeRuneZ_four (r:=r) (by omega) (by omega)
     have B:e=[(240+r/262144).toNat.toUInt8,(128+r/4096 % 64).toNat.toUInt8,(128+r/64 % 64).toNat.toUInt8,(128+r % 64).toNat.toUInt8]:=by rw [←E];unfold Lib.encodeRune;rw [C];rfl
     subst B
     have f:=j 0 (by simp)
     have i:=j 1 (by simp)
     have o:=j 2 (by simp)
     have I:=j 3 (by simp)
     simp only [List.getD_cons_zero,List.getD_cons_succ,Nat.add_zero] at f i o I
     rw [z3V _ (by omega) (by omega)] at f i o I
     simp only [List.length_cons,List.length_nil] at D ⊢
     have m:(240+r/262144).toNat % 8*262144+(128+r/4096 % 64).toNat % 64*4096+(128+r/64 % 64).toNat % 64*64+(128+r % 64).toNat % 64=r.toNat:=by omega
     have A:isB ((r.toNat:Nat):Int)=true:=by rw [Int.toNat_of_nonneg G.1];exact q
     rw [zdC,f,i,o,I,if_neg (by omega),if_neg (by omega),if_neg (by omega),if_pos (by omega),m,if_pos ⟨by omega,A⟩]
 ·have G:=of_decide_eq_false q
  have H:fixZ r=65533:=if_neg (by rw [q];simp)
  rw [H]
  have C:=Lib.encodeRuneZ_bad (r:=r) (by omega)
  have B:e=[239,191,189]:=by rw [←E];unfold Lib.encodeRune;rw [C];rfl
  subst B
  have f:=j 0 (by simp)
  have i:=j 1 (by simp)
  have o:=j 2 (by simp)
  simp only [List.getD_cons_zero,List.getD_cons_succ,Nat.add_zero] at f i o
  simp only [List.length_cons,List.length_nil] at D ⊢
  have J:(239:UInt8).toNat=239:=rfl
  have K:(191:UInt8).toNat=191:=rfl
  have L:(189:UInt8).toNat=189:=rfl
  have A:isB ((65533:Nat):Int)=true:=by decide
  rw [zdC,f,i,o,J,K,L,if_neg (by omega),if_neg (by omega),if_pos (by omega)]
  rw [if_pos ⟨by omega,by decide⟩]
  rfl
theorem ziT (r:Int):1≤(Lib.encodeRune r).length:=by
 simp only [Lib.encodeRune,List.length_map];exact (Lib.encodeRuneZ_length r).1
theorem ziA (r:Int) (l:List Int):zdT (r::l)=Lib.encodeRune r++zdT l:=by simp [zdT]
theorem ydQ (l:List Int):l.length≤(zdT l).length:=by
 induction l with
 |nil=>simp [zdT]
 |cons r l d=>rw [ziA,List.length_append,List.length_cons];have:=ziT r;omega
theorem zwI (r:Int):0≤fixZ r:=by
 unfold fixZ
 split
 ·rename_i h;exact (of_decide_eq_true h).1
 ·omega
theorem z1P (l:List Int): ∀(d:List UInt8) (f:Nat),l.length≤f→zkO ⟨(d++zdT l).toArray⟩ f d.length=l.map fixZ:=by
 induction l with
 |nil=>
  intro d f _
  rw [zjP _ _ _ (by rw [zaF];simp [zdT])]
  rfl
 |cons r l m=>
  intro d f i
  obtain ⟨e,rfl⟩: ∃e,f=e+1:=⟨f - 1,by simp at i;omega⟩
  have g:d.length<(ByteArray.mk (d++zdT (r::l)).toArray).size:=by
   rw [zaF,ziA];have:=ziT r;simp;omega
  rw [zhZ _ _ _ g,ziA,←List.append_assoc,zrM d (zdT l) r]
  have j:=m (d++Lib.encodeRune r) e (by simp at i;omega)
  rw [List.length_append] at j
  rw [j,List.map_cons,Int.toNat_of_nonneg (zwI r)]
theorem z4P (l:List Int):scal ⟨(zdT l).toArray⟩=l.map fixZ:=by
 unfold scal
 rw [zaF]
 exact z1P l [] _ (ydQ l)
/-! ### parts,put together again -/
theorem zkK (p:UInt8→Bool) (l:List UInt8):0<(zbF p l).length:=by simp [zbF]
theorem zaZ.form {B:Nat} {w:World} {v:Value} {ps:List (List UInt8)} (h:zaZ B w v ps) (A:0<ps.length):
  ∃g d,v= .slice (some ⟨g,0,none⟩) ps.length d∧g<w.heap.size∧ ∀j,j<ps.length→w.cell? ⟨g,j,none⟩=some (.string ⟨(ps.getD j []).toArray⟩):=by
 unfold zaZ at h
 rcases h.2 with ⟨_,E⟩|⟨g,d,e,m,_,f,C,_,D,q⟩
 ·omega
 ·refine ⟨g,d,m,(Array.getElem?_eq_some_iff.1 f).1,fun j o=> ?_⟩
  rw [cell_of_row w g j e _ _ f]
  have i:(zjF ps)[j]? =some (strC (ps.getD j [])):=by
   simp [zjF,List.getD,List.getElem?_eq_getElem o]
  rw [←q,List.getElem?_take,if_pos (by omega)] at i
  simpa [strC] using i
theorem zaZ.below {B:Nat} {w w':World} {v:Value} {ps:List (List UInt8)} (h:zaZ B w v ps) (d:Below w.heap.size w w'):zaZ B w' v ps:=zdE h d
theorem zcV (p:UInt8→Bool) (l:List UInt8):(zbF p l).length≤l.length+1:=by
 have d: ∀(l:List UInt8) (st:List (List UInt8)×List UInt8),(l.foldl (zaP p) st).1.length≤st.1.length+l.length:=by
  intro l
  induction l with
  |nil=>intro st;simp
  |cons c l e=>
   intro st
   rw [List.foldl_cons]
   have:=e (zaP p st c)
   have f:(zaP p st c).1.length≤st.1.length+1:=by unfold zaP;split<;>simp
   simp;omega
 have:=d l ([],[])
 simp [zbF,spl] at this ⊢
 omega
theorem zoE (ps:List (List UInt8)) (c d:List UInt8):Lib.join (ps++[c]) d=if ps=[] then c else Lib.join ps d++d++c:=by
 cases ps with
 |nil=>simp [Lib.join_one]
 |cons x r=>
  rw [if_neg (by simp),List.cons_append,Lib.join_cons,Lib.join_cons]
  simp [Lib.joinTail]
theorem z3A (l:List UInt8) (c:UInt8):Lib.join (zbF (hasB [c]) l) [c]=l:=by
 have d: ∀(l:List UInt8) (st:List (List UInt8)×List UInt8),Lib.join ((l.foldl (zaP (hasB [c])) st).1++[(l.foldl (zaP (hasB [c])) st).2]) [c]=Lib.join (st.1++[st.2]) [c]++l:=by
  intro l
  induction l with
  |nil=>intro st;simp
  |cons x l f=>
   intro st
   rw [List.foldl_cons,f]
   have e:Lib.join ((zaP (hasB [c]) st x).1++[(zaP (hasB [c]) st x).2]) [c]=Lib.join (st.1++[st.2]) [c]++[x]:=by
    unfold zaP
    by_cases h:hasB [c] x=true
    ·have g:c=x:=by simpa [hasB] using h
     rw [if_pos h,zoE (st.1++[st.2]) [] [c],if_neg (by simp),List.append_nil,g]
    ·rw [if_neg h,zoE,zoE]
     split
     ·rfl
     ·simp
   rw [e];simp
 have:=d l ([],[])
 unfold zbF spl
 rw [this]
 simp [Lib.join_one]
/-! ### a second time -/
end
end
section
open Go.RowKit
theorem zuT (s:ByteArray) (w:World) (A:s.size≤9223372036854775807):
  Calls Tryz.prog 172 #[.string s] w fun e w'=>e= .returned (.bool (zmN s))∧w=w':=by
 go_enter Tryz.func172,Tryz.ntmps172
 go_wp2
 go_loop [6] (fun i=> ∃k:Nat,k≤s.size∧i= .int .i64 k∧Hid (∀j (h:j<s.size),j<k→(s[j]'h).toNat<128)) (fun i=>s.size - (intOf i).toNat)
 case atStart=>exact ⟨0,Nat.zero_le _,rfl,fun j _ h=>by omega⟩
 case round=>
  obtain ⟨k,B,rfl,H⟩:=hrel
  by_cases d:k<s.size
  ·go_wp2
   ·have o:(128:Int)≤(s[k].toNat:Int):=by assumption
    go_ret
    exact ⟨zaV (zsY s k d (by omega)).symm,rfl⟩
   ·have o:(s[k].toNat:Int)<128:=by first|assumption|omega
    go_round
    case rel=>
     refine ⟨k+1,by omega,by go_num,fun j f m=> ?_⟩
     by_cases e:j=k
     ·subst e;omega
     ·exact H.out j f (by omega)
    case measure=>simp [intOf];omega
  ·have g:=zwH s (fun j f=>H.out j f (by omega))
   have q:=ymZ g
   clear g
   go_wp2
   go_ret
   exact ⟨zaV q.out.symm,rfl⟩
def zfB (f:UInt8→UInt8) (B:Nat) (s:ByteArray) (k d:Nat) (w:World):Prop:=
 ∃e:Array Value,w.heap[B]? =some (.cells e 5 (d,d+1))∧e.size=d∧s.size≤d∧
  ∀j (h:j<s.size),e[j]? =some (.int .u8 ((if j<k then f s[j] else s[j]).toNat:Int))
theorem ztB (f:UInt8→UInt8) (w:World) (s:ByteArray):zfB f w.heap.size s 0 (grownCap w s.size 0 5) (Lib.bytesWorld w 5 s):=by
 have e:s.size≤grownCap w s.size 0 5:=grownCap_ge _ _ _ _
 have d:(Lib.bytesCells w 5 s).size=grownCap w s.size 0 5:=by
  unfold Lib.bytesCells
  have:s.data.size=s.size:=rfl
  simp [this];omega
 refine ⟨Lib.bytesCells w 5 s,?_,d,e,?_⟩
 ·rw [Lib.bytesWorld_at_new,d]
 ·intro j h
  have g:j<s.data.size:=h
  rw [if_neg (by omega)]
  unfold Lib.bytesCells
  rw [Array.getElem?_append_left (by simpa using g)]
  simp
  exact ⟨s.data[j],Array.getElem?_eq_getElem g,rfl⟩
theorem zfB.cell {f:UInt8→UInt8} {B:Nat} {s:ByteArray} {k e:Nat} {w:World} (h:zfB f B s k e w) (i:k<s.size):w.cell? ⟨B,k,none⟩=some (.int .u8 (s[k].toNat:Int)):=by
 obtain ⟨d,g,_,_,j⟩:=h
 rw [cell_of_row w B k d _ _ g,j k i,if_neg (by omega)]
theorem zfB.frozen {f:UInt8→UInt8} {B:Nat} {s:ByteArray} {k d:Nat} {w:World} (h:zfB f B s k d w) (i:k<s.size):w.frozen? ⟨B,k,none⟩=false:=by
 obtain ⟨g,e,_,j,_⟩:=h
 simp [World.frozen?,e]
 omega
theorem zfB.same {f:UInt8→UInt8} {B:Nat} {s:ByteArray} {k d:Nat} {w:World} (h:zfB f B s k d w) (E:k<s.size) (q:f s[k]=s[k]):zfB f B s (k+1) d w:=by
 obtain ⟨g,m,A,C,D⟩:=h
 refine ⟨g,m,A,C,fun j o=> ?_⟩
 rw [D j o]
 by_cases e:j=k
 ·subst e;rw [if_neg (by omega),if_pos (by omega),q]
 ·by_cases i:j<k
  ·rw [if_pos i,if_pos (by omega)]
  ·rw [if_neg i,if_neg (by omega)]
theorem zfB.put {f:UInt8→UInt8} {B:Nat} {s:ByteArray} {k d:Nat} {w:World} (h:zfB f B s k d w) (E:k<s.size) (n:Int) (D:n=((f s[k]).toNat:Int)):zfB f B s (k+1) d (w.setCell ⟨B,k,none⟩ (.int .u8 n)):=by
 obtain ⟨g,q,m,A,C⟩:=h
 refine ⟨g.setIfInBounds k (.int .u8 n),?_,by simpa using m,A,fun j o=> ?_⟩
 ·simp [World.setCell,Array.getElem?_modify,q]
 ·rw [Array.getElem?_setIfInBounds]
  by_cases e:k=j
  ·subst e;rw [if_pos rfl,if_pos (by omega),if_pos (by omega),D]
  ·rw [if_neg e,C j o]
   by_cases i:j<k
   ·rw [if_pos i,if_pos (by omega)]
   ·rw [if_neg i,if_neg (by omega)]
theorem zfB.conv {f:UInt8→UInt8} {B:Nat} {s:ByteArray} {d:Nat} {w:World} {k:Nat} (h:zfB f B s k d w) (C: ¬k<s.size):
  (convert 158 9 (.slice (some ⟨B,0,none⟩) s.size d)).run Tryz.prog w= .ok (.string ⟨(s.data.toList.map f).toArray⟩) w:=by
 refine zeI w _ _ 5 _ _ ?_ Tryz.underlying158 Tryz.underlying5 Tryz.underlying9
 obtain ⟨g,o,A,D,q⟩:=h
 have m:(Lib.byteCells (s.data.toList.map f)).length=s.size:=by rw [Lib.byteCells_length,List.length_map,zaN]
 refine ⟨_,d,by rw [m],fun j u i=>⟨_,rfl,?_⟩⟩
 have e:j<s.size:=by rw [←m];exact (List.getElem?_eq_some_iff.1 i).1
 rw [show (Addr.add ⟨B,0,none⟩ j)=⟨B,j,none⟩ from by unfold Addr.add;split<;>simp_all]
 rw [cell_of_row w B j g _ _ o,q j e,if_pos (by omega),←i]
 simp only [Lib.byteCells,List.map_map,List.getElem?_map,zeH s j e]
 rfl
theorem z4T (s:ByteArray) (w:World) (U:s.size≤9223372036854775807):
  Calls Tryz.prog 44 #[.string s] w fun e w'=>e= .returned (.string ⟨(zaI s.data.toList).toArray⟩)∧Below w.heap.size w w':=by
 have A:=Lib.run_convert_string_bytes (P:=Tryz.prog) w 9 158 5 s Tryz.underlying9 Tryz.underlying158 Tryz.underlying5
 have E:=ztB lowC w s
 have H:Below w.heap.size w (Lib.bytesWorld w 5 s):=⟨rfl,rfl,rfl,by rw [Lib.bytesWorld_size];omega,fun k L=>Lib.bytesWorld_at_old w _ s k L⟩
 have G:=ymZ E
 clear E
 generalize C:grownCap w s.size 0 5=I at*
 generalize Lib.bytesWorld w 5 s=V at*
 clear C
 go_enter Tryz.func44,Tryz.ntmps44
 go_wp2
 clear A
 go_loopw [10] (fun i wr=> ∃k:Nat,k≤s.size∧i= .int .i64 k∧zfB lowC w.heap.size s k I wr∧Below w.heap.size w wr) (fun i _=>s.size - (intOf i).toNat)
 case atStart=>exact ⟨0,Nat.zero_le _,rfl,G.out,H⟩
 case round=>
  obtain ⟨k,L,rfl,D,m⟩:=hrel
  by_cases d:k<s.size
  ·have o:=D.cell d
   have Q:=D.frozen d
   obtain ⟨c,q⟩: ∃c,(s[k]'d).toNat=c:=⟨_,rfl⟩
   have J:c<256:=by rw [←q];exact (s[k]'d).toNat_lt
   rw [q] at o
   by_cases N:65≤c∧c≤90
   ·have B:((lowC s[k]).toNat:Int)=(c:Int)+32:=by rw [ydI (by omega) (by omega),q];omega
    have f:=D.put d ((c:Int)+32) B.symm
    have g:=ymZ f
    have j:=m.setCell (p:=⟨w.heap.size,k,none⟩) (ynA _) (.int .u8 ((c:Int)+32))
    have T:=ymZ q
    obtain ⟨S,O⟩:=N
    have K:(c:Int) - 65+97=(c:Int)+32:=by omega
    clear B f q
    go_wp2
    go_roundw
    case rel=>exact ⟨k+1,by omega,by go_num,by first|exact g.out|(rw [K];exact g.out),by first|exact j|(rw [K];exact j)⟩
    case measure=>simp [intOf];omega
   ·have f:=D.same d (ydX (by omega))
    have g:=ymZ f
    clear f q
    go_wp2
    all_goals
     go_roundw
     case rel=>exact ⟨k+1,by omega,by go_num,g.out,m⟩
     case measure=>simp [intOf];omega
  ·have M:=D.conv d
   go_wp2
   go_ret
   exact ⟨rfl,m⟩
end
end Go.Proofs.YtegmcmgndllmaaaGreatDoor
