/-
  What the law AgreeNever leans on, and its walk (1 of 42).
-/
import Derived.Test.YtegmcmgndllmaaaGreatDoorChecked
import Derived.WalkKit
import Derived.WalkLawsBesides
import Derived.BigQuiet
import Derived.Deep.QuietTactic
import Derived.Lib.Hide
import Derived.Lib.OthersKept
import Derived.Lib.RuneBytes
import Derived.Test.YtegmcmgndllmaaaGreatDoorAgreeNeverPkS
import Derived.OpenShut
import Derived.Lib.ConvBytes
import Derived.WalkSpells
import Derived.Lib.Join
namespace Go.Proofs.YtegmcmgndllmaaaGreatDoor
set_option maxRecDepth 100000
set_option maxHeartbeats 16000000
abbrev yjV := @Lib.hid
abbrev yjW := @Nat.le_refl
abbrev yjX := @decide_eq_false
abbrev yjY := @decide_eq_true
section
section
open Go.RowKit
theorem zaY {a b:Bool} (h:a=b):Ending.returned (.bool a)= .returned (.bool b):=by rw [h]
def znU (s:ByteArray):Bool:=s.data.toList.all fun c=>decide (c.toNat<128)
theorem zrY (s:ByteArray) (k:Nat) (h:k<s.size) (d:128≤(s[k]'h).toNat):znU s=false:=by
 unfold znU
 rw [List.all_eq_false]
 refine ⟨s[k]'h,?_,by simp;omega⟩
 show s.data[k]∈_
 simp
theorem zvZ (s:ByteArray) (h: ∀k (h:k<s.size),(s[k]'h).toNat<128):znU s=true:=by
 unfold znU
 rw [List.all_eq_true]
 intro c f
 obtain ⟨k,d,rfl⟩:=List.getElem_of_mem f
 have:=h k (by simpa using d)
 simp only [decide_eq_true_eq]
 exact this
def RowR (w:World) (v:Value) (xs:List Value):Prop:=
 ∃d c,v= .slice d xs.length c∧ ∀j u,xs[j]? =some u→ ∃f,d=some f∧w.cell? (f.add j)=some u
theorem RowR.of_own {w:World} {base:Nat} {e:TypeId} {v:Value} {xs:List Value} (h:w.ownsRow base e 1 v xs.length xs):RowR w v xs:=by
 rcases h.2 with ⟨rfl,m⟩|⟨g,i,f,rfl,_,C,D,_,E,A⟩
 ·refine ⟨none,0,by rw [m],fun j u d=> ?_⟩
  have:=List.length_eq_zero_iff.1 m
  subst this
  simp at d
 ·refine ⟨some ⟨g,0,none⟩,i,rfl,fun j u d=>⟨_,rfl,?_⟩⟩
  have B:j<xs.length:=(List.getElem?_eq_some_iff.1 d).1
  have o:(Addr.add ⟨g,0,none⟩ j)=⟨g,j,none⟩:=by
   unfold Addr.add;split<;>simp_all
  rw [o,cell_of_row w g j f e (0,0) C]
  rw [←A,List.getElem?_take] at d
  rw [if_pos (by omega)] at d
  simpa using d
def zbA (s:ByteArray) (i:Nat):Nat:=(s.get! i).toNat
theorem zqL (s:ByteArray) (i:Nat) (h:i<s.size):zbA s i=(s[i]'h).toNat:=by
 unfold zbA
 rw [show s.get! i=s.get! (i+0) from rfl,get_at s i h]
theorem zxG (s:ByteArray) (i:Nat):zbA s i<256:=(s.get! i).toNat_lt
def isB (r:Int):Bool:=decide (0≤r∧r≤1114111∧(r<55296∨57343<r))
theorem znR (r:Nat):Utf8.valid (r:Int)=isB (r:Int):=by
 unfold Utf8.valid isB
 rw [Bool.eq_iff_iff]
 simp only [Bool.or_eq_true,Bool.and_eq_true,decide_eq_true_eq]
 omega
theorem zwT (s:ByteArray) (i:Nat):Utf8.decode s i=
  if zbA s i<128 then (zbA s i,1)
  else if (zbA s i/32==6&&(decide (i+1<s.size)&&zbA s (i+1)/64==2))=true then
   if 128≤zbA s i % 32*64+zbA s (i+1) % 64 then (zbA s i % 32*64+zbA s (i+1) % 64,2) else (65533,1)
  else if (zbA s i/16==14&&(decide (i+1<s.size)&&zbA s (i+1)/64==2)&&(decide (i+2<s.size)&&zbA s (i+2)/64==2))=true then
   if (decide (2048≤zbA s i % 16*4096+zbA s (i+1) % 64*64+zbA s (i+2) % 64)&&isB (zbA s i % 16*4096+zbA s (i+1) % 64*64+zbA s (i+2) % 64:Nat))=true
   then (zbA s i % 16*4096+zbA s (i+1) % 64*64+zbA s (i+2) % 64,3) else (65533,1)
  else if (zbA s i/8==30&&(decide (i+1<s.size)&&zbA s (i+1)/64==2)&&(decide (i+2<s.size)&&zbA s (i+2)/64==2)&&(decide (i+3<s.size)&&zbA s (i+3)/64==2))=true then
   if (decide (65536≤zbA s i % 8*262144+zbA s (i+1) % 64*4096+zbA s (i+2) % 64*64+zbA s (i+3) % 64)&&isB (zbA s i % 8*262144+zbA s (i+1) % 64*4096+zbA s (i+2) % 64*64+zbA s (i+3) % 64:Nat))=true
   then (zbA s i % 8*262144+zbA s (i+1) % 64*4096+zbA s (i+2) % 64*64+zbA s (i+3) % 64,4) else (65533,1)
  else (65533,1):=by
 rw [←znR,←znR]
 rfl
theorem zjS (s:ByteArray) (i:Nat):Utf8.decode s i=
  if zbA s i<128 then (zbA s i,1)
  else if zbA s i/32=6∧(i+1<s.size∧zbA s (i+1)/64=2) then
   if 128≤zbA s i % 32*64+zbA s (i+1) % 64 then (zbA s i % 32*64+zbA s (i+1) % 64,2) else (65533,1)
  else if (zbA s i/16=14∧(i+1<s.size∧zbA s (i+1)/64=2))∧(i+2<s.size∧zbA s (i+2)/64=2) then
   if 2048≤zbA s i % 16*4096+zbA s (i+1) % 64*64+zbA s (i+2) % 64∧isB (zbA s i % 16*4096+zbA s (i+1) % 64*64+zbA s (i+2) % 64:Nat)=true
   then (zbA s i % 16*4096+zbA s (i+1) % 64*64+zbA s (i+2) % 64,3) else (65533,1)
  else if ((zbA s i/8=30∧(i+1<s.size∧zbA s (i+1)/64=2))∧(i+2<s.size∧zbA s (i+2)/64=2))∧(i+3<s.size∧zbA s (i+3)/64=2) then
   if 65536≤zbA s i % 8*262144+zbA s (i+1) % 64*4096+zbA s (i+2) % 64*64+zbA s (i+3) % 64∧isB (zbA s i % 8*262144+zbA s (i+1) % 64*4096+zbA s (i+2) % 64*64+zbA s (i+3) % 64:Nat)=true
   then (zbA s i % 8*262144+zbA s (i+1) % 64*4096+zbA s (i+2) % 64*64+zbA s (i+3) % 64,4) else (65533,1)
  else (65533,1):=by
 rw [zwT]
 simp only [beq_iff_eq,Bool.and_eq_true,decide_eq_true_eq]
def zlK (s:ByteArray):Nat→Nat→List Int
 |0,_=>[]
 |f+1,p=>if p<s.size then ((Utf8.decode s p).1:Int)::zlK s f (p+(Utf8.decode s p).2) else []
def scal (s:ByteArray):List Int:=zlK s s.size 0
theorem zeN (s:ByteArray) (p:Nat) (h:p<s.size):1≤(Utf8.decode s p).2:=by
 by_cases d:(s[p]'h).toNat<128
 ·rw [decode_ascii s p h d];exact yjW _
 ·exact (decode_high s p h (by omega)).2
theorem ygA (s:ByteArray) (p:Nat):(Utf8.decode s p).2≤4:=by
 rw [zjS]
 repeat' split
 all_goals simp
theorem znW (s:ByteArray) (f p:Nat) (h: ¬p<s.size):zlK s f p=[]:=by
 cases f with
 |zero=>rfl
 |succ f=>simp [zlK,h]
theorem zkP (s:ByteArray) (f p:Nat) (h:p<s.size):zlK s (f+1) p=((Utf8.decode s p).1:Int)::zlK s f (p+(Utf8.decode s p).2):=by
 simp [zlK,h]
theorem zuS (s:ByteArray): ∀f p,(zlK s f p).length≤f
 |0,_=>by simp [zlK]
 |f+1,p=>by
  by_cases h:p<s.size
  ·rw [zkP s f p h];have:=zuS s f (p+(Utf8.decode s p).2);simp;omega
  ·rw [znW s _ p h];simp
theorem ybY (s:ByteArray):(scal s).length≤s.size:=zuS s _ _
theorem zwQ (w:World) (u:Value) (t:TypeId): ∀j x,[u][j]? =some x→(w.alloc (.cells #[u] t)).cell? ((⟨w.heap.size,0,none⟩:Addr).add j)=some x:=by
 intro j x d
 match j,d with
 |0,d=>simp at d;subst d;simp [Addr.add]
theorem zbV {B:Nat} {a w:World} (h:Below B a w) (n:Nat):Below B a (w.drewN n):=⟨h.os,h.tape,h.output,h.size,h.block⟩
theorem zdJ {w w':World} {B:Nat} {t:TypeId} {v:Value} {n:Nat} {xs:List Value} (h:w.ownsRow B t 1 v n xs) (A:Below w.heap.size w w'):w'.ownsRow B t 1 v n xs:=by
 refine ⟨h.1,?_⟩
 rcases h.2 with d|⟨g,i,f,o,d,j,m⟩
 ·exact .inl d
 ·exact .inr ⟨g,i,f,o,d,(A.block g (Array.getElem?_eq_some_iff.1 j).1).trans j,m⟩
theorem z1B (l:List UInt8): ∀b:ByteArray,(l.map fun c=>(c.toNat:Int)).foldl (fun r n=>r.push (UInt8.ofNat n.toNat)) b=⟨(b.data.toList++l).toArray⟩:=by
 induction l with
 |nil=>intro b;simp
 |cons c l d=>
  intro b
  simp only [List.map_cons,List.foldl_cons]
  rw [d]
  simp [ByteArray.push]
theorem zfO {P:Program} (w:World) (f d e:TypeId) (v:Value) (l:List UInt8) (H:RowR w v (Lib.byteCells l))
  (J:P.underlying f=some (.slice e)) (o:P.underlying e=some (.int .u8)) (I:P.underlying d=some .string):
  (convert f d v).run P w= .ok (.string ⟨l.toArray⟩) w:=by
 obtain ⟨i,c,rfl,m⟩:=H
 rw [run_convert_bytes_string w f d e i _ c J o I]
 cases i with
 |none=>
  have E:l=[]:=by
   cases l with
   |nil=>rfl
   |cons x l=>
    obtain ⟨D,h,_⟩:=m 0 (.int .u8 x.toNat) rfl
    cases h
  subst E
  rfl
 |some a=>
  have A:=run_loadCells_list (P:=P) (w:=w) a (Lib.byteCells l) (fun j u C=>by
   obtain ⟨D,h,G⟩:=m j u C
   cases h
   exact G)
  have B:Lib.byteCells l=(l.map fun c=>(c.toNat:Int)).map (Value.int .u8):=by simp [Lib.byteCells]
  rw [run_bytesToString w a _ c (l.map fun c=>(c.toNat:Int)) (by rw [A,B]),z1B]
  rfl
def zoY (l:List Int):List UInt8:=l.map fun x=>x.toNat.toUInt8
theorem yfZ {P:Program} (W:World) (f d e:TypeId) (l:List Int) (C: ∀x∈l,0≤x∧x<256)
  (D:P.underlying f=some (.slice e)) (m:P.underlying e=some (.int .u8)) (A:P.underlying d=some .string):
  (convert f d (.slice (some ⟨W.heap.size,0,none⟩) l.length l.length)).run P (W.alloc (.cells (l.map (Value.int .u8)).toArray e))= .ok (.string ⟨(zoY l).toArray⟩) (W.alloc (.cells (l.map (Value.int .u8)).toArray e)):=by
 have i:Lib.byteCells (zoY l)=l.map (Value.int .u8):=by
  simp only [Lib.byteCells,zoY,List.map_map]
  apply List.map_congr_left
  intro x o
  obtain ⟨G,E⟩:=C x o
  simp only [Function.comp]
  congr 1
  have:x.toNat % 256=x.toNat:=Nat.mod_eq_of_lt (by omega)
  simp [Nat.toUInt8,this]
  omega
 refine zfO _ f d e _ (zoY l) ?_ D m A
 rw [i]
 refine ⟨_,l.length,by rw [List.length_map],fun j u B=>⟨_,rfl,?_⟩⟩
 rw [show (Addr.add ⟨W.heap.size,0,none⟩ j)=⟨W.heap.size,j,none⟩ from by unfold Addr.add;split<;>simp_all]
 rw [cell_of_row _ W.heap.size j _ e (0,0) (heap_alloc_new W _)]
 simpa using B
def zkB (l:List Int):List UInt8:=l.flatMap Lib.encodeRune
theorem zgM (r:Int):(Lib.encodeRune r).length≤4:=by
 simp only [Lib.encodeRune,List.length_map];exact (Lib.encodeRuneZ_length r).2
theorem zpM (l:List Int) (k:Nat) (h:k<l.length):zkB (l.take (k+1))=zkB (l.take k)++Lib.encodeRune l[k]:=by
 unfold zkB
 rw [List.take_succ_eq_append_getElem h,List.flatMap_append]
 simp
theorem zkA (l:List Int): ∀k,(zkB (l.take k)).length≤4*k
 |0=>by simp [zkB]
 |k+1=>by
  have d:=zkA l k
  by_cases h:k<l.length
  ·rw [zpM l k h,List.length_append];have:=zgM l[k];omega
  ·rw [List.take_of_length_le (by omega)];rw [List.take_of_length_le (by omega)] at d;omega
def Runes (l:List Int):Prop:= ∀x∈l,-2147483648≤x∧x≤2147483647
theorem yfJ (v:Value) (l:List Int) (w:World) (h:RowR w v (l.map (Value.int .i32))) (hl:l.length≤268435456) (M:Runes l):
  Calls Tryz.prog 274 #[v] w fun e w'=>e= .returned (.string ⟨(zkB l).toArray⟩)∧Below w.heap.size w w':=by
 obtain ⟨ao,c,rfl,O⟩:=h
 simp only [List.length_map]
 have U:=yjV O
 have X:=yjV M
 clear O M
 go_enter Tryz.func274,Tryz.ntmps274
 go_wp2
 go_loopw [3,8] (fun v i wr=> ∃k:Nat,k≤l.length∧i= .int .i64 k∧wr.ownsRow w.heap.size 5 1 v (zkB (l.take k)).length (Lib.byteCells (zkB (l.take k)))∧Below w.heap.size w wr) (fun _ i _=>l.length - (intOf i).toNat)
 case atStart=>exact ⟨0,Nat.zero_le _,rfl,World.ownsRow_nil _ _ _ _,Below.refl _ _⟩
 case round=>
  obtain ⟨k,hk,rfl,d,j⟩:=hrel
  have C:=j.size
  by_cases B:k<l.length
  ·have S:=zkA l k
   obtain ⟨x,E⟩: ∃x,x=l[k]:=⟨_,rfl⟩
   obtain ⟨V,rfl,hd1⟩:=U.out k (.int .i32 x) (by simp [E,B])
   have qa:wr.cell? (V.add k)=some (.int .i32 x):=(j.cell (World.block_lt_of_cell? w _ hd1)).trans hd1
   have H:=X.out x (by rw [E];exact List.getElem_mem _)
   obtain ⟨J,K⟩:=H
   have A:=zpM l k B
   rw [←E] at A
   have I:=yjV A
   clear A E
   generalize hT:zkB (l.take k)=T at*
   clear hT
   go_wp2_with (go_at_call 306;refine (Tryz.utf8_AppendRune_plain w.heap.size _ _ _ x J K wr d (by omega) C).mono ?_)
   rintro e Y ⟨v',rfl,m,o,N⟩
   have D:Below w.heap.size w Y:=(j.alloc C o).grown N (by simp;omega) (fun b Z=>by have:=d.lt b Z;omega)
   clear N d
   go_wp2
   go_roundw
   case rel=>
    refine ⟨k+1,by omega,by go_num,?_,D⟩
    rw [I.out,Lib.byteCells_append,Lib.byteCells_encodeRune,List.length_append]
    have Q:(Lib.runeCells x).length=(Lib.encodeRune x).length:=by rw [←Lib.byteCells_encodeRune,Lib.byteCells_length]
    rw [←Q]
    exact m
   case measure=>simp [intOf];omega
  ·have G:=zfO (P:=Tryz.prog) wr 158 9 5 _ (zkB (l.take k)) (RowR.of_own (by rw [Lib.byteCells_length];exact d)) Tryz.underlying158 Tryz.underlying5 Tryz.underlying9
   have f:zkB (l.take k)=zkB l:=by rw [List.take_of_length_le (by omega)]
   rw [f] at G
   have HF:=yjV f
   clear f
   go_wp2
   go_ret
   exact ⟨rfl,j⟩
theorem yaW (x y:List UInt8):(ByteArray.mk x.toArray++ByteArray.mk y.toArray)=ByteArray.mk (x++y).toArray:=ByteArray.mk_append_mk x y
theorem Tryz.infoByte:(Tryz.prog.info? 5).map (fun i=>(i.zero,i.size,i.bytes))=some (some (.int .u8 0),1,1):=by kernel_rfl
def lowC (c:UInt8):UInt8:=if 65≤c.toNat∧c.toNat≤90 then c+32 else c
def zaM (l:List UInt8):List UInt8:=l.map lowC
def z2B (c:UInt8):Bool:= !(c==9||c==10||c==13)
def zkD (l:List UInt8):List UInt8:=l.filter z2B
theorem z6C {c:UInt8} (f:65≤c.toNat) (d:c.toNat≤90):(lowC c).toNat=c.toNat+32:=by
 unfold lowC
 rw [if_pos ⟨f,d⟩,UInt8.toNat_add]
 simp
 omega
theorem ybN {c:UInt8} (h:c.toNat<65∨90<c.toNat):lowC c=c:=by
 unfold lowC
 rw [if_neg (by omega)]
theorem zeK (s:ByteArray) (k:Nat) (h:k<s.size):s.data.toList[k]? =some s[k]:=by
 rw [List.getElem?_eq_getElem (by simpa using h)]
 rfl
theorem zdE (s:ByteArray) (k:Nat) (h:k<s.size):s.data.toList.take (k+1)=s.data.toList.take k++[s[k]]:=by
 rw [List.take_succ_eq_append_getElem (by simpa using h)]
 rfl
theorem zeG (s:ByteArray) (k:Nat) (h: ¬k<s.size):s.data.toList.take k=s.data.toList:=List.take_of_length_le (by simpa using h)
theorem zaR (s:ByteArray):s.data.toList.length=s.size:=by simp
theorem zhH (l:List UInt8):(zaM l).length=l.length:=by simp [zaM]
theorem z6F (s:ByteArray) (k:Nat) (h:k<s.size) (d:z2B s[k]=true):zkD (s.data.toList.take (k+1))=zkD (s.data.toList.take k)++[s[k]]:=by
 rw [zdE s k h];simp [zkD,d]
theorem z6Y (s:ByteArray) (k:Nat) (h:k<s.size) (d:z2B s[k]=false):zkD (s.data.toList.take (k+1))=zkD (s.data.toList.take k):=by
 rw [zdE s k h];simp [zkD,d]
theorem yfL (l:List UInt8):(zkD l).length≤l.length:=List.length_filter_le _ _
theorem z1T {c:UInt8} (f:c.toNat≠9) (i:c.toNat≠10) (m:c.toNat≠13):z2B c=true:=by
 unfold z2B
 have d:(c==9)=false:=beq_eq_false_iff_ne.2 fun e=>f (by rw [e];rfl)
 have o:(c==10)=false:=beq_eq_false_iff_ne.2 fun e=>i (by rw [e];rfl)
 have j:(c==13)=false:=beq_eq_false_iff_ne.2 fun e=>m (by rw [e];rfl)
 rw [d,o,j];rfl
theorem zvW {c:UInt8} (h:c.toNat=9∨c.toNat=10∨c.toNat=13):z2B c=false:=by
 rcases h with h|h|h
 ·rw [show c=9 from UInt8.toNat_inj.1 h];rfl
 ·rw [show c=10 from UInt8.toNat_inj.1 h];rfl
 ·rw [show c=13 from UInt8.toNat_inj.1 h];rfl
theorem zkV (l:List UInt8) (c:UInt8) (n:Int) (h:(c.toNat:Int)=n):Lib.byteCells (l++[c])=Lib.byteCells l++[.int .u8 n]:=by
 rw [Lib.byteCells_append,←h];rfl
theorem zdX {P:Program} (w:World) {E:Array Oper} {m:List Oper} {o:Oper} {a:Act} {Q:Exit→Act→World→Prop} (H:o.guard=none) (s x:Operand) (t:TypeId)
  (Z:o.op= .call {callee:= .builtin .append,args:= #[s,x],argTypes:= #[t,t]})
  (base:Nat) (e:TypeId) (i:TypeInfo) (z:Value) (d:Nat) (N:P.underlying t=some (.slice e)) (hi:P.info? e=some i) (U:i.zero=some z)
  (B:i.size=1) (K:i.bytes=d) (I:z.cells.size=1)
  (v:Value) (n:Nat) (xs:List Value) (V:a.eval s=v) (j:w.ownsRow base e 1 v n xs) (u:Value) (Y:a.eval x= .slice (some ⟨w.heap.size,0,none⟩) 1 1) (O:u.oneCell'=true)
  (J:n+1≤9223372036854775807) (f:(n+1)*d≤140737488355328) (C:base≤w.heap.size)
  (h: ∀G w',w'.ownsRow base e 1 G (n+1) (xs++[u])→Below base w w'→wpList P E Q m (a.put o.dst G) w'):wpList P E Q (o::m) a (w.alloc (.cells #[u] e)):=by
 refine wpList_append_own (w.alloc (.cells #[u] e)) H s x t Z base e i z 1 d N hi U B K I (by decide) v n xs V (j.alloc _) ⟨w.heap.size,0,none⟩ 1 1 [u] Y rfl (zwQ w u e) ?_ J f (by simp;omega) ?_
 ·intro y M;simp at M;subst M;exact O
 ·intro G X D A _
  exact h G X D (((Below.refl base w).alloc C _).grown A (by simp;omega) (fun k S=>(j.lt k S).1))
def Gath (B:Nat) (w:World) (v:Value) (l:List UInt8):Prop:=w.ownsRow B 5 1 v l.length (Lib.byteCells l)
theorem Gath.conv {B:Nat} {w:World} {v:Value} {l:List UInt8} (h:Gath B w v l):(convert 158 9 v).run Tryz.prog w= .ok (.string ⟨l.toArray⟩) w:=
 zfO w _ _ 5 _ l (RowR.of_own (by rw [Lib.byteCells_length];exact h)) Tryz.underlying158 Tryz.underlying5 Tryz.underlying9
theorem Gath.nil (B:Nat) (w:World):Gath B w (.slice none 0 0) []:=World.ownsRow_nil _ _ _ _
theorem Gath.snoc {B:Nat} {w:World} {v:Value} {l:List UInt8} {c:UInt8} {n:Int} (h:w.ownsRow B 5 1 v (l.length+1) (Lib.byteCells l++[.int .u8 n])) (d:(c.toNat:Int)=n):Gath B w v (l++[c]):=by
 unfold Gath
 rw [zkV l c n d,List.length_append]
 exact h
theorem yeG (s:ByteArray) (w:World) (Y:s.size≤1073741824):
  Calls Tryz.prog 83 #[.string s] w fun e w'=>e= .returned (.string ⟨(zkD s.data.toList).toArray⟩)∧Below w.heap.size w w':=by
 obtain ⟨N,hi,I,G,D⟩:=info_parts Tryz.infoByte
 go_enter Tryz.func83,Tryz.ntmps83
 go_wp2
 go_loopw [3,8] (fun v i wr=> ∃(k:Nat) (T:List UInt8),k≤s.size∧i= .int .i64 k∧Gath w.heap.size wr v T∧T.length≤k∧Hid (T=zkD (s.data.toList.take k))∧Below w.heap.size w wr) (fun _ i _=>s.size - (intOf i).toNat)
 case atStart=>exact ⟨0,[],Nat.zero_le _,rfl,Gath.nil _ _,by simp,rfl,Below.refl _ _⟩
 case round=>
  obtain ⟨k,T,U,rfl,f,Q,HT,m⟩:=hrel
  have E:=m.size
  unfold Gath at f
  by_cases j:k<s.size
  ·obtain ⟨c,M⟩: ∃c,(s[k]'j).toNat=c:=⟨_,rfl⟩
   have H:c<256:=by rw [←M];exact (s[k]'j).toNat_lt
   by_cases K:c=9∨c=10∨c=13
   ·have d:=z6Y s k j (zvW (by omega))
    rw [←HT.out] at d
    have B:=yjV d
    clear d
    rcases K with rfl|rfl|rfl
    all_goals
     go_wp2
     go_roundw
     case rel=>exact ⟨k+1,T,by omega,by go_num,f,by omega,B.out.symm,m⟩
     case measure=>simp [intOf];omega
   ·have d:=z6F s k j (z1T (by omega) (by omega) (by omega))
    rw [←HT.out] at d
    have B:=yjV d
    have C:=yjV M
    have b1:((c:Int) !=9)=true:=by rw [bne_iff_ne];omega
    have X:((c:Int) !=10)=true:=by rw [bne_iff_ne];omega
    have V:((c:Int) !=13)=true:=by rw [bne_iff_ne];omega
    clear d K
    go_wp2_with (first|(at_builtin;refine zdX _ rfl _ _ 158 rfl w.heap.size 5 N (.int .u8 0) 1 Tryz.underlying158 hi I G D rfl _ _ _ rfl f (.int .u8 (c:Int)) rfl rfl (by omega) (by omega) E ?_;intro Z w1 A J))
    go_roundw
    case rel=>exact ⟨k+1,T++[s[k]],by omega,by go_num,Gath.snoc A (by rw [C.out]),by simp;omega,B.out.symm,m.trans J⟩
    case measure=>simp [intOf];omega
  ·have O:=Gath.conv f
   have o:zkD s.data.toList=T:=by rw [HT.out,zeG s k j]
   have S:=yjV o
   clear o
   go_wp2
   go_ret
   exact ⟨by rw [S.out];rfl,m⟩
def zfD (B:Nat) (s:ByteArray) (k d:Nat) (w:World):Prop:=
 ∃f:Array Value,w.heap[B]? =some (.cells f 5 (d,d+1))∧f.size=d∧s.size≤d∧
  ∀j (h:j<s.size),f[j]? =some (.int .u8 ((if j<k then lowC s[j] else s[j]).toNat:Int))
theorem zuD (w:World) (s:ByteArray):zfD w.heap.size s 0 (grownCap w s.size 0 5) (Lib.bytesWorld w 5 s):=by
 have f:s.size≤grownCap w s.size 0 5:=grownCap_ge _ _ _ _
 have d:(Lib.bytesCells w 5 s).size=grownCap w s.size 0 5:=by
  unfold Lib.bytesCells
  have:s.data.size=s.size:=rfl
  simp [this];omega
 refine ⟨Lib.bytesCells w 5 s,?_,d,f,?_⟩
 ·rw [Lib.bytesWorld_at_new,d]
 ·intro j h
  have i:j<s.data.size:=h
  rw [if_neg (by omega)]
  unfold Lib.bytesCells
  rw [Array.getElem?_append_left (by simpa using i)]
  simp
  exact ⟨s.data[j],Array.getElem?_eq_getElem i,rfl⟩
theorem zfD.cell {B:Nat} {s:ByteArray} {k f:Nat} {w:World} (h:zfD B s k f w) (m:k<s.size):w.cell? ⟨B,k,none⟩=some (.int .u8 (s[k].toNat:Int)):=by
 obtain ⟨d,j,_,_,i⟩:=h
 rw [cell_of_row w B k d _ _ j,i k m,if_neg (by omega)]
theorem zfD.frozen {B:Nat} {s:ByteArray} {k d:Nat} {w:World} (h:zfD B s k d w) (j:k<s.size):w.frozen? ⟨B,k,none⟩=false:=by
 obtain ⟨i,f,_,m,_⟩:=h
 simp [World.frozen?,f]
 omega
theorem zfD.same {B:Nat} {s:ByteArray} {k d:Nat} {w:World} (h:zfD B s k d w) (G:k<s.size) (m:lowC s[k]=s[k]):zfD B s (k+1) d w:=by
 obtain ⟨f,A,C,E,o⟩:=h
 refine ⟨f,A,C,E,fun j D=> ?_⟩
 rw [o j D]
 by_cases e:j=k
 ·subst e;rw [if_neg (by omega),if_pos (by omega),m]
 ·by_cases i:j<k
  ·rw [if_pos i,if_pos (by omega)]
  ·rw [if_neg i,if_neg (by omega)]
theorem zfD.put {B:Nat} {s:ByteArray} {k d:Nat} {w:World} (h:zfD B s k d w) (G:k<s.size) (n:Int) (D:n=((lowC s[k]).toNat:Int)):zfD B s (k+1) d (w.setCell ⟨B,k,none⟩ (.int .u8 n)):=by
 obtain ⟨f,o,A,E,m⟩:=h
 refine ⟨f.setIfInBounds k (.int .u8 n),?_,by simpa using A,E,fun j C=> ?_⟩
 ·simp [World.setCell,Array.getElem?_modify,o]
 ·rw [Array.getElem?_setIfInBounds]
  by_cases e:k=j
  ·subst e;rw [if_pos rfl,if_pos (by omega),if_pos (by omega),D]
  ·rw [if_neg e,m j C]
   by_cases i:j<k
   ·rw [if_pos i,if_pos (by omega)]
   ·rw [if_neg i,if_neg (by omega)]
theorem zfD.conv {B:Nat} {s:ByteArray} {d:Nat} {w:World} {k:Nat} (h:zfD B s k d w) (E: ¬k<s.size):
  (convert 158 9 (.slice (some ⟨B,0,none⟩) s.size d)).run Tryz.prog w= .ok (.string ⟨(zaM s.data.toList).toArray⟩) w:=by
 refine zfO w _ _ 5 _ _ ?_ Tryz.underlying158 Tryz.underlying5 Tryz.underlying9
 obtain ⟨i,C,D,G,A⟩:=h
 have m:(Lib.byteCells (zaM s.data.toList)).length=s.size:=by rw [Lib.byteCells_length,zhH,zaR]
 refine ⟨_,d,by rw [m],fun j u o=>⟨_,rfl,?_⟩⟩
 have f:j<s.size:=by rw [←m];exact (List.getElem?_eq_some_iff.1 o).1
 rw [show (Addr.add ⟨B,0,none⟩ j)=⟨B,j,none⟩ from by unfold Addr.add;split<;>simp_all]
 rw [cell_of_row w B j i _ _ C,A j f,if_pos (by omega),←o]
 simp only [Lib.byteCells,zaM,List.map_map,List.getElem?_map,zeK s j f]
 rfl
theorem zkG (s:ByteArray) (w:World) (hs:s.size≤1073741824):
  Calls Tryz.prog 44 #[.string s] w fun e w'=>e= .returned (.string ⟨(zaM s.data.toList).toArray⟩)∧Below w.heap.size w w':=by
 have H:=Lib.run_convert_string_bytes (P:=Tryz.prog) w 9 158 5 s Tryz.underlying9 Tryz.underlying158 Tryz.underlying5
 have C:=zuD w s
 have M:Below w.heap.size w (Lib.bytesWorld w 5 s):=⟨rfl,rfl,rfl,by rw [Lib.bytesWorld_size];omega,fun k N=>Lib.bytesWorld_at_old w _ s k N⟩
 have I:=yjV C
 clear C
 generalize G:grownCap w s.size 0 5=J at*
 generalize Lib.bytesWorld w 5 s=Y at*
 clear G
 go_enter Tryz.func44,Tryz.ntmps44
 go_wp2
 clear H
 go_loopw [10] (fun i wr=> ∃k:Nat,k≤s.size∧i= .int .i64 k∧zfD w.heap.size s k J wr∧Below w.heap.size w wr) (fun i _=>s.size - (intOf i).toNat)
 case atStart=>exact ⟨0,Nat.zero_le _,rfl,I.out,M⟩
 case round=>
  obtain ⟨k,N,rfl,D,o⟩:=hrel
  by_cases d:k<s.size
  ·have A:=D.cell d
   have Q:=D.frozen d
   obtain ⟨c,B⟩: ∃c,(s[k]'d).toNat=c:=⟨_,rfl⟩
   have K:c<256:=by rw [←B];exact (s[k]'d).toNat_lt
   rw [B] at A
   by_cases S:65≤c∧c≤90
   ·have E:((lowC s[k]).toNat:Int)=(c:Int)+32:=by rw [z6C (by omega) (by omega),B];omega
    have f:=D.put d ((c:Int)+32) E.symm
    have j:=yjV f
    have m:=o.setCell (p:=⟨w.heap.size,k,none⟩) (yjW _) (.int .u8 ((c:Int)+32))
    have Z:=yjV B
    obtain ⟨V,X⟩:=S
    have O:(c:Int) - 65+97=(c:Int)+32:=by omega
    clear E f B
    go_wp2
    go_roundw
    case rel=>exact ⟨k+1,by omega,by go_num,by first|exact j.out|(rw [O];exact j.out),by first|exact m|(rw [O];exact m)⟩
    case measure=>simp [intOf];omega
   ·have f:=D.same d (ybN (by omega))
    have j:=yjV f
    clear f B
    go_wp2
    all_goals
     go_roundw
     case rel=>exact ⟨k+1,by omega,by go_num,j.out,o⟩
     case measure=>simp [intOf];omega
  ·have U:=D.conv d
   go_wp2
   go_ret
   exact ⟨rfl,o⟩
def zcW (c:UInt8):Bool:=decide (c.toNat≤32)
theorem zmK {c:UInt8} (h:c.toNat≤32):zcW c=true:=yjY h
theorem zhA {c:UInt8} (h:32<c.toNat):zcW c=false:=yjX (by omega)
def ziR (l:List UInt8):List UInt8:=((l.dropWhile zcW).reverse.dropWhile zcW).reverse
theorem zfI (p:UInt8→Bool): ∀(l:List UInt8) (n:Nat),n≤l.length→(∀k x,l[k]? =some x→k<n→p x=true)→(n=l.length∨ ∃x,l[n]? =some x∧p x=false)→l.dropWhile p=l.drop n
 |[],n,h,_,_=>by simp
 |x::l,0,_,_,d=>by
  rcases d with d|⟨y,f,i⟩
  ·simp at d
  ·simp at f;subst f;simp [i]
 |x::l,n+1,h,j,d=>by
  have A:p x=true:=j 0 x rfl (by omega)
  rw [List.dropWhile_cons,if_pos A,List.drop_succ_cons]
  exact zfI p l n (by simp at h;omega) (fun k y o m=>j (k+1) y (by simpa using o) (by omega)) (d.imp (fun e=>by simp at e;exact e) (fun ⟨y,f,i⟩=>⟨y,by simpa using f,i⟩))
theorem z9P (l:List UInt8) (i j:Nat) (E:i≤j) (H:j≤l.length) (A: ∀k x,l[k]? =some x→k<i→zcW x=true) (B:i=l.length∨ ∃x,l[i]? =some x∧zcW x=false)
  (D: ∀k x,l[k]? =some x→j≤k→zcW x=true) (m:i=j∨(i<j∧ ∃x,l[j - 1]? =some x∧zcW x=false)):(l.drop i).take (j - i)=ziR l:=by
 unfold ziR
 rw [zfI zcW l i (by omega) A B,zfI zcW (l.drop i).reverse (l.length - j) (by simp;omega),List.drop_reverse,List.reverse_reverse]
 ·congr 1
  simp
  omega
 ·intro k x f G
  have d:k<(l.drop i).reverse.length:=(List.getElem?_eq_some_iff.1 f).1
  simp at d
  rw [List.getElem?_reverse (by simpa using d),List.getElem?_drop] at f
  exact D _ x f (by simp;omega)
 ·rcases m with m|⟨d,x,C,o⟩
  ·left;simp;omega
  ·right
   refine ⟨x,?_,o⟩
   rw [List.getElem?_reverse (by simp;omega),List.getElem?_drop]
   rw [←C]
   congr 1
   simp
   omega
theorem ztA (s:ByteArray) (k:Nat):s.extract k k=ByteArray.empty:=by
 apply ByteArray.ext
 apply Array.ext'
 rw [Lib.extract_data]
 simp
theorem zrL (s:ByteArray) (k m:Nat) (A:k≤m) (B:m≤s.size) (C: ∀j (h:j<s.size),j<k→zcW s[j]=true) (E:k=s.size∨ ∃h:k<s.size,zcW s[k]=false)
  (G: ∀j (h:j<s.size),m≤j→zcW s[j]=true) (D:k=m∨ ∃h:m - 1<s.size,k<m∧zcW s[m - 1]=false):(s.extract k m)=⟨(ziR s.data.toList).toArray⟩:=by
 have at_: ∀j x,s.data.toList[j]? =some x→ ∃h:j<s.size,x=s[j]:=by
  intro j x i
  have d:j<s.size:=by have:=(List.getElem?_eq_some_iff.1 i).1;simpa using this
  rw [zeK s j d] at i
  exact ⟨d,(Option.some.inj i).symm⟩
 have e:=z9P s.data.toList k m A (by rw [zaR];exact B)
  (fun j x i f=>by obtain ⟨h,rfl⟩:=at_ j x i;exact C j h f)
  (by rw [zaR];exact E.imp id (fun ⟨h,o⟩=>⟨_,zeK s k h,o⟩))
  (fun j x i f=>by obtain ⟨h,rfl⟩:=at_ j x i;exact G j h f)
  (D.imp id (fun ⟨h,d,o⟩=>⟨d,_,zeK s (m - 1) h,o⟩))
 rw [←e]
 apply ByteArray.ext
 apply Array.ext'
 rw [Lib.extract_data]
theorem ygD (s:ByteArray) (w:World) (hs:s.size≤1073741824):
  Calls Tryz.prog 84 #[.string s] w fun e w'=>e= .returned (.string ⟨(ziR s.data.toList).toArray⟩)∧w=w':=by
 go_enter Tryz.func84,Tryz.ntmps84
 go_wp2
 go_loop [3] (fun i=> ∃k:Nat,k≤s.size∧i= .int .i64 k∧Hid (∀j (h:j<s.size),j<k→zcW s[j]=true)) (fun i=>s.size - (intOf i).toNat)
 case atStart=>exact ⟨0,Nat.zero_le _,rfl,fun j _ h=>by omega⟩
 case round=>
  obtain ⟨k,hk,rfl,U⟩:=hrel
  by_cases o: ∃h:k<s.size,(s[k]'h).toNat≤32
  ·obtain ⟨f,A⟩:=o
   obtain ⟨c,Q⟩: ∃c,(s[k]'f).toNat=c:=⟨_,rfl⟩
   rw [Q] at A
   have Z:=yjV Q
   go_wp2
   go_round
   case rel=>
    refine ⟨k+1,by omega,by go_num,fun j I Y=> ?_⟩
    by_cases e:j=k
    ·subst e;exact zmK (by rw [Z.out];exact A)
    ·exact U.out j I (by omega)
   case measure=>simp [intOf];omega
  ·have H2:Hid (k=s.size∨ ∃h:k<s.size,zcW s[k]=false):=by
    by_cases f:k<s.size
    ·refine .inr ⟨f,?_⟩
     by_cases A:(s[k]'f).toNat≤32
     ·exact absurd ⟨f,A⟩ o
     ·exact zhA (by omega)
    ·exact .inl (by omega)
   have D: ∀m:Nat,k≤m→m≤s.size→(∀j (h:j<s.size),m≤j→zcW s[j]=true)→(k=m∨ ∃h:m - 1<s.size,k<m∧zcW s[m - 1]=false)→(s.extract k m)=⟨(ziR s.data.toList).toArray⟩:=
    fun m J H h3 h4=>zrL s k m J H U.out H2.out h3 h4
   have G:=yjV D
   clear D
   by_cases f:k<s.size
   ·obtain ⟨c,Q⟩: ∃c,(s[k]'f).toNat=c:=⟨_,rfl⟩
    have X:32<c:=by
     by_cases A:(s[k]'f).toNat≤32
     ·exact absurd ⟨f,A⟩ o
     ·omega
    clear o
    go_wp2
    go_loop [4] (fun i=> ∃m:Nat,k≤m∧m≤s.size∧i= .int .i64 m∧Hid (∀j (h:j<s.size),m≤j→zcW s[j]=true)) (fun i=>(intOf i).toNat)
    case atStart=>exact ⟨s.size,by omega,yjW _,rfl,fun j J H=>by omega⟩
    case round=>
     obtain ⟨m,K,N,rfl,O⟩:=hrel
     by_cases C:k<m
     ·have E:m - 1<s.size:=by omega
      obtain ⟨d,hd⟩: ∃d,(s[m - 1]'E).toNat=d:=⟨_,rfl⟩
      have V:=yjV hd
      have ei:((m:Int) - 1).toNat=m - 1:=by omega
      have ej:(m:Int) - 1=((m - 1:Nat):Int):=by omega
      by_cases A:d≤32
      ·go_wp2
       go_round
       case rel=>
        refine ⟨m - 1,by omega,by omega,by go_num,fun j I qa=> ?_⟩
        by_cases e:j=m - 1
        ·subst e;exact zmK (by rw [V.out];exact A)
        ·exact O.out j I (by omega)
       case measure=>simp [intOf];omega
      ·have M:=yjV (G.out m K N O.out (.inr ⟨E,C,zhA (by rw [V.out];omega)⟩))
       go_wp2
       go_ret
       exact ⟨by rw [←M.out];rfl,rfl⟩
     ·have B:False:=by
       have S:=f
       have:=O.out k f (by omega)
       rw [zhA (by omega)] at this
       cases this
      exact B.elim
   ·obtain rfl:k=s.size:=by omega
    have M:=yjV (G.out s.size (yjW _) (yjW _) (fun j J H=>by omega) (.inl rfl))
    clear o
    go_wp2
    refine wp_loop_rounds 1 ?_
    rw [rounds_succ]
    go_wp2
    go_ret
    exact ⟨congrArg (fun b=>Ending.returned (Value.string b)) ((ztA s s.size).symm.trans M.out),rfl⟩
theorem Tryz.infoStr:(Tryz.prog.info? 9).map (fun i=>(i.zero,i.size,i.bytes))=some (some (.string ⟨#[]⟩),1,16):=by kernel_rfl
def hasB (l:List UInt8) (c:UInt8):Bool:=l.any (· ==c)
theorem zcL (l:List UInt8) (c:UInt8):(hasB l c=true→0≤Lib.indexByte l c)∧(hasB l c=false→Lib.indexByte l c= -1):=by
 induction l with
 |nil=>simp [hasB,Lib.indexByte]
 |cons b l i=>
  have m:=Lib.indexByte_ge l c
  by_cases e:b==c
  ·simp [hasB,Lib.indexByte,e]
  ·have f:(b==c)=false:=by simpa using e
   have j:hasB (b::l) c=hasB l c:=by simp [hasB,f]
   simp only [Lib.indexByte,f,j,Bool.false_eq_true,if_false]
   refine ⟨fun h=> ?_,fun h=> ?_⟩
   ·have d:=i.1 h
    rw [if_neg (by simp;omega)]
    omega
   ·have d:=i.2 h
    rw [if_pos (by simp [d])]
theorem zjD (c:UInt8):((c.toNat:Int).toNat).toUInt8=c:=by
 simp
theorem ib_yes (s:ByteArray) (c:UInt8) (w:World) (h:hasB s.data.toList c=true):
  Calls Tryz.prog 184 #[.string s,.int .u8 (c.toNat:Int)] w fun e w'=> ∃x:Int,e= .returned (.int .i64 x)∧0≤x∧w=w':=by
 refine (Tryz.strings_IndexByte s _ w).mono ?_
 rintro e w' ⟨rfl,rfl⟩
 rw [zjD]
 exact ⟨_,rfl,(zcL _ _).1 h,rfl⟩
theorem ib_no (s:ByteArray) (c:UInt8) (w:World) (h:hasB s.data.toList c=false):
  Calls Tryz.prog 184 #[.string s,.int .u8 (c.toNat:Int)] w fun e w'=>e= .returned (.int .i64 (-1))∧w=w':=by
 refine (Tryz.strings_IndexByte s _ w).mono ?_
 rintro e w' ⟨rfl,rfl⟩
 rw [zjD,(zcL _ _).2 h]
 exact ⟨rfl,rfl⟩
theorem yhD (s:ByteArray) (c:UInt8) (h: ∀k (h:k<s.size),s[k].toNat≠c.toNat):hasB s.data.toList c=false:=by
 unfold hasB
 rw [List.any_eq_false]
 intro x i
 obtain ⟨k,f,rfl⟩:=List.getElem_of_mem i
 have:=h k (by simpa using f)
 intro e
 have d:s.data[k]=c:=by simpa using e
 exact this (congrArg UInt8.toNat d)
def zbD (p:UInt8→Bool) (st:List (List UInt8)×List UInt8) (c:UInt8):List (List UInt8)×List UInt8:=
 if p c then (st.1++[st.2],[]) else (st.1,st.2++[c])
def spl (p:UInt8→Bool) (l:List UInt8):List (List UInt8)×List UInt8:=l.foldl (zbD p) ([],[])
def zbW (p:UInt8→Bool) (l:List UInt8):List (List UInt8):=(spl p l).1++[(spl p l).2]
def strC (l:List UInt8):Value:= .string ⟨l.toArray⟩
def ziY (l:List (List UInt8)):List Value:=l.map strC
theorem yhA (p:UInt8→Bool) (s:ByteArray) (k:Nat) (h:k<s.size) (d:p s[k]=true):spl p (s.data.toList.take (k+1))=((spl p (s.data.toList.take k)).1++[(spl p (s.data.toList.take k)).2],[]):=by
 rw [zdE s k h]
 simp [spl,zbD,d]
theorem spl_no (p:UInt8→Bool) (s:ByteArray) (k:Nat) (h:k<s.size) (d:p s[k]=false):spl p (s.data.toList.take (k+1))=((spl p (s.data.toList.take k)).1,(spl p (s.data.toList.take k)).2++[s[k]]):=by
 rw [zdE s k h]
 simp [spl,zbD,d]
theorem zkS (s:ByteArray) (a b:Nat) (l:List UInt8) (h:(s.data.toList.drop a).take (b - a)=l):s.extract a b=⟨l.toArray⟩:=by
 apply ByteArray.ext
 apply Array.ext'
 rw [Lib.extract_data,h]
theorem ybX (s:ByteArray) (a k:Nat) (d:a≤k) (h:k<s.size):(s.data.toList.drop a).take (k+1 - a)=(s.data.toList.drop a).take (k - a)++[s[k]]:=by
 rw [show k+1 - a=(k - a)+1 from by omega,List.take_succ_eq_append_getElem (by simp;omega)]
 congr 2
 rw [List.getElem_drop]
 have:a+(k - a)=k:=by omega
 simp only [this]
 rfl
def zbI (B:Nat) (w:World) (v:Value) (ps:List (List UInt8)):Prop:=w.ownsRow B 9 1 v ps.length (ziY ps)
theorem zbI.nil (B:Nat) (w:World):zbI B w (.slice none 0 0) []:=World.ownsRow_nil _ _ _ _
theorem zbI.snoc {B:Nat} {w:World} {v:Value} {ps:List (List UInt8)} {x:ByteArray} {l:List UInt8} (h:w.ownsRow B 9 1 v (ps.length+1) (ziY ps++[.string x])) (d:x=⟨l.toArray⟩):zbI B w v (ps++[l]):=by
 unfold zbI ziY
 rw [List.map_append,List.length_append]
 subst d
 exact h
def ydL (B:Nat) (ps:List (List UInt8)) (w:World) (e:Ending) (w':World):Prop:= ∃v,e= .returned v∧zbI B w' v ps∧Below B w w'
theorem zdN (s at_:ByteArray) (w:World) (Z:s.size≤1073741824):
  Calls Tryz.prog 111 #[.string s,.string at_] w (ydL w.heap.size (zbW (hasB at_.data.toList) s.data.toList) w):=by
 obtain ⟨N,hi,J,H,E⟩:=info_parts Tryz.infoStr
 go_enter Tryz.func111,Tryz.ntmps111
 go_wp2
 go_loopw [5,6,10] (fun v Q i wr=> ∃(k a:Nat) (ps:List (List UInt8)),k≤s.size∧a≤k∧i= .int .i64 k∧Q= .int .i64 a∧zbI w.heap.size wr v ps∧ps.length≤k∧Hid (spl (hasB at_.data.toList) (s.data.toList.take k)=(ps,(s.data.toList.drop a).take (k - a)))∧Below w.heap.size w wr) (fun _ _ i _=>s.size - (intOf i).toNat)
 case atStart=>exact ⟨0,0,[],Nat.zero_le _,Nat.zero_le _,rfl,rfl,zbI.nil _ _,by simp,rfl,Below.refl _ _⟩
 case round=>
  obtain ⟨k,a,ps,Y,X,rfl,rfl,j,U,K,m⟩:=hrel
  have G:=m.size
  unfold zbI at j
  by_cases o:k<s.size
  ·by_cases I:hasB at_.data.toList s[k]=true
   ·have f:=yhA (hasB at_.data.toList) s k o I
    rw [K.out] at f
    have C:=yjV f
    have M:=yjV I
    clear f I
    go_wp2_with (first|(go_at_call 184;refine (ib_yes _ _ _ M.out).mono ?_;rintro e w' ⟨x,rfl,hx,rfl⟩)|(at_builtin;refine zdX _ rfl _ _ 25 rfl w.heap.size 9 N (.string ⟨#[]⟩) 16 Tryz.underlying25 hi J H E rfl _ _ _ rfl j (.string (s.extract a k)) rfl rfl (by omega) (by omega) G ?_;intro O S d D))
    go_roundw
    case rel=>
     refine ⟨k+1,k+1,ps++[(s.data.toList.drop a).take (k - a)],by omega,by omega,by go_num,by go_num,zbI.snoc d (zkS s a k _ rfl),by simp;omega,?_,m.trans D⟩
     show _=_
     rw [C.out,Nat.sub_self,List.take_zero]
    case measure=>simp [intOf];omega
   ·have B:hasB at_.data.toList s[k]=false:=by simpa using I
    have f:=spl_no (hasB at_.data.toList) s k o B
    rw [K.out] at f
    have C:=yjV f
    have M:=yjV B
    clear f I B
    go_wp2_with (go_at_call 184;refine (ib_no _ _ _ M.out).mono ?_;rintro e w' ⟨rfl,rfl⟩)
    go_roundw
    case rel=>
     refine ⟨k+1,a,ps,by omega,by omega,by go_num,rfl,j,by omega,?_,m⟩
     show _=_
     rw [C.out,ybX s a k X o]
    case measure=>simp [intOf];omega
  ·obtain rfl:k=s.size:=by omega
   have A:zbW (hasB at_.data.toList) s.data.toList=ps++[(s.data.toList.drop a).take (s.size - a)]:=by
    have:=K.out
    rw [zeG s s.size o] at this
    unfold zbW
    rw [this]
   have V:=yjV A
   clear A
   go_wp2_with (at_builtin;refine zdX _ rfl _ _ 25 rfl w.heap.size 9 N (.string ⟨#[]⟩) 16 Tryz.underlying25 hi J H E rfl _ _ _ rfl j (.string (s.extract a s.size)) rfl rfl (by omega) (by omega) G ?_;intro O S d D)
   go_ret
   exact ⟨O,rfl,by rw [V.out];exact zbI.snoc d (zkS s a s.size _ rfl),m.trans D⟩
theorem zgJ {k:IntKind} {a b:Int} (h:a=b):Ending.returned (.int k a)= .returned (.int k b):=by rw [h]
def zaX (r:Int):Bool:=decide (48≤r∧r≤57)
def zcF (r:Int):Bool:=decide ((97≤r∧r≤122)∨(65≤r∧r≤90))
def valZ (r:Int):Int:=if 48≤r∧r≤57 then r - 48 else if 65≤r∧r≤70 then r - 55 else if 97≤r∧r≤102 then r - 87 else -1
theorem zbT (r:Int) (w:World):
  Calls Tryz.prog 97 #[.int .i32 r] w fun e w'=>e= .returned (.bool (zaX r))∧w=w':=by
 rcases (show r<48∨(48≤r∧r≤57)∨(57<r∧r<65)∨(65≤r∧r≤70)∨(70<r∧r≤90)∨(90<r∧r<97)∨(97≤r∧r≤102)∨(102<r∧r≤122)∨122<r from by omega) with f|⟨f,i⟩|⟨f,i⟩|⟨f,i⟩|⟨f,i⟩|⟨f,i⟩|⟨f,i⟩|⟨f,i⟩|f
 ·have d:=yjV (show zaX r=false from yjX (by omega))
  go_enter Tryz.func97,Tryz.ntmps97
  go_wp2
  go_ret
  exact ⟨zaY (by first|exact d.out.symm|(rw [d.out];simp;omega)),rfl⟩
 ·have d:=yjV (show zaX r=true from yjY (by omega))
  go_enter Tryz.func97,Tryz.ntmps97
  go_wp2
  go_ret
  exact ⟨zaY (by first|exact d.out.symm|(rw [d.out];simp;omega)),rfl⟩
 ·have d:=yjV (show zaX r=false from yjX (by omega))
  go_enter Tryz.func97,Tryz.ntmps97
  go_wp2
  go_ret
  exact ⟨zaY (by first|exact d.out.symm|(rw [d.out];simp;omega)),rfl⟩
 ·have d:=yjV (show zaX r=false from yjX (by omega))
  go_enter Tryz.func97,Tryz.ntmps97
  go_wp2
  go_ret
  exact ⟨zaY (by first|exact d.out.symm|(rw [d.out];simp;omega)),rfl⟩
 ·have d:=yjV (show zaX r=false from yjX (by omega))
  go_enter Tryz.func97,Tryz.ntmps97
  go_wp2
  go_ret
  exact ⟨zaY (by first|exact d.out.symm|(rw [d.out];simp;omega)),rfl⟩
 ·have d:=yjV (show zaX r=false from yjX (by omega))
  go_enter Tryz.func97,Tryz.ntmps97
  go_wp2
  go_ret
  exact ⟨zaY (by first|exact d.out.symm|(rw [d.out];simp;omega)),rfl⟩
 ·have d:=yjV (show zaX r=false from yjX (by omega))
  go_enter Tryz.func97,Tryz.ntmps97
  go_wp2
  go_ret
  exact ⟨zaY (by first|exact d.out.symm|(rw [d.out];simp;omega)),rfl⟩
 ·have d:=yjV (show zaX r=false from yjX (by omega))
  go_enter Tryz.func97,Tryz.ntmps97
  go_wp2
  go_ret
  exact ⟨zaY (by first|exact d.out.symm|(rw [d.out];simp;omega)),rfl⟩
 ·have d:=yjV (show zaX r=false from yjX (by omega))
  go_enter Tryz.func97,Tryz.ntmps97
  go_wp2
  go_ret
  exact ⟨zaY (by first|exact d.out.symm|(rw [d.out];simp;omega)),rfl⟩
theorem znF (r:Int) (w:World):
  Calls Tryz.prog 96 #[.int .i32 r] w fun e w'=>e= .returned (.bool (zcF r))∧w=w':=by
 rcases (show r<48∨(48≤r∧r≤57)∨(57<r∧r<65)∨(65≤r∧r≤70)∨(70<r∧r≤90)∨(90<r∧r<97)∨(97≤r∧r≤102)∨(102<r∧r≤122)∨122<r from by omega) with f|⟨f,i⟩|⟨f,i⟩|⟨f,i⟩|⟨f,i⟩|⟨f,i⟩|⟨f,i⟩|⟨f,i⟩|f
 ·have d:=yjV (show zcF r=false from yjX (by omega))
  go_enter Tryz.func96,Tryz.ntmps96
  go_wp2
  go_ret
  exact ⟨zaY (by first|exact d.out.symm|(rw [d.out];simp;omega)),rfl⟩
 ·have d:=yjV (show zcF r=false from yjX (by omega))
  go_enter Tryz.func96,Tryz.ntmps96
  go_wp2
  go_ret
  exact ⟨zaY (by first|exact d.out.symm|(rw [d.out];simp;omega)),rfl⟩
 ·have d:=yjV (show zcF r=false from yjX (by omega))
  go_enter Tryz.func96,Tryz.ntmps96
  go_wp2
  go_ret
  exact ⟨zaY (by first|exact d.out.symm|(rw [d.out];simp;omega)),rfl⟩
 ·have d:=yjV (show zcF r=true from yjY (by omega))
  go_enter Tryz.func96,Tryz.ntmps96
  go_wp2
  go_ret
  exact ⟨zaY (by first|exact d.out.symm|(rw [d.out];simp;omega)),rfl⟩
 ·have d:=yjV (show zcF r=true from yjY (by omega))
  go_enter Tryz.func96,Tryz.ntmps96
  go_wp2
  go_ret
  exact ⟨zaY (by first|exact d.out.symm|(rw [d.out];simp;omega)),rfl⟩
 ·have d:=yjV (show zcF r=false from yjX (by omega))
  go_enter Tryz.func96,Tryz.ntmps96
  go_wp2
  go_ret
  exact ⟨zaY (by first|exact d.out.symm|(rw [d.out];simp;omega)),rfl⟩
 ·have d:=yjV (show zcF r=true from yjY (by omega))
  go_enter Tryz.func96,Tryz.ntmps96
  go_wp2
  go_ret
  exact ⟨zaY (by first|exact d.out.symm|(rw [d.out];simp;omega)),rfl⟩
 ·have d:=yjV (show zcF r=true from yjY (by omega))
  go_enter Tryz.func96,Tryz.ntmps96
  go_wp2
  go_ret
  exact ⟨zaY (by first|exact d.out.symm|(rw [d.out];simp;omega)),rfl⟩
 ·have d:=yjV (show zcF r=false from yjX (by omega))
  go_enter Tryz.func96,Tryz.ntmps96
  go_wp2
  go_ret
  exact ⟨zaY (by first|exact d.out.symm|(rw [d.out];simp;omega)),rfl⟩
theorem zbS (r:Int) (w:World):
  Calls Tryz.prog 107 #[.int .i32 r] w fun e w'=>e= .returned (.int .i64 (valZ r))∧w=w':=by
 rcases (show r<48∨(48≤r∧r≤57)∨(57<r∧r<65)∨(65≤r∧r≤70)∨(70<r∧r≤90)∨(90<r∧r<97)∨(97≤r∧r≤102)∨(102<r∧r≤122)∨122<r from by omega) with f|⟨f,i⟩|⟨f,i⟩|⟨f,i⟩|⟨f,i⟩|⟨f,i⟩|⟨f,i⟩|⟨f,i⟩|f
 ·have d:=yjV (show valZ r= -1 from by unfold valZ;(repeat' split)<;>omega)
  go_enter Tryz.func107,Tryz.ntmps107
  go_wp2
  go_ret
  exact ⟨zgJ (by first|exact d.out.symm|(rw [d.out];omega)),rfl⟩
 ·have d:=yjV (show valZ r=r - 48 from by unfold valZ;(repeat' split)<;>omega)
  go_enter Tryz.func107,Tryz.ntmps107
  go_wp2
  go_ret
  exact ⟨zgJ (by first|exact d.out.symm|(rw [d.out];omega)),rfl⟩
 ·have d:=yjV (show valZ r= -1 from by unfold valZ;(repeat' split)<;>omega)
  go_enter Tryz.func107,Tryz.ntmps107
  go_wp2
  go_ret
  exact ⟨zgJ (by first|exact d.out.symm|(rw [d.out];omega)),rfl⟩
 ·have d:=yjV (show valZ r=r - 55 from by unfold valZ;(repeat' split)<;>omega)
  go_enter Tryz.func107,Tryz.ntmps107
  go_wp2
  go_ret
  exact ⟨zgJ (by first|exact d.out.symm|(rw [d.out];omega)),rfl⟩
 ·have d:=yjV (show valZ r= -1 from by unfold valZ;(repeat' split)<;>omega)
  go_enter Tryz.func107,Tryz.ntmps107
  go_wp2
  go_ret
  exact ⟨zgJ (by first|exact d.out.symm|(rw [d.out];omega)),rfl⟩
 ·have d:=yjV (show valZ r= -1 from by unfold valZ;(repeat' split)<;>omega)
  go_enter Tryz.func107,Tryz.ntmps107
  go_wp2
  go_ret
  exact ⟨zgJ (by first|exact d.out.symm|(rw [d.out];omega)),rfl⟩
 ·have d:=yjV (show valZ r=r - 87 from by unfold valZ;(repeat' split)<;>omega)
  go_enter Tryz.func107,Tryz.ntmps107
  go_wp2
  go_ret
  exact ⟨zgJ (by first|exact d.out.symm|(rw [d.out];omega)),rfl⟩
 ·have d:=yjV (show valZ r= -1 from by unfold valZ;(repeat' split)<;>omega)
  go_enter Tryz.func107,Tryz.ntmps107
  go_wp2
  go_ret
  exact ⟨zgJ (by first|exact d.out.symm|(rw [d.out];omega)),rfl⟩
 ·have d:=yjV (show valZ r= -1 from by unfold valZ;(repeat' split)<;>omega)
  go_enter Tryz.func107,Tryz.ntmps107
  go_wp2
  go_ret
  exact ⟨zgJ (by first|exact d.out.symm|(rw [d.out];omega)),rfl⟩
theorem zaI (l:List UInt8):(ByteArray.mk l.toArray).size=l.length:=by simp [ByteArray.size]
theorem u8_of (x:Int) (d:0≤x) (f:x<256):(x.toNat.toUInt8).toNat=x.toNat:=by
 have:x.toNat % 256=x.toNat:=Nat.mod_eq_of_lt (by omega)
 simp [Nat.toUInt8,this]
/-! ### parts,put together again -/
theorem zjK (p:UInt8→Bool) (l:List UInt8):0<(zbW p l).length:=by simp [zbW]
theorem zbI.form {B:Nat} {w:World} {v:Value} {ps:List (List UInt8)} (h:zbI B w v ps) (G:0<ps.length):
  ∃g d,v= .slice (some ⟨g,0,none⟩) ps.length d∧g<w.heap.size∧ ∀j,j<ps.length→w.cell? ⟨g,j,none⟩=some (.string ⟨(ps.getD j []).toArray⟩):=by
 unfold zbI at h
 rcases h.2 with ⟨_,E⟩|⟨g,d,f,C,_,m,D,_,H,o⟩
 ·omega
 ·refine ⟨g,d,C,(Array.getElem?_eq_some_iff.1 m).1,fun j A=> ?_⟩
  rw [cell_of_row w g j f _ _ m]
  have i:(ziY ps)[j]? =some (strC (ps.getD j [])):=by
   simp [ziY,List.getD,List.getElem?_eq_getElem A]
  rw [←o,List.getElem?_take,if_pos (by omega)] at i
  simpa [strC] using i
theorem zbI.below {B:Nat} {w w':World} {v:Value} {ps:List (List UInt8)} (h:zbI B w v ps) (d:Below w.heap.size w w'):zbI B w' v ps:=zdJ h d
theorem zdF (p:UInt8→Bool) (l:List UInt8):(zbW p l).length≤l.length+1:=by
 have key: ∀(l:List UInt8) (st:List (List UInt8)×List UInt8),(l.foldl (zbD p) st).1.length≤st.1.length+l.length:=by
  intro l
  induction l with
  |nil=>intro st;simp
  |cons c l d=>
   intro st
   rw [List.foldl_cons]
   have:=d (zbD p st c)
   have f:(zbD p st c).1.length≤st.1.length+1:=by unfold zbD;split<;>simp
   simp;omega
 have:=key l ([],[])
 simp [zbW,spl] at this ⊢
 omega
theorem znP (ps:List (List UInt8)) (c d:List UInt8):Lib.join (ps++[c]) d=if ps=[] then c else Lib.join ps d++d++c:=by
 cases ps with
 |nil=>simp [Lib.join_one]
 |cons x r=>
  rw [if_neg (by simp),List.cons_append,Lib.join_cons,Lib.join_cons]
  simp [Lib.joinTail]
theorem z1W (l:List UInt8) (c:UInt8):Lib.join (zbW (hasB [c]) l) [c]=l:=by
 have key: ∀(l:List UInt8) (st:List (List UInt8)×List UInt8),Lib.join ((l.foldl (zbD (hasB [c])) st).1++[(l.foldl (zbD (hasB [c])) st).2]) [c]=Lib.join (st.1++[st.2]) [c]++l:=by
  intro l
  induction l with
  |nil=>intro st;simp
  |cons x l f=>
   intro st
   rw [List.foldl_cons,f]
   have e:Lib.join ((zbD (hasB [c]) st x).1++[(zbD (hasB [c]) st x).2]) [c]=Lib.join (st.1++[st.2]) [c]++[x]:=by
    unfold zbD
    by_cases h:hasB [c] x=true
    ·have d:c=x:=by simpa [hasB] using h
     rw [if_pos h,znP (st.1++[st.2]) [] [c],if_neg (by simp),List.append_nil,d]
    ·rw [if_neg h,znP,znP]
     split
     ·rfl
     ·simp
   rw [e];simp
 have:=key l ([],[])
 unfold zbW spl
 rw [this]
 simp [Lib.join_one]
/-! ### a second time -/
end
end
section
open Go.RowKit
theorem zuO (s:ByteArray) (w:World) (D:s.size≤9223372036854775807):
  Calls Tryz.prog 172 #[.string s] w fun e w'=>e= .returned (.bool (znU s))∧w=w':=by
 go_enter Tryz.func172,Tryz.ntmps172
 go_wp2
 go_loop [6] (fun i=> ∃k:Nat,k≤s.size∧i= .int .i64 k∧Hid (∀j (h:j<s.size),j<k→(s[j]'h).toNat<128)) (fun i=>s.size - (intOf i).toNat)
 case atStart=>exact ⟨0,Nat.zero_le _,rfl,fun j _ h=>by omega⟩
 case round=>
  obtain ⟨k,C,rfl,H⟩:=hrel
  by_cases f:k<s.size
  ·go_wp2
   ·have o:(128:Int)≤(s[k].toNat:Int):=by assumption
    go_ret
    exact ⟨zaY (zrY s k f (by omega)).symm,rfl⟩
   ·have o:(s[k].toNat:Int)<128:=by first|assumption|omega
    go_round
    case rel=>
     refine ⟨k+1,by omega,by go_num,fun j d B=> ?_⟩
     by_cases e:j=k
     ·subst e;omega
     ·exact H.out j d (by omega)
    case measure=>simp [intOf];omega
  ·have m:=zvZ s (fun j d=>H.out j d (by omega))
   have A:=yjV m
   clear m
   go_wp2
   go_ret
   exact ⟨zaY A.out.symm,rfl⟩
def zfE (f:UInt8→UInt8) (B:Nat) (s:ByteArray) (k d:Nat) (w:World):Prop:=
 ∃i:Array Value,w.heap[B]? =some (.cells i 5 (d,d+1))∧i.size=d∧s.size≤d∧
  ∀j (h:j<s.size),i[j]? =some (.int .u8 ((if j<k then f s[j] else s[j]).toNat:Int))
theorem zuT (f:UInt8→UInt8) (w:World) (s:ByteArray):zfE f w.heap.size s 0 (grownCap w s.size 0 5) (Lib.bytesWorld w 5 s):=by
 have i:s.size≤grownCap w s.size 0 5:=grownCap_ge _ _ _ _
 have d:(Lib.bytesCells w 5 s).size=grownCap w s.size 0 5:=by
  unfold Lib.bytesCells
  have:s.data.size=s.size:=rfl
  simp [this];omega
 refine ⟨Lib.bytesCells w 5 s,?_,d,i,?_⟩
 ·rw [Lib.bytesWorld_at_new,d]
 ·intro j h
  have m:j<s.data.size:=h
  rw [if_neg (by omega)]
  unfold Lib.bytesCells
  rw [Array.getElem?_append_left (by simpa using m)]
  simp
  exact ⟨s.data[j],Array.getElem?_eq_getElem m,rfl⟩
theorem zfE.cell {f:UInt8→UInt8} {B:Nat} {s:ByteArray} {k i:Nat} {w:World} (h:zfE f B s k i w) (o:k<s.size):w.cell? ⟨B,k,none⟩=some (.int .u8 (s[k].toNat:Int)):=by
 obtain ⟨d,m,_,_,j⟩:=h
 rw [cell_of_row w B k d _ _ m,j k o,if_neg (by omega)]
theorem zfE.frozen {f:UInt8→UInt8} {B:Nat} {s:ByteArray} {k d:Nat} {w:World} (h:zfE f B s k d w) (m:k<s.size):w.frozen? ⟨B,k,none⟩=false:=by
 obtain ⟨j,i,_,o,_⟩:=h
 simp [World.frozen?,i]
 omega
theorem zfE.same {f:UInt8→UInt8} {B:Nat} {s:ByteArray} {k d:Nat} {w:World} (h:zfE f B s k d w) (H:k<s.size) (o:f s[k]=s[k]):zfE f B s (k+1) d w:=by
 obtain ⟨i,C,D,G,A⟩:=h
 refine ⟨i,C,D,G,fun j E=> ?_⟩
 rw [A j E]
 by_cases e:j=k
 ·subst e;rw [if_neg (by omega),if_pos (by omega),o]
 ·by_cases m:j<k
  ·rw [if_pos m,if_pos (by omega)]
  ·rw [if_neg m,if_neg (by omega)]
theorem zfE.put {f:UInt8→UInt8} {B:Nat} {s:ByteArray} {k d:Nat} {w:World} (h:zfE f B s k d w) (H:k<s.size) (n:Int) (C:n=((f s[k]).toNat:Int)):zfE f B s (k+1) d (w.setCell ⟨B,k,none⟩ (.int .u8 n)):=by
 obtain ⟨i,D,o,G,E⟩:=h
 refine ⟨i.setIfInBounds k (.int .u8 n),?_,by simpa using o,G,fun j A=> ?_⟩
 ·simp [World.setCell,Array.getElem?_modify,D]
 ·rw [Array.getElem?_setIfInBounds]
  by_cases e:k=j
  ·subst e;rw [if_pos rfl,if_pos (by omega),if_pos (by omega),C]
  ·rw [if_neg e,E j A]
   by_cases m:j<k
   ·rw [if_pos m,if_pos (by omega)]
   ·rw [if_neg m,if_neg (by omega)]
theorem zfE.conv {f:UInt8→UInt8} {B:Nat} {s:ByteArray} {d:Nat} {w:World} {k:Nat} (h:zfE f B s k d w) (G: ¬k<s.size):
  (convert 158 9 (.slice (some ⟨B,0,none⟩) s.size d)).run Tryz.prog w= .ok (.string ⟨(s.data.toList.map f).toArray⟩) w:=by
 refine zfO w _ _ 5 _ _ ?_ Tryz.underlying158 Tryz.underlying5 Tryz.underlying9
 obtain ⟨m,D,E,H,C⟩:=h
 have o:(Lib.byteCells (s.data.toList.map f)).length=s.size:=by rw [Lib.byteCells_length,List.length_map,zaR]
 refine ⟨_,d,by rw [o],fun j u A=>⟨_,rfl,?_⟩⟩
 have i:j<s.size:=by rw [←o];exact (List.getElem?_eq_some_iff.1 A).1
 rw [show (Addr.add ⟨B,0,none⟩ j)=⟨B,j,none⟩ from by unfold Addr.add;split<;>simp_all]
 rw [cell_of_row w B j m _ _ D,C j i,if_pos (by omega),←A]
 simp only [Lib.byteCells,List.map_map,List.getElem?_map,zeK s j i]
 rfl
theorem z4X (s:ByteArray) (w:World) (hs:s.size≤9223372036854775807):
  Calls Tryz.prog 44 #[.string s] w fun e w'=>e= .returned (.string ⟨(zaM s.data.toList).toArray⟩)∧Below w.heap.size w w':=by
 have H:=Lib.run_convert_string_bytes (P:=Tryz.prog) w 9 158 5 s Tryz.underlying9 Tryz.underlying158 Tryz.underlying5
 have C:=zuT lowC w s
 have M:Below w.heap.size w (Lib.bytesWorld w 5 s):=⟨rfl,rfl,rfl,by rw [Lib.bytesWorld_size];omega,fun k N=>Lib.bytesWorld_at_old w _ s k N⟩
 have I:=yjV C
 clear C
 generalize G:grownCap w s.size 0 5=J at*
 generalize Lib.bytesWorld w 5 s=Y at*
 clear G
 go_enter Tryz.func44,Tryz.ntmps44
 go_wp2
 clear H
 go_loopw [10] (fun i wr=> ∃k:Nat,k≤s.size∧i= .int .i64 k∧zfE lowC w.heap.size s k J wr∧Below w.heap.size w wr) (fun i _=>s.size - (intOf i).toNat)
 case atStart=>exact ⟨0,Nat.zero_le _,rfl,I.out,M⟩
 case round=>
  obtain ⟨k,N,rfl,D,o⟩:=hrel
  by_cases d:k<s.size
  ·have A:=D.cell d
   have Q:=D.frozen d
   obtain ⟨c,B⟩: ∃c,(s[k]'d).toNat=c:=⟨_,rfl⟩
   have K:c<256:=by rw [←B];exact (s[k]'d).toNat_lt
   rw [B] at A
   by_cases S:65≤c∧c≤90
   ·have E:((lowC s[k]).toNat:Int)=(c:Int)+32:=by rw [z6C (by omega) (by omega),B];omega
    have f:=D.put d ((c:Int)+32) E.symm
    have j:=yjV f
    have m:=o.setCell (p:=⟨w.heap.size,k,none⟩) (yjW _) (.int .u8 ((c:Int)+32))
    have Z:=yjV B
    obtain ⟨V,X⟩:=S
    have O:(c:Int) - 65+97=(c:Int)+32:=by omega
    clear E f B
    go_wp2
    go_roundw
    case rel=>exact ⟨k+1,by omega,by go_num,by first|exact j.out|(rw [O];exact j.out),by first|exact m|(rw [O];exact m)⟩
    case measure=>simp [intOf];omega
   ·have f:=D.same d (ybN (by omega))
    have j:=yjV f
    clear f B
    go_wp2
    all_goals
     go_roundw
     case rel=>exact ⟨k+1,by omega,by go_num,j.out,o⟩
     case measure=>simp [intOf];omega
  ·have U:=D.conv d
   go_wp2
   go_ret
   exact ⟨rfl,o⟩
end
end Go.Proofs.YtegmcmgndllmaaaGreatDoor
