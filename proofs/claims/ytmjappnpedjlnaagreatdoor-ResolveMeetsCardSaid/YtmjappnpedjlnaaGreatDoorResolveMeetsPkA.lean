/-
  What the law ResolveMeets leans on, and its walk (1 of 46).
-/
import Derived.Test.YtmjappnpedjlnaaGreatDoorChecked
import Derived.WalkKit
import Derived.WalkLawsBesides
import Derived.BigQuiet
import Derived.Deep.QuietTactic
import Derived.Lib.Hide
import Derived.Lib.OthersKept
import Derived.Lib.RuneBytes
import Derived.Test.YtmjappnpedjlnaaGreatDoorResolveMeetsPkS
import Derived.OpenShut
import Derived.Lib.ConvBytes
import Derived.WalkSpells
import Derived.Lib.Join
namespace Go.Proofs.YtmjappnpedjlnaaGreatDoor
set_option maxRecDepth 100000
set_option maxHeartbeats 16000000
abbrev yoD := @Lib.hid
abbrev yoE := @Nat.le_refl
abbrev yoF := @decide_eq_false
abbrev yoG := @decide_eq_true
section
section
open Go.RowKit
theorem zaX {a b:Bool} (h:a=b):Ending.returned (.bool a)= .returned (.bool b):=by rw [h]
def znH (s:ByteArray):Bool:=s.data.toList.all fun c=>decide (c.toNat<128)
theorem zuV (s:ByteArray) (k:Nat) (h:k<s.size) (hc:128≤(s[k]'h).toNat):znH s=false:=by
 unfold znH
 rw [List.all_eq_false]
 refine ⟨s[k]'h,?_,by simp;omega⟩
 show s.data[k]∈_
 simp
theorem zxY (s:ByteArray) (h: ∀k (h:k<s.size),(s[k]'h).toNat<128):znH s=true:=by
 unfold znH
 rw [List.all_eq_true]
 intro c hc
 obtain ⟨k,hk,rfl⟩:=List.getElem_of_mem hc
 have:=h k (by simpa using hk)
 simp only [decide_eq_true_eq]
 exact this
def RowR (w:World) (v:Value) (xs:List Value):Prop:=
 ∃ao c,v= .slice ao xs.length c∧ ∀j u,xs[j]? =some u→ ∃ad,ao=some ad∧w.cell? (ad.add j)=some u
theorem RowR.of_own {w:World} {base:Nat} {e:TypeId} {v:Value} {xs:List Value} (h:w.ownsRow base e 1 v xs.length xs):RowR w v xs:=by
 rcases h.2 with ⟨rfl,h0⟩|⟨g,cap,cur,rfl,_,hg,hn,_,hs,ht⟩
 ·refine ⟨none,0,by rw [h0],fun j u hj=> ?_⟩
  have:=List.length_eq_zero_iff.1 h0
  subst this
  simp at hj
 ·refine ⟨some ⟨g,0,none⟩,cap,rfl,fun j u hj=>⟨_,rfl,?_⟩⟩
  have hlt:j<xs.length:=(List.getElem?_eq_some_iff.1 hj).1
  have e1:(Addr.add ⟨g,0,none⟩ j)=⟨g,j,none⟩:=by
   unfold Addr.add;split<;>simp_all
  rw [e1,cell_of_row w g j cur e (0,0) hg]
  rw [←ht,List.getElem?_take] at hj
  rw [if_pos (by omega)] at hj
  simpa using hj
def zaZ (s:ByteArray) (i:Nat):Nat:=(s.get! i).toNat
theorem zsI (s:ByteArray) (i:Nat) (h:i<s.size):zaZ s i=(s[i]'h).toNat:=by
 unfold zaZ
 rw [show s.get! i=s.get! (i+0) from rfl,get_at s i h]
theorem z2U (s:ByteArray) (i:Nat):zaZ s i<256:=(s.get! i).toNat_lt
def isB (r:Int):Bool:=decide (0≤r∧r≤1114111∧(r<55296∨57343<r))
theorem znQ (r:Nat):Utf8.valid (r:Int)=isB (r:Int):=by
 unfold Utf8.valid isB
 rw [Bool.eq_iff_iff]
 simp only [Bool.or_eq_true,Bool.and_eq_true,decide_eq_true_eq]
 omega
theorem zxI (s:ByteArray) (i:Nat):Utf8.decode s i=
  if zaZ s i<128 then (zaZ s i,1)
  else if (zaZ s i/32==6&&(decide (i+1<s.size)&&zaZ s (i+1)/64==2))=true then
   if 128≤zaZ s i % 32*64+zaZ s (i+1) % 64 then (zaZ s i % 32*64+zaZ s (i+1) % 64,2) else (65533,1)
  else if (zaZ s i/16==14&&(decide (i+1<s.size)&&zaZ s (i+1)/64==2)&&(decide (i+2<s.size)&&zaZ s (i+2)/64==2))=true then
   if (decide (2048≤zaZ s i % 16*4096+zaZ s (i+1) % 64*64+zaZ s (i+2) % 64)&&isB (zaZ s i % 16*4096+zaZ s (i+1) % 64*64+zaZ s (i+2) % 64:Nat))=true
   then (zaZ s i % 16*4096+zaZ s (i+1) % 64*64+zaZ s (i+2) % 64,3) else (65533,1)
  else if (zaZ s i/8==30&&(decide (i+1<s.size)&&zaZ s (i+1)/64==2)&&(decide (i+2<s.size)&&zaZ s (i+2)/64==2)&&(decide (i+3<s.size)&&zaZ s (i+3)/64==2))=true then
   if (decide (65536≤zaZ s i % 8*262144+zaZ s (i+1) % 64*4096+zaZ s (i+2) % 64*64+zaZ s (i+3) % 64)&&isB (zaZ s i % 8*262144+zaZ s (i+1) % 64*4096+zaZ s (i+2) % 64*64+zaZ s (i+3) % 64:Nat))=true
   then (zaZ s i % 8*262144+zaZ s (i+1) % 64*4096+zaZ s (i+2) % 64*64+zaZ s (i+3) % 64,4) else (65533,1)
  else (65533,1):=by
 rw [←znQ,←znQ]
 rfl
theorem zcP (s:ByteArray) (i:Nat):Utf8.decode s i=
  if zaZ s i<128 then (zaZ s i,1)
  else if zaZ s i/32=6∧(i+1<s.size∧zaZ s (i+1)/64=2) then
   if 128≤zaZ s i % 32*64+zaZ s (i+1) % 64 then (zaZ s i % 32*64+zaZ s (i+1) % 64,2) else (65533,1)
  else if (zaZ s i/16=14∧(i+1<s.size∧zaZ s (i+1)/64=2))∧(i+2<s.size∧zaZ s (i+2)/64=2) then
   if 2048≤zaZ s i % 16*4096+zaZ s (i+1) % 64*64+zaZ s (i+2) % 64∧isB (zaZ s i % 16*4096+zaZ s (i+1) % 64*64+zaZ s (i+2) % 64:Nat)=true
   then (zaZ s i % 16*4096+zaZ s (i+1) % 64*64+zaZ s (i+2) % 64,3) else (65533,1)
  else if ((zaZ s i/8=30∧(i+1<s.size∧zaZ s (i+1)/64=2))∧(i+2<s.size∧zaZ s (i+2)/64=2))∧(i+3<s.size∧zaZ s (i+3)/64=2) then
   if 65536≤zaZ s i % 8*262144+zaZ s (i+1) % 64*4096+zaZ s (i+2) % 64*64+zaZ s (i+3) % 64∧isB (zaZ s i % 8*262144+zaZ s (i+1) % 64*4096+zaZ s (i+2) % 64*64+zaZ s (i+3) % 64:Nat)=true
   then (zaZ s i % 8*262144+zaZ s (i+1) % 64*4096+zaZ s (i+2) % 64*64+zaZ s (i+3) % 64,4) else (65533,1)
  else (65533,1):=by
 rw [zxI]
 simp only [beq_iff_eq,Bool.and_eq_true,decide_eq_true_eq]
def zjT (s:ByteArray):Nat→Nat→List Int
 |0,_=>[]
 |f+1,p=>if p<s.size then ((Utf8.decode s p).1:Int)::zjT s f (p+(Utf8.decode s p).2) else []
def scal (s:ByteArray):List Int:=zjT s s.size 0
theorem zfC (s:ByteArray) (p:Nat) (h:p<s.size):1≤(Utf8.decode s p).2:=by
 by_cases ha:(s[p]'h).toNat<128
 ·rw [decode_ascii s p h ha];exact yoE _
 ·exact (decode_high s p h (by omega)).2
theorem yfW (s:ByteArray) (p:Nat):(Utf8.decode s p).2≤4:=by
 rw [zcP]
 repeat' split
 all_goals simp
theorem ziK (s:ByteArray) (f p:Nat) (h: ¬p<s.size):zjT s f p=[]:=by
 cases f with
 |zero=>rfl
 |succ f=>simp [zjT,h]
theorem zgU (s:ByteArray) (f p:Nat) (h:p<s.size):zjT s (f+1) p=((Utf8.decode s p).1:Int)::zjT s f (p+(Utf8.decode s p).2):=by
 simp [zjT,h]
theorem zvW (s:ByteArray): ∀f p,(zjT s f p).length≤f
 |0,_=>by simp [zjT]
 |f+1,p=>by
  by_cases h:p<s.size
  ·rw [zgU s f p h];have:=zvW s f (p+(Utf8.decode s p).2);simp;omega
  ·rw [ziK s _ p h];simp
theorem yjN (s:ByteArray):(scal s).length≤s.size:=zvW s _ _
theorem zxX (w:World) (u:Value) (t:TypeId): ∀j x,[u][j]? =some x→(w.alloc (.cells #[u] t)).cell? ((⟨w.heap.size,0,none⟩:Addr).add j)=some x:=by
 intro j x hj
 match j,hj with
 |0,hj=>simp at hj;subst hj;simp [Addr.add]
theorem zcG {B:Nat} {a w:World} (h:Below B a w) (n:Nat):Below B a (w.drewN n):=⟨h.os,h.tape,h.output,h.size,h.block⟩
theorem zdO {w w':World} {B:Nat} {t:TypeId} {v:Value} {n:Nat} {xs:List Value} (h:w.ownsRow B t 1 v n xs) (hb:Below w.heap.size w w'):w'.ownsRow B t 1 v n xs:=by
 refine ⟨h.1,?_⟩
 rcases h.2 with h2|⟨g,cap,cur,h1,h2,h3,h4⟩
 ·exact .inl h2
 ·exact .inr ⟨g,cap,cur,h1,h2,(hb.block g (Array.getElem?_eq_some_iff.1 h3).1).trans h3,h4⟩
theorem z4Y (l:List UInt8): ∀b:ByteArray,(l.map fun c=>(c.toNat:Int)).foldl (fun r n=>r.push (UInt8.ofNat n.toNat)) b=⟨(b.data.toList++l).toArray⟩:=by
 induction l with
 |nil=>intro b;simp
 |cons c l ih=>
  intro b
  simp only [List.map_cons,List.foldl_cons]
  rw [ih]
  simp [ByteArray.push]
theorem zeY {P:Program} (w:World) (src dst e:TypeId) (v:Value) (l:List UInt8) (hr:RowR w v (Lib.byteCells l))
  (hs:P.underlying src=some (.slice e)) (he:P.underlying e=some (.int .u8)) (hd:P.underlying dst=some .string):
  (convert src dst v).run P w= .ok (.string ⟨l.toArray⟩) w:=by
 obtain ⟨ao,c,rfl,hc⟩:=hr
 rw [run_convert_bytes_string w src dst e ao _ c hs he hd]
 cases ao with
 |none=>
  have hl:l=[]:=by
   cases l with
   |nil=>rfl
   |cons x l=>
    obtain ⟨ad,h,_⟩:=hc 0 (.int .u8 x.toNat) rfl
    cases h
  subst hl
  rfl
 |some a=>
  have h1:=run_loadCells_list (P:=P) (w:=w) a (Lib.byteCells l) (fun j u hj=>by
   obtain ⟨ad,h,hx⟩:=hc j u hj
   cases h
   exact hx)
  have h2:Lib.byteCells l=(l.map fun c=>(c.toNat:Int)).map (Value.int .u8):=by simp [Lib.byteCells]
  rw [run_bytesToString w a _ c (l.map fun c=>(c.toNat:Int)) (by rw [h1,h2]),z4Y]
  rfl
def zqI (l:List Int):List UInt8:=l.map fun x=>x.toNat.toUInt8
theorem yiG {P:Program} (W:World) (src dst e:TypeId) (l:List Int) (hl: ∀x∈l,0≤x∧x<256)
  (hs:P.underlying src=some (.slice e)) (he:P.underlying e=some (.int .u8)) (hd:P.underlying dst=some .string):
  (convert src dst (.slice (some ⟨W.heap.size,0,none⟩) l.length l.length)).run P (W.alloc (.cells (l.map (Value.int .u8)).toArray e))= .ok (.string ⟨(zqI l).toArray⟩) (W.alloc (.cells (l.map (Value.int .u8)).toArray e)):=by
 have e1:Lib.byteCells (zqI l)=l.map (Value.int .u8):=by
  simp only [Lib.byteCells,zqI,List.map_map]
  apply List.map_congr_left
  intro x hx
  obtain ⟨h0,h1⟩:=hl x hx
  simp only [Function.comp]
  congr 1
  have:x.toNat % 256=x.toNat:=Nat.mod_eq_of_lt (by omega)
  simp [Nat.toUInt8,this]
  omega
 refine zeY _ src dst e _ (zqI l) ?_ hs he hd
 rw [e1]
 refine ⟨_,l.length,by rw [List.length_map],fun j u hj=>⟨_,rfl,?_⟩⟩
 rw [show (Addr.add ⟨W.heap.size,0,none⟩ j)=⟨W.heap.size,j,none⟩ from by unfold Addr.add;split<;>simp_all]
 rw [cell_of_row _ W.heap.size j _ e (0,0) (heap_alloc_new W _)]
 simpa using hj
def zeK (l:List Int):List UInt8:=l.flatMap Lib.encodeRune
theorem zeS (r:Int):(Lib.encodeRune r).length≤4:=by
 simp only [Lib.encodeRune,List.length_map];exact (Lib.encodeRuneZ_length r).2
theorem zpW (l:List Int) (k:Nat) (h:k<l.length):zeK (l.take (k+1))=zeK (l.take k)++Lib.encodeRune l[k]:=by
 unfold zeK
 rw [List.take_succ_eq_append_getElem h,List.flatMap_append]
 simp
theorem zkP (l:List Int): ∀k,(zeK (l.take k)).length≤4*k
 |0=>by simp [zeK]
 |k+1=>by
  have ih:=zkP l k
  by_cases h:k<l.length
  ·rw [zpW l k h,List.length_append];have:=zeS l[k];omega
  ·rw [List.take_of_length_le (by omega)];rw [List.take_of_length_le (by omega)] at ih;omega
def Runes (l:List Int):Prop:= ∀x∈l,-2147483648≤x∧x≤2147483647
theorem yhU (v:Value) (l:List Int) (w:World) (h:RowR w v (l.map (Value.int .i32))) (hl:l.length≤268435456) (hw:Runes l):
  Calls Tryz.prog 209 #[v] w fun e w'=>e= .returned (.string ⟨(zeK l).toArray⟩)∧Below w.heap.size w w':=by
 obtain ⟨ao,c,rfl,hc⟩:=h
 simp only [List.length_map]
 have HC:=yoD hc
 have HW:=yoD hw
 clear hc hw
 go_enter Tryz.func209,Tryz.ntmps209
 go_wp2
 go_loopw [3,8] (fun v i wr=> ∃k:Nat,k≤l.length∧i= .int .i64 k∧wr.ownsRow w.heap.size 5 1 v (zeK (l.take k)).length (Lib.byteCells (zeK (l.take k)))∧Below w.heap.size w wr) (fun _ i _=>l.length - (intOf i).toNat)
 case atStart=>exact ⟨0,Nat.zero_le _,rfl,World.ownsRow_nil _ _ _ _,Below.refl _ _⟩
 case round=>
  obtain ⟨k,hk,rfl,hown,hbw⟩:=hrel
  have hsz:=hbw.size
  by_cases hlt:k<l.length
  ·have htl:=zkP l k
   obtain ⟨x,hx⟩: ∃x,x=l[k]:=⟨_,rfl⟩
   obtain ⟨d1,rfl,hd1⟩:=HC.out k (.int .i32 x) (by simp [hx,hlt])
   have hd2:wr.cell? (d1.add k)=some (.int .i32 x):=(hbw.cell (World.block_lt_of_cell? w _ hd1)).trans hd1
   have hxr:=HW.out x (by rw [hx];exact List.getElem_mem _)
   obtain ⟨hx0,hx1⟩:=hxr
   have hsn:=zpW l k hlt
   rw [←hx] at hsn
   have HSN:=yoD hsn
   clear hsn hx
   generalize hT:zeK (l.take k)=T at*
   clear hT
   go_wp2_with (go_at_call 229;refine (Tryz.utf8_AppendRune_plain w.heap.size _ _ _ x hx0 hx1 wr hown (by omega) hsz).mono ?_)
   rintro e w1 ⟨v',rfl,hown1,o,hg⟩
   have hbw1:Below w.heap.size w w1:=(hbw.alloc hsz o).grown hg (by simp;omega) (fun b hb=>by have:=hown.lt b hb;omega)
   clear hg hown
   go_wp2
   go_roundw
   case rel=>
    refine ⟨k+1,by omega,by go_num,?_,hbw1⟩
    rw [HSN.out,Lib.byteCells_append,Lib.byteCells_encodeRune,List.length_append]
    have e1:(Lib.runeCells x).length=(Lib.encodeRune x).length:=by rw [←Lib.byteCells_encodeRune,Lib.byteCells_length]
    rw [←e1]
    exact hown1
   case measure=>simp [intOf];omega
  ·have hcv:=zeY (P:=Tryz.prog) wr 119 9 5 _ (zeK (l.take k)) (RowR.of_own (by rw [Lib.byteCells_length];exact hown)) Tryz.underlying119 Tryz.underlying5 Tryz.underlying9
   have hfin:zeK (l.take k)=zeK l:=by rw [List.take_of_length_le (by omega)]
   rw [hfin] at hcv
   have HF:=yoD hfin
   clear hfin
   go_wp2
   go_ret
   exact ⟨rfl,hbw⟩
theorem zkZ (x y:List UInt8):(ByteArray.mk x.toArray++ByteArray.mk y.toArray)=ByteArray.mk (x++y).toArray:=ByteArray.mk_append_mk x y
theorem Tryz.infoByte:(Tryz.prog.info? 5).map (fun i=>(i.zero,i.size,i.bytes))=some (some (.int .u8 0),1,1):=by kernel_rfl
def lowC (c:UInt8):UInt8:=if 65≤c.toNat∧c.toNat≤90 then c+32 else c
def zaI (l:List UInt8):List UInt8:=l.map lowC
def zyL (c:UInt8):Bool:= !(c==9||c==10||c==13)
def zeQ (l:List UInt8):List UInt8:=l.filter zyL
theorem z8W {c:UInt8} (h1:65≤c.toNat) (h2:c.toNat≤90):(lowC c).toNat=c.toNat+32:=by
 unfold lowC
 rw [if_pos ⟨h1,h2⟩,UInt8.toNat_add]
 simp
 omega
theorem z7Z {c:UInt8} (h:c.toNat<65∨90<c.toNat):lowC c=c:=by
 unfold lowC
 rw [if_neg (by omega)]
theorem zeW (s:ByteArray) (k:Nat) (h:k<s.size):s.data.toList[k]? =some s[k]:=by
 rw [List.getElem?_eq_getElem (by simpa using h)]
 rfl
theorem zdH (s:ByteArray) (k:Nat) (h:k<s.size):s.data.toList.take (k+1)=s.data.toList.take k++[s[k]]:=by
 rw [List.take_succ_eq_append_getElem (by simpa using h)]
 rfl
theorem zeV (s:ByteArray) (k:Nat) (h: ¬k<s.size):s.data.toList.take k=s.data.toList:=List.take_of_length_le (by simpa using h)
theorem zaN (s:ByteArray):s.data.toList.length=s.size:=by simp
theorem zhT (l:List UInt8):(zaI l).length=l.length:=by simp [zaI]
theorem z9X (s:ByteArray) (k:Nat) (h:k<s.size) (hk:zyL s[k]=true):zeQ (s.data.toList.take (k+1))=zeQ (s.data.toList.take k)++[s[k]]:=by
 rw [zdH s k h];simp [zeQ,hk]
theorem yeD (s:ByteArray) (k:Nat) (h:k<s.size) (hk:zyL s[k]=false):zeQ (s.data.toList.take (k+1))=zeQ (s.data.toList.take k):=by
 rw [zdH s k h];simp [zeQ,hk]
theorem yfI (l:List UInt8):(zeQ l).length≤l.length:=List.length_filter_le _ _
theorem z5W {c:UInt8} (h1:c.toNat≠9) (h2:c.toNat≠10) (h3:c.toNat≠13):zyL c=true:=by
 unfold zyL
 have e1:(c==9)=false:=beq_eq_false_iff_ne.2 fun e=>h1 (by rw [e];rfl)
 have e2:(c==10)=false:=beq_eq_false_iff_ne.2 fun e=>h2 (by rw [e];rfl)
 have e3:(c==13)=false:=beq_eq_false_iff_ne.2 fun e=>h3 (by rw [e];rfl)
 rw [e1,e2,e3];rfl
theorem zyR {c:UInt8} (h:c.toNat=9∨c.toNat=10∨c.toNat=13):zyL c=false:=by
 rcases h with h|h|h
 ·rw [show c=9 from UInt8.toNat_inj.1 h];rfl
 ·rw [show c=10 from UInt8.toNat_inj.1 h];rfl
 ·rw [show c=13 from UInt8.toNat_inj.1 h];rfl
theorem zlI (l:List UInt8) (c:UInt8) (n:Int) (h:(c.toNat:Int)=n):Lib.byteCells (l++[c])=Lib.byteCells l++[.int .u8 n]:=by
 rw [Lib.byteCells_append,←h];rfl
theorem zeC {P:Program} (w:World) {ops:Array Oper} {rest:List Oper} {o:Oper} {a:Act} {Q:Exit→Act→World→Prop} (hgd:o.guard=none) (s x:Operand) (t:TypeId)
  (ho:o.op= .call {callee:= .builtin .append,args:= #[s,x],argTypes:= #[t,t]})
  (base:Nat) (e:TypeId) (i:TypeInfo) (z:Value) (bytes:Nat) (ht:P.underlying t=some (.slice e)) (hi:P.info? e=some i) (hz:i.zero=some z)
  (hsize:i.size=1) (hby:i.bytes=bytes) (hzs:z.cells.size=1)
  (v:Value) (n:Nat) (xs:List Value) (hs:a.eval s=v) (hown:w.ownsRow base e 1 v n xs) (u:Value) (hx:a.eval x= .slice (some ⟨w.heap.size,0,none⟩) 1 1) (hu:u.oneCell'=true)
  (h63:n+1≤9223372036854775807) (hbytes:(n+1)*bytes≤140737488355328) (hbase:base≤w.heap.size)
  (h: ∀v' w',w'.ownsRow base e 1 v' (n+1) (xs++[u])→Below base w w'→wpList P ops Q rest (a.put o.dst v') w'):wpList P ops Q (o::rest) a (w.alloc (.cells #[u] e)):=by
 refine wpList_append_own (w.alloc (.cells #[u] e)) hgd s x t ho base e i z 1 bytes ht hi hz hsize hby hzs (by decide) v n xs hs (hown.alloc _) ⟨w.heap.size,0,none⟩ 1 1 [u] hx rfl (zxX w u e) ?_ h63 hbytes (by simp;omega) ?_
 ·intro y hy;simp at hy;subst hy;exact hu
 ·intro v' w1 hown' hgrow _
  exact h v' w1 hown' (((Below.refl base w).alloc hbase _).grown hgrow (by simp;omega) (fun k hk=>(hown.lt k hk).1))
def Gath (B:Nat) (w:World) (v:Value) (l:List UInt8):Prop:=w.ownsRow B 5 1 v l.length (Lib.byteCells l)
theorem Gath.conv {B:Nat} {w:World} {v:Value} {l:List UInt8} (h:Gath B w v l):(convert 119 9 v).run Tryz.prog w= .ok (.string ⟨l.toArray⟩) w:=
 zeY w _ _ 5 _ l (RowR.of_own (by rw [Lib.byteCells_length];exact h)) Tryz.underlying119 Tryz.underlying5 Tryz.underlying9
theorem Gath.nil (B:Nat) (w:World):Gath B w (.slice none 0 0) []:=World.ownsRow_nil _ _ _ _
theorem Gath.snoc {B:Nat} {w:World} {v:Value} {l:List UInt8} {c:UInt8} {n:Int} (h:w.ownsRow B 5 1 v (l.length+1) (Lib.byteCells l++[.int .u8 n])) (hn:(c.toNat:Int)=n):Gath B w v (l++[c]):=by
 unfold Gath
 rw [zlI l c n hn,List.length_append]
 exact h
theorem zzU (s:ByteArray) (w:World) (hs:s.size≤1073741824):
  Calls Tryz.prog 65 #[.string s] w fun e w'=>e= .returned (.string ⟨(zeQ s.data.toList).toArray⟩)∧Below w.heap.size w w':=by
 obtain ⟨i0,hi,hz0,hz1,hz2⟩:=info_parts Tryz.infoByte
 go_enter Tryz.func65,Tryz.ntmps65
 go_wp2
 go_loopw [3,8] (fun v i wr=> ∃(k:Nat) (T:List UInt8),k≤s.size∧i= .int .i64 k∧Gath w.heap.size wr v T∧T.length≤k∧Hid (T=zeQ (s.data.toList.take k))∧Below w.heap.size w wr) (fun _ i _=>s.size - (intOf i).toNat)
 case atStart=>exact ⟨0,[],Nat.zero_le _,rfl,Gath.nil _ _,by simp,rfl,Below.refl _ _⟩
 case round=>
  obtain ⟨k,T,hk,rfl,hown,hTl,HT,hbw⟩:=hrel
  have hsz:=hbw.size
  unfold Gath at hown
  by_cases hlt:k<s.size
  ·obtain ⟨c,hc⟩: ∃c,(s[k]'hlt).toNat=c:=⟨_,rfl⟩
   have hc256:c<256:=by rw [←hc];exact (s[k]'hlt).toNat_lt
   by_cases hu:c=9∨c=10∨c=13
   ·have hsn:=yeD s k hlt (zyR (by omega))
    rw [←HT.out] at hsn
    have HSN:=yoD hsn
    clear hsn
    rcases hu with rfl|rfl|rfl
    all_goals
     go_wp2
     go_roundw
     case rel=>exact ⟨k+1,T,by omega,by go_num,hown,by omega,HSN.out.symm,hbw⟩
     case measure=>simp [intOf];omega
   ·have hsn:=z9X s k hlt (z5W (by omega) (by omega) (by omega))
    rw [←HT.out] at hsn
    have HSN:=yoD hsn
    have HDC:=yoD hc
    have b1:((c:Int) !=9)=true:=by rw [bne_iff_ne];omega
    have b2:((c:Int) !=10)=true:=by rw [bne_iff_ne];omega
    have b3:((c:Int) !=13)=true:=by rw [bne_iff_ne];omega
    clear hsn hu
    go_wp2_with (first|(at_builtin;refine zeC _ rfl _ _ 119 rfl w.heap.size 5 i0 (.int .u8 0) 1 Tryz.underlying119 hi hz0 hz1 hz2 rfl _ _ _ rfl hown (.int .u8 (c:Int)) rfl rfl (by omega) (by omega) hsz ?_;intro v' w1 hown' hk'))
    go_roundw
    case rel=>exact ⟨k+1,T++[s[k]],by omega,by go_num,Gath.snoc hown' (by rw [HDC.out]),by simp;omega,HSN.out.symm,hbw.trans hk'⟩
    case measure=>simp [intOf];omega
  ·have hcv:=Gath.conv hown
   have hfin:zeQ s.data.toList=T:=by rw [HT.out,zeV s k hlt]
   have HF:=yoD hfin
   clear hfin
   go_wp2
   go_ret
   exact ⟨by rw [HF.out];rfl,hbw⟩
def zfT (B:Nat) (s:ByteArray) (k cap:Nat) (w:World):Prop:=
 ∃cur:Array Value,w.heap[B]? =some (.cells cur 5 (cap,cap+1))∧cur.size=cap∧s.size≤cap∧
  ∀j (h:j<s.size),cur[j]? =some (.int .u8 ((if j<k then lowC s[j] else s[j]).toNat:Int))
theorem zvV (w:World) (s:ByteArray):zfT w.heap.size s 0 (grownCap w s.size 0 5) (Lib.bytesWorld w 5 s):=by
 have hge:s.size≤grownCap w s.size 0 5:=grownCap_ge _ _ _ _
 have hsz:(Lib.bytesCells w 5 s).size=grownCap w s.size 0 5:=by
  unfold Lib.bytesCells
  have:s.data.size=s.size:=rfl
  simp [this];omega
 refine ⟨Lib.bytesCells w 5 s,?_,hsz,hge,?_⟩
 ·rw [Lib.bytesWorld_at_new,hsz]
 ·intro j h
  have hj:j<s.data.size:=h
  rw [if_neg (by omega)]
  unfold Lib.bytesCells
  rw [Array.getElem?_append_left (by simpa using hj)]
  simp
  exact ⟨s.data[j],Array.getElem?_eq_getElem hj,rfl⟩
theorem zfT.cell {B:Nat} {s:ByteArray} {k cap:Nat} {w:World} (h:zfT B s k cap w) (hk:k<s.size):w.cell? ⟨B,k,none⟩=some (.int .u8 (s[k].toNat:Int)):=by
 obtain ⟨cur,h1,_,_,h4⟩:=h
 rw [cell_of_row w B k cur _ _ h1,h4 k hk,if_neg (by omega)]
theorem zfT.frozen {B:Nat} {s:ByteArray} {k cap:Nat} {w:World} (h:zfT B s k cap w) (hk:k<s.size):w.frozen? ⟨B,k,none⟩=false:=by
 obtain ⟨cur,h1,_,h3,_⟩:=h
 simp [World.frozen?,h1]
 omega
theorem zfT.same {B:Nat} {s:ByteArray} {k cap:Nat} {w:World} (h:zfT B s k cap w) (hk:k<s.size) (he:lowC s[k]=s[k]):zfT B s (k+1) cap w:=by
 obtain ⟨cur,h1,h2,h3,h4⟩:=h
 refine ⟨cur,h1,h2,h3,fun j hj=> ?_⟩
 rw [h4 j hj]
 by_cases e:j=k
 ·subst e;rw [if_neg (by omega),if_pos (by omega),he]
 ·by_cases e2:j<k
  ·rw [if_pos e2,if_pos (by omega)]
  ·rw [if_neg e2,if_neg (by omega)]
theorem zfT.put {B:Nat} {s:ByteArray} {k cap:Nat} {w:World} (h:zfT B s k cap w) (hk:k<s.size) (n:Int) (hn:n=((lowC s[k]).toNat:Int)):zfT B s (k+1) cap (w.setCell ⟨B,k,none⟩ (.int .u8 n)):=by
 obtain ⟨cur,h1,h2,h3,h4⟩:=h
 refine ⟨cur.setIfInBounds k (.int .u8 n),?_,by simpa using h2,h3,fun j hj=> ?_⟩
 ·simp [World.setCell,Array.getElem?_modify,h1]
 ·rw [Array.getElem?_setIfInBounds]
  by_cases e:k=j
  ·subst e;rw [if_pos rfl,if_pos (by omega),if_pos (by omega),hn]
  ·rw [if_neg e,h4 j hj]
   by_cases e2:j<k
   ·rw [if_pos e2,if_pos (by omega)]
   ·rw [if_neg e2,if_neg (by omega)]
theorem zfT.conv {B:Nat} {s:ByteArray} {cap:Nat} {w:World} {k:Nat} (h:zfT B s k cap w) (hk: ¬k<s.size):
  (convert 119 9 (.slice (some ⟨B,0,none⟩) s.size cap)).run Tryz.prog w= .ok (.string ⟨(zaI s.data.toList).toArray⟩) w:=by
 refine zeY w _ _ 5 _ _ ?_ Tryz.underlying119 Tryz.underlying5 Tryz.underlying9
 obtain ⟨cur,h1,h2,h3,h4⟩:=h
 have hl:(Lib.byteCells (zaI s.data.toList)).length=s.size:=by rw [Lib.byteCells_length,zhT,zaN]
 refine ⟨_,cap,by rw [hl],fun j u hj=>⟨_,rfl,?_⟩⟩
 have hlt:j<s.size:=by rw [←hl];exact (List.getElem?_eq_some_iff.1 hj).1
 rw [show (Addr.add ⟨B,0,none⟩ j)=⟨B,j,none⟩ from by unfold Addr.add;split<;>simp_all]
 rw [cell_of_row w B j cur _ _ h1,h4 j hlt,if_pos (by omega),←hj]
 simp only [Lib.byteCells,zaI,List.map_map,List.getElem?_map,zeW s j hlt]
 rfl
theorem zmV (s:ByteArray) (w:World) (hs:s.size≤1073741824):
  Calls Tryz.prog 76 #[.string s] w fun e w'=>e= .returned (.string ⟨(zaI s.data.toList).toArray⟩)∧Below w.heap.size w w':=by
 have hcv0:=Lib.run_convert_string_bytes (P:=Tryz.prog) w 9 119 5 s Tryz.underlying9 Tryz.underlying119 Tryz.underlying5
 have hst:=zvV w s
 have hb0:Below w.heap.size w (Lib.bytesWorld w 5 s):=⟨rfl,rfl,rfl,by rw [Lib.bytesWorld_size];omega,fun k hk=>Lib.bytesWorld_at_old w _ s k hk⟩
 have HST:=yoD hst
 clear hst
 generalize hcap:grownCap w s.size 0 5=cap at*
 generalize Lib.bytesWorld w 5 s=wb at*
 clear hcap
 go_enter Tryz.func76,Tryz.ntmps76
 go_wp2
 clear hcv0
 go_loopw [10] (fun i wr=> ∃k:Nat,k≤s.size∧i= .int .i64 k∧zfT w.heap.size s k cap wr∧Below w.heap.size w wr) (fun i _=>s.size - (intOf i).toNat)
 case atStart=>exact ⟨0,Nat.zero_le _,rfl,HST.out,hb0⟩
 case round=>
  obtain ⟨k,hk,rfl,hr,hbw⟩:=hrel
  by_cases hlt:k<s.size
  ·have hcell:=hr.cell hlt
   have hfr:=hr.frozen hlt
   obtain ⟨c,hc⟩: ∃c,(s[k]'hlt).toNat=c:=⟨_,rfl⟩
   have hc256:c<256:=by rw [←hc];exact (s[k]'hlt).toNat_lt
   rw [hc] at hcell
   by_cases hu:65≤c∧c≤90
   ·have hdc:((lowC s[k]).toNat:Int)=(c:Int)+32:=by rw [z8W (by omega) (by omega),hc];omega
    have hr2:=hr.put hlt ((c:Int)+32) hdc.symm
    have HR2:=yoD hr2
    have hbw2:=hbw.setCell (p:=⟨w.heap.size,k,none⟩) (yoE _) (.int .u8 ((c:Int)+32))
    have HC:=yoD hc
    obtain ⟨hu1,hu2⟩:=hu
    have ea:(c:Int) - 65+97=(c:Int)+32:=by omega
    clear hdc hr2 hc
    go_wp2
    go_roundw
    case rel=>exact ⟨k+1,by omega,by go_num,by first|exact HR2.out|(rw [ea];exact HR2.out),by first|exact hbw2|(rw [ea];exact hbw2)⟩
    case measure=>simp [intOf];omega
   ·have hr2:=hr.same hlt (z7Z (by omega))
    have HR2:=yoD hr2
    clear hr2 hc
    go_wp2
    all_goals
     go_roundw
     case rel=>exact ⟨k+1,by omega,by go_num,HR2.out,hbw⟩
     case measure=>simp [intOf];omega
  ·have hcv:=hr.conv hlt
   go_wp2
   go_ret
   exact ⟨rfl,hbw⟩
def zcO (c:UInt8):Bool:=decide (c.toNat≤32)
theorem zoL {c:UInt8} (h:c.toNat≤32):zcO c=true:=yoG h
theorem zfS {c:UInt8} (h:32<c.toNat):zcO c=false:=yoF (by omega)
def zdU (l:List UInt8):List UInt8:=((l.dropWhile zcO).reverse.dropWhile zcO).reverse
theorem zgF (p:UInt8→Bool): ∀(l:List UInt8) (n:Nat),n≤l.length→(∀k x,l[k]? =some x→k<n→p x=true)→(n=l.length∨ ∃x,l[n]? =some x∧p x=false)→l.dropWhile p=l.drop n
 |[],n,h,_,_=>by simp
 |x::l,0,_,_,h2=>by
  rcases h2 with h2|⟨y,hy,hp⟩
  ·simp at h2
  ·simp at hy;subst hy;simp [hp]
 |x::l,n+1,h,h1,h2=>by
  have hx:p x=true:=h1 0 x rfl (by omega)
  rw [List.dropWhile_cons,if_pos hx,List.drop_succ_cons]
  exact zgF p l n (by simp at h;omega) (fun k y hk hkn=>h1 (k+1) y (by simpa using hk) (by omega)) (h2.imp (fun e=>by simp at e;exact e) (fun ⟨y,hy,hp⟩=>⟨y,by simpa using hy,hp⟩))
theorem ybJ (l:List UInt8) (i j:Nat) (hij:i≤j) (hj:j≤l.length) (h1: ∀k x,l[k]? =some x→k<i→zcO x=true) (h2:i=l.length∨ ∃x,l[i]? =some x∧zcO x=false)
  (h3: ∀k x,l[k]? =some x→j≤k→zcO x=true) (h4:i=j∨(i<j∧ ∃x,l[j - 1]? =some x∧zcO x=false)):(l.drop i).take (j - i)=zdU l:=by
 unfold zdU
 rw [zgF zcO l i (by omega) h1 h2,zgF zcO (l.drop i).reverse (l.length - j) (by simp;omega),List.drop_reverse,List.reverse_reverse]
 ·congr 1
  simp
  omega
 ·intro k x hk hkn
  have hlt:k<(l.drop i).reverse.length:=(List.getElem?_eq_some_iff.1 hk).1
  simp at hlt
  rw [List.getElem?_reverse (by simpa using hlt),List.getElem?_drop] at hk
  exact h3 _ x hk (by simp;omega)
 ·rcases h4 with h4|⟨hlt,x,hx,hp⟩
  ·left;simp;omega
  ·right
   refine ⟨x,?_,hp⟩
   rw [List.getElem?_reverse (by simp;omega),List.getElem?_drop]
   rw [←hx]
   congr 1
   simp
   omega
theorem ztF (s:ByteArray) (k:Nat):s.extract k k=ByteArray.empty:=by
 apply ByteArray.ext
 apply Array.ext'
 rw [Lib.extract_data]
 simp
theorem zuS (s:ByteArray) (k m:Nat) (h1:k≤m) (h2:m≤s.size) (H1: ∀j (h:j<s.size),j<k→zcO s[j]=true) (H2:k=s.size∨ ∃h:k<s.size,zcO s[k]=false)
  (h3: ∀j (h:j<s.size),m≤j→zcO s[j]=true) (h4:k=m∨ ∃h:m - 1<s.size,k<m∧zcO s[m - 1]=false):(s.extract k m)=⟨(zdU s.data.toList).toArray⟩:=by
 have at_: ∀j x,s.data.toList[j]? =some x→ ∃h:j<s.size,x=s[j]:=by
  intro j x hj
  have hlt:j<s.size:=by have:=(List.getElem?_eq_some_iff.1 hj).1;simpa using this
  rw [zeW s j hlt] at hj
  exact ⟨hlt,(Option.some.inj hj).symm⟩
 have e:=ybJ s.data.toList k m h1 (by rw [zaN];exact h2)
  (fun j x hj hjk=>by obtain ⟨h,rfl⟩:=at_ j x hj;exact H1 j h hjk)
  (by rw [zaN];exact H2.imp id (fun ⟨h,hp⟩=>⟨_,zeW s k h,hp⟩))
  (fun j x hj hjk=>by obtain ⟨h,rfl⟩:=at_ j x hj;exact h3 j h hjk)
  (h4.imp id (fun ⟨h,hlt,hp⟩=>⟨hlt,_,zeW s (m - 1) h,hp⟩))
 rw [←e]
 apply ByteArray.ext
 apply Array.ext'
 rw [Lib.extract_data]
theorem z1F (s:ByteArray) (w:World) (hs:s.size≤1073741824):
  Calls Tryz.prog 66 #[.string s] w fun e w'=>e= .returned (.string ⟨(zdU s.data.toList).toArray⟩)∧w=w':=by
 go_enter Tryz.func66,Tryz.ntmps66
 go_wp2
 go_loop [3] (fun i=> ∃k:Nat,k≤s.size∧i= .int .i64 k∧Hid (∀j (h:j<s.size),j<k→zcO s[j]=true)) (fun i=>s.size - (intOf i).toNat)
 case atStart=>exact ⟨0,Nat.zero_le _,rfl,fun j _ h=>by omega⟩
 case round=>
  obtain ⟨k,hk,rfl,H1⟩:=hrel
  by_cases hgo: ∃h:k<s.size,(s[k]'h).toNat≤32
  ·obtain ⟨hlt,hb⟩:=hgo
   obtain ⟨c,hc⟩: ∃c,(s[k]'hlt).toNat=c:=⟨_,rfl⟩
   rw [hc] at hb
   have HC:=yoD hc
   go_wp2
   go_round
   case rel=>
    refine ⟨k+1,by omega,by go_num,fun j hj hjk=> ?_⟩
    by_cases e:j=k
    ·subst e;exact zoL (by rw [HC.out];exact hb)
    ·exact H1.out j hj (by omega)
   case measure=>simp [intOf];omega
  ·have H2:Hid (k=s.size∨ ∃h:k<s.size,zcO s[k]=false):=by
    by_cases hlt:k<s.size
    ·refine .inr ⟨hlt,?_⟩
     by_cases hb:(s[k]'hlt).toNat≤32
     ·exact absurd ⟨hlt,hb⟩ hgo
     ·exact zfS (by omega)
    ·exact .inl (by omega)
   have fin: ∀m:Nat,k≤m→m≤s.size→(∀j (h:j<s.size),m≤j→zcO s[j]=true)→(k=m∨ ∃h:m - 1<s.size,k<m∧zcO s[m - 1]=false)→(s.extract k m)=⟨(zdU s.data.toList).toArray⟩:=
    fun m h1 h2 h3 h4=>zuS s k m h1 h2 H1.out H2.out h3 h4
   have FIN:=yoD fin
   clear fin
   by_cases hlt:k<s.size
   ·obtain ⟨c,hc⟩: ∃c,(s[k]'hlt).toNat=c:=⟨_,rfl⟩
    have hbc:32<c:=by
     by_cases hb:(s[k]'hlt).toNat≤32
     ·exact absurd ⟨hlt,hb⟩ hgo
     ·omega
    clear hgo
    go_wp2
    go_loop [4] (fun i=> ∃m:Nat,k≤m∧m≤s.size∧i= .int .i64 m∧Hid (∀j (h:j<s.size),m≤j→zcO s[j]=true)) (fun i=>(intOf i).toNat)
    case atStart=>exact ⟨s.size,by omega,yoE _,rfl,fun j h1 h2=>by omega⟩
    case round=>
     obtain ⟨m,hkm,hms,rfl,H3⟩:=hrel
     by_cases hkm2:k<m
     ·have hm1:m - 1<s.size:=by omega
      obtain ⟨d,hd⟩: ∃d,(s[m - 1]'hm1).toNat=d:=⟨_,rfl⟩
      have HD:=yoD hd
      have ei:((m:Int) - 1).toNat=m - 1:=by omega
      have ej:(m:Int) - 1=((m - 1:Nat):Int):=by omega
      by_cases hb:d≤32
      ·go_wp2
       go_round
       case rel=>
        refine ⟨m - 1,by omega,by omega,by go_num,fun j hj hjm=> ?_⟩
        by_cases e:j=m - 1
        ·subst e;exact zoL (by rw [HD.out];exact hb)
        ·exact H3.out j hj (by omega)
       case measure=>simp [intOf];omega
      ·have HF:=yoD (FIN.out m hkm hms H3.out (.inr ⟨hm1,hkm2,zfS (by rw [HD.out];omega)⟩))
       go_wp2
       go_ret
       exact ⟨by rw [←HF.out];rfl,rfl⟩
     ·have hbad:False:=by
       have hlt2:=hlt
       have:=H3.out k hlt (by omega)
       rw [zfS (by omega)] at this
       cases this
      exact hbad.elim
   ·obtain rfl:k=s.size:=by omega
    have HF:=yoD (FIN.out s.size (yoE _) (yoE _) (fun j h1 h2=>by omega) (.inl rfl))
    clear hgo
    go_wp2
    refine wp_loop_rounds 1 ?_
    rw [rounds_succ]
    go_wp2
    go_ret
    exact ⟨congrArg (fun b=>Ending.returned (Value.string b)) ((ztF s s.size).symm.trans HF.out),rfl⟩
theorem Tryz.infoStr:(Tryz.prog.info? 9).map (fun i=>(i.zero,i.size,i.bytes))=some (some (.string ⟨#[]⟩),1,16):=by kernel_rfl
def hasB (l:List UInt8) (c:UInt8):Bool:=l.any (· ==c)
theorem zcK (l:List UInt8) (c:UInt8):(hasB l c=true→0≤Lib.indexByte l c)∧(hasB l c=false→Lib.indexByte l c= -1):=by
 induction l with
 |nil=>simp [hasB,Lib.indexByte]
 |cons b l ih=>
  have hge:=Lib.indexByte_ge l c
  by_cases e:b==c
  ·simp [hasB,Lib.indexByte,e]
  ·have e':(b==c)=false:=by simpa using e
   have h1:hasB (b::l) c=hasB l c:=by simp [hasB,e']
   simp only [Lib.indexByte,e',h1,Bool.false_eq_true,if_false]
   refine ⟨fun h=> ?_,fun h=> ?_⟩
   ·have h2:=ih.1 h
    rw [if_neg (by simp;omega)]
    omega
   ·have h2:=ih.2 h
    rw [if_pos (by simp [h2])]
theorem zgZ (c:UInt8):((c.toNat:Int).toNat).toUInt8=c:=by
 simp
theorem ib_yes (s:ByteArray) (c:UInt8) (w:World) (h:hasB s.data.toList c=true):
  Calls Tryz.prog 107 #[.string s,.int .u8 (c.toNat:Int)] w fun e w'=> ∃x:Int,e= .returned (.int .i64 x)∧0≤x∧w=w':=by
 refine (Tryz.strings_IndexByte s _ w).mono ?_
 rintro e w' ⟨rfl,rfl⟩
 rw [zgZ]
 exact ⟨_,rfl,(zcK _ _).1 h,rfl⟩
theorem ib_no (s:ByteArray) (c:UInt8) (w:World) (h:hasB s.data.toList c=false):
  Calls Tryz.prog 107 #[.string s,.int .u8 (c.toNat:Int)] w fun e w'=>e= .returned (.int .i64 (-1))∧w=w':=by
 refine (Tryz.strings_IndexByte s _ w).mono ?_
 rintro e w' ⟨rfl,rfl⟩
 rw [zgZ,(zcK _ _).2 h]
 exact ⟨rfl,rfl⟩
theorem ymG (s:ByteArray) (c:UInt8) (h: ∀k (h:k<s.size),s[k].toNat≠c.toNat):hasB s.data.toList c=false:=by
 unfold hasB
 rw [List.any_eq_false]
 intro x hx
 obtain ⟨k,hk,rfl⟩:=List.getElem_of_mem hx
 have:=h k (by simpa using hk)
 intro e
 have e':s.data[k]=c:=by simpa using e
 exact this (congrArg UInt8.toNat e')
def zaT (p:UInt8→Bool) (st:List (List UInt8)×List UInt8) (c:UInt8):List (List UInt8)×List UInt8:=
 if p c then (st.1++[st.2],[]) else (st.1,st.2++[c])
def spl (p:UInt8→Bool) (l:List UInt8):List (List UInt8)×List UInt8:=l.foldl (zaT p) ([],[])
def zbG (p:UInt8→Bool) (l:List UInt8):List (List UInt8):=(spl p l).1++[(spl p l).2]
def strC (l:List UInt8):Value:= .string ⟨l.toArray⟩
def zjD (l:List (List UInt8)):List Value:=l.map strC
theorem ynQ (p:UInt8→Bool) (s:ByteArray) (k:Nat) (h:k<s.size) (hp:p s[k]=true):spl p (s.data.toList.take (k+1))=((spl p (s.data.toList.take k)).1++[(spl p (s.data.toList.take k)).2],[]):=by
 rw [zdH s k h]
 simp [spl,zaT,hp]
theorem spl_no (p:UInt8→Bool) (s:ByteArray) (k:Nat) (h:k<s.size) (hp:p s[k]=false):spl p (s.data.toList.take (k+1))=((spl p (s.data.toList.take k)).1,(spl p (s.data.toList.take k)).2++[s[k]]):=by
 rw [zdH s k h]
 simp [spl,zaT,hp]
theorem zlA (s:ByteArray) (a b:Nat) (l:List UInt8) (h:(s.data.toList.drop a).take (b - a)=l):s.extract a b=⟨l.toArray⟩:=by
 apply ByteArray.ext
 apply Array.ext'
 rw [Lib.extract_data,h]
theorem yhT (s:ByteArray) (a k:Nat) (ha:a≤k) (h:k<s.size):(s.data.toList.drop a).take (k+1 - a)=(s.data.toList.drop a).take (k - a)++[s[k]]:=by
 rw [show k+1 - a=(k - a)+1 from by omega,List.take_succ_eq_append_getElem (by simp;omega)]
 congr 2
 rw [List.getElem_drop]
 have:a+(k - a)=k:=by omega
 simp only [this]
 rfl
def zbA (B:Nat) (w:World) (v:Value) (ps:List (List UInt8)):Prop:=w.ownsRow B 9 1 v ps.length (zjD ps)
theorem zbA.nil (B:Nat) (w:World):zbA B w (.slice none 0 0) []:=World.ownsRow_nil _ _ _ _
theorem zbA.snoc {B:Nat} {w:World} {v:Value} {ps:List (List UInt8)} {x:ByteArray} {l:List UInt8} (h:w.ownsRow B 9 1 v (ps.length+1) (zjD ps++[.string x])) (hx:x=⟨l.toArray⟩):zbA B w v (ps++[l]):=by
 unfold zbA zjD
 rw [List.map_append,List.length_append]
 subst hx
 exact h
def yfT (B:Nat) (ps:List (List UInt8)) (w:World) (e:Ending) (w':World):Prop:= ∃v,e= .returned v∧zbA B w' v ps∧Below B w w'
theorem zdN (s at_:ByteArray) (w:World) (hs:s.size≤1073741824):
  Calls Tryz.prog 139 #[.string s,.string at_] w (yfT w.heap.size (zbG (hasB at_.data.toList) s.data.toList) w):=by
 obtain ⟨i0,hi,hz0,hz1,hz2⟩:=info_parts Tryz.infoStr
 go_enter Tryz.func139,Tryz.ntmps139
 go_wp2
 go_loopw [5,6,10] (fun v fr i wr=> ∃(k a:Nat) (ps:List (List UInt8)),k≤s.size∧a≤k∧i= .int .i64 k∧fr= .int .i64 a∧zbA w.heap.size wr v ps∧ps.length≤k∧Hid (spl (hasB at_.data.toList) (s.data.toList.take k)=(ps,(s.data.toList.drop a).take (k - a)))∧Below w.heap.size w wr) (fun _ _ i _=>s.size - (intOf i).toNat)
 case atStart=>exact ⟨0,0,[],Nat.zero_le _,Nat.zero_le _,rfl,rfl,zbA.nil _ _,by simp,rfl,Below.refl _ _⟩
 case round=>
  obtain ⟨k,a,ps,hk,ha,rfl,rfl,hown,hpl,HS,hbw⟩:=hrel
  have hsz:=hbw.size
  unfold zbA at hown
  by_cases hlt:k<s.size
  ·by_cases hp:hasB at_.data.toList s[k]=true
   ·have hsn:=ynQ (hasB at_.data.toList) s k hlt hp
    rw [HS.out] at hsn
    have HSN:=yoD hsn
    have HP:=yoD hp
    clear hsn hp
    go_wp2_with (first|(go_at_call 107;refine (ib_yes _ _ _ HP.out).mono ?_;rintro e w' ⟨x,rfl,hx,rfl⟩)|(at_builtin;refine zeC _ rfl _ _ 45 rfl w.heap.size 9 i0 (.string ⟨#[]⟩) 16 Tryz.underlying45 hi hz0 hz1 hz2 rfl _ _ _ rfl hown (.string (s.extract a k)) rfl rfl (by omega) (by omega) hsz ?_;intro v' w1 hown' hk'))
    go_roundw
    case rel=>
     refine ⟨k+1,k+1,ps++[(s.data.toList.drop a).take (k - a)],by omega,by omega,by go_num,by go_num,zbA.snoc hown' (zlA s a k _ rfl),by simp;omega,?_,hbw.trans hk'⟩
     show _=_
     rw [HSN.out,Nat.sub_self,List.take_zero]
    case measure=>simp [intOf];omega
   ·have hp':hasB at_.data.toList s[k]=false:=by simpa using hp
    have hsn:=spl_no (hasB at_.data.toList) s k hlt hp'
    rw [HS.out] at hsn
    have HSN:=yoD hsn
    have HP:=yoD hp'
    clear hsn hp hp'
    go_wp2_with (go_at_call 107;refine (ib_no _ _ _ HP.out).mono ?_;rintro e w' ⟨rfl,rfl⟩)
    go_roundw
    case rel=>
     refine ⟨k+1,a,ps,by omega,by omega,by go_num,rfl,hown,by omega,?_,hbw⟩
     show _=_
     rw [HSN.out,yhT s a k ha hlt]
    case measure=>simp [intOf];omega
  ·obtain rfl:k=s.size:=by omega
   have hfin:zbG (hasB at_.data.toList) s.data.toList=ps++[(s.data.toList.drop a).take (s.size - a)]:=by
    have:=HS.out
    rw [zeV s s.size hlt] at this
    unfold zbG
    rw [this]
   have HF:=yoD hfin
   clear hfin
   go_wp2_with (at_builtin;refine zeC _ rfl _ _ 45 rfl w.heap.size 9 i0 (.string ⟨#[]⟩) 16 Tryz.underlying45 hi hz0 hz1 hz2 rfl _ _ _ rfl hown (.string (s.extract a s.size)) rfl rfl (by omega) (by omega) hsz ?_;intro v' w1 hown' hk')
   go_ret
   exact ⟨v',rfl,by rw [HF.out];exact zbA.snoc hown' (zlA s a s.size _ rfl),hbw.trans hk'⟩
theorem zhE {k:IntKind} {a b:Int} (h:a=b):Ending.returned (.int k a)= .returned (.int k b):=by rw [h]
def zbC (r:Int):Bool:=decide (48≤r∧r≤57)
def zcC (r:Int):Bool:=decide ((97≤r∧r≤122)∨(65≤r∧r≤90))
def valZ (r:Int):Int:=if 48≤r∧r≤57 then r - 48 else if 65≤r∧r≤70 then r - 55 else if 97≤r∧r≤102 then r - 87 else -1
theorem zbZ (r:Int) (w:World):
  Calls Tryz.prog 100 #[.int .i32 r] w fun e w'=>e= .returned (.bool (zbC r))∧w=w':=by
 rcases (show r<48∨(48≤r∧r≤57)∨(57<r∧r<65)∨(65≤r∧r≤70)∨(70<r∧r≤90)∨(90<r∧r<97)∨(97≤r∧r≤102)∨(102<r∧r≤122)∨122<r from by omega) with hA|⟨hA,hB⟩|⟨hA,hB⟩|⟨hA,hB⟩|⟨hA,hB⟩|⟨hA,hB⟩|⟨hA,hB⟩|⟨hA,hB⟩|hA
 ·have HB:=yoD (show zbC r=false from yoF (by omega))
  go_enter Tryz.func100,Tryz.ntmps100
  go_wp2
  go_ret
  exact ⟨zaX (by first|exact HB.out.symm|(rw [HB.out];simp;omega)),rfl⟩
 ·have HB:=yoD (show zbC r=true from yoG (by omega))
  go_enter Tryz.func100,Tryz.ntmps100
  go_wp2
  go_ret
  exact ⟨zaX (by first|exact HB.out.symm|(rw [HB.out];simp;omega)),rfl⟩
 ·have HB:=yoD (show zbC r=false from yoF (by omega))
  go_enter Tryz.func100,Tryz.ntmps100
  go_wp2
  go_ret
  exact ⟨zaX (by first|exact HB.out.symm|(rw [HB.out];simp;omega)),rfl⟩
 ·have HB:=yoD (show zbC r=false from yoF (by omega))
  go_enter Tryz.func100,Tryz.ntmps100
  go_wp2
  go_ret
  exact ⟨zaX (by first|exact HB.out.symm|(rw [HB.out];simp;omega)),rfl⟩
 ·have HB:=yoD (show zbC r=false from yoF (by omega))
  go_enter Tryz.func100,Tryz.ntmps100
  go_wp2
  go_ret
  exact ⟨zaX (by first|exact HB.out.symm|(rw [HB.out];simp;omega)),rfl⟩
 ·have HB:=yoD (show zbC r=false from yoF (by omega))
  go_enter Tryz.func100,Tryz.ntmps100
  go_wp2
  go_ret
  exact ⟨zaX (by first|exact HB.out.symm|(rw [HB.out];simp;omega)),rfl⟩
 ·have HB:=yoD (show zbC r=false from yoF (by omega))
  go_enter Tryz.func100,Tryz.ntmps100
  go_wp2
  go_ret
  exact ⟨zaX (by first|exact HB.out.symm|(rw [HB.out];simp;omega)),rfl⟩
 ·have HB:=yoD (show zbC r=false from yoF (by omega))
  go_enter Tryz.func100,Tryz.ntmps100
  go_wp2
  go_ret
  exact ⟨zaX (by first|exact HB.out.symm|(rw [HB.out];simp;omega)),rfl⟩
 ·have HB:=yoD (show zbC r=false from yoF (by omega))
  go_enter Tryz.func100,Tryz.ntmps100
  go_wp2
  go_ret
  exact ⟨zaX (by first|exact HB.out.symm|(rw [HB.out];simp;omega)),rfl⟩
theorem znY (r:Int) (w:World):
  Calls Tryz.prog 99 #[.int .i32 r] w fun e w'=>e= .returned (.bool (zcC r))∧w=w':=by
 rcases (show r<48∨(48≤r∧r≤57)∨(57<r∧r<65)∨(65≤r∧r≤70)∨(70<r∧r≤90)∨(90<r∧r<97)∨(97≤r∧r≤102)∨(102<r∧r≤122)∨122<r from by omega) with hA|⟨hA,hB⟩|⟨hA,hB⟩|⟨hA,hB⟩|⟨hA,hB⟩|⟨hA,hB⟩|⟨hA,hB⟩|⟨hA,hB⟩|hA
 ·have HB:=yoD (show zcC r=false from yoF (by omega))
  go_enter Tryz.func99,Tryz.ntmps99
  go_wp2
  go_ret
  exact ⟨zaX (by first|exact HB.out.symm|(rw [HB.out];simp;omega)),rfl⟩
 ·have HB:=yoD (show zcC r=false from yoF (by omega))
  go_enter Tryz.func99,Tryz.ntmps99
  go_wp2
  go_ret
  exact ⟨zaX (by first|exact HB.out.symm|(rw [HB.out];simp;omega)),rfl⟩
 ·have HB:=yoD (show zcC r=false from yoF (by omega))
  go_enter Tryz.func99,Tryz.ntmps99
  go_wp2
  go_ret
  exact ⟨zaX (by first|exact HB.out.symm|(rw [HB.out];simp;omega)),rfl⟩
 ·have HB:=yoD (show zcC r=true from yoG (by omega))
  go_enter Tryz.func99,Tryz.ntmps99
  go_wp2
  go_ret
  exact ⟨zaX (by first|exact HB.out.symm|(rw [HB.out];simp;omega)),rfl⟩
 ·have HB:=yoD (show zcC r=true from yoG (by omega))
  go_enter Tryz.func99,Tryz.ntmps99
  go_wp2
  go_ret
  exact ⟨zaX (by first|exact HB.out.symm|(rw [HB.out];simp;omega)),rfl⟩
 ·have HB:=yoD (show zcC r=false from yoF (by omega))
  go_enter Tryz.func99,Tryz.ntmps99
  go_wp2
  go_ret
  exact ⟨zaX (by first|exact HB.out.symm|(rw [HB.out];simp;omega)),rfl⟩
 ·have HB:=yoD (show zcC r=true from yoG (by omega))
  go_enter Tryz.func99,Tryz.ntmps99
  go_wp2
  go_ret
  exact ⟨zaX (by first|exact HB.out.symm|(rw [HB.out];simp;omega)),rfl⟩
 ·have HB:=yoD (show zcC r=true from yoG (by omega))
  go_enter Tryz.func99,Tryz.ntmps99
  go_wp2
  go_ret
  exact ⟨zaX (by first|exact HB.out.symm|(rw [HB.out];simp;omega)),rfl⟩
 ·have HB:=yoD (show zcC r=false from yoF (by omega))
  go_enter Tryz.func99,Tryz.ntmps99
  go_wp2
  go_ret
  exact ⟨zaX (by first|exact HB.out.symm|(rw [HB.out];simp;omega)),rfl⟩
theorem zbW (r:Int) (w:World):
  Calls Tryz.prog 129 #[.int .i32 r] w fun e w'=>e= .returned (.int .i64 (valZ r))∧w=w':=by
 rcases (show r<48∨(48≤r∧r≤57)∨(57<r∧r<65)∨(65≤r∧r≤70)∨(70<r∧r≤90)∨(90<r∧r<97)∨(97≤r∧r≤102)∨(102<r∧r≤122)∨122<r from by omega) with hA|⟨hA,hB⟩|⟨hA,hB⟩|⟨hA,hB⟩|⟨hA,hB⟩|⟨hA,hB⟩|⟨hA,hB⟩|⟨hA,hB⟩|hA
 ·have HV:=yoD (show valZ r= -1 from by unfold valZ;(repeat' split)<;>omega)
  go_enter Tryz.func129,Tryz.ntmps129
  go_wp2
  go_ret
  exact ⟨zhE (by first|exact HV.out.symm|(rw [HV.out];omega)),rfl⟩
 ·have HV:=yoD (show valZ r=r - 48 from by unfold valZ;(repeat' split)<;>omega)
  go_enter Tryz.func129,Tryz.ntmps129
  go_wp2
  go_ret
  exact ⟨zhE (by first|exact HV.out.symm|(rw [HV.out];omega)),rfl⟩
 ·have HV:=yoD (show valZ r= -1 from by unfold valZ;(repeat' split)<;>omega)
  go_enter Tryz.func129,Tryz.ntmps129
  go_wp2
  go_ret
  exact ⟨zhE (by first|exact HV.out.symm|(rw [HV.out];omega)),rfl⟩
 ·have HV:=yoD (show valZ r=r - 55 from by unfold valZ;(repeat' split)<;>omega)
  go_enter Tryz.func129,Tryz.ntmps129
  go_wp2
  go_ret
  exact ⟨zhE (by first|exact HV.out.symm|(rw [HV.out];omega)),rfl⟩
 ·have HV:=yoD (show valZ r= -1 from by unfold valZ;(repeat' split)<;>omega)
  go_enter Tryz.func129,Tryz.ntmps129
  go_wp2
  go_ret
  exact ⟨zhE (by first|exact HV.out.symm|(rw [HV.out];omega)),rfl⟩
 ·have HV:=yoD (show valZ r= -1 from by unfold valZ;(repeat' split)<;>omega)
  go_enter Tryz.func129,Tryz.ntmps129
  go_wp2
  go_ret
  exact ⟨zhE (by first|exact HV.out.symm|(rw [HV.out];omega)),rfl⟩
 ·have HV:=yoD (show valZ r=r - 87 from by unfold valZ;(repeat' split)<;>omega)
  go_enter Tryz.func129,Tryz.ntmps129
  go_wp2
  go_ret
  exact ⟨zhE (by first|exact HV.out.symm|(rw [HV.out];omega)),rfl⟩
 ·have HV:=yoD (show valZ r= -1 from by unfold valZ;(repeat' split)<;>omega)
  go_enter Tryz.func129,Tryz.ntmps129
  go_wp2
  go_ret
  exact ⟨zhE (by first|exact HV.out.symm|(rw [HV.out];omega)),rfl⟩
 ·have HV:=yoD (show valZ r= -1 from by unfold valZ;(repeat' split)<;>omega)
  go_enter Tryz.func129,Tryz.ntmps129
  go_wp2
  go_ret
  exact ⟨zhE (by first|exact HV.out.symm|(rw [HV.out];omega)),rfl⟩
def fixZ (r:Int):Int:=if isB r=true then r else 65533
theorem z5S (l:List UInt8) (i:Nat):zaZ ⟨l.toArray⟩ i=(l.getD i 0).toNat:=by
 unfold zaZ
 congr 1
 by_cases h:i<l.length
 ·rw [show (ByteArray.mk l.toArray).get! i=(ByteArray.mk l.toArray).get! (i+0) from rfl,get_at _ i (by simpa [ByteArray.size] using h)]
  simp [List.getD,List.getElem?_eq_getElem h]
  rfl
 ·have: ¬i<(ByteArray.mk l.toArray).size:=by simpa [ByteArray.size] using h
  simp only [List.getD,List.getElem?_eq_none (Nat.le_of_not_lt h),Option.getD_none]
  show (l.toArray)[i]! =_
  rw [getElem!_neg _ _ (by simpa using h)]
  rfl
theorem zaB (l:List UInt8):(ByteArray.mk l.toArray).size=l.length:=by simp [ByteArray.size]
theorem ygP (pre e post:List UInt8) (k:Nat) (h:k<e.length):(pre++e++post).getD (pre.length+k) 0=e.getD k 0:=by
 simp only [List.getD]
 rw [List.append_assoc,List.getElem?_append_right (by omega),List.getElem?_append_left (by omega)]
 congr 2
 omega
theorem z5A (x:Int) (h0:0≤x) (h1:x<256):(x.toNat.toUInt8).toNat=x.toNat:=by
 have:x.toNat % 256=x.toNat:=Nat.mod_eq_of_lt (by omega)
 simp [Nat.toUInt8,this]
theorem zsF (pre post:List UInt8) (r:Int):
  Utf8.decode ⟨(pre++Lib.encodeRune r++post).toArray⟩ pre.length=((fixZ r).toNat,(Lib.encodeRune r).length):=by
 obtain ⟨e,he⟩: ∃e,Lib.encodeRune r=e:=⟨_,rfl⟩
 have hb: ∀k,k<e.length→zaZ ⟨(pre++e++post).toArray⟩ (pre.length+k)=(e.getD k 0).toNat:=fun k hk=>by
  rw [z5S,ygP pre e post k hk]
 have hsz:(ByteArray.mk (pre++e++post).toArray).size=pre.length+e.length+post.length:=by rw [zaB];simp;omega
 rw [he]
 generalize ByteArray.mk (pre++e++post).toArray=t at*
 have hv:isB r=true∨isB r=false:=by cases isB r<;>simp
 rcases hv with hv|hv
 ·have hr:=of_decide_eq_true hv
  have hf:fixZ r=r:=if_pos hv
  rw [hf]
  by_cases a:r<128
  ·have hz:=Lib.encodeRuneZ_one hr.1 (by omega)
   have hE:e=[r.toNat.toUInt8]:=by rw [←he];unfold Lib.encodeRune;rw [hz];rfl
   subst hE
   have h0:=hb 0 (by simp)
   simp only [List.getD_cons_zero,Nat.add_zero] at h0
   rw [z5A r hr.1 (by omega)] at h0
   rw [zcP,h0,if_pos (by omega)]
   rfl
  ·by_cases b:r<2048
   ·have hz:=Lib.encodeRuneZ_two (r:=r) (by omega) (by omega)
    have hE:e=[(192+r/64).toNat.toUInt8,(128+r % 64).toNat.toUInt8]:=by rw [←he];unfold Lib.encodeRune;rw [hz];rfl
    subst hE
    have h0:=hb 0 (by simp)
    have h1:=hb 1 (by simp)
    simp only [List.getD_cons_zero,List.getD_cons_succ,Nat.add_zero] at h0 h1
    rw [z5A _ (by omega) (by omega)] at h0 h1
    simp only [List.length_cons,List.length_nil] at hsz ⊢
    rw [zcP,h0,h1,if_neg (by omega),if_pos (by omega),if_pos (by omega)]
    congr 1
    omega
   ·by_cases c:r<65536
    ·have hz:=Lib.encodeRuneZ_three (r:=r) (by omega)
     have hE:e=[(224+r/4096).toNat.toUInt8,(128+r/64 % 64).toNat.toUInt8,(128+r % 64).toNat.toUInt8]:=by rw [←he];unfold Lib.encodeRune;rw [hz];rfl
     subst hE
     have h0:=hb 0 (by simp)
     have h1:=hb 1 (by simp)
     have h2:=hb 2 (by simp)
     simp only [List.getD_cons_zero,List.getD_cons_succ,Nat.add_zero] at h0 h1 h2
     rw [z5A _ (by omega) (by omega)] at h0 h1 h2
     simp only [List.length_cons,List.length_nil] at hsz ⊢
     have hsum:(224+r/4096).toNat % 16*4096+(128+r/64 % 64).toNat % 64*64+(128+r % 64).toNat % 64=r.toNat:=by omega
     have hvv:isB ((r.toNat:Nat):Int)=true:=by rw [Int.toNat_of_nonneg hr.1];exact hv
     rw [zcP,h0,h1,h2,if_neg (by omega),if_neg (by omega),if_pos (by omega),hsum,if_pos ⟨by omega,hvv⟩]
    ·have hz:=Lib.encodeRuneZ_four (r:=r) (by omega) (by omega)
     have hE:e=[(240+r/262144).toNat.toUInt8,(128+r/4096 % 64).toNat.toUInt8,(128+r/64 % 64).toNat.toUInt8,(128+r % 64).toNat.toUInt8]:=by rw [←he];unfold Lib.encodeRune;rw [hz];rfl
     subst hE
     have h0:=hb 0 (by simp)
     have h1:=hb 1 (by simp)
     have h2:=hb 2 (by simp)
     have h3:=hb 3 (by simp)
     simp only [List.getD_cons_zero,List.getD_cons_succ,Nat.add_zero] at h0 h1 h2 h3
     rw [z5A _ (by omega) (by omega)] at h0 h1 h2 h3
     simp only [List.length_cons,List.length_nil] at hsz ⊢
     have hsum:(240+r/262144).toNat % 8*262144+(128+r/4096 % 64).toNat % 64*4096+(128+r/64 % 64).toNat % 64*64+(128+r % 64).toNat % 64=r.toNat:=by omega
     have hvv:isB ((r.toNat:Nat):Int)=true:=by rw [Int.toNat_of_nonneg hr.1];exact hv
     rw [zcP,h0,h1,h2,h3,if_neg (by omega),if_neg (by omega),if_neg (by omega),if_pos (by omega),hsum,if_pos ⟨by omega,hvv⟩]
 ·have hr:=of_decide_eq_false hv
  have hf:fixZ r=65533:=if_neg (by rw [hv];simp)
  rw [hf]
  have hz:=Lib.encodeRuneZ_bad (r:=r) (by omega)
  have hE:e=[239,191,189]:=by rw [←he];unfold Lib.encodeRune;rw [hz];rfl
  subst hE
  have h0:=hb 0 (by simp)
  have h1:=hb 1 (by simp)
  have h2:=hb 2 (by simp)
  simp only [List.getD_cons_zero,List.getD_cons_succ,Nat.add_zero] at h0 h1 h2
  simp only [List.length_cons,List.length_nil] at hsz ⊢
  have k0:(239:UInt8).toNat=239:=rfl
  have k1:(191:UInt8).toNat=191:=rfl
  have k2:(189:UInt8).toNat=189:=rfl
  have hvv:isB ((65533:Nat):Int)=true:=by decide
  rw [zcP,h0,h1,h2,k0,k1,k2,if_neg (by omega),if_neg (by omega),if_pos (by omega)]
  rw [if_pos ⟨by omega,by decide⟩]
  rfl
theorem zjE (r:Int):1≤(Lib.encodeRune r).length:=by
 simp only [Lib.encodeRune,List.length_map];exact (Lib.encodeRuneZ_length r).1
theorem ziM (r:Int) (l:List Int):zeK (r::l)=Lib.encodeRune r++zeK l:=by simp [zeK]
theorem yaD (l:List Int):l.length≤(zeK l).length:=by
 induction l with
 |nil=>simp [zeK]
 |cons r l ih=>rw [ziM,List.length_append,List.length_cons];have:=zjE r;omega
theorem zyJ (r:Int):0≤fixZ r:=by
 unfold fixZ
 split
 ·rename_i h;exact (of_decide_eq_true h).1
 ·omega
theorem z5K (l:List Int): ∀(pre:List UInt8) (f:Nat),l.length≤f→zjT ⟨(pre++zeK l).toArray⟩ f pre.length=l.map fixZ:=by
 induction l with
 |nil=>
  intro pre f _
  rw [ziK _ _ _ (by rw [zaB];simp [zeK])]
  rfl
 |cons r l ih=>
  intro pre f hf
  obtain ⟨f',rfl⟩: ∃f',f=f'+1:=⟨f - 1,by simp at hf;omega⟩
  have hlt:pre.length<(ByteArray.mk (pre++zeK (r::l)).toArray).size:=by
   rw [zaB,ziM];have:=zjE r;simp;omega
  rw [zgU _ _ _ hlt,ziM,←List.append_assoc,zsF pre (zeK l) r]
  have h2:=ih (pre++Lib.encodeRune r) f' (by simp at hf;omega)
  rw [List.length_append] at h2
  rw [h2,List.map_cons,Int.toNat_of_nonneg (zyJ r)]
theorem z8U (l:List Int):scal ⟨(zeK l).toArray⟩=l.map fixZ:=by
 unfold scal
 rw [zaB]
 exact z5K l [] _ (yaD l)
/-! ### parts,put together again -/
theorem zkH (p:UInt8→Bool) (l:List UInt8):0<(zbG p l).length:=by simp [zbG]
theorem zbA.form {B:Nat} {w:World} {v:Value} {ps:List (List UInt8)} (h:zbA B w v ps) (hn:0<ps.length):
  ∃g cap,v= .slice (some ⟨g,0,none⟩) ps.length cap∧g<w.heap.size∧ ∀j,j<ps.length→w.cell? ⟨g,j,none⟩=some (.string ⟨(ps.getD j []).toArray⟩):=by
 unfold zbA at h
 rcases h.2 with ⟨_,h0⟩|⟨g,cap,cur,hv,_,hg,hc,_,hs,ht⟩
 ·omega
 ·refine ⟨g,cap,hv,(Array.getElem?_eq_some_iff.1 hg).1,fun j hj=> ?_⟩
  rw [cell_of_row w g j cur _ _ hg]
  have h1:(zjD ps)[j]? =some (strC (ps.getD j [])):=by
   simp [zjD,List.getD,List.getElem?_eq_getElem hj]
  rw [←ht,List.getElem?_take,if_pos (by omega)] at h1
  simpa [strC] using h1
def bas (ps:List (List UInt8)):List ByteArray:=ps.map fun l=>⟨l.toArray⟩
theorem yhV (ps:List (List UInt8)) (j:Nat) (h:j<ps.length):(bas ps).getD j ByteArray.empty=⟨(ps.getD j []).toArray⟩:=by
 simp [bas,List.getD,List.getElem?_eq_getElem h]
theorem zbA.below {B:Nat} {w w':World} {v:Value} {ps:List (List UInt8)} (h:zbA B w v ps) (hb:Below w.heap.size w w'):zbA B w' v ps:=zdO h hb
theorem zdK (p:UInt8→Bool) (l:List UInt8):(zbG p l).length≤l.length+1:=by
 have key: ∀(l:List UInt8) (st:List (List UInt8)×List UInt8),(l.foldl (zaT p) st).1.length≤st.1.length+l.length:=by
  intro l
  induction l with
  |nil=>intro st;simp
  |cons c l ih=>
   intro st
   rw [List.foldl_cons]
   have:=ih (zaT p st c)
   have h2:(zaT p st c).1.length≤st.1.length+1:=by unfold zaT;split<;>simp
   simp;omega
 have:=key l ([],[])
 simp [zbG,spl] at this ⊢
 omega
theorem zmT (ps:List (List UInt8)) (c sep:List UInt8):Lib.join (ps++[c]) sep=if ps=[] then c else Lib.join ps sep++sep++c:=by
 cases ps with
 |nil=>simp [Lib.join_one]
 |cons x r=>
  rw [if_neg (by simp),List.cons_append,Lib.join_cons,Lib.join_cons]
  simp [Lib.joinTail]
theorem z3B (l:List UInt8) (c:UInt8):Lib.join (zbG (hasB [c]) l) [c]=l:=by
 have key: ∀(l:List UInt8) (st:List (List UInt8)×List UInt8),Lib.join ((l.foldl (zaT (hasB [c])) st).1++[(l.foldl (zaT (hasB [c])) st).2]) [c]=Lib.join (st.1++[st.2]) [c]++l:=by
  intro l
  induction l with
  |nil=>intro st;simp
  |cons x l ih=>
   intro st
   rw [List.foldl_cons,ih]
   have e:Lib.join ((zaT (hasB [c]) st x).1++[(zaT (hasB [c]) st x).2]) [c]=Lib.join (st.1++[st.2]) [c]++[x]:=by
    unfold zaT
    by_cases h:hasB [c] x=true
    ·have hx:c=x:=by simpa [hasB] using h
     rw [if_pos h,zmT (st.1++[st.2]) [] [c],if_neg (by simp),List.append_nil,hx]
    ·rw [if_neg h,zmT,zmT]
     split
     ·rfl
     ·simp
   rw [e];simp
 have:=key l ([],[])
 unfold zbG spl
 rw [this]
 simp [Lib.join_one]
/-! ### a second time -/
end
end
section
open Go.RowKit
theorem ztS (s:ByteArray) (w:World) (hs:s.size≤9223372036854775807):
  Calls Tryz.prog 172 #[.string s] w fun e w'=>e= .returned (.bool (znH s))∧w=w':=by
 go_enter Tryz.func172,Tryz.ntmps172
 go_wp2
 go_loop [6] (fun i=> ∃k:Nat,k≤s.size∧i= .int .i64 k∧Hid (∀j (h:j<s.size),j<k→(s[j]'h).toNat<128)) (fun i=>s.size - (intOf i).toNat)
 case atStart=>exact ⟨0,Nat.zero_le _,rfl,fun j _ h=>by omega⟩
 case round=>
  obtain ⟨k,hk,rfl,H⟩:=hrel
  by_cases hlt:k<s.size
  ·go_wp2
   ·have hc:(128:Int)≤(s[k].toNat:Int):=by assumption
    go_ret
    exact ⟨zaX (zuV s k hlt (by omega)).symm,rfl⟩
   ·have hc:(s[k].toNat:Int)<128:=by first|assumption|omega
    go_round
    case rel=>
     refine ⟨k+1,by omega,by go_num,fun j hj hjk=> ?_⟩
     by_cases e:j=k
     ·subst e;omega
     ·exact H.out j hj (by omega)
    case measure=>simp [intOf];omega
  ·have hf:=zxY s (fun j hj=>H.out j hj (by omega))
   have HF:=yoD hf
   clear hf
   go_wp2
   go_ret
   exact ⟨zaX HF.out.symm,rfl⟩
def zfU (f:UInt8→UInt8) (B:Nat) (s:ByteArray) (k cap:Nat) (w:World):Prop:=
 ∃cur:Array Value,w.heap[B]? =some (.cells cur 5 (cap,cap+1))∧cur.size=cap∧s.size≤cap∧
  ∀j (h:j<s.size),cur[j]? =some (.int .u8 ((if j<k then f s[j] else s[j]).toNat:Int))
theorem ztU (f:UInt8→UInt8) (w:World) (s:ByteArray):zfU f w.heap.size s 0 (grownCap w s.size 0 5) (Lib.bytesWorld w 5 s):=by
 have hge:s.size≤grownCap w s.size 0 5:=grownCap_ge _ _ _ _
 have hsz:(Lib.bytesCells w 5 s).size=grownCap w s.size 0 5:=by
  unfold Lib.bytesCells
  have:s.data.size=s.size:=rfl
  simp [this];omega
 refine ⟨Lib.bytesCells w 5 s,?_,hsz,hge,?_⟩
 ·rw [Lib.bytesWorld_at_new,hsz]
 ·intro j h
  have hj:j<s.data.size:=h
  rw [if_neg (by omega)]
  unfold Lib.bytesCells
  rw [Array.getElem?_append_left (by simpa using hj)]
  simp
  exact ⟨s.data[j],Array.getElem?_eq_getElem hj,rfl⟩
theorem zfU.cell {f:UInt8→UInt8} {B:Nat} {s:ByteArray} {k cap:Nat} {w:World} (h:zfU f B s k cap w) (hk:k<s.size):w.cell? ⟨B,k,none⟩=some (.int .u8 (s[k].toNat:Int)):=by
 obtain ⟨cur,h1,_,_,h4⟩:=h
 rw [cell_of_row w B k cur _ _ h1,h4 k hk,if_neg (by omega)]
theorem zfU.frozen {f:UInt8→UInt8} {B:Nat} {s:ByteArray} {k cap:Nat} {w:World} (h:zfU f B s k cap w) (hk:k<s.size):w.frozen? ⟨B,k,none⟩=false:=by
 obtain ⟨cur,h1,_,h3,_⟩:=h
 simp [World.frozen?,h1]
 omega
theorem zfU.same {f:UInt8→UInt8} {B:Nat} {s:ByteArray} {k cap:Nat} {w:World} (h:zfU f B s k cap w) (hk:k<s.size) (he:f s[k]=s[k]):zfU f B s (k+1) cap w:=by
 obtain ⟨cur,h1,h2,h3,h4⟩:=h
 refine ⟨cur,h1,h2,h3,fun j hj=> ?_⟩
 rw [h4 j hj]
 by_cases e:j=k
 ·subst e;rw [if_neg (by omega),if_pos (by omega),he]
 ·by_cases e2:j<k
  ·rw [if_pos e2,if_pos (by omega)]
  ·rw [if_neg e2,if_neg (by omega)]
theorem zfU.put {f:UInt8→UInt8} {B:Nat} {s:ByteArray} {k cap:Nat} {w:World} (h:zfU f B s k cap w) (hk:k<s.size) (n:Int) (hn:n=((f s[k]).toNat:Int)):zfU f B s (k+1) cap (w.setCell ⟨B,k,none⟩ (.int .u8 n)):=by
 obtain ⟨cur,h1,h2,h3,h4⟩:=h
 refine ⟨cur.setIfInBounds k (.int .u8 n),?_,by simpa using h2,h3,fun j hj=> ?_⟩
 ·simp [World.setCell,Array.getElem?_modify,h1]
 ·rw [Array.getElem?_setIfInBounds]
  by_cases e:k=j
  ·subst e;rw [if_pos rfl,if_pos (by omega),if_pos (by omega),hn]
  ·rw [if_neg e,h4 j hj]
   by_cases e2:j<k
   ·rw [if_pos e2,if_pos (by omega)]
   ·rw [if_neg e2,if_neg (by omega)]
theorem zfU.conv {f:UInt8→UInt8} {B:Nat} {s:ByteArray} {cap:Nat} {w:World} {k:Nat} (h:zfU f B s k cap w) (hk: ¬k<s.size):
  (convert 119 9 (.slice (some ⟨B,0,none⟩) s.size cap)).run Tryz.prog w= .ok (.string ⟨(s.data.toList.map f).toArray⟩) w:=by
 refine zeY w _ _ 5 _ _ ?_ Tryz.underlying119 Tryz.underlying5 Tryz.underlying9
 obtain ⟨cur,h1,h2,h3,h4⟩:=h
 have hl:(Lib.byteCells (s.data.toList.map f)).length=s.size:=by rw [Lib.byteCells_length,List.length_map,zaN]
 refine ⟨_,cap,by rw [hl],fun j u hj=>⟨_,rfl,?_⟩⟩
 have hlt:j<s.size:=by rw [←hl];exact (List.getElem?_eq_some_iff.1 hj).1
 rw [show (Addr.add ⟨B,0,none⟩ j)=⟨B,j,none⟩ from by unfold Addr.add;split<;>simp_all]
 rw [cell_of_row w B j cur _ _ h1,h4 j hlt,if_pos (by omega),←hj]
 simp only [Lib.byteCells,List.map_map,List.getElem?_map,zeW s j hlt]
 rfl
theorem z7S (s:ByteArray) (w:World) (hs:s.size≤9223372036854775807):
  Calls Tryz.prog 76 #[.string s] w fun e w'=>e= .returned (.string ⟨(zaI s.data.toList).toArray⟩)∧Below w.heap.size w w':=by
 have hcv0:=Lib.run_convert_string_bytes (P:=Tryz.prog) w 9 119 5 s Tryz.underlying9 Tryz.underlying119 Tryz.underlying5
 have hst:=ztU lowC w s
 have hb0:Below w.heap.size w (Lib.bytesWorld w 5 s):=⟨rfl,rfl,rfl,by rw [Lib.bytesWorld_size];omega,fun k hk=>Lib.bytesWorld_at_old w _ s k hk⟩
 have HST:=yoD hst
 clear hst
 generalize hcap:grownCap w s.size 0 5=cap at*
 generalize Lib.bytesWorld w 5 s=wb at*
 clear hcap
 go_enter Tryz.func76,Tryz.ntmps76
 go_wp2
 clear hcv0
 go_loopw [10] (fun i wr=> ∃k:Nat,k≤s.size∧i= .int .i64 k∧zfU lowC w.heap.size s k cap wr∧Below w.heap.size w wr) (fun i _=>s.size - (intOf i).toNat)
 case atStart=>exact ⟨0,Nat.zero_le _,rfl,HST.out,hb0⟩
 case round=>
  obtain ⟨k,hk,rfl,hr,hbw⟩:=hrel
  by_cases hlt:k<s.size
  ·have hcell:=hr.cell hlt
   have hfr:=hr.frozen hlt
   obtain ⟨c,hc⟩: ∃c,(s[k]'hlt).toNat=c:=⟨_,rfl⟩
   have hc256:c<256:=by rw [←hc];exact (s[k]'hlt).toNat_lt
   rw [hc] at hcell
   by_cases hu:65≤c∧c≤90
   ·have hdc:((lowC s[k]).toNat:Int)=(c:Int)+32:=by rw [z8W (by omega) (by omega),hc];omega
    have hr2:=hr.put hlt ((c:Int)+32) hdc.symm
    have HR2:=yoD hr2
    have hbw2:=hbw.setCell (p:=⟨w.heap.size,k,none⟩) (yoE _) (.int .u8 ((c:Int)+32))
    have HC:=yoD hc
    obtain ⟨hu1,hu2⟩:=hu
    have ea:(c:Int) - 65+97=(c:Int)+32:=by omega
    clear hdc hr2 hc
    go_wp2
    go_roundw
    case rel=>exact ⟨k+1,by omega,by go_num,by first|exact HR2.out|(rw [ea];exact HR2.out),by first|exact hbw2|(rw [ea];exact hbw2)⟩
    case measure=>simp [intOf];omega
   ·have hr2:=hr.same hlt (z7Z (by omega))
    have HR2:=yoD hr2
    clear hr2 hc
    go_wp2
    all_goals
     go_roundw
     case rel=>exact ⟨k+1,by omega,by go_num,HR2.out,hbw⟩
     case measure=>simp [intOf];omega
  ·have hcv:=hr.conv hlt
   go_wp2
   go_ret
   exact ⟨rfl,hbw⟩
end
end Go.Proofs.YtmjappnpedjlnaaGreatDoor
