/-
  What the law AuthorityStrict leans on, and its walk (1 of 35).
-/
import Derived.Test.YtmjappnpedjlnaaGreatDoorChecked
import Derived.WalkKit
import Derived.WalkLawsBesides
import Derived.BigQuiet
import Derived.Deep.QuietTactic
import Derived.Lib.Hide
import Derived.Lib.OthersKept
import Derived.Lib.RuneBytes
import Derived.Test.YtmjappnpedjlnaaGreatDoorShelf
import Derived.OpenShut
import Derived.Lib.ConvBytes
import Derived.WalkSpells
import Derived.Lib.Join
namespace Go.Proofs.YtmjappnpedjlnaaGreatDoor
set_option maxRecDepth 100000
set_option maxHeartbeats 16000000
abbrev zzC := @Lib.hid
abbrev zzD := @decide_eq_false
section
section
open Go.RowKit
theorem zaJ {a b:Bool} (h:a=b):Ending.returned (.bool a)= .returned (.bool b):=by rw [h]
def zfL (s:ByteArray):Bool:=s.data.toList.all fun c=>decide (c.toNat<128)
theorem zhG (s:ByteArray) (k:Nat) (h:k<s.size) (hc:128≤(s[k]'h).toNat):zfL s=false:=by
 unfold zfL
 rw [List.all_eq_false]
 refine ⟨s[k]'h,?_,by simp;omega⟩
 show s.data[k]∈_
 simp
theorem ziG (s:ByteArray) (h: ∀k (h:k<s.size),(s[k]'h).toNat<128):zfL s=true:=by
 unfold zfL
 rw [List.all_eq_true]
 intro c hc
 obtain ⟨k,hk,rfl⟩:=List.getElem_of_mem hc
 have:=h k (by simpa using hk)
 simp only [decide_eq_true_eq]
 exact this
theorem zhE (s:ByteArray) (w:World) (hs:s.size≤1073741824):
  Calls Tryz.prog 180 #[.string s] w fun e w'=>e= .returned (.bool (zfL s))∧w=w':=by
 go_enter Tryz.func180,Tryz.ntmps180
 go_wp2
 go_loop [3] (fun i=> ∃k:Nat,k≤s.size∧i= .int .i64 k∧Hid (∀j (h:j<s.size),j<k→(s[j]'h).toNat<128)) (fun i=>s.size - (intOf i).toNat)
 case atStart=>exact ⟨0,Nat.zero_le _,rfl,fun j _ h=>by omega⟩
 case round=>
  obtain ⟨k,hk,rfl,H⟩:=hrel
  by_cases hlt:k<s.size
  ·go_wp2
   ·have hc:(128:Int)≤(s[k].toNat:Int):=by assumption
    go_ret
    exact ⟨zaJ (zhG s k hlt (by omega)).symm,rfl⟩
   ·have hc:(s[k].toNat:Int)<128:=by first|assumption|omega
    go_round
    case rel=>
     refine ⟨k+1,by omega,by go_num,fun j hj hjk=> ?_⟩
     by_cases e:j=k
     ·subst e;omega
     ·exact H.out j hj (by omega)
    case measure=>simp [intOf];omega
  ·have hf:=ziG s (fun j hj=>H.out j hj (by omega))
   have HF:=zzC hf
   clear hf
   go_wp2
   go_ret
   exact ⟨zaJ HF.out.symm,rfl⟩
def RowR (w:World) (v:Value) (xs:List Value):Prop:=
 ∃ao c,v= .slice ao xs.length c∧ ∀j u,xs[j]? =some u→ ∃ad,ao=some ad∧w.cell? (ad.add j)=some u
theorem RowR.of_own {w:World} {base:Nat} {e:TypeId} {v:Value} {xs:List Value} (h:w.ownsRow base e 1 v xs.length xs):RowR w v xs:=by
 rcases h.2 with ⟨rfl,h0⟩|⟨g,cap,cur,rfl,_,hg,hn,_,hs,ht⟩
 ·refine ⟨none,0,by rw [h0],fun j u hj=> ?_⟩
  have:=List.length_eq_zero_iff.1 h0
  subst this
  simp at hj
 ·refine ⟨some ⟨g,0,none⟩,cap,rfl,fun j u hj=>⟨_,rfl,?_⟩⟩
  have hlt:j<xs.length:=(List.getElem?_eq_some_iff.1 hj).1
  have e1:(Addr.add ⟨g,0,none⟩ j)=⟨g,j,none⟩:=by
   unfold Addr.add;split<;>simp_all
  rw [e1,cell_of_row w g j cur e (0,0) hg]
  rw [←ht,List.getElem?_take] at hj
  rw [if_pos (by omega)] at hj
  simpa using hj
def zaO (s:ByteArray) (i:Nat):Nat:=(s.get! i).toNat
theorem zxE (s:ByteArray) (i:Nat) (h:i<s.size):zaO s i=(s[i]'h).toNat:=by
 unfold zaO
 rw [show s.get! i=s.get! (i+0) from rfl,get_at s i h]
def isB (r:Int):Bool:=decide (0≤r∧r≤1114111∧(r<55296∨57343<r))
theorem zlQ (r:Nat):Utf8.valid (r:Int)=isB (r:Int):=by
 unfold Utf8.valid isB
 rw [Bool.eq_iff_iff]
 simp only [Bool.or_eq_true,Bool.and_eq_true,decide_eq_true_eq]
 omega
theorem znS (s:ByteArray) (i:Nat):Utf8.decode s i=
  if zaO s i<128 then (zaO s i,1)
  else if (zaO s i/32==6&&(decide (i+1<s.size)&&zaO s (i+1)/64==2))=true then
   if 128≤zaO s i % 32*64+zaO s (i+1) % 64 then (zaO s i % 32*64+zaO s (i+1) % 64,2) else (65533,1)
  else if (zaO s i/16==14&&(decide (i+1<s.size)&&zaO s (i+1)/64==2)&&(decide (i+2<s.size)&&zaO s (i+2)/64==2))=true then
   if (decide (2048≤zaO s i % 16*4096+zaO s (i+1) % 64*64+zaO s (i+2) % 64)&&isB (zaO s i % 16*4096+zaO s (i+1) % 64*64+zaO s (i+2) % 64:Nat))=true
   then (zaO s i % 16*4096+zaO s (i+1) % 64*64+zaO s (i+2) % 64,3) else (65533,1)
  else if (zaO s i/8==30&&(decide (i+1<s.size)&&zaO s (i+1)/64==2)&&(decide (i+2<s.size)&&zaO s (i+2)/64==2)&&(decide (i+3<s.size)&&zaO s (i+3)/64==2))=true then
   if (decide (65536≤zaO s i % 8*262144+zaO s (i+1) % 64*4096+zaO s (i+2) % 64*64+zaO s (i+3) % 64)&&isB (zaO s i % 8*262144+zaO s (i+1) % 64*4096+zaO s (i+2) % 64*64+zaO s (i+3) % 64:Nat))=true
   then (zaO s i % 8*262144+zaO s (i+1) % 64*4096+zaO s (i+2) % 64*64+zaO s (i+3) % 64,4) else (65533,1)
  else (65533,1):=by
 rw [←zlQ,←zlQ]
 rfl
theorem zsL (s:ByteArray) (i:Nat):Utf8.decode s i=
  if zaO s i<128 then (zaO s i,1)
  else if zaO s i/32=6∧(i+1<s.size∧zaO s (i+1)/64=2) then
   if 128≤zaO s i % 32*64+zaO s (i+1) % 64 then (zaO s i % 32*64+zaO s (i+1) % 64,2) else (65533,1)
  else if (zaO s i/16=14∧(i+1<s.size∧zaO s (i+1)/64=2))∧(i+2<s.size∧zaO s (i+2)/64=2) then
   if 2048≤zaO s i % 16*4096+zaO s (i+1) % 64*64+zaO s (i+2) % 64∧isB (zaO s i % 16*4096+zaO s (i+1) % 64*64+zaO s (i+2) % 64:Nat)=true
   then (zaO s i % 16*4096+zaO s (i+1) % 64*64+zaO s (i+2) % 64,3) else (65533,1)
  else if ((zaO s i/8=30∧(i+1<s.size∧zaO s (i+1)/64=2))∧(i+2<s.size∧zaO s (i+2)/64=2))∧(i+3<s.size∧zaO s (i+3)/64=2) then
   if 65536≤zaO s i % 8*262144+zaO s (i+1) % 64*4096+zaO s (i+2) % 64*64+zaO s (i+3) % 64∧isB (zaO s i % 8*262144+zaO s (i+1) % 64*4096+zaO s (i+2) % 64*64+zaO s (i+3) % 64:Nat)=true
   then (zaO s i % 8*262144+zaO s (i+1) % 64*4096+zaO s (i+2) % 64*64+zaO s (i+3) % 64,4) else (65533,1)
  else (65533,1):=by
 rw [znS]
 simp only [beq_iff_eq,Bool.and_eq_true,decide_eq_true_eq]
theorem zyH (w:World) (u:Value) (t:TypeId): ∀j x,[u][j]? =some x→(w.alloc (.cells #[u] t)).cell? ((⟨w.heap.size,0,none⟩:Addr).add j)=some x:=by
 intro j x hj
 match j,hj with
 |0,hj=>simp at hj;subst hj;simp [Addr.add]
theorem zaS {B:Nat} {a w:World} (h:Below B a w) (n:Nat):Below B a (w.drewN n):=⟨h.os,h.tape,h.output,h.size,h.block⟩
theorem zaR {w w':World} {B:Nat} {t:TypeId} {v:Value} {n:Nat} {xs:List Value} (h:w.ownsRow B t 1 v n xs) (hb:Below w.heap.size w w'):w'.ownsRow B t 1 v n xs:=by
 refine ⟨h.1,?_⟩
 rcases h.2 with h2|⟨g,cap,cur,h1,h2,h3,h4⟩
 ·exact .inl h2
 ·exact .inr ⟨g,cap,cur,h1,h2,(hb.block g (Array.getElem?_eq_some_iff.1 h3).1).trans h3,h4⟩
theorem zrA (l:List UInt8): ∀b:ByteArray,(l.map fun c=>(c.toNat:Int)).foldl (fun r n=>r.push (UInt8.ofNat n.toNat)) b=⟨(b.data.toList++l).toArray⟩:=by
 induction l with
 |nil=>intro b;simp
 |cons c l ih=>
  intro b
  simp only [List.map_cons,List.foldl_cons]
  rw [ih]
  simp [ByteArray.push]
theorem zgV {P:Program} (w:World) (src dst e:TypeId) (v:Value) (l:List UInt8) (hr:RowR w v (Lib.byteCells l))
  (hs:P.underlying src=some (.slice e)) (he:P.underlying e=some (.int .u8)) (hd:P.underlying dst=some .string):
  (convert src dst v).run P w= .ok (.string ⟨l.toArray⟩) w:=by
 obtain ⟨ao,c,rfl,hc⟩:=hr
 rw [run_convert_bytes_string w src dst e ao _ c hs he hd]
 cases ao with
 |none=>
  have hl:l=[]:=by
   cases l with
   |nil=>rfl
   |cons x l=>
    obtain ⟨ad,h,_⟩:=hc 0 (.int .u8 x.toNat) rfl
    cases h
  subst hl
  rfl
 |some a=>
  have h1:=run_loadCells_list (P:=P) (w:=w) a (Lib.byteCells l) (fun j u hj=>by
   obtain ⟨ad,h,hx⟩:=hc j u hj
   cases h
   exact hx)
  have h2:Lib.byteCells l=(l.map fun c=>(c.toNat:Int)).map (Value.int .u8):=by simp [Lib.byteCells]
  rw [run_bytesToString w a _ c (l.map fun c=>(c.toNat:Int)) (by rw [h1,h2]),zrA]
  rfl
theorem ztB (x y:List UInt8):(ByteArray.mk x.toArray++ByteArray.mk y.toArray)=ByteArray.mk (x++y).toArray:=ByteArray.mk_append_mk x y
theorem Tryz.infoByte:(Tryz.prog.info? 5).map (fun i=>(i.zero,i.size,i.bytes))=some (some (.int .u8 0),1,1):=by kernel_rfl
def lowC (c:UInt8):UInt8:=if 65≤c.toNat∧c.toNat≤90 then c+32 else c
def zaN (l:List UInt8):List UInt8:=l.map lowC
theorem znO {c:UInt8} (h1:65≤c.toNat) (h2:c.toNat≤90):(lowC c).toNat=c.toNat+32:=by
 unfold lowC
 rw [if_pos ⟨h1,h2⟩,UInt8.toNat_add]
 simp
 omega
theorem znQ {c:UInt8} (h:c.toNat<65∨90<c.toNat):lowC c=c:=by
 unfold lowC
 rw [if_neg (by omega)]
theorem zcZ (s:ByteArray) (k:Nat) (h:k<s.size):s.data.toList[k]? =some s[k]:=by
 rw [List.getElem?_eq_getElem (by simpa using h)]
 rfl
theorem zcX (s:ByteArray) (k:Nat) (h:k<s.size):s.data.toList.take (k+1)=s.data.toList.take k++[s[k]]:=by
 rw [List.take_succ_eq_append_getElem (by simpa using h)]
 rfl
theorem zbW (s:ByteArray) (k:Nat) (h: ¬k<s.size):s.data.toList.take k=s.data.toList:=List.take_of_length_le (by simpa using h)
theorem zaB (s:ByteArray):s.data.toList.length=s.size:=by simp
theorem zqF (s:ByteArray) (k:Nat) (h:k<s.size):zaN (s.data.toList.take (k+1))=zaN (s.data.toList.take k)++[lowC s[k]]:=by
 rw [zcX s k h];simp [zaN]
theorem zgM (l:List UInt8):(zaN l).length=l.length:=by simp [zaN]
theorem zhB (l:List UInt8) (c:UInt8) (n:Int) (h:(c.toNat:Int)=n):Lib.byteCells (l++[c])=Lib.byteCells l++[.int .u8 n]:=by
 rw [Lib.byteCells_append,←h];rfl
theorem zaW {P:Program} (w:World) {ops:Array Oper} {rest:List Oper} {o:Oper} {a:Act} {Q:Exit→Act→World→Prop} (hgd:o.guard=none) (s x:Operand) (t:TypeId)
  (ho:o.op= .call {callee:= .builtin .append,args:= #[s,x],argTypes:= #[t,t]})
  (base:Nat) (e:TypeId) (i:TypeInfo) (z:Value) (bytes:Nat) (ht:P.underlying t=some (.slice e)) (hi:P.info? e=some i) (hz:i.zero=some z)
  (hsize:i.size=1) (hby:i.bytes=bytes) (hzs:z.cells.size=1)
  (v:Value) (n:Nat) (xs:List Value) (hs:a.eval s=v) (hown:w.ownsRow base e 1 v n xs) (u:Value) (hx:a.eval x= .slice (some ⟨w.heap.size,0,none⟩) 1 1) (hu:u.oneCell'=true)
  (h63:n+1≤9223372036854775807) (hbytes:(n+1)*bytes≤140737488355328) (hbase:base≤w.heap.size)
  (h: ∀v' w',w'.ownsRow base e 1 v' (n+1) (xs++[u])→Below base w w'→wpList P ops Q rest (a.put o.dst v') w'):wpList P ops Q (o::rest) a (w.alloc (.cells #[u] e)):=by
 refine wpList_append_own (w.alloc (.cells #[u] e)) hgd s x t ho base e i z 1 bytes ht hi hz hsize hby hzs (by decide) v n xs hs (hown.alloc _) ⟨w.heap.size,0,none⟩ 1 1 [u] hx rfl (zyH w u e) ?_ h63 hbytes (by simp;omega) ?_
 ·intro y hy;simp at hy;subst hy;exact hu
 ·intro v' w1 hown' hgrow _
  exact h v' w1 hown' (((Below.refl base w).alloc hbase _).grown hgrow (by simp;omega) (fun k hk=>(hown.lt k hk).1))
def Gath (B:Nat) (w:World) (v:Value) (l:List UInt8):Prop:=w.ownsRow B 5 1 v l.length (Lib.byteCells l)
theorem Gath.conv {B:Nat} {w:World} {v:Value} {l:List UInt8} (h:Gath B w v l):(convert 119 9 v).run Tryz.prog w= .ok (.string ⟨l.toArray⟩) w:=
 zgV w _ _ 5 _ l (RowR.of_own (by rw [Lib.byteCells_length];exact h)) Tryz.underlying119 Tryz.underlying5 Tryz.underlying9
theorem Gath.nil (B:Nat) (w:World):Gath B w (.slice none 0 0) []:=World.ownsRow_nil _ _ _ _
theorem Gath.snoc {B:Nat} {w:World} {v:Value} {l:List UInt8} {c:UInt8} {n:Int} (h:w.ownsRow B 5 1 v (l.length+1) (Lib.byteCells l++[.int .u8 n])) (hn:(c.toNat:Int)=n):Gath B w v (l++[c]):=by
 unfold Gath
 rw [zhB l c n hn,List.length_append]
 exact h
theorem zhK (s:ByteArray) (w:World) (hs:s.size≤1073741824):
  Calls Tryz.prog 79 #[.string s] w fun e w'=>e= .returned (.string ⟨(zaN s.data.toList).toArray⟩)∧Below w.heap.size w w':=by
 obtain ⟨i0,hi,hz0,hz1,hz2⟩:=info_parts Tryz.infoByte
 go_enter Tryz.func79,Tryz.ntmps79
 go_wp2
 go_loopw [3,4] (fun v i wr=> ∃(k:Nat) (T:List UInt8),k≤s.size∧i= .int .i64 k∧Gath w.heap.size wr v T∧T.length≤k∧Hid (T=zaN (s.data.toList.take k))∧Below w.heap.size w wr) (fun _ i _=>s.size - (intOf i).toNat)
 case atStart=>exact ⟨0,[],Nat.zero_le _,rfl,Gath.nil _ _,by simp,rfl,Below.refl _ _⟩
 case round=>
  obtain ⟨k,T,hk,rfl,hown,hTl,HT,hbw⟩:=hrel
  have hsz:=hbw.size
  unfold Gath at hown
  by_cases hlt:k<s.size
  ·obtain ⟨c,hc⟩: ∃c,(s[k]'hlt).toNat=c:=⟨_,rfl⟩
   have hc256:c<256:=by rw [←hc];exact (s[k]'hlt).toNat_lt
   have hsn:=zqF s k hlt
   rw [←HT.out] at hsn
   obtain ⟨d,hd⟩: ∃d:UInt8,d=lowC s[k]:=⟨_,rfl⟩
   rw [←hd] at hsn
   have HSN:=zzC hsn
   by_cases hu:65≤c∧c≤90
   ·have hdc:d.toNat=c+32:=by rw [hd,znO (by omega) (by omega),hc]
    have HDC:=zzC hdc
    obtain ⟨hu1,hu2⟩:=hu
    clear hd hdc hsn
    go_wp2_with (first|(at_builtin;refine zaW _ rfl _ _ 119 rfl w.heap.size 5 i0 (.int .u8 0) 1 Tryz.underlying119 hi hz0 hz1 hz2 rfl _ _ _ rfl hown (.int .u8 ((c:Int)+32)) rfl rfl (by omega) (by omega) hsz ?_;intro v' w1 hown' hk'))
    go_roundw
    case rel=>exact ⟨k+1,T++[d],by omega,by go_num,Gath.snoc hown' (by rw [HDC.out];omega),by simp;omega,HSN.out.symm,hbw.trans hk'⟩
    case measure=>simp [intOf];omega
   ·have hdc:d.toNat=c:=by rw [hd,znQ (by omega),hc]
    have HDC:=zzC hdc
    clear hd hdc hsn
    go_wp2_with (first|(at_builtin;refine zaW _ rfl _ _ 119 rfl w.heap.size 5 i0 (.int .u8 0) 1 Tryz.underlying119 hi hz0 hz1 hz2 rfl _ _ _ rfl hown (.int .u8 (c:Int)) rfl rfl (by omega) (by omega) hsz ?_;intro v' w1 hown' hk'))
    all_goals
     go_roundw
     case rel=>exact ⟨k+1,T++[d],by omega,by go_num,Gath.snoc hown' (by rw [HDC.out]),by simp;omega,HSN.out.symm,hbw.trans hk'⟩
     case measure=>simp [intOf];omega
  ·have hcv:=Gath.conv hown
   have hfin:zaN s.data.toList=T:=by rw [HT.out,zbW s k hlt]
   have HF:=zzC hfin
   clear hfin
   go_wp2
   go_ret
   exact ⟨by rw [HF.out];rfl,hbw⟩
def zdR (B:Nat) (s:ByteArray) (k cap:Nat) (w:World):Prop:=
 ∃cur:Array Value,w.heap[B]? =some (.cells cur 5 (cap,cap+1))∧cur.size=cap∧s.size≤cap∧
  ∀j (h:j<s.size),cur[j]? =some (.int .u8 ((if j<k then lowC s[j] else s[j]).toNat:Int))
theorem zlJ (w:World) (s:ByteArray):zdR w.heap.size s 0 (grownCap w s.size 0 5) (Lib.bytesWorld w 5 s):=by
 have hge:s.size≤grownCap w s.size 0 5:=grownCap_ge _ _ _ _
 have hsz:(Lib.bytesCells w 5 s).size=grownCap w s.size 0 5:=by
  unfold Lib.bytesCells
  have:s.data.size=s.size:=rfl
  simp [this];omega
 refine ⟨Lib.bytesCells w 5 s,?_,hsz,hge,?_⟩
 ·rw [Lib.bytesWorld_at_new,hsz]
 ·intro j h
  have hj:j<s.data.size:=h
  rw [if_neg (by omega)]
  unfold Lib.bytesCells
  rw [Array.getElem?_append_left (by simpa using hj)]
  simp
  exact ⟨s.data[j],Array.getElem?_eq_getElem hj,rfl⟩
theorem zdR.cell {B:Nat} {s:ByteArray} {k cap:Nat} {w:World} (h:zdR B s k cap w) (hk:k<s.size):w.cell? ⟨B,k,none⟩=some (.int .u8 (s[k].toNat:Int)):=by
 obtain ⟨cur,h1,_,_,h4⟩:=h
 rw [cell_of_row w B k cur _ _ h1,h4 k hk,if_neg (by omega)]
theorem zdR.frozen {B:Nat} {s:ByteArray} {k cap:Nat} {w:World} (h:zdR B s k cap w) (hk:k<s.size):w.frozen? ⟨B,k,none⟩=false:=by
 obtain ⟨cur,h1,_,h3,_⟩:=h
 simp [World.frozen?,h1]
 omega
theorem zdR.same {B:Nat} {s:ByteArray} {k cap:Nat} {w:World} (h:zdR B s k cap w) (hk:k<s.size) (he:lowC s[k]=s[k]):zdR B s (k+1) cap w:=by
 obtain ⟨cur,h1,h2,h3,h4⟩:=h
 refine ⟨cur,h1,h2,h3,fun j hj=> ?_⟩
 rw [h4 j hj]
 by_cases e:j=k
 ·subst e;rw [if_neg (by omega),if_pos (by omega),he]
 ·by_cases e2:j<k
  ·rw [if_pos e2,if_pos (by omega)]
  ·rw [if_neg e2,if_neg (by omega)]
theorem zdR.put {B:Nat} {s:ByteArray} {k cap:Nat} {w:World} (h:zdR B s k cap w) (hk:k<s.size) (n:Int) (hn:n=((lowC s[k]).toNat:Int)):zdR B s (k+1) cap (w.setCell ⟨B,k,none⟩ (.int .u8 n)):=by
 obtain ⟨cur,h1,h2,h3,h4⟩:=h
 refine ⟨cur.setIfInBounds k (.int .u8 n),?_,by simpa using h2,h3,fun j hj=> ?_⟩
 ·simp [World.setCell,Array.getElem?_modify,h1]
 ·rw [Array.getElem?_setIfInBounds]
  by_cases e:k=j
  ·subst e;rw [if_pos rfl,if_pos (by omega),if_pos (by omega),hn]
  ·rw [if_neg e,h4 j hj]
   by_cases e2:j<k
   ·rw [if_pos e2,if_pos (by omega)]
   ·rw [if_neg e2,if_neg (by omega)]
theorem zdR.conv {B:Nat} {s:ByteArray} {cap:Nat} {w:World} {k:Nat} (h:zdR B s k cap w) (hk: ¬k<s.size):
  (convert 119 9 (.slice (some ⟨B,0,none⟩) s.size cap)).run Tryz.prog w= .ok (.string ⟨(zaN s.data.toList).toArray⟩) w:=by
 refine zgV w _ _ 5 _ _ ?_ Tryz.underlying119 Tryz.underlying5 Tryz.underlying9
 obtain ⟨cur,h1,h2,h3,h4⟩:=h
 have hl:(Lib.byteCells (zaN s.data.toList)).length=s.size:=by rw [Lib.byteCells_length,zgM,zaB]
 refine ⟨_,cap,by rw [hl],fun j u hj=>⟨_,rfl,?_⟩⟩
 have hlt:j<s.size:=by rw [←hl];exact (List.getElem?_eq_some_iff.1 hj).1
 rw [show (Addr.add ⟨B,0,none⟩ j)=⟨B,j,none⟩ from by unfold Addr.add;split<;>simp_all]
 rw [cell_of_row w B j cur _ _ h1,h4 j hlt,if_pos (by omega),←hj]
 simp only [Lib.byteCells,zaN,List.map_map,List.getElem?_map,zcZ s j hlt]
 rfl
theorem ztX (s:ByteArray) (w:World) (hs:s.size≤1073741824):
  Calls Tryz.prog 76 #[.string s] w fun e w'=>e= .returned (.string ⟨(zaN s.data.toList).toArray⟩)∧Below w.heap.size w w':=by
 have hcv0:=Lib.run_convert_string_bytes (P:=Tryz.prog) w 9 119 5 s Tryz.underlying9 Tryz.underlying119 Tryz.underlying5
 have hst:=zlJ w s
 have hb0:Below w.heap.size w (Lib.bytesWorld w 5 s):=⟨rfl,rfl,rfl,by rw [Lib.bytesWorld_size];omega,fun k hk=>Lib.bytesWorld_at_old w _ s k hk⟩
 have HST:=zzC hst
 clear hst
 generalize hcap:grownCap w s.size 0 5=cap at*
 generalize Lib.bytesWorld w 5 s=wb at*
 clear hcap
 go_enter Tryz.func76,Tryz.ntmps76
 go_wp2
 clear hcv0
 go_loopw [10] (fun i wr=> ∃k:Nat,k≤s.size∧i= .int .i64 k∧zdR w.heap.size s k cap wr∧Below w.heap.size w wr) (fun i _=>s.size - (intOf i).toNat)
 case atStart=>exact ⟨0,Nat.zero_le _,rfl,HST.out,hb0⟩
 case round=>
  obtain ⟨k,hk,rfl,hr,hbw⟩:=hrel
  by_cases hlt:k<s.size
  ·have hcell:=hr.cell hlt
   have hfr:=hr.frozen hlt
   obtain ⟨c,hc⟩: ∃c,(s[k]'hlt).toNat=c:=⟨_,rfl⟩
   have hc256:c<256:=by rw [←hc];exact (s[k]'hlt).toNat_lt
   rw [hc] at hcell
   by_cases hu:65≤c∧c≤90
   ·have hdc:((lowC s[k]).toNat:Int)=(c:Int)+32:=by rw [znO (by omega) (by omega),hc];omega
    have hr2:=hr.put hlt ((c:Int)+32) hdc.symm
    have HR2:=zzC hr2
    have hbw2:=hbw.setCell (p:=⟨w.heap.size,k,none⟩) (Nat.le_refl _) (.int .u8 ((c:Int)+32))
    have HC:=zzC hc
    obtain ⟨hu1,hu2⟩:=hu
    have ea:(c:Int) - 65+97=(c:Int)+32:=by omega
    clear hdc hr2 hc
    go_wp2
    go_roundw
    case rel=>exact ⟨k+1,by omega,by go_num,by first|exact HR2.out|(rw [ea];exact HR2.out),by first|exact hbw2|(rw [ea];exact hbw2)⟩
    case measure=>simp [intOf];omega
   ·have hr2:=hr.same hlt (znQ (by omega))
    have HR2:=zzC hr2
    clear hr2 hc
    go_wp2
    all_goals
     go_roundw
     case rel=>exact ⟨k+1,by omega,by go_num,HR2.out,hbw⟩
     case measure=>simp [intOf];omega
  ·have hcv:=hr.conv hlt
   go_wp2
   go_ret
   exact ⟨rfl,hbw⟩
theorem Tryz.infoStr:(Tryz.prog.info? 9).map (fun i=>(i.zero,i.size,i.bytes))=some (some (.string ⟨#[]⟩),1,16):=by kernel_rfl
def hasB (l:List UInt8) (c:UInt8):Bool:=l.any (· ==c)
theorem zfG (l:List UInt8) (c:UInt8):(hasB l c=true→0≤Lib.indexByte l c)∧(hasB l c=false→Lib.indexByte l c= -1):=by
 induction l with
 |nil=>simp [hasB,Lib.indexByte]
 |cons b l ih=>
  have hge:=Lib.indexByte_ge l c
  by_cases e:b==c
  ·simp [hasB,Lib.indexByte,e]
  ·have e':(b==c)=false:=by simpa using e
   have h1:hasB (b::l) c=hasB l c:=by simp [hasB,e']
   simp only [Lib.indexByte,e',h1,Bool.false_eq_true,if_false]
   refine ⟨fun h=> ?_,fun h=> ?_⟩
   ·have h2:=ih.1 h
    rw [if_neg (by simp;omega)]
    omega
   ·have h2:=ih.2 h
    rw [if_pos (by simp [h2])]
theorem znB (c:UInt8):((c.toNat:Int).toNat).toUInt8=c:=by
 simp
theorem ib_yes (s:ByteArray) (c:UInt8) (w:World) (h:hasB s.data.toList c=true):
  Calls Tryz.prog 107 #[.string s,.int .u8 (c.toNat:Int)] w fun e w'=> ∃x:Int,e= .returned (.int .i64 x)∧0≤x∧w=w':=by
 refine (Tryz.strings_IndexByte s _ w).mono ?_
 rintro e w' ⟨rfl,rfl⟩
 rw [znB]
 exact ⟨_,rfl,(zfG _ _).1 h,rfl⟩
theorem ib_no (s:ByteArray) (c:UInt8) (w:World) (h:hasB s.data.toList c=false):
  Calls Tryz.prog 107 #[.string s,.int .u8 (c.toNat:Int)] w fun e w'=>e= .returned (.int .i64 (-1))∧w=w':=by
 refine (Tryz.strings_IndexByte s _ w).mono ?_
 rintro e w' ⟨rfl,rfl⟩
 rw [znB,(zfG _ _).2 h]
 exact ⟨rfl,rfl⟩
theorem zwN (s:ByteArray) (c:UInt8) (k:Nat) (h:k<s.size) (e:s[k].toNat=c.toNat):hasB s.data.toList c=true:=by
 unfold hasB
 rw [List.any_eq_true]
 refine ⟨s[k],?_,by simpa using UInt8.toNat_inj.1 e⟩
 show s.data[k]∈_
 simp
theorem zyF (s:ByteArray) (c:UInt8) (h: ∀k (h:k<s.size),s[k].toNat≠c.toNat):hasB s.data.toList c=false:=by
 unfold hasB
 rw [List.any_eq_false]
 intro x hx
 obtain ⟨k,hk,rfl⟩:=List.getElem_of_mem hx
 have:=h k (by simpa using hk)
 intro e
 have e':s.data[k]=c:=by simpa using e
 exact this (congrArg UInt8.toNat e')
theorem znC (s:ByteArray) (c:UInt8) (w:World) (hs:s.size≤1073741824):
  Calls Tryz.prog 58 #[.string s,.int .u8 (c.toNat:Int)] w fun e w'=>e= .returned (.bool (hasB s.data.toList c))∧w=w':=by
 obtain ⟨n,hn⟩: ∃n,c.toNat=n:=⟨_,rfl⟩
 have HN:=zzC hn
 rw [hn]
 clear hn
 go_enter Tryz.func58,Tryz.ntmps58
 go_wp2
 go_loop [5] (fun i=> ∃k:Nat,k≤s.size∧i= .int .i64 k∧Hid (∀j (h:j<s.size),j<k→s[j].toNat≠c.toNat)) (fun i=>s.size - (intOf i).toNat)
 case atStart=>exact ⟨0,Nat.zero_le _,rfl,fun j _ h=>by omega⟩
 case round=>
  obtain ⟨k,hk,rfl,H⟩:=hrel
  by_cases hlt:k<s.size
  ·obtain ⟨m,hm⟩: ∃m,(s[k]'hlt).toNat=m:=⟨_,rfl⟩
   by_cases e:m=n
   ·subst e
    have HF:=zzC (zwN s c k hlt (by rw [hm,HN.out]))
    go_wp2
    go_ret
    exact ⟨zaJ HF.out.symm,rfl⟩
   ·have b1:((m:Int)==(n:Int))=false:=beq_eq_false_iff_ne.2 (by omega)
    have HM:=zzC hm
    go_wp2
    go_round
    case rel=>
     refine ⟨k+1,by omega,by go_num,fun j hj hjk=> ?_⟩
     by_cases e2:j=k
     ·subst e2;rw [HM.out,HN.out];exact e
     ·exact H.out j hj (by omega)
    case measure=>simp [intOf];omega
  ·have HF:=zzC (zyF s c (fun j hj=>H.out j hj (by omega)))
   go_wp2
   go_ret
   exact ⟨zaJ HF.out.symm,rfl⟩
theorem zlE {P:Program} (w:World) (t:TypeId) (s:ByteArray) (i j:Int) (a b:Nat) (hi:i=a) (hj:j=b) (hab:a≤b) (hb:b≤s.size) (h:P.underlying t=some .string):
  (Instr.slice t (.string s) (some (.int .i64 i)) (some (.int .i64 j)) none).run P w= .ok (.string (s.extract a b)) w:=by
 subst hi hj
 rw [run_slice_string_if w t s .i64 .i64 _ _ h,if_pos (by omega),if_pos (by omega)]
 simp
def zbX (p:UInt8→Bool) (st:List (List UInt8)×List UInt8) (c:UInt8):List (List UInt8)×List UInt8:=
 if p c then (st.1++[st.2],[]) else (st.1,st.2++[c])
def spl (p:UInt8→Bool) (l:List UInt8):List (List UInt8)×List UInt8:=l.foldl (zbX p) ([],[])
def zcR (p:UInt8→Bool) (l:List UInt8):List (List UInt8):=(spl p l).1++[(spl p l).2]
def strC (l:List UInt8):Value:= .string ⟨l.toArray⟩
def zsM (l:List (List UInt8)):List Value:=l.map strC
theorem zsS (p:UInt8→Bool) (s:ByteArray) (k:Nat) (h:k<s.size) (hp:p s[k]=true):spl p (s.data.toList.take (k+1))=((spl p (s.data.toList.take k)).1++[(spl p (s.data.toList.take k)).2],[]):=by
 rw [zcX s k h]
 simp [spl,zbX,hp]
theorem zxS (p:UInt8→Bool) (s:ByteArray) (k:Nat) (h:k<s.size) (hp:p s[k]=false):spl p (s.data.toList.take (k+1))=((spl p (s.data.toList.take k)).1,(spl p (s.data.toList.take k)).2++[s[k]]):=by
 rw [zcX s k h]
 simp [spl,zbX,hp]
theorem zdK (s:ByteArray) (a b:Nat) (l:List UInt8) (h:(s.data.toList.drop a).take (b - a)=l):s.extract a b=⟨l.toArray⟩:=by
 apply ByteArray.ext
 apply Array.ext'
 rw [Lib.extract_data,h]
theorem zoJ (s:ByteArray) (a k:Nat) (ha:a≤k) (h:k<s.size):(s.data.toList.drop a).take (k+1 - a)=(s.data.toList.drop a).take (k - a)++[s[k]]:=by
 rw [show k+1 - a=(k - a)+1 from by omega,List.take_succ_eq_append_getElem (by simp;omega)]
 congr 2
 rw [List.getElem_drop]
 have:a+(k - a)=k:=by omega
 simp only [this]
 rfl
def zbY (B:Nat) (w:World) (v:Value) (ps:List (List UInt8)):Prop:=w.ownsRow B 9 1 v ps.length (zsM ps)
theorem zbY.nil (B:Nat) (w:World):zbY B w (.slice none 0 0) []:=World.ownsRow_nil _ _ _ _
theorem zbY.snoc {B:Nat} {w:World} {v:Value} {ps:List (List UInt8)} {x:ByteArray} {l:List UInt8} (h:w.ownsRow B 9 1 v (ps.length+1) (zsM ps++[.string x])) (hx:x=⟨l.toArray⟩):zbY B w v (ps++[l]):=by
 unfold zbY zsM
 rw [List.map_append,List.length_append]
 subst hx
 exact h
def zpW (B:Nat) (ps:List (List UInt8)) (w:World) (e:Ending) (w':World):Prop:= ∃v,e= .returned v∧zbY B w' v ps∧Below B w w'
theorem zdD (s at_:ByteArray) (w:World) (hs:s.size≤1073741824):
  Calls Tryz.prog 139 #[.string s,.string at_] w (zpW w.heap.size (zcR (hasB at_.data.toList) s.data.toList) w):=by
 obtain ⟨i0,hi,hz0,hz1,hz2⟩:=info_parts Tryz.infoStr
 go_enter Tryz.func139,Tryz.ntmps139
 go_wp2
 go_loopw [5,6,10] (fun v fr i wr=> ∃(k a:Nat) (ps:List (List UInt8)),k≤s.size∧a≤k∧i= .int .i64 k∧fr= .int .i64 a∧zbY w.heap.size wr v ps∧ps.length≤k∧Hid (spl (hasB at_.data.toList) (s.data.toList.take k)=(ps,(s.data.toList.drop a).take (k - a)))∧Below w.heap.size w wr) (fun _ _ i _=>s.size - (intOf i).toNat)
 case atStart=>exact ⟨0,0,[],Nat.zero_le _,Nat.zero_le _,rfl,rfl,zbY.nil _ _,by simp,rfl,Below.refl _ _⟩
 case round=>
  obtain ⟨k,a,ps,hk,ha,rfl,rfl,hown,hpl,HS,hbw⟩:=hrel
  have hsz:=hbw.size
  unfold zbY at hown
  by_cases hlt:k<s.size
  ·by_cases hp:hasB at_.data.toList s[k]=true
   ·have hsn:=zsS (hasB at_.data.toList) s k hlt hp
    rw [HS.out] at hsn
    have HSN:=zzC hsn
    have HP:=zzC hp
    clear hsn hp
    go_wp2_with (first|(go_at_call 107;refine (ib_yes _ _ _ HP.out).mono ?_;rintro e w' ⟨x,rfl,hx,rfl⟩)|(at_builtin;refine zaW _ rfl _ _ 45 rfl w.heap.size 9 i0 (.string ⟨#[]⟩) 16 Tryz.underlying45 hi hz0 hz1 hz2 rfl _ _ _ rfl hown (.string (s.extract a k)) rfl rfl (by omega) (by omega) hsz ?_;intro v' w1 hown' hk'))
    go_roundw
    case rel=>
     refine ⟨k+1,k+1,ps++[(s.data.toList.drop a).take (k - a)],by omega,by omega,by go_num,by go_num,zbY.snoc hown' (zdK s a k _ rfl),by simp;omega,?_,hbw.trans hk'⟩
     show _=_
     rw [HSN.out,Nat.sub_self,List.take_zero]
    case measure=>simp [intOf];omega
   ·have hp':hasB at_.data.toList s[k]=false:=by simpa using hp
    have hsn:=zxS (hasB at_.data.toList) s k hlt hp'
    rw [HS.out] at hsn
    have HSN:=zzC hsn
    have HP:=zzC hp'
    clear hsn hp hp'
    go_wp2_with (go_at_call 107;refine (ib_no _ _ _ HP.out).mono ?_;rintro e w' ⟨rfl,rfl⟩)
    go_roundw
    case rel=>
     refine ⟨k+1,a,ps,by omega,by omega,by go_num,rfl,hown,by omega,?_,hbw⟩
     show _=_
     rw [HSN.out,zoJ s a k ha hlt]
    case measure=>simp [intOf];omega
  ·obtain rfl:k=s.size:=by omega
   have hfin:zcR (hasB at_.data.toList) s.data.toList=ps++[(s.data.toList.drop a).take (s.size - a)]:=by
    have:=HS.out
    rw [zbW s s.size hlt] at this
    unfold zcR
    rw [this]
   have HF:=zzC hfin
   clear hfin
   go_wp2_with (at_builtin;refine zaW _ rfl _ _ 45 rfl w.heap.size 9 i0 (.string ⟨#[]⟩) 16 Tryz.underlying45 hi hz0 hz1 hz2 rfl _ _ _ rfl hown (.string (s.extract a s.size)) rfl rfl (by omega) (by omega) hsz ?_;intro v' w1 hown' hk')
   go_ret
   exact ⟨v',rfl,by rw [HF.out];exact zbY.snoc hown' (zdK s a s.size _ rfl),hbw.trans hk'⟩
theorem zqE (T:List UInt8) (s:ByteArray) (k:Nat) (h:k<s.size):(ByteArray.mk T.toArray++s.extract k (k+1))=ByteArray.mk (T++[s[k]]).toArray:=by
 have e:s.extract k (k+1)=⟨[s[k]].toArray⟩:=by
  refine zdK s k (k+1) [s[k]] ?_
  have:=zoJ s k k (Nat.le_refl _) h
  rw [this];simp
 rw [e,ztB]
theorem zbT (s at_:ByteArray) (w:World) (hs:s.size≤1073741824) (ha:at_.size≤1073741824):
  Calls Tryz.prog 184 #[.string s,.string at_] w (zpW w.heap.size (zcR (hasB at_.data.toList) s.data.toList) w):=by
 obtain ⟨i0,hi,hz0,hz1,hz2⟩:=info_parts Tryz.infoStr
 go_enter Tryz.func184,Tryz.ntmps184
 go_wp2
 go_loopw [5,6,7] (fun v pa i wr=> ∃(k:Nat) (ps:List (List UInt8)) (T:List UInt8),k≤s.size∧i= .int .i64 k∧pa= .string ⟨T.toArray⟩∧T.length≤k∧zbY w.heap.size wr v ps∧ps.length≤k∧Hid (spl (hasB at_.data.toList) (s.data.toList.take k)=(ps,T))∧Below w.heap.size w wr) (fun _ _ i _=>s.size - (intOf i).toNat)
 case atStart=>exact ⟨0,[],[],Nat.zero_le _,rfl,rfl,by simp,zbY.nil _ _,by simp,rfl,Below.refl _ _⟩
 case round=>
  obtain ⟨k,ps,T,hk,rfl,rfl,hTl,hown,hpl,HS,hbw⟩:=hrel
  have hsz:=hbw.size
  unfold zbY at hown
  by_cases hlt:k<s.size
  ·by_cases hp:hasB at_.data.toList s[k]=true
   ·have hsn:=zsS (hasB at_.data.toList) s k hlt hp
    rw [HS.out] at hsn
    have HSN:=zzC hsn
    clear hsn
    go_wp2_with (first|(go_at_call 58;refine (znC _ _ _ ha).mono ?_;rintro e w' ⟨rfl,rfl⟩)|(at_builtin;refine zaW _ rfl _ _ 45 rfl w.heap.size 9 i0 (.string ⟨#[]⟩) 16 Tryz.underlying45 hi hz0 hz1 hz2 rfl _ _ _ rfl hown (.string ⟨T.toArray⟩) rfl rfl (by omega) (by omega) hsz ?_;intro v' w1 hown' hk'))
    go_roundw
    case rel=>
     exact ⟨k+1,ps++[T],[],by omega,by go_num,rfl,by simp,zbY.snoc hown' rfl,by simp;omega,HSN.out,hbw.trans hk'⟩
    case measure=>simp [intOf];omega
   ·have hp':hasB at_.data.toList s[k]=false:=by simpa using hp
    have hsn:=zxS (hasB at_.data.toList) s k hlt hp'
    rw [HS.out] at hsn
    have HSN:=zzC hsn
    clear hsn hp
    have hsl:=fun W:World=>zlE (P:=Tryz.prog) W 9 s (k:Int) ((k:Int)+1) k (k+1) rfl (by omega) (by omega) (by omega) Tryz.underlying9
    go_wp2_with (go_at_call 58;refine (znC _ _ _ ha).mono ?_;rintro e w' ⟨rfl,rfl⟩)
    go_roundw
    case rel=>
     refine ⟨k+1,ps,T++[s[k]],by omega,by go_num,?_,by simp;omega,hown,by omega,HSN.out,hbw⟩
     rw [←zqE T s k hlt]
    case measure=>simp [intOf];omega
  ·have hfin:zcR (hasB at_.data.toList) s.data.toList=ps++[T]:=by
    have:=HS.out
    rw [zbW s k hlt] at this
    unfold zcR
    rw [this]
   have HF:=zzC hfin
   clear hfin
   go_wp2_with (at_builtin;refine zaW _ rfl _ _ 45 rfl w.heap.size 9 i0 (.string ⟨#[]⟩) 16 Tryz.underlying45 hi hz0 hz1 hz2 rfl _ _ _ rfl hown (.string ⟨T.toArray⟩) rfl rfl (by omega) (by omega) hsz ?_;intro v' w1 hown' hk')
   go_ret
   exact ⟨v',rfl,by rw [HF.out];exact zbY.snoc hown' rfl,hbw.trans hk'⟩
theorem zbC {k:IntKind} {a b:Int} (h:a=b):Ending.returned (.int k a)= .returned (.int k b):=by rw [h]
def zaU (r:Int):Bool:=decide (48≤r∧r≤57)
def valZ (r:Int):Int:=if 48≤r∧r≤57 then r - 48 else if 65≤r∧r≤70 then r - 55 else if 97≤r∧r≤102 then r - 87 else -1
theorem zcG (r:Int) (w:World):
  Calls Tryz.prog 100 #[.int .i32 r] w fun e w'=>e= .returned (.bool (zaU r))∧w=w':=by
 rcases (show r<48∨(48≤r∧r≤57)∨(57<r∧r<65)∨(65≤r∧r≤70)∨(70<r∧r≤90)∨(90<r∧r<97)∨(97≤r∧r≤102)∨(102<r∧r≤122)∨122<r from by omega) with hA|⟨hA,hB⟩|⟨hA,hB⟩|⟨hA,hB⟩|⟨hA,hB⟩|⟨hA,hB⟩|⟨hA,hB⟩|⟨hA,hB⟩|hA
 ·have HB:=zzC (show zaU r=false from zzD (by omega))
  go_enter Tryz.func100,Tryz.ntmps100
  go_wp2
  go_ret
  exact ⟨zaJ (by first|exact HB.out.symm|(rw [HB.out];simp;omega)),rfl⟩
 ·have HB:=zzC (show zaU r=true from decide_eq_true (by omega))
  go_enter Tryz.func100,Tryz.ntmps100
  go_wp2
  go_ret
  exact ⟨zaJ (by first|exact HB.out.symm|(rw [HB.out];simp;omega)),rfl⟩
 ·have HB:=zzC (show zaU r=false from zzD (by omega))
  go_enter Tryz.func100,Tryz.ntmps100
  go_wp2
  go_ret
  exact ⟨zaJ (by first|exact HB.out.symm|(rw [HB.out];simp;omega)),rfl⟩
 ·have HB:=zzC (show zaU r=false from zzD (by omega))
  go_enter Tryz.func100,Tryz.ntmps100
  go_wp2
  go_ret
  exact ⟨zaJ (by first|exact HB.out.symm|(rw [HB.out];simp;omega)),rfl⟩
 ·have HB:=zzC (show zaU r=false from zzD (by omega))
  go_enter Tryz.func100,Tryz.ntmps100
  go_wp2
  go_ret
  exact ⟨zaJ (by first|exact HB.out.symm|(rw [HB.out];simp;omega)),rfl⟩
 ·have HB:=zzC (show zaU r=false from zzD (by omega))
  go_enter Tryz.func100,Tryz.ntmps100
  go_wp2
  go_ret
  exact ⟨zaJ (by first|exact HB.out.symm|(rw [HB.out];simp;omega)),rfl⟩
 ·have HB:=zzC (show zaU r=false from zzD (by omega))
  go_enter Tryz.func100,Tryz.ntmps100
  go_wp2
  go_ret
  exact ⟨zaJ (by first|exact HB.out.symm|(rw [HB.out];simp;omega)),rfl⟩
 ·have HB:=zzC (show zaU r=false from zzD (by omega))
  go_enter Tryz.func100,Tryz.ntmps100
  go_wp2
  go_ret
  exact ⟨zaJ (by first|exact HB.out.symm|(rw [HB.out];simp;omega)),rfl⟩
 ·have HB:=zzC (show zaU r=false from zzD (by omega))
  go_enter Tryz.func100,Tryz.ntmps100
  go_wp2
  go_ret
  exact ⟨zaJ (by first|exact HB.out.symm|(rw [HB.out];simp;omega)),rfl⟩
theorem zkW (r:Int) (w:World):
  Calls Tryz.prog 57 #[.int .u8 r] w fun e w'=>e= .returned (.bool (zaU r))∧w=w':=by
 rcases (show r<48∨(48≤r∧r≤57)∨(57<r∧r<65)∨(65≤r∧r≤70)∨(70<r∧r≤90)∨(90<r∧r<97)∨(97≤r∧r≤102)∨(102<r∧r≤122)∨122<r from by omega) with hA|⟨hA,hB⟩|⟨hA,hB⟩|⟨hA,hB⟩|⟨hA,hB⟩|⟨hA,hB⟩|⟨hA,hB⟩|⟨hA,hB⟩|hA
 ·have HB:=zzC (show zaU r=false from zzD (by omega))
  go_enter Tryz.func57,Tryz.ntmps57
  go_wp2
  go_ret
  exact ⟨zaJ (by first|exact HB.out.symm|(rw [HB.out];simp;omega)),rfl⟩
 ·have HB:=zzC (show zaU r=true from decide_eq_true (by omega))
  go_enter Tryz.func57,Tryz.ntmps57
  go_wp2
  go_ret
  exact ⟨zaJ (by first|exact HB.out.symm|(rw [HB.out];simp;omega)),rfl⟩
 ·have HB:=zzC (show zaU r=false from zzD (by omega))
  go_enter Tryz.func57,Tryz.ntmps57
  go_wp2
  go_ret
  exact ⟨zaJ (by first|exact HB.out.symm|(rw [HB.out];simp;omega)),rfl⟩
 ·have HB:=zzC (show zaU r=false from zzD (by omega))
  go_enter Tryz.func57,Tryz.ntmps57
  go_wp2
  go_ret
  exact ⟨zaJ (by first|exact HB.out.symm|(rw [HB.out];simp;omega)),rfl⟩
 ·have HB:=zzC (show zaU r=false from zzD (by omega))
  go_enter Tryz.func57,Tryz.ntmps57
  go_wp2
  go_ret
  exact ⟨zaJ (by first|exact HB.out.symm|(rw [HB.out];simp;omega)),rfl⟩
 ·have HB:=zzC (show zaU r=false from zzD (by omega))
  go_enter Tryz.func57,Tryz.ntmps57
  go_wp2
  go_ret
  exact ⟨zaJ (by first|exact HB.out.symm|(rw [HB.out];simp;omega)),rfl⟩
 ·have HB:=zzC (show zaU r=false from zzD (by omega))
  go_enter Tryz.func57,Tryz.ntmps57
  go_wp2
  go_ret
  exact ⟨zaJ (by first|exact HB.out.symm|(rw [HB.out];simp;omega)),rfl⟩
 ·have HB:=zzC (show zaU r=false from zzD (by omega))
  go_enter Tryz.func57,Tryz.ntmps57
  go_wp2
  go_ret
  exact ⟨zaJ (by first|exact HB.out.symm|(rw [HB.out];simp;omega)),rfl⟩
 ·have HB:=zzC (show zaU r=false from zzD (by omega))
  go_enter Tryz.func57,Tryz.ntmps57
  go_wp2
  go_ret
  exact ⟨zaJ (by first|exact HB.out.symm|(rw [HB.out];simp;omega)),rfl⟩
theorem zbK (r:Int) (w:World):
  Calls Tryz.prog 129 #[.int .i32 r] w fun e w'=>e= .returned (.int .i64 (valZ r))∧w=w':=by
 rcases (show r<48∨(48≤r∧r≤57)∨(57<r∧r<65)∨(65≤r∧r≤70)∨(70<r∧r≤90)∨(90<r∧r<97)∨(97≤r∧r≤102)∨(102<r∧r≤122)∨122<r from by omega) with hA|⟨hA,hB⟩|⟨hA,hB⟩|⟨hA,hB⟩|⟨hA,hB⟩|⟨hA,hB⟩|⟨hA,hB⟩|⟨hA,hB⟩|hA
 ·have HV:=zzC (show valZ r= -1 from by unfold valZ;(repeat' split)<;>omega)
  go_enter Tryz.func129,Tryz.ntmps129
  go_wp2
  go_ret
  exact ⟨zbC (by first|exact HV.out.symm|(rw [HV.out];omega)),rfl⟩
 ·have HV:=zzC (show valZ r=r - 48 from by unfold valZ;(repeat' split)<;>omega)
  go_enter Tryz.func129,Tryz.ntmps129
  go_wp2
  go_ret
  exact ⟨zbC (by first|exact HV.out.symm|(rw [HV.out];omega)),rfl⟩
 ·have HV:=zzC (show valZ r= -1 from by unfold valZ;(repeat' split)<;>omega)
  go_enter Tryz.func129,Tryz.ntmps129
  go_wp2
  go_ret
  exact ⟨zbC (by first|exact HV.out.symm|(rw [HV.out];omega)),rfl⟩
 ·have HV:=zzC (show valZ r=r - 55 from by unfold valZ;(repeat' split)<;>omega)
  go_enter Tryz.func129,Tryz.ntmps129
  go_wp2
  go_ret
  exact ⟨zbC (by first|exact HV.out.symm|(rw [HV.out];omega)),rfl⟩
 ·have HV:=zzC (show valZ r= -1 from by unfold valZ;(repeat' split)<;>omega)
  go_enter Tryz.func129,Tryz.ntmps129
  go_wp2
  go_ret
  exact ⟨zbC (by first|exact HV.out.symm|(rw [HV.out];omega)),rfl⟩
 ·have HV:=zzC (show valZ r= -1 from by unfold valZ;(repeat' split)<;>omega)
  go_enter Tryz.func129,Tryz.ntmps129
  go_wp2
  go_ret
  exact ⟨zbC (by first|exact HV.out.symm|(rw [HV.out];omega)),rfl⟩
 ·have HV:=zzC (show valZ r=r - 87 from by unfold valZ;(repeat' split)<;>omega)
  go_enter Tryz.func129,Tryz.ntmps129
  go_wp2
  go_ret
  exact ⟨zbC (by first|exact HV.out.symm|(rw [HV.out];omega)),rfl⟩
 ·have HV:=zzC (show valZ r= -1 from by unfold valZ;(repeat' split)<;>omega)
  go_enter Tryz.func129,Tryz.ntmps129
  go_wp2
  go_ret
  exact ⟨zbC (by first|exact HV.out.symm|(rw [HV.out];omega)),rfl⟩
 ·have HV:=zzC (show valZ r= -1 from by unfold valZ;(repeat' split)<;>omega)
  go_enter Tryz.func129,Tryz.ntmps129
  go_wp2
  go_ret
  exact ⟨zbC (by first|exact HV.out.symm|(rw [HV.out];omega)),rfl⟩
theorem zbE (r:Int) (w:World):
  Calls Tryz.prog 108 #[.int .i32 r] w fun e w'=>e= .returned (.int .i64 (valZ r))∧w=w':=by
 rcases (show r<48∨(48≤r∧r≤57)∨(57<r∧r<65)∨(65≤r∧r≤70)∨(70<r∧r≤90)∨(90<r∧r<97)∨(97≤r∧r≤102)∨(102<r∧r≤122)∨122<r from by omega) with hA|⟨hA,hB⟩|⟨hA,hB⟩|⟨hA,hB⟩|⟨hA,hB⟩|⟨hA,hB⟩|⟨hA,hB⟩|⟨hA,hB⟩|hA
 ·have HV:=zzC (show valZ r= -1 from by unfold valZ;(repeat' split)<;>omega)
  go_enter Tryz.func108,Tryz.ntmps108
  go_wp2
  go_ret
  exact ⟨zbC (by first|exact HV.out.symm|(rw [HV.out];omega)),rfl⟩
 ·have HV:=zzC (show valZ r=r - 48 from by unfold valZ;(repeat' split)<;>omega)
  go_enter Tryz.func108,Tryz.ntmps108
  go_wp2
  go_ret
  exact ⟨zbC (by first|exact HV.out.symm|(rw [HV.out];omega)),rfl⟩
 ·have HV:=zzC (show valZ r= -1 from by unfold valZ;(repeat' split)<;>omega)
  go_enter Tryz.func108,Tryz.ntmps108
  go_wp2
  go_ret
  exact ⟨zbC (by first|exact HV.out.symm|(rw [HV.out];omega)),rfl⟩
 ·have HV:=zzC (show valZ r=r - 55 from by unfold valZ;(repeat' split)<;>omega)
  go_enter Tryz.func108,Tryz.ntmps108
  go_wp2
  go_ret
  exact ⟨zbC (by first|exact HV.out.symm|(rw [HV.out];omega)),rfl⟩
 ·have HV:=zzC (show valZ r= -1 from by unfold valZ;(repeat' split)<;>omega)
  go_enter Tryz.func108,Tryz.ntmps108
  go_wp2
  go_ret
  exact ⟨zbC (by first|exact HV.out.symm|(rw [HV.out];omega)),rfl⟩
 ·have HV:=zzC (show valZ r= -1 from by unfold valZ;(repeat' split)<;>omega)
  go_enter Tryz.func108,Tryz.ntmps108
  go_wp2
  go_ret
  exact ⟨zbC (by first|exact HV.out.symm|(rw [HV.out];omega)),rfl⟩
 ·have HV:=zzC (show valZ r=r - 87 from by unfold valZ;(repeat' split)<;>omega)
  go_enter Tryz.func108,Tryz.ntmps108
  go_wp2
  go_ret
  exact ⟨zbC (by first|exact HV.out.symm|(rw [HV.out];omega)),rfl⟩
 ·have HV:=zzC (show valZ r= -1 from by unfold valZ;(repeat' split)<;>omega)
  go_enter Tryz.func108,Tryz.ntmps108
  go_wp2
  go_ret
  exact ⟨zbC (by first|exact HV.out.symm|(rw [HV.out];omega)),rfl⟩
 ·have HV:=zzC (show valZ r= -1 from by unfold valZ;(repeat' split)<;>omega)
  go_enter Tryz.func108,Tryz.ntmps108
  go_wp2
  go_ret
  exact ⟨zbC (by first|exact HV.out.symm|(rw [HV.out];omega)),rfl⟩
theorem zaA (l:List UInt8):(ByteArray.mk l.toArray).size=l.length:=by simp [ByteArray.size]
/-! ### parts,put together again -/
theorem zdN (p:UInt8→Bool) (l:List UInt8):0<(zcR p l).length:=by simp [zcR]
theorem zbY.form {B:Nat} {w:World} {v:Value} {ps:List (List UInt8)} (h:zbY B w v ps) (hn:0<ps.length):
  ∃g cap,v= .slice (some ⟨g,0,none⟩) ps.length cap∧g<w.heap.size∧ ∀j,j<ps.length→w.cell? ⟨g,j,none⟩=some (.string ⟨(ps.getD j []).toArray⟩):=by
 unfold zbY at h
 rcases h.2 with ⟨_,h0⟩|⟨g,cap,cur,hv,_,hg,hc,_,hs,ht⟩
 ·omega
 ·refine ⟨g,cap,hv,(Array.getElem?_eq_some_iff.1 hg).1,fun j hj=> ?_⟩
  rw [cell_of_row w g j cur _ _ hg]
  have h1:(zsM ps)[j]? =some (strC (ps.getD j [])):=by
   simp [zsM,List.getD,List.getElem?_eq_getElem hj]
  rw [←ht,List.getElem?_take,if_pos (by omega)] at h1
  simpa [strC] using h1
theorem zbS (p:UInt8→Bool) (l:List UInt8):(zcR p l).length≤l.length+1:=by
 have key: ∀(l:List UInt8) (st:List (List UInt8)×List UInt8),(l.foldl (zbX p) st).1.length≤st.1.length+l.length:=by
  intro l
  induction l with
  |nil=>intro st;simp
  |cons c l ih=>
   intro st
   rw [List.foldl_cons]
   have:=ih (zbX p st c)
   have h2:(zbX p st c).1.length≤st.1.length+1:=by unfold zbX;split<;>simp
   simp;omega
 have:=key l ([],[])
 simp [zcR,spl] at this ⊢
 omega
theorem ziT (ps:List (List UInt8)) (c sep:List UInt8):Lib.join (ps++[c]) sep=if ps=[] then c else Lib.join ps sep++sep++c:=by
 cases ps with
 |nil=>simp [Lib.join_one]
 |cons x r=>
  rw [if_neg (by simp),List.cons_append,Lib.join_cons,Lib.join_cons]
  simp [Lib.joinTail]
theorem zrD (l:List UInt8) (c:UInt8):Lib.join (zcR (hasB [c]) l) [c]=l:=by
 have key: ∀(l:List UInt8) (st:List (List UInt8)×List UInt8),Lib.join ((l.foldl (zbX (hasB [c])) st).1++[(l.foldl (zbX (hasB [c])) st).2]) [c]=Lib.join (st.1++[st.2]) [c]++l:=by
  intro l
  induction l with
  |nil=>intro st;simp
  |cons x l ih=>
   intro st
   rw [List.foldl_cons,ih]
   have e:Lib.join ((zbX (hasB [c]) st x).1++[(zbX (hasB [c]) st x).2]) [c]=Lib.join (st.1++[st.2]) [c]++[x]:=by
    unfold zbX
    by_cases h:hasB [c] x=true
    ·have hx:c=x:=by simpa [hasB] using h
     rw [if_pos h,ziT (st.1++[st.2]) [] [c],if_neg (by simp),List.append_nil,hx]
    ·rw [if_neg h,ziT,ziT]
     split
     ·rfl
     ·simp
   rw [e];simp
 have:=key l ([],[])
 unfold zcR spl
 rw [this]
 simp [Lib.join_one]
/-! ### a second time -/
end
end
section
open Go.RowKit
theorem zmK (s:ByteArray) (w:World) (hs:s.size≤9223372036854775807):
  Calls Tryz.prog 172 #[.string s] w fun e w'=>e= .returned (.bool (zfL s))∧w=w':=by
 go_enter Tryz.func172,Tryz.ntmps172
 go_wp2
 go_loop [6] (fun i=> ∃k:Nat,k≤s.size∧i= .int .i64 k∧Hid (∀j (h:j<s.size),j<k→(s[j]'h).toNat<128)) (fun i=>s.size - (intOf i).toNat)
 case atStart=>exact ⟨0,Nat.zero_le _,rfl,fun j _ h=>by omega⟩
 case round=>
  obtain ⟨k,hk,rfl,H⟩:=hrel
  by_cases hlt:k<s.size
  ·go_wp2
   ·have hc:(128:Int)≤(s[k].toNat:Int):=by assumption
    go_ret
    exact ⟨zaJ (zhG s k hlt (by omega)).symm,rfl⟩
   ·have hc:(s[k].toNat:Int)<128:=by first|assumption|omega
    go_round
    case rel=>
     refine ⟨k+1,by omega,by go_num,fun j hj hjk=> ?_⟩
     by_cases e:j=k
     ·subst e;omega
     ·exact H.out j hj (by omega)
    case measure=>simp [intOf];omega
  ·have hf:=ziG s (fun j hj=>H.out j hj (by omega))
   have HF:=zzC hf
   clear hf
   go_wp2
   go_ret
   exact ⟨zaJ HF.out.symm,rfl⟩
def zdX (f:UInt8→UInt8) (B:Nat) (s:ByteArray) (k cap:Nat) (w:World):Prop:=
 ∃cur:Array Value,w.heap[B]? =some (.cells cur 5 (cap,cap+1))∧cur.size=cap∧s.size≤cap∧
  ∀j (h:j<s.size),cur[j]? =some (.int .u8 ((if j<k then f s[j] else s[j]).toNat:Int))
theorem zlI (f:UInt8→UInt8) (w:World) (s:ByteArray):zdX f w.heap.size s 0 (grownCap w s.size 0 5) (Lib.bytesWorld w 5 s):=by
 have hge:s.size≤grownCap w s.size 0 5:=grownCap_ge _ _ _ _
 have hsz:(Lib.bytesCells w 5 s).size=grownCap w s.size 0 5:=by
  unfold Lib.bytesCells
  have:s.data.size=s.size:=rfl
  simp [this];omega
 refine ⟨Lib.bytesCells w 5 s,?_,hsz,hge,?_⟩
 ·rw [Lib.bytesWorld_at_new,hsz]
 ·intro j h
  have hj:j<s.data.size:=h
  rw [if_neg (by omega)]
  unfold Lib.bytesCells
  rw [Array.getElem?_append_left (by simpa using hj)]
  simp
  exact ⟨s.data[j],Array.getElem?_eq_getElem hj,rfl⟩
theorem zdX.cell {f:UInt8→UInt8} {B:Nat} {s:ByteArray} {k cap:Nat} {w:World} (h:zdX f B s k cap w) (hk:k<s.size):w.cell? ⟨B,k,none⟩=some (.int .u8 (s[k].toNat:Int)):=by
 obtain ⟨cur,h1,_,_,h4⟩:=h
 rw [cell_of_row w B k cur _ _ h1,h4 k hk,if_neg (by omega)]
theorem zdX.frozen {f:UInt8→UInt8} {B:Nat} {s:ByteArray} {k cap:Nat} {w:World} (h:zdX f B s k cap w) (hk:k<s.size):w.frozen? ⟨B,k,none⟩=false:=by
 obtain ⟨cur,h1,_,h3,_⟩:=h
 simp [World.frozen?,h1]
 omega
theorem zdX.same {f:UInt8→UInt8} {B:Nat} {s:ByteArray} {k cap:Nat} {w:World} (h:zdX f B s k cap w) (hk:k<s.size) (he:f s[k]=s[k]):zdX f B s (k+1) cap w:=by
 obtain ⟨cur,h1,h2,h3,h4⟩:=h
 refine ⟨cur,h1,h2,h3,fun j hj=> ?_⟩
 rw [h4 j hj]
 by_cases e:j=k
 ·subst e;rw [if_neg (by omega),if_pos (by omega),he]
 ·by_cases e2:j<k
  ·rw [if_pos e2,if_pos (by omega)]
  ·rw [if_neg e2,if_neg (by omega)]
theorem zdX.put {f:UInt8→UInt8} {B:Nat} {s:ByteArray} {k cap:Nat} {w:World} (h:zdX f B s k cap w) (hk:k<s.size) (n:Int) (hn:n=((f s[k]).toNat:Int)):zdX f B s (k+1) cap (w.setCell ⟨B,k,none⟩ (.int .u8 n)):=by
 obtain ⟨cur,h1,h2,h3,h4⟩:=h
 refine ⟨cur.setIfInBounds k (.int .u8 n),?_,by simpa using h2,h3,fun j hj=> ?_⟩
 ·simp [World.setCell,Array.getElem?_modify,h1]
 ·rw [Array.getElem?_setIfInBounds]
  by_cases e:k=j
  ·subst e;rw [if_pos rfl,if_pos (by omega),if_pos (by omega),hn]
  ·rw [if_neg e,h4 j hj]
   by_cases e2:j<k
   ·rw [if_pos e2,if_pos (by omega)]
   ·rw [if_neg e2,if_neg (by omega)]
theorem zdX.conv {f:UInt8→UInt8} {B:Nat} {s:ByteArray} {cap:Nat} {w:World} {k:Nat} (h:zdX f B s k cap w) (hk: ¬k<s.size):
  (convert 119 9 (.slice (some ⟨B,0,none⟩) s.size cap)).run Tryz.prog w= .ok (.string ⟨(s.data.toList.map f).toArray⟩) w:=by
 refine zgV w _ _ 5 _ _ ?_ Tryz.underlying119 Tryz.underlying5 Tryz.underlying9
 obtain ⟨cur,h1,h2,h3,h4⟩:=h
 have hl:(Lib.byteCells (s.data.toList.map f)).length=s.size:=by rw [Lib.byteCells_length,List.length_map,zaB]
 refine ⟨_,cap,by rw [hl],fun j u hj=>⟨_,rfl,?_⟩⟩
 have hlt:j<s.size:=by rw [←hl];exact (List.getElem?_eq_some_iff.1 hj).1
 rw [show (Addr.add ⟨B,0,none⟩ j)=⟨B,j,none⟩ from by unfold Addr.add;split<;>simp_all]
 rw [cell_of_row w B j cur _ _ h1,h4 j hlt,if_pos (by omega),←hj]
 simp only [Lib.byteCells,List.map_map,List.getElem?_map,zcZ s j hlt]
 rfl
theorem zvQ (s:ByteArray) (w:World) (hs:s.size≤9223372036854775807):
  Calls Tryz.prog 76 #[.string s] w fun e w'=>e= .returned (.string ⟨(zaN s.data.toList).toArray⟩)∧Below w.heap.size w w':=by
 have hcv0:=Lib.run_convert_string_bytes (P:=Tryz.prog) w 9 119 5 s Tryz.underlying9 Tryz.underlying119 Tryz.underlying5
 have hst:=zlI lowC w s
 have hb0:Below w.heap.size w (Lib.bytesWorld w 5 s):=⟨rfl,rfl,rfl,by rw [Lib.bytesWorld_size];omega,fun k hk=>Lib.bytesWorld_at_old w _ s k hk⟩
 have HST:=zzC hst
 clear hst
 generalize hcap:grownCap w s.size 0 5=cap at*
 generalize Lib.bytesWorld w 5 s=wb at*
 clear hcap
 go_enter Tryz.func76,Tryz.ntmps76
 go_wp2
 clear hcv0
 go_loopw [10] (fun i wr=> ∃k:Nat,k≤s.size∧i= .int .i64 k∧zdX lowC w.heap.size s k cap wr∧Below w.heap.size w wr) (fun i _=>s.size - (intOf i).toNat)
 case atStart=>exact ⟨0,Nat.zero_le _,rfl,HST.out,hb0⟩
 case round=>
  obtain ⟨k,hk,rfl,hr,hbw⟩:=hrel
  by_cases hlt:k<s.size
  ·have hcell:=hr.cell hlt
   have hfr:=hr.frozen hlt
   obtain ⟨c,hc⟩: ∃c,(s[k]'hlt).toNat=c:=⟨_,rfl⟩
   have hc256:c<256:=by rw [←hc];exact (s[k]'hlt).toNat_lt
   rw [hc] at hcell
   by_cases hu:65≤c∧c≤90
   ·have hdc:((lowC s[k]).toNat:Int)=(c:Int)+32:=by rw [znO (by omega) (by omega),hc];omega
    have hr2:=hr.put hlt ((c:Int)+32) hdc.symm
    have HR2:=zzC hr2
    have hbw2:=hbw.setCell (p:=⟨w.heap.size,k,none⟩) (Nat.le_refl _) (.int .u8 ((c:Int)+32))
    have HC:=zzC hc
    obtain ⟨hu1,hu2⟩:=hu
    have ea:(c:Int) - 65+97=(c:Int)+32:=by omega
    clear hdc hr2 hc
    go_wp2
    go_roundw
    case rel=>exact ⟨k+1,by omega,by go_num,by first|exact HR2.out|(rw [ea];exact HR2.out),by first|exact hbw2|(rw [ea];exact hbw2)⟩
    case measure=>simp [intOf];omega
   ·have hr2:=hr.same hlt (znQ (by omega))
    have HR2:=zzC hr2
    clear hr2 hc
    go_wp2
    all_goals
     go_roundw
     case rel=>exact ⟨k+1,by omega,by go_num,HR2.out,hbw⟩
     case measure=>simp [intOf];omega
  ·have hcv:=hr.conv hlt
   go_wp2
   go_ret
   exact ⟨rfl,hbw⟩
end
end Go.Proofs.YtmjappnpedjlnaaGreatDoor
