/-
  A walk on paper: what a call does in a memory of its own, reckoned out; and that the call does so (1 of 2).
-/
import Derived.Orders
import Derived.RowKit3
import Derived.KernelRfl
import Derived.Below
import Derived.Laws.CopyRow
import Derived.Laws.Append
import Derived.Laws.AppendOwn
import Derived.Lib.UnsafeStr
import Derived.Lib.Builder
import Derived.LaidEql
import Derived.Laws.BytesString
import Derived.Scope
import Derived.Lib.Bytealg
import Derived.Lib.Index
import Derived.Lib.TrailingZeros
import Derived.Lib.BitFns
import Derived.Lib.ItoaNum
import Derived.Lib.Join
import Derived.Laws.Externs
import Derived.Lib.Replace
import Derived.Shelf.Abstract
import Derived.Laws.RangeString
namespace Go.Proofs.YtmjappnpedjlnaaGreatDoor.Ev
set_option autoImplicit false
noncomputable section
open Go
inductive AObj where
 |row (cs:List Value) (elem:TypeId) (ext fz:Bool)
 |iter (s:ByteArray) (pos:Nat)
abbrev Hp:=List (Nat×AObj)
abbrev br {α:Type} (b:Bool) (x y:α):α:=Bool.rec (motive:=fun _=>α) y x b
structure St where
 heap:Hp
 next:Nat
 low:Nat
def look (h:Hp) (b:Nat):Option AObj:=
 List.rec (motive:=fun _=>Option AObj) none (fun x _ ih=>br (Nat.beq x.1 b) (some x.2) ih) h
def putB (h:Hp) (b:Nat) (o:AObj):Hp:=
 List.rec (motive:=fun _=>Hp) [] (fun x l ih=>br (Nat.beq x.1 b) ((x.1,o)::l) (x::ih)) h
def dropB (h:Hp) (b:Nat):Hp:=
 List.rec (motive:=fun _=>Hp) [] (fun x _ ih=>br (Nat.beq x.1 b) ih (x::ih)) h
def cutB (h:Hp) (n:Nat):Hp:=
 List.rec (motive:=fun _=>Hp) [] (fun x l ih=>br (Nat.ble n x.1) ih (x::l)) h
abbrev Res:=Option (Value×St)
def St.put (st:St) (o:AObj) (f:Nat→Value):Res:=some (f st.next,⟨(st.next,o)::st.heap,st.next+1,st.low⟩)
def St.set (st:St) (b:Nat) (o:AObj):St:=⟨putB st.heap b o,st.next,Nat.min st.low b⟩
def ptrV (b:Nat):Value:= .pointer (some ⟨b,0,none⟩)
def pureRun {α:Type} (P:Program):Sem α→Option α
 | .pure a=>some a
 | .program k=>pureRun P (k P)
 |_=>none
inductive Tr where
 |e|n (l:Tr) (v:Value) (r:Tr)
def Tr.get (t:Tr):Nat→Value:=
 Tr.rec (motive:=fun _=>Nat→Value) (fun _=>undef) (fun _ v _ gl gr k=>br (Nat.beq k 0) v (br (Nat.beq (Nat.mod k 2) 1) (gl (Nat.div k 2)) (gr (Nat.sub (Nat.div k 2) 1)))) t
def Tr.left (t:Tr):Tr:=Tr.rec (motive:=fun _=>Tr) .e (fun l _ _ _ _=>l) t
def Tr.right (t:Tr):Tr:=Tr.rec (motive:=fun _=>Tr) .e (fun _ _ r _ _=>r) t
def Tr.val (t:Tr):Value:=Tr.rec (motive:=fun _=>Value) undef (fun _ v _ _ _=>v) t
def Tr.put (f:Nat):Tr→Nat→Value→Tr:=
 Nat.rec (motive:=fun _=>Tr→Nat→Value→Tr) (fun t _ _=>t)
  (fun _ ih t k v=>br (Nat.beq k 0) (.n t.left v t.right) (br (Nat.beq (Nat.mod k 2) 1) (.n (ih t.left (Nat.div k 2) v) t.val t.right) (.n t.left t.val (ih t.right (Nat.sub (Nat.div k 2) 1) v)))) f
abbrev Ts:=Tr
def ofArgs (args:List Value):Ts:=
 List.rec (motive:=fun _=>Nat→Tr→Tr) (fun _ t=>t) (fun v _ ih k t=>ih (Nat.add k 1) (t.put 12 k v)) args 0 .e
def ρ (ts:Ts):Operand→Value
 | .tmp t=>ts.get t
 | .const v=>v
 | .global g=> .pointer (some ⟨g,0,none⟩)
 | .func f=> .func (.func f) #[] #[]
def pf (G:Nat):Nat→Value→Bool
 |_,.bool _|_,.int .. |_,.float .. |_,.complex .. |_,.string _|_,.nilFunc|_,.nilIface=>true
 |_,.pointer none=>true
 |_,.pointer (some a)=>Nat.blt a.block G
 |_,.slice none _ _=>true
 |_,.slice (some _) _ _=>false
 |_,.map none=>true
 |_,.map (some _)=>false
 |_,.chan _=>false
 |n+1,.func _ f c=>f.toList.all (pf G n)&&c.toList.all (pf G n)
 |n+1,.iface _ v=>pf G n v
 |n+1,.agg cs=>cs.toList.all (pf G n)
 |n+1,.tuple cs=>cs.toList.all (pf G n)
 |0,_=>false
abbrev CallF:=FuncId→List Value→St→Res
def isAggB (P:Program) (t:TypeId):Option Bool:=
 match P.underlying t with
 |some (.struct _)|some (.array _ _)=>some true
 |some _=>some false
 |none=>none
def sizeB (P:Program) (t:TypeId):Option Nat:=(P.info? t).map (·.size)
def slc (l:List Value) (o n:Nat):Option (List Value):=
 match Nat.ble (o+n) l.length with
 |true=>some ((l.drop o).take n)
 |false=>none
def splice:List Value→Nat→List Value→List Value
 |l,0,[]=>l
 |[],_,_=>[]
 |_::l,0,x::xs=>x::splice l 0 xs
 |v::l,n+1,xs=>v::splice l n xs
def one (v:Value):Bool:=match v with| .agg _| .tuple _=>false|_=>true
def cellsAt (h:Hp) (a:Addr) (n:Nat):Option (List Value):=
 match a.spot with
 |some _=>none
 |none=>match look h a.block with
  |some (.row cs _ _ _)=>slc cs a.off n
  |_=>none
def natOf:Value→Option Nat
 | .int _ (.ofNat n)=>some n
 |_=>none
def loadB (P:Program) (h:Hp) (t:TypeId) (v:Value):Option Value:=
 match v with
 | .pointer (some a)=>
  match isAggB P t,sizeB P t with
  |some true,some n=>match cellsAt h a n with|some l=>some (.agg l.toArray)|none=>none
  |some false,_=>match cellsAt h a 1 with|some [v]=>some v|_=>none
  |_,_=>none
 |_=>none
def evLoad (P:Program) (t:TypeId) (v:Value) (st:St):Res:=
 match loadB P st.heap t v with
 |some v=>some (v,st)
 |none=>none
def writeB (st:St) (a:Addr) (new:List Value):Option St:=
 match a.spot,look st.heap a.block with
 |none,some (.row cs e ext false)=>
  match Nat.ble (a.off+new.length) cs.length&&new.all one with
  |true=>some (st.set a.block (.row (splice cs a.off new) e ext false))
  |false=>none
 |_,_=>none
def evStore (P:Program) (t:TypeId) (a x:Value) (st:St):Res:=
 match a,sizeB P t with
 | .pointer (some a),some n=>
  match Nat.beq x.cells.size n with
  |true=>match writeB st a x.cells.toList with|some st=>some (undef,st)|none=>none
  |false=>none
 |_,_=>none
def zeroB (P:Program) (G:Nat) (t:TypeId):Option Value:=
 match P.info? t with
 |some i=>match i.zero with
  |some z=>match pf G 6 z with|true=>some z|false=>none
  |none=>none
 |none=>none
def evAlloc (P:Program) (G:Nat) (e:TypeId) (st:St):Res:=
 match zeroB P G e with
 |some z=>st.put (.row z.cells.toList e false false) ptrV
 |none=>none
def evBox (e:TypeId) (x:Value) (st:St):Res:=st.put (.row x.cells.toList e false false) ptrV
def zerosB (z:Value) (n:Nat):Array Value:=(Array.range n).map (z.cells[· % z.cells.size]!)
def evBuildSlice (P:Program) (G:Nat) (t:TypeId) (len:Nat) (parts:List (Nat×Value)) (st:St):Res:=
 match P.underlying t with
 |some (.slice elem)=>match sizeB P elem,zeroB P G elem with
  |some n,some z=>
   match Nat.ble (len*n) 4096&&Nat.blt 0 z.cells.size with
   |true=>match Instr.fill (fun k=>some (k*n,n)) (zerosB z (len*n)) parts with
    |some cells=>st.put (.row cells.toList elem false false) fun b=> .slice (some ⟨b,0,none⟩) len (2*len)
    |none=>none
   |false=>none
  |_,_=>none
 |_=>none
def bytesB (P:Program) (t:TypeId):Option Nat:=(P.info? t).map (·.bytes)
def evMakeSlice (P:Program) (G:Nat) (t:TypeId) (l c:Value) (st:St):Res:=
 match P.underlying t with
 |some (.slice elem)=>match sizeB P elem,bytesB P elem,zeroB P G elem,natOf l,natOf c with
  |some n,some by_,some z,some l,some c=>
   match Nat.ble l c&&Nat.ble c 4096&&Nat.ble by_ 4096&&Nat.blt 0 z.cells.size with
   |true=>st.put (.row (zerosB z (c*n)).toList elem false false) fun b=> .slice (some ⟨b,0,none⟩) l (2*c)
   |false=>none
  |_,_,_,_,_=>none
 |_=>none
def evFieldAddr (P:Program) (s:TypeId) (x:Value) (f:Nat) (st:St):Res:=
 match P.underlying s,x with
 |some (.struct fs),.pointer (some ⟨b,o,none⟩)=>
  match fs[f]? with
  |some f=>match sizeB P f.type with
   |some n=>match Nat.beq n 0 with|true=>none|false=>some (.pointer (some ⟨b,o+f.offset,none⟩),st)
   |none=>none
  |none=>none
 |_,_=>none
def evIndexAddr (P:Program) (t:TypeId) (x ix:Value) (st:St):Res:=
 match P.underlying t,x,natOf ix with
 |some (.slice elem),.slice (some ⟨b,o,none⟩) len _,some i=>
  match sizeB P elem,Nat.blt i len with
  |some n,true=>some (.pointer (some ⟨b,o+i*n,none⟩),st)
  |_,_=>none
 |some (.array len elem),.pointer (some ⟨b,o,none⟩),some i=>
  match sizeB P elem,Nat.blt i len with
  |some n,true=>some (.pointer (some ⟨b,o+i*n,none⟩),st)
  |_,_=>none
 |_,_,_=>none
def boundB (x:Option Value) (d y:Nat):Option Nat:=
 match x with
 |none=>some d
 |some (.int _ (.ofNat i))=>match Nat.ble i y with|true=>some i|false=>none
 |_=>none
def evSliceRow (P:Program) (elem:TypeId) (a:Addr) (len cap:Nat) (lo hi:Option Value) (st:St):Res:=
 match sizeB P elem,boundB hi len (cap/2) with
 |some n,some h=>
  match boundB lo 0 h with
  |some l=>
   match cap % 2 with
   |0=>match Nat.beq (cap/2) l with
    |true=>some (.slice (some ⟨a.block,a.off,none⟩) (h - l) (2*0),st)
    |false=>some (.slice (some ⟨a.block,a.off+l*n,none⟩) (h - l) (2*(cap/2 - l)),st)
   |_=>match Nat.blt l (cap/2) with
    |true=>some (.slice (some ⟨a.block,a.off+l*n,none⟩) (h - l) (2*(cap/2 - l)+1),st)
    |false=>none
  |none=>none
 |_,_=>none
def evSliceMax (P:Program) (elem:TypeId) (a:Addr) (cap:Nat) (lo:Option Value) (hi mx:Value) (st:St):Res:=
 match sizeB P elem,natOf mx,natOf hi with
 |some n,some m,some h=>
  match Nat.ble m (cap/2)&&Nat.ble h m,boundB lo 0 h with
  |true,some l=>
   match Nat.beq m l with
   |true=>some (.slice (some ⟨a.block,a.off,none⟩) (h - l) (2*0),st)
   |false=>some (.slice (some ⟨a.block,a.off+l*n,none⟩) (h - l) (2*(m - l)),st)
  |_,_=>none
 |_,_,_=>none
def evSliceArr (P:Program) (elem:TypeId) (N:Nat) (a:Addr) (lo hi:Option Value) (st:St):Res:=
 match sizeB P elem,boundB hi N N with
 |some n,some h=>
  match boundB lo 0 h with
  |some l=>match Nat.beq N l with
   |true=>some (.slice (some ⟨a.block,a.off,none⟩) (h - l) (2*0),st)
   |false=>some (.slice (some ⟨a.block,a.off+l*n,none⟩) (h - l) (2*(N - l)),st)
  |none=>none
 |_,_=>none
def evSliceStr (s:ByteArray) (lo hi:Option Value) (st:St):Res:=
 match boundB hi s.size s.size with
 |some h=>match boundB lo 0 h with
  |some l=>some (.string (s.extract l h),st)
  |none=>none
 |none=>none
def evSlice (P:Program) (G:Nat) (t:TypeId) (x:Value) (lo hi mx:Option Value) (st:St):Res:=
 match P.underlying t,x,mx with
 |some .string,.string s,none=>evSliceStr s lo hi st
 |some (.slice elem),.slice (some a) len cap,none=>evSliceRow P elem a len cap lo hi st
 |some (.slice elem),.slice (some a) _ cap,some m=>match hi with|some h=>evSliceMax P elem a cap lo h m st|none=>none
 |some (.slice elem),.slice none 0 0,none=>match sizeB P elem,boundB hi 0 0,boundB lo 0 0 with
  |some _,some _,some _=>some (.slice none 0 0,st)
  |_,_,_=>none
 |some (.array n elem),.pointer (some a),none=>match Nat.ble G a.block with|true=>evSliceArr P elem n a lo hi st|false=>none
 |_,_,_=>none
def evRange (P:Program) (t:TypeId) (x:Value) (st:St):Res:=
 match P.underlying t,x with
 |some .string,.string s=>st.put (.iter s 0) ptrV
 |_,_=>none
def evNext (it:Value) (st:St):Res:=
 match it with
 | .pointer (some ⟨b,0,none⟩)=>
  match look st.heap b with
  |some (.iter s pos)=>
   match Nat.blt pos s.size with
   |true=>match Utf8.decode s pos with
    |(c,width)=>some (.tuple #[.bool true,goInt pos,.int .i32 c],st.set b (.iter s (pos+width)))
   |false=>some (.tuple #[.bool false],st)
  |_=>none
 |_=>none
def byteVals (b:ByteArray):List Value:=b.data.toList.map fun c=> .int .u8 c.toNat
def valByte:Value→Option UInt8
 | .int .u8 (.ofNat n)=>match Nat.blt n 256 with|true=>some (UInt8.ofNat n)|false=>none
 |_=>none
def valBytes:List Value→Option (List UInt8)
 |[]=>some []
 |v::l=>match valByte v,valBytes l with
  |some b,some m=>some (b::m)
  |_,_=>none
def evToBytes (P:Program) (e:TypeId) (s:ByteArray) (st:St):Res:=
 match sizeB P e,Nat.ble s.size 1000000 with
 |some 1,true=>st.put (.row (byteVals s) e true false) fun b=> .slice (some ⟨b,0,none⟩) s.size (2*s.size+1)
 |_,_=>none
def evToString (a:Addr) (n:Nat) (st:St):Res:=
 match cellsAt st.heap a n with
 |some l=>match valBytes l with
  |some m=>some (.string ⟨m.toArray⟩,st)
  |none=>none
 |none=>none
def liesB (P:Program) (h:Hp) (a:Addr) (u:TypeId):Bool:=
 match look h a.block with
 |some (.row cs e false _)=>liesAt P P.depth e (cs.length/P.cellsOf e) a.off u 1&&Nat.blt a.off cs.length
 |_=>false
def evPure (P:Program) (G:Nat) (args:List Value) (s:Sem Value) (st:St):Res:=
 match args.all (pf G 6) with
 |true=>match pureRun P s with
  |some v=>match pf G 6 v with|true=>some (v,st)|false=>none
  |none=>none
 |false=>none
def evConvert (P:Program) (G:Nat) (src dst:TypeId) (x:Value) (st:St):Res:=
 match P.underlying src,P.underlying dst,x with
 |some .string,some (.slice e),.string s=>
  match P.underlying e with
  |some (.int .u8)=>evToBytes P e s st
  |_=>none
 |some (.slice e),some .string,.slice (some a) n _=>
  match P.underlying e with
  |some (.int .u8)=>evToString a n st
  |_=>none
 |some (.pointer t),some .unsafePointer,.pointer (some ⟨b,o,none⟩)=>
  match sizeB P t,liesB P st.heap ⟨b,o,none⟩ t with
  |some (_+1),true=>some (x,st)
  |_,_=>none
 |some .unsafePointer,some (.pointer u),.pointer (some ⟨b,o,none⟩)=>
  match sizeB P u,liesB P st.heap ⟨b,o,none⟩ u with
  |some (_+1),true=>some (x,st)
  |_,_=>none
 |_,_,_=>evPure P G [x] (convert src dst x) st
def methodB (P:Program) (t:TypeId) (name:String):Option FuncId:=
 match P.info? t with
 |some i=>match i.methods.find? (fun m=>m.name==name) with
  |some m=>match m.path.toList,m.func with
   |[],some (f,pr)=>
    match P.underlying t with
    |some (.pointer _)=>match pr with|true=>some f|false=>none
    |some _=>match pr with|true=>none|false=>some f
    |none=>none
   |_,_=>none
  |none=>none
 |none=>none
def appendedB (P:Program) (G:Nat) (elem:TypeId) (size:Nat) (x:Value) (h:Hp):Option (List Value×Nat):=
 match x with
 | .slice none 0 _=>some ([],0)
 | .slice (some a) n _=>match cellsAt h a (n*size) with|some l=>some (l,n)|none=>none
 | .string b=>match Nat.beq size 1 with|true=>some (byteVals b,b.size)|false=>none
 | .int .i64 (.ofNat n)=>match zeroB P G elem with
  |some z=>match Nat.ble n 4096 with|true=>some ((Builtin.zeroCells z.cells n).toList,n)|false=>none
  |none=>none
 |_=>none
def growB (elem:TypeId) (cs:List Value) (n:Nat) (st:St):Res:=
 st.put (.row cs elem true false) fun b=> .slice (some ⟨b,0,none⟩) n (2*n+1)
def appendTo (elem:TypeId) (size:Nat) (a:Addr) (n cap:Nat) (xs:List Value) (k:Nat) (st:St):Res:=
 match a.spot,look st.heap a.block with
 |none,some (.row cs e _ false)=>
  match Nat.ble (n+k) (cap/2) with
  |true=>match writeB st ⟨a.block,a.off+n*size,none⟩ xs with|some st=>some (.slice (some a) (n+k) cap,st)|none=>none
  |false=>match slc cs a.off (n*size) with
   |none=>none
   |some old=>
    match cap % 2 with
    |0=>growB elem (old++xs) (n+k) st
    |_=>
     match Nat.beq a.off 0&&Nat.beq e elem&&Nat.beq (cap/2*size) cs.length&&xs.all one with
     |true=>growB elem (old++xs) (n+k) ⟨dropB st.heap a.block,st.next,Nat.min st.low a.block⟩
     |false=>none
 |_,_=>none
def appendKind (x:Value) (u:TypeDesc):Bool:=
 match x,u with
 | .int ..,.int _=>true
 | .int ..,_=>false
 |_,.int _=>false
 |_,_=>true
def evAppend2 (P:Program) (G:Nat) (elem:TypeId) (size:Nat) (s x:Value) (st:St):Res:=
 match appendedB P G elem size x st.heap with
 |some (xs,k)=>
  match Nat.ble k 1000000&&Nat.beq xs.length (k*size) with
  |true=>
   match s with
   | .slice none 0 0=>match k with
    |0=>some (s,st)
    |_+1=>growB elem xs k st
   | .slice (some a) n cap=>match Nat.ble n 1000000 with|true=>appendTo elem size a n cap xs k st|false=>none
   |_=>none
  |false=>none
 |none=>none
def evAppend (P:Program) (G:Nat) (ats:List TypeId) (s x:Value) (st:St):Res:=
 match ats with
 |[sT,xT]=>
  match P.underlying sT,P.underlying xT with
  |some (.slice elem),some xU=>
   match sizeB P elem,bytesB P elem,zeroB P G elem with
   |some size,some by_,some z=>
    match appendKind x xU&&Nat.blt 0 size&&Nat.ble by_ 4096&&Nat.beq z.cells.size size with
    |true=>evAppend2 P G elem size s x st
    |false=>none
   |_,_,_=>none
  |_,_=>none
 |_=>none
def evCopy (P:Program) (t:TypeId) (d x:Value) (st:St):Res:=
 match P.underlying t,d with
 |some (.slice elem),.slice (some a) n _=>
  match sizeB P elem with
  |some (size+1)=>
   match x with
   | .slice (some b) m _=>match cellsAt st.heap b (Nat.min m n*(size+1)) with
    |some xs=>match writeB st a xs with|some st=>some (goInt (Nat.min m n:Nat),st)|none=>none
    |none=>none
   |_=>none
  |_=>none
 |_,_=>none
def evSliceData (x:Value) (st:St):Res:=
 match x with
 | .slice none _ _=>some (.pointer none,st)
 | .slice (some a) _ cap=>match Nat.ble 2 cap with|true=>some (.pointer (some a),st)|false=>none
 |_=>none
def evUnsafeString (P:Program) (pt:TypeId) (p x:Value) (st:St):Res:=
 match p,x,P.underlying pt with
 | .pointer (some a),.int .i64 (.ofNat (n+1)),some (.pointer e)=>
  match look st.heap a.block,sizeB P e,Nat.beq a.off 0&&Nat.ble n 1000000 with
  |some (.row cs e' ext _),some 1,true=>
   match Nat.beq e e',slc cs 0 (n+1),a.spot with
   |true,some l,none=>match valBytes l with
    |some m=>some (.string ⟨m.toArray⟩,st.set a.block (.row cs e' ext true))
    |none=>none
   |_,_,_=>none
  |_,_,_=>none
 | .pointer _,.int .i64 (.ofNat 0),_=>some (.string .empty,st)
 |_,_,_=>none
def evLen (P:Program) (t:TypeId) (x:Value) (st:St):Res:=
 match P.underlying t,x with
 |some .string,.string s=>some (goInt s.size,st)
 |some (.slice _),.slice _ n _=>some (goInt n,st)
 |some (.array n _),_=>some (goInt n,st)
 |_,_=>none
def on1 (args:List Value) (f:Value→Res):Res:=match args with|[x]=>f x|_=>none
def on2 (args:List Value) (f:Value→Value→Res):Res:=match args with|[x,y]=>f x y|_=>none
def tyAt (ats:Array TypeId) (f:TypeId→Res):Res:=match ats.toList with|t::_=>f t|[]=>none
def tyAt2 (ats:Array TypeId) (f:TypeId→Res):Res:=match ats.toList with|[t,_]=>f t|_=>none
def evBuiltin (P:Program) (G:Nat) (b:Builtin) (ats:Array TypeId) (type:TypeId) (args:List Value) (st:St):Res:=
 match b with
 | .append=>on2 args fun s x=>evAppend P G ats.toList s x st
 | .copy=>on2 args fun d x=>tyAt ats fun t=>evCopy P t d x st
 | .len=>on1 args fun x=>tyAt ats fun t=>evLen P t x st
 | .unsafeSliceData=>on1 args fun x=>evSliceData x st
 | .unsafeString=>on2 args fun p n=>tyAt2 ats fun t=>evUnsafeString P t p n st
 | .min=>evPure P G args (Builtin.min_ ats type args.toArray) st
 | .max=>evPure P G args (Builtin.max_ ats type args.toArray) st
 |_=>none
def evCall (P:Program) (G:Nat) (callf:CallF) (ts:Ts) (c:Call) (type:TypeId) (st:St):Res:=
 match c.callee with
 | .value f=>
  match ρ ts f with
  | .func (.func g) first captured=>callf g (first.toList++c.args.toList.map (ρ ts)++captured.toList) st
  |_=>none
 | .invoke r name=>
  match ρ ts r with
  | .iface t v=>match methodB P t name with
   |some g=>callf g (v::c.args.toList.map (ρ ts)) st
   |none=>none
  |_=>none
 | .builtin b=>evBuiltin P G b c.argTypes type (c.args.toList.map (ρ ts)) st
def nilEq:Value→Value→Option Bool
 | .pointer (some _),.pointer none| .pointer none,.pointer (some _)=>some false
 | .slice (some _) _ _,.slice none _ _| .slice none _ _,.slice (some _) _ _=>some false
 | .iface _ _,.nilIface| .nilIface,.iface _ _=>some false
 | .map (some _),.map none| .map none,.map (some _)=>some false
 | .func ..,.nilFunc| .nilFunc,.func .. =>some false
 |_,_=>none
def eqKind:TypeDesc→Value→Bool
 | .pointer _,.pointer _=>true
 | .slice _,.slice _ _ _=>true
 | .interface _,.iface _ _| .interface _,.nilIface=>true
 | .map _ _,.map _=>true
 | .func _ _ _,.func _ _ _| .func _ _ _,.nilFunc=>true
 |_,_=>false
def eqB (P:Program) (t:TypeId) (a b:Value):Option Bool:=
 match nilEq a b,P.underlying t with
 |some r,some d=>match eqKind d a with|true=>some r|false=>none
 |none,some (.pointer e)=>match a,b,sizeB P e with
  | .pointer (some ⟨b,o,none⟩),.pointer (some ⟨b',o',none⟩),some (_+1)=>match Nat.beq b b'&&Nat.beq o o' with
   |true=>some true
   |false=>none
  |_,_,_=>none
 |_,_=>none
def evEq (P:Program) (op:BinOp) (t:TypeId) (a b:Value):Option Bool:=
 match eqB P t a b,op with
 |some r,.eql=>some r
 |some r,.neq=>some (!r)
 |_,_=>none
def evBin (P:Program) (G:Nat) (op:BinOp) (t:TypeId) (x y:Operand) (a b:Value) (st:St):Res:=
 match pf G 6 a&&pf G 6 b with
 |true=>match pureRun P (do eqGuard op t x y a b;binOp op t a b) with
  |some v=>match pf G 6 v with|true=>some (v,st)|false=>none
  |none=>none
 |false=>match evEq P op t a b with
  |some r=>some (.bool r,st)
  |none=>none
def placeB (P:Program) (fs:Array Field) (k:Nat):Option (Nat×Nat):=
 match fs[k]? with
 |some f=>match sizeB P f.type with|some n=>some (f.offset,n)|none=>none
 |none=>none
def evBuild (P:Program) (G:Nat) (t:TypeId) (parts:List (Nat×Value)) (st:St):Res:=
 match P.underlying t,zeroB P G t with
 |some (.struct fs),some z=>match fs.all (fun f=>(sizeB P f.type).isSome) with
  |true=>match Instr.fill (placeB P fs) z.cells parts with
   |some cells=>some (.agg cells,st)
   |none=>none
  |false=>none
 |some (.array _ e),some z=>match sizeB P e with
  |some n=>match Instr.fill (fun k=>some (k*n,n)) z.cells parts with
   |some cells=>some (.agg cells,st)
   |none=>none
  |none=>none
 |_,_=>none
def evPart (P:Program) (t:TypeId) (cs:List Value) (off:Nat) (st:St):Res:=
 match isAggB P t,sizeB P t with
 |some true,some n=>match slc cs off n with|some l=>some (.agg l.toArray,st)|none=>none
 |some false,some _=>match slc cs off 1 with|some [v]=>some (v,st)|_=>none
 |_,_=>none
def evField (P:Program) (t:TypeId) (x:Value) (f:Nat) (st:St):Res:=
 match P.underlying t,x with
 |some (.struct fs),.agg cs=>match fs[f]? with
  |some f=>evPart P f.type cs.toList f.offset st
  |none=>none
 |_,_=>none
def evIndex (P:Program) (t:TypeId) (x ix:Value) (st:St):Res:=
 match P.underlying t,x,natOf ix with
 |some .string,.string s,some i=>match s.data.toList[i]? with|some b=>some (.int .u8 b.toNat,st)|none=>none
 |some (.array len e),.agg cs,some i=>match Nat.blt i len,sizeB P e with
  |true,some n=>evPart P e cs.toList (i*n) st
  |_,_=>none
 |_,_,_=>none
def holdsB (ok:Bool) (v:Value):Value:=match ok with|true=> .tuple #[v,.bool true]|false=>v
def evAssert (P:Program) (G:Nat) (x:Value) (asserted:TypeId) (ok:Bool) (st:St):Res:=
 match P.underlying asserted,x with
 |some (.interface want),.iface t _=>match P.info? t with
  |some i=>match Instr.missingMethod want i.methods with
   |none=>some (holdsB ok x,st)
   |some _=>none
  |none=>none
 |some (.interface _),_=>none
 |some _,.iface t v=>match Nat.beq t asserted with
  |true=>some (holdsB ok v,st)
  |false=>match ok,zeroB P G asserted with
   |true,some z=>some (.tuple #[z,.bool false],st)
   |_,_=>none
 |some _,.nilIface=>match ok,zeroB P G asserted with
  |true,some z=>some (.tuple #[z,.bool false],st)
  |_,_=>none
 |_,_=>none
def evIface (P:Program) (t:TypeId) (x:Value) (st:St):Res:=
 match P.underlying t with
 |some (.interface _)=>none
 |some _=>some (.iface t x,st)
 |none=>none
def evNil (x:Value) (st:St):Res:=
 match x with
 | .pointer (some _)=>some (x,st)
 | .iface _ _=>some (x,st)
 | .func (.func _) _ _=>some (x,st)
 |_=>none
def evPick (c a b:Value) (st:St):Res:=
 match c with
 | .bool true=>some (a,st)
 | .bool false=>some (b,st)
 |_=>none
def evExtract (t:Value) (i:Nat) (st:St):Res:=
 match t with
 | .tuple vs=>match vs.toList[i]? with|some v=>some (v,st)|none=>none
 |_=>none
abbrev H:=Program→Nat→CallF→Ts→TypeId→St→Res
def hMove (x:Operand):H:=fun _ _ _ ts _ st=>some (ρ ts x,st)
def hPick (c a b:Operand):H:=fun _ _ _ ts _ st=>evPick (ρ ts c) (ρ ts a) (ρ ts b) st
def hAlloc (e:TypeId):H:=fun P G _ _ _ st=>evAlloc P G e st
def hBox (e:TypeId) (x:Operand):H:=fun _ _ _ ts _ st=>evBox e (ρ ts x) st
def hBuild (t:TypeId) (parts:Array (Nat×Operand)):H:=fun P G _ ts _ st=>evBuild P G t (parts.toList.map fun p=>(p.1,ρ ts p.2)) st
def hBuildSlice (t:TypeId) (len:Nat) (parts:Array (Nat×Operand)):H:=fun P G _ ts _ st=>evBuildSlice P G t len (parts.toList.map fun p=>(p.1,ρ ts p.2)) st
def hMakeSlice (t:TypeId) (l c:Operand):H:=fun P G _ ts _ st=>evMakeSlice P G t (ρ ts l) (ρ ts c) st
def hLoad (t:TypeId) (a:Operand):H:=fun P _ _ ts _ st=>evLoad P t (ρ ts a) st
def hStore (t:TypeId) (a x:Operand):H:=fun P _ _ ts _ st=>evStore P t (ρ ts a) (ρ ts x) st
def hNil (x:Operand):H:=fun _ _ _ ts _ st=>evNil (ρ ts x) st
def hBin (op:BinOp) (t:TypeId) (x y:Operand):H:=fun P G _ ts _ st=>evBin P G op t x y (ρ ts x) (ρ ts y) st
def hUn (op:UnOp) (x:Operand):H:=fun P G _ ts _ st=>evPure P G [ρ ts x] (Op.unary op (ρ ts x)) st
def hConvert (src dst:TypeId) (x:Operand):H:=fun P G _ ts _ st=>evConvert P G src dst (ρ ts x) st
def hIface (t:TypeId) (x:Operand):H:=fun P _ _ ts _ st=>evIface P t (ρ ts x) st
def hFunc (fn:Fn) (first captured:Array Operand):H:=fun _ _ _ ts _ st=>some (.func fn (first.map (ρ ts)) (captured.map (ρ ts)),st)
def hSlice (t:TypeId) (x:Operand) (lo hi mx:Option Operand):H:=fun P G _ ts _ st=>evSlice P G t (ρ ts x) (lo.map (ρ ts)) (hi.map (ρ ts)) (mx.map (ρ ts)) st
def hFieldAddr (s:TypeId) (x:Operand) (f:Nat):H:=fun P _ _ ts _ st=>evFieldAddr P s (ρ ts x) f st
def hField (t:TypeId) (x:Operand) (f:Nat):H:=fun P _ _ ts _ st=>evField P t (ρ ts x) f st
def hIndexAddr (t:TypeId) (x ix:Operand):H:=fun P _ _ ts _ st=>evIndexAddr P t (ρ ts x) (ρ ts ix) st
def hIndex (t:TypeId) (x ix:Operand):H:=fun P _ _ ts _ st=>evIndex P t (ρ ts x) (ρ ts ix) st
def hRange (t:TypeId) (x:Operand):H:=fun P _ _ ts _ st=>evRange P t (ρ ts x) st
def hNext (it:Operand) (isString:Bool):H:=fun _ _ _ ts _ st=>match isString with|true=>evNext (ρ ts it) st|false=>none
def hAssert (x:Operand) (asserted:TypeId) (ok:Bool):H:=fun P G _ ts _ st=>evAssert P G (ρ ts x) asserted ok st
def hExtract (t:Operand) (i:Nat):H:=fun _ _ _ ts _ st=>evExtract (ρ ts t) i st
def hCall (c:Call):H:=fun P G callf ts type st=>evCall P G callf ts c type st
def hNone:H:=fun _ _ _ _ _ _=>none
def opD (op:Op):H:=
 match op with
 | .move x| .assign x=>hMove x
 | .pick c a b=>hPick c a b
 | .alloc e=>hAlloc e
 | .box e x=>hBox e x
 | .build t parts=>hBuild t parts
 | .buildSlice t len parts=>hBuildSlice t len parts
 | .makeSlice t l c=>hMakeSlice t l c
 | .load t a=>hLoad t a
 | .store t a x=>hStore t a x
 | .nilCheck x=>hNil x
 | .binOp op t x y _=>hBin op t x y
 | .unOp op _ x=>hUn op x
 | .convert src dst x=>hConvert src dst x
 | .makeInterface t x=>hIface t x
 | .makeFunc fn first captured=>hFunc fn first captured
 | .slice t x lo hi mx=>hSlice t x lo hi mx
 | .fieldAddr s x f=>hFieldAddr s x f
 | .field t x f=>hField t x f
 | .indexAddr t x ix=>hIndexAddr t x ix
 | .index t x ix=>hIndex t x ix
 | .range t x=>hRange t x
 | .next it s=>hNext it s
 | .typeAssert x _ asserted ok=>hAssert x asserted ok
 | .extract t i=>hExtract t i
 | .call c=>hCall c
 |_=>hNone
def evOp (P:Program) (G:Nat) (callf:CallF) (ts:Ts) (o:Oper) (st:St):Res:=opD o.op P G callf ts o.type st
def yieldB (ops:Array Oper) (ts:Ts) (j:Nat):Option Bool:=
 match (ops[j]?).bind (·.dst) with
 |some d=>match ts.get d with| .bool b=>some b|_=>none
 |none=>none
def putT (m:Nat) (ts:Ts) (d:Option Tmp) (v:Value):Ts:=
 match d with
 |some d=>br (Nat.blt d m) (ts.put 12 d v) ts
 |none=>ts
def wantB (ops:Array Oper) (ts:Ts) (o:Oper):Bool:=
 match o.guard with
 |none=>true
 |some (j,w)=>match yieldB ops ts j,w with
  |some true,true|some false,false=>true
  |_,_=>false
abbrev ResT:=Option (Ts×St)
abbrev KT:=Ts→St→ResT
def evOpsK (m:Nat) (o:Oper) (ih:KT) (ts:Ts) (r:Res):ResT:=
 match r with
 |some (v,st)=>ih (putT m ts o.dst v) st
 |none=>none
def evOps (P:Program) (G:Nat) (callf:CallF) (m:Nat) (ops:Array Oper) (l:List Oper):KT:=
 List.rec (motive:=fun _=>KT) (fun ts st=>some (ts,st))
  (fun o _ ih ts st=>br (wantB ops ts o) (evOpsK m o ih ts (evOp P G callf ts o st)) (ih (putT m ts o.dst undef) st)) l
def maskB (l:List Nat) (o:Oper):Nat:=
 o.after.toList.foldl (fun s e=>match Region.binds .any e with|true=>s|||2^e.on|||l.getD e.on 0|false=>s) 0
def masksB:List Oper→List Nat→List Nat
 |[],acc=>acc
 |o::l,acc=>masksB l (acc++[maskB acc o])
def ancB (ops:Array Oper) (i j:Nat):Bool:=((masksB ops.toList []).getD i 0).testBit j
def nodupB:List Nat→Bool
 |[]=>true
 |x::l=> !l.any (Nat.beq x)&&nodupB l
def regionB (ops:Array Oper):Bool:=
 nodupB (ops.toList.filterMap (·.dst))&&
 (List.range ops.size).all fun i=>match ops[i]? with
  |none=>false
  |some o=>(o.after.all fun e=> !Region.binds .any e||Nat.blt e.on i)&&
   (match o.op with| .select .. =>false|_=>true)&&
   (List.range ops.size).all fun j=>match ops[j]? with
    |none=>false
    |some p=>match p.dst with
     |none=>true
     |some d=> !(o.looksAt ops).any (Nat.beq d)||Nat.beq i j||ancB ops i j||ancB ops j i
def calmB:Op→Bool
 | .move _| .assign _| .pick .. | .build .. | .nilCheck _| .binOp .. | .unOp .. | .makeInterface .. | .makeFunc .. | .slice .. | .fieldAddr .. | .field .. | .indexAddr .. | .index .. | .typeAssert .. | .extract .. =>true
 | .call {callee:= .builtin .len,..}=>true
 |_=>false
inductive Kind where
 |calm|rd (b:Nat)|quiet|wr (b:Nat)|any
def blockOf:Value→Nat
 | .pointer (some a)=>a.block
 |_=>0
def kindOf (ts:Ts) (o:Op) (wrote:Bool):Kind:=
 match o with
 | .load _ a=> .rd (blockOf (ρ ts a))
 | .store _ a _=> .wr (blockOf (ρ ts a))
 | .convert _ _ x=>match ρ ts x with
  | .slice (some a) _ _=> .rd a.block
  |_=>match wrote with|true=> .any|false=> .quiet
 |_=>match wrote with|true=> .any|false=> .quiet
def calmT (ts:Ts) (o:Op):Bool:=
 match o with
 | .convert _ _ x=>match ρ ts x with| .int .. =>true|_=>false
 |o=>calmB o
def Kind.free:Kind→Kind→Bool
 | .calm,_|_,.calm=>true
 | .rd _,.rd _| .rd _,.quiet| .quiet,.rd _=>true
 | .rd b,.wr c| .wr b,.rd c=> !Nat.beq b c
 |_,_=>false
def freeB (ops:Array Oper) (i:Nat) (k:Kind):List (Nat×Kind)→Bool
 |[]=>true
 |(j,c)::l=>(Kind.free c k||ancB ops i j)&&freeB ops i k l
def evDrawn (P:Program) (G:Nat) (callf:CallF) (m:Nat) (ops:Array Oper):List Oper→Nat→List (Nat×Kind)→Ts→St→ResT
 |[],_,_,ts,st=>some (ts,st)
 |o::l,i,ks,ts,st=>
  match wantB ops ts o with
  |true=>
   match calmT ts o.op with
   |true=>match evOp P G callf ts o st with
    |some (v,_)=>evDrawn P G callf m ops l (i+1) ks (putT m ts o.dst v) st
    |none=>none
   |false=>
    match evOp P G callf ts o ⟨st.heap,st.next,st.next⟩ with
    |some (v,st')=>
     match freeB ops i (kindOf ts o.op (!Nat.ble st.next st'.low)) ks&&Nat.ble st.next st'.next with
     |true=>evDrawn P G callf m ops l (i+1) ((i,kindOf ts o.op (!Nat.ble st.next st'.low))::ks) (putT m ts o.dst v) ⟨st'.heap,st'.next,Nat.min st.low st'.low⟩
     |false=>none
    |none=>none
  |false=>evDrawn P G callf m ops l (i+1) ks (putT m ts o.dst undef) st
inductive Ex where
 |normal|exit (id:Nat)|ret
abbrev ResC:=Option (Ex×Ts×St)
def resB (P:Program) (h:Hp) (ts:Ts):List ResultVar→Option (List Value)
 |[]=>some []
 | .tmp t::l=>match resB P h ts l with|some r=>some (ts.get t::r)|none=>none
 | .cell a t::l=>match loadB P h t (ts.get a),resB P h ts l with
  |some v,some r=>some (v::r)
  |_,_=>none
def retB:List Value→Value
 |[v]=>v
 |l=> .tuple l.toArray
abbrev Orc:=FuncId→List Value→Hp→Option Value
abbrev Rec:=Nat→Code→Ts→St→ResC
def evRet (P:Program) (G:Nat) (rs:List ResultVar) (st:St) (r:ResC):Res:=
 match r with
 |some (.normal,ts',st')|some (.ret,ts',st')=>
  match resB P st'.heap ts' rs with
  |some l=>
   match pf G 6 (retB l)&&Nat.ble st.next st'.low with
   |true=>some (retB l,⟨cutB st'.heap st.next,st'.next,Nat.min st.low st'.low⟩)
   |false=>some (retB l,⟨st'.heap,st'.next,Nat.min st.low st'.low⟩)
  |none=>none
 |_=>none
def evEnter (P:Program) (G:Nat) (rec:Rec) (g:FuncId) (args:List Value) (st:St):Res:=
 match P.funcs[g]? with
 |none=>none
 |some fn=>match fn.body with
  |none=>none
  |some body=>match Nat.ble args.length fn.ntmps&&Nat.ble fn.ntmps 4000 with
   |true=>evRet P G fn.results.toList st (rec fn.ntmps body (ofArgs args) ⟨st.heap,st.next,st.next⟩)
   |false=>none
def evCallF (P:Program) (G:Nat) (orc:Orc) (rec:Rec):CallF:=fun g args st=>
 match orc g args st.heap with
 |some v=>some (v,st)
 |none=>evEnter P G rec g args st
def operandB (G:Nat):Operand→Bool
 | .const v=>pf G 6 v
 | .global g=>Nat.blt g G
 |_=>true
def constsB (G:Nat) (ops:Array Oper):Bool:=ops.toList.all fun o=>o.op.operands.toList.all (operandB G)
def evRegion (P:Program) (G:Nat) (orc:Orc) (rec:Rec) (m:Nat) (ops:Array Oper) (draw:Bool) (ts:Ts) (st:St):ResC:=
 match constsB G ops,draw with
 |true,false=>match evOps P G (evCallF P G orc rec) m ops ops.toList ts st with
  |some (ts,st)=>some (.normal,ts,st)
  |none=>none
 |true,true=>match regionB ops with
  |true=>match evDrawn P G (evCallF P G orc rec) m ops ops.toList 0 [] ts st with
   |some (ts,st)=>some (.normal,ts,st)
   |none=>none
  |false=>none
 |false,_=>none
def evSeq (rec:Rec) (m:Nat) (b:Code) (r:ResC):ResC:=
 match r with
 |some (.normal,ts,st)=>rec m b ts st
 |r=>r
def evCond (rec:Rec) (m:Nat) (a b:Code) (v:Value) (ts:Ts) (st:St):ResC:=
 match v with
 | .bool true=>rec m a ts st
 | .bool false=>rec m b ts st
 |_=>none
def evBlock (id:Nat) (r:ResC):ResC:=
 match r with
 |some (.exit k,ts,st)=>match Nat.beq k id with|true=>some (.normal,ts,st)|false=>some (.exit k,ts,st)
 |r=>r
abbrev HC:=Program→Nat→Orc→Rec→Nat→Ts→St→ResC
def cSkip:HC:=fun _ _ _ _ _ ts st=>some (.normal,ts,st)
def cSeq (a b:Code):HC:=fun _ _ _ rec m ts st=>evSeq rec m b (rec m a ts st)
def cCond (x:Operand) (a b:Code):HC:=fun _ _ _ rec m ts st=>evCond rec m a b (ρ ts x) ts st
def cBlock (id:Nat) (b:Code):HC:=fun _ _ _ rec m ts st=>evBlock id (rec m b ts st)
def cLoop (b:Code):HC:=fun _ _ _ rec m ts st=>evSeq rec m (.loop b) (rec m b ts st)
def cScope (b:Code):HC:=fun _ _ _ rec m ts st=>rec m b ts st
def cExit (id:Nat):HC:=fun _ _ _ _ _ ts st=>some (.exit id,ts,st)
def cRet:HC:=fun _ _ _ _ _ ts st=>some (.ret,ts,st)
def cRegion (ops:Array Oper) (draw:Bool):HC:=fun P G orc rec m ts st=>evRegion P G orc rec m ops draw ts st
def cNone:HC:=fun _ _ _ _ _ _ _=>none
def codeD (c:Code):HC:=
 match c with
 | .skip| .label _=>cSkip
 | .seq a b=>cSeq a b
 | .cond x a b=>cCond x a b
 | .block id b=>cBlock id b
 | .loop b=>cLoop b
 | .scope b=>cScope b
 | .exit id=>cExit id
 | .ret=>cRet
 | .region _ ops draw=>cRegion ops draw
 |_=>cNone
def ec (P:Program) (G:Nat) (orc:Orc) (n:Nat):Rec:=
 Nat.rec (motive:=fun _=>Rec) (fun _ _ _ _=>none) (fun _ ih m c ts st=>codeD c P G orc ih m ts st) n
def runF (P:Program) (G:Nat) (orc:Orc) (n:Nat) (f:FuncId) (args:List Value):Option Value:=
 match evEnter P G (ec P G orc n) f args ⟨[],G,G⟩ with
 |some (v,_)=>some v
 |none=>none
end
section
open Go
abbrev Phi:=Nat→Option (Nat×Nat)
inductive Rel (G:Nat) (φ:Phi):Value→Value→Prop
 |free {d:Nat} {v:Value}:pf G d v=true→Rel G φ v v
 |ptr {b o r κ:Nat}:φ b=some (r,κ)→Rel G φ (.pointer (some ⟨b,o,none⟩)) (.pointer (some ⟨r,o,none⟩))
 |sliceX {b o r κ n c:Nat}:φ b=some (r,κ)→Rel G φ (.slice (some ⟨b,o,none⟩) n (2*c)) (.slice (some ⟨r,o,none⟩) n c)
 |sliceE {b o r κ n c:Nat}:φ b=some (r,κ)→Rel G φ (.slice (some ⟨b,o,none⟩) n (2*c+1)) (.slice (some ⟨r,o,none⟩) n (c+κ))
 |map {b r κ:Nat}:φ b=some (r,κ)→Rel G φ (.map (some b)) (.map (some r))
 |iface {t:TypeId} {v V:Value}:Rel G φ v V→Rel G φ (.iface t v) (.iface t V)
 |agg {cs Cs:Array Value}:cs.size=Cs.size→(∀i,i<cs.size→Rel G φ (cs.getD i undef) (Cs.getD i undef))→Rel G φ (.agg cs) (.agg Cs)
 |tuple {cs Cs:Array Value}:cs.size=Cs.size→(∀i,i<cs.size→Rel G φ (cs.getD i undef) (Cs.getD i undef))→Rel G φ (.tuple cs) (.tuple Cs)
 |func {fn:Fn} {f F c C:Array Value}:f.size=F.size→(∀i,i<f.size→Rel G φ (f.getD i undef) (F.getD i undef))→
   c.size=C.size→(∀i,i<c.size→Rel G φ (c.getD i undef) (C.getD i undef))→Rel G φ (.func fn f c) (.func fn F C)
def Phi.le (φ ψ:Phi):Prop:= ∀b x,φ b=some x→ψ b=some x
theorem Phi.le.rfl {φ:Phi}:φ.le φ:=fun _ _ h=>h
theorem Phi.le.trans {φ ψ χ:Phi} (h:φ.le ψ) (k:ψ.le χ):φ.le χ:=fun b x e=>k b x (h b x e)
theorem Rel.mono {G:Nat} {φ ψ:Phi} (hle:φ.le ψ) {v V:Value} (h:Rel G φ v V):Rel G ψ v V:=by
 induction h with
 |free h=>exact .free h
 |ptr h=>exact .ptr (hle _ _ h)
 |sliceX h=>exact .sliceX (hle _ _ h)
 |sliceE h=>exact .sliceE (hle _ _ h)
 |map h=>exact .map (hle _ _ h)
 |iface _ ih=>exact .iface ih
 |agg e _ ih=>exact .agg e ih
 |tuple e _ ih=>exact .tuple e ih
 |func e _ e' _ ih ih'=>exact .func e ih e' ih'
def RelL (G:Nat) (φ:Phi) (l L:List Value):Prop:=l.length=L.length∧ ∀i,i<l.length→Rel G φ (l.getD i undef) (L.getD i undef)
theorem RelL.mono {G:Nat} {φ ψ:Phi} (hle:φ.le ψ) {l L:List Value} (h:RelL G φ l L):RelL G ψ l L:=⟨h.1,fun i hi=>(h.2 i hi).mono hle⟩
theorem RelL.nil {G:Nat} {φ:Phi}:RelL G φ [] []:=⟨rfl,fun _ h=>absurd h (by simp)⟩
theorem RelL.cons {G:Nat} {φ:Phi} {v V:Value} {l L:List Value} (h:Rel G φ v V) (k:RelL G φ l L):RelL G φ (v::l) (V::L):=
 ⟨by simp [k.1],fun i hi=>by cases i with|zero=>exact h|succ i=>exact k.2 i (by simpa using hi)⟩
theorem RelL.cons_inv {G:Nat} {φ:Phi} {v:Value} {l L:List Value} (h:RelL G φ (v::l) L): ∃V L',L=V::L'∧Rel G φ v V∧RelL G φ l L':=by
 cases L with
 |nil=>simp [RelL] at h
 |cons V L'=>
  refine ⟨V,L',rfl,h.2 0 (by simp),by simpa using h.1,fun i hi=> ?_⟩
  have:=h.2 (i+1) (by simp;exact hi)
  simpa using this
theorem RelL.nil_inv {G:Nat} {φ:Phi} {L:List Value} (h:RelL G φ [] L):L=[]:=List.eq_nil_of_length_eq_zero (by simpa using h.1.symm)
theorem RelL.get {G:Nat} {φ:Phi} {l L:List Value} (h:RelL G φ l L) {i:Nat} {v:Value} (hv:l[i]? =some v): ∃V,L[i]? =some V∧Rel G φ v V:=by
 obtain ⟨hi,rfl⟩:=List.getElem?_eq_some_iff.1 hv
 have hi':i<L.length:=h.1▸hi
 refine ⟨L[i],List.getElem?_eq_getElem hi',?_⟩
 have:=h.2 i hi
 simpa [List.getD,hi,hi'] using this
theorem RelL.append {G:Nat} {φ:Phi} {a A b B:List Value} (h:RelL G φ a A) (k:RelL G φ b B):RelL G φ (a++b) (A++B):=by
 induction a generalizing A with
 |nil=>rw [h.nil_inv];exact k
 |cons v l ih=>obtain ⟨V,L,rfl,hv,hl⟩:=h.cons_inv;exact .cons hv (ih hl)
theorem RelL.take {G:Nat} {φ:Phi} {a A:List Value} (h:RelL G φ a A) (n:Nat):RelL G φ (a.take n) (A.take n):=by
 induction a generalizing A n with
 |nil=>rw [h.nil_inv];simpa using RelL.nil
 |cons v l ih=>
  obtain ⟨V,L,rfl,hv,hl⟩:=h.cons_inv
  cases n with
  |zero=>exact .nil
  |succ n=>exact .cons hv (ih hl n)
theorem RelL.drop {G:Nat} {φ:Phi} {a A:List Value} (h:RelL G φ a A) (n:Nat):RelL G φ (a.drop n) (A.drop n):=by
 induction a generalizing A n with
 |nil=>rw [h.nil_inv];simpa using RelL.nil
 |cons v l ih=>
  obtain ⟨V,L,rfl,hv,hl⟩:=h.cons_inv
  cases n with
  |zero=>exact .cons hv hl
  |succ n=>exact ih hl n
theorem RelL.slc {G:Nat} {φ:Phi} {a A l:List Value} {o n:Nat} (h:RelL G φ a A) (e:slc a o n=some l):o+n≤a.length∧l=(a.drop o).take n∧RelL G φ l ((A.drop o).take n):=by
 unfold Ev.slc at e
 split at e
 ·rename_i hb
  cases e
  exact ⟨Nat.le_of_ble_eq_true hb,rfl,(h.drop o).take n⟩
 ·cases e
theorem RelL.splice {G:Nat} {φ:Phi}: ∀{a A x X:List Value} {n:Nat},RelL G φ a A→RelL G φ x X→RelL G φ (splice a n x) (splice A n X):=by
 intro a
 induction a with
 |nil=>
  intro A x X n h k
  rw [h.nil_inv]
  cases n<;>cases x<;>cases X<;>first|exact .nil|skip
  all_goals simp [Ev.splice];exact .nil
 |cons v l ih=>
  intro A x X n h k
  obtain ⟨V,L,rfl,hv,hl⟩:=h.cons_inv
  cases n with
  |succ n=>exact .cons hv (ih hl k)
  |zero=>
   cases x with
   |nil=>rw [k.nil_inv];exact .cons hv hl
   |cons y m=>obtain ⟨Y,M,rfl,hy,hm⟩:=k.cons_inv;exact .cons hy (ih hl hm)
theorem splice_length: ∀(a:List Value) (n:Nat) (x:List Value),(splice a n x).length=a.length:=by
 intro a
 induction a with
 |nil=>intro n x;cases n<;>cases x<;>rfl
 |cons v l ih=>
  intro n x
  cases n with
  |succ n=>simp [splice,ih]
  |zero=>cases x<;>simp [splice,ih]
theorem relA {G:Nat} {φ:Phi} {cs Cs:Array Value}:(cs.size=Cs.size∧ ∀i,i<cs.size→Rel G φ (cs.getD i undef) (Cs.getD i undef))↔RelL G φ cs.toList Cs.toList:=by
 unfold RelL
 constructor
 ·rintro ⟨h,k⟩
  refine ⟨by simpa using h,fun i hi=> ?_⟩
  have:=k i (by simpa using hi)
  simpa [Array.getD_eq_getD_getElem?,List.getD] using this
 ·rintro ⟨h,k⟩
  refine ⟨by simpa using h,fun i hi=> ?_⟩
  have:=k i (by simpa using hi)
  simpa [Array.getD_eq_getD_getElem?,List.getD] using this
theorem Rel.aggL {G:Nat} {φ:Phi} {l L:List Value} (h:RelL G φ l L):Rel G φ (.agg l.toArray) (.agg L.toArray):=
 have:=relA.2 (show RelL G φ l.toArray.toList L.toArray.toList by simpa using h);.agg this.1 this.2
theorem Rel.tupleL {G:Nat} {φ:Phi} {l L:List Value} (h:RelL G φ l L):Rel G φ (.tuple l.toArray) (.tuple L.toArray):=
 have:=relA.2 (show RelL G φ l.toArray.toList L.toArray.toList by simpa using h);.tuple this.1 this.2
theorem RelL.of_free {G d:Nat} {φ:Phi} {l:List Value} (h:l.all (pf G d)=true):RelL G φ l l:=
 ⟨rfl,fun i hi=> .free (d:=d) (by rw [List.all_eq_true] at h;exact h _ (by simp [List.getD,hi]))⟩
end
section
open Go Go.RowKit
theorem beq_yes {x b:Nat} (h:x=b):Nat.beq x b=true:=by subst h;exact Nat.beq_refl x
theorem beq_no {x b:Nat} (h:x≠b):Nat.beq x b=false:=by
 cases e:Nat.beq x b
 ·rfl
 ·exact absurd (Nat.eq_of_beq_eq_true e) h
theorem look_nil (b:Nat):look [] b=none:=rfl
theorem look_cons (x:Nat×AObj) (h:Hp) (b:Nat):look (x::h) b=if x.1=b then some x.2 else look h b:=by
 have e:look (x::h) b=br (Nat.beq x.1 b) (some x.2) (look h b):=rfl
 rw [e]
 by_cases e:x.1=b
 ·rw [if_pos e,beq_yes e]
 ·rw [if_neg e,beq_no e]
theorem putB_cons (x:Nat×AObj) (h:Hp) (b:Nat) (o:AObj):putB (x::h) b o=if x.1=b then (x.1,o)::h else x::putB h b o:=by
 have e:putB (x::h) b o=br (Nat.beq x.1 b) ((x.1,o)::h) (x::putB h b o):=rfl
 rw [e]
 by_cases e:x.1=b
 ·rw [if_pos e,beq_yes e]
 ·rw [if_neg e,beq_no e]
theorem dropB_cons (x:Nat×AObj) (h:Hp) (b:Nat):dropB (x::h) b=if x.1=b then dropB h b else x::dropB h b:=by
 have e:dropB (x::h) b=br (Nat.beq x.1 b) (dropB h b) (x::dropB h b):=rfl
 rw [e]
 by_cases e:x.1=b
 ·rw [if_pos e,beq_yes e]
 ·rw [if_neg e,beq_no e]
theorem cutB_cons (x:Nat×AObj) (h:Hp) (n:Nat):cutB (x::h) n=if n≤x.1 then cutB h n else x::h:=by
 have e:cutB (x::h) n=br (Nat.ble n x.1) (cutB h n) (x::h):=rfl
 rw [e]
 by_cases e:n≤x.1
 ·rw [if_pos e,Nat.ble_eq_true_of_le e]
 ·rw [if_neg e]
  cases he:Nat.ble n x.1
  ·rfl
  ·exact absurd (Nat.le_of_ble_eq_true he) e
theorem look_putB (h:Hp) (b c:Nat) (o:AObj):look (putB h b o) c=if b=c then (look h c).map (fun _=>o) else look h c:=by
 induction h with
 |nil=>show look [] c=_;simp [look_nil]
 |cons x h ih=>
  rw [putB_cons]
  by_cases hx:x.1=b
  ·rw [if_pos hx,look_cons,look_cons]
   subst hx
   by_cases hc:x.1=c<;>simp [hc]
  ·rw [if_neg hx,look_cons,look_cons,ih]
   by_cases hc:b=c
   ·subst hc;simp [hx]
   ·simp [hc]
theorem look_dropB (h:Hp) (b c:Nat):look (dropB h b) c=if b=c then none else look h c:=by
 induction h with
 |nil=>show look [] c=_;simp [look_nil]
 |cons x h ih=>
  rw [dropB_cons]
  by_cases hx:x.1=b
  ·rw [if_pos hx,ih,look_cons,hx]
   by_cases hc:b=c<;>simp [hc]
  ·rw [if_neg hx,look_cons,look_cons,ih]
   by_cases hc:b=c
   ·subst hc;simp [hx]
   ·simp [hc]
abbrev Srt (h:Hp):Prop:=h.Pairwise fun x y=>y.1<x.1
theorem look_mem {h:Hp} {b:Nat} {o:AObj} (e:look h b=some o):(b,o)∈h:=by
 induction h with
 |nil=>rw [look_nil] at e;cases e
 |cons x h ih=>
  rw [look_cons] at e
  split at e
  ·rename_i hx;cases e;subst hx;exact List.mem_cons_self
  ·exact List.mem_cons_of_mem _ (ih e)
theorem look_cutB {h:Hp} (hs:Srt h) (n c:Nat):look (cutB h n) c=if c<n then look h c else none:=by
 induction h with
 |nil=>show look [] c=_;simp [look_nil]
 |cons x h ih=>
  have hs':=List.pairwise_cons.1 hs
  rw [cutB_cons]
  by_cases hx:n≤x.1
  ·rw [if_pos hx,ih hs'.2,look_cons]
   by_cases hc:c<n
   ·rw [if_pos hc,if_pos hc,if_neg (by omega)]
   ·rw [if_neg hc,if_neg hc]
  ·rw [if_neg hx]
   by_cases hc:c<n
   ·rw [if_pos hc]
   ·rw [if_neg hc]
    cases e:look (x::h) c with
    |none=>rfl
    |some o=>
     have hm:=look_mem e
     rcases List.mem_cons.1 hm with h1|h1
     ·subst h1;exact absurd hx (by simp;omega)
     ·have:=hs'.1 _ h1
      simp at this
      omega
theorem srt_putB {h:Hp} (hs:Srt h) (b:Nat) (o:AObj):Srt (putB h b o):=by
 have key: ∀h:Hp,(putB h b o).map (·.1)=h.map (·.1):=by
  intro h
  induction h with
  |nil=>rfl
  |cons x h ih=>rw [putB_cons];split<;>simp [ih]
 have h1:Srt h↔(h.map (·.1)).Pairwise (fun x y=>y<x):=by rw [List.pairwise_map]
 have h2:Srt (putB h b o)↔((putB h b o).map (·.1)).Pairwise (fun x y=>y<x):=by rw [List.pairwise_map]
 rw [h2,key h]
 exact h1.1 hs
theorem sub_dropB (h:Hp) (b:Nat):(dropB h b).Sublist h:=by
 induction h with
 |nil=>exact List.Sublist.slnil
 |cons x h ih=>
  rw [dropB_cons]
  split
  ·exact ih.cons _
  ·exact ih.cons_cons _
theorem sub_cutB (h:Hp) (n:Nat):(cutB h n).Sublist h:=by
 induction h with
 |nil=>exact List.Sublist.slnil
 |cons x h ih=>
  rw [cutB_cons]
  split
  ·exact ih.cons _
  ·exact List.Sublist.refl _
def ObjOk (P:Program) (G:Nat) (φ:Phi) (κ:Nat) (o:AObj) (W:World) (r:Nat):Prop:=
 match o with
 | .row cs e ext fz=> ∃C fr s,W.heap[r]? =some (.cells C e fr)∧RelL G φ cs (C.toList.take cs.length)∧(κ=0∨sizeB P e=some s)∧C.size=cs.length+κ*s∧
   (ext=false→κ=0)∧(fz=false→ ∀i,i<C.size→ ¬(fr.1≤i∧i<fr.2))
 | .iter s pos=>W.heap[r]? =some (.stringIter s pos)
structure Inv (P:Program) (G base:Nat) (φ:Phi) (st:St) (W:World):Prop where
 dom: ∀b r κ,φ b=some (r,κ)→G≤b∧base≤r∧r<W.heap.size
 wf: ∀b o,look st.heap b=some o→G≤b∧b<st.next
 srt:Srt st.heap
 obj: ∀b o r κ,look st.heap b=some o→φ b=some (r,κ)→ObjOk P G φ κ o W r
 inj: ∀b c o q r κ l,look st.heap b=some o→look st.heap c=some q→φ b=some (r,κ)→φ c=some (r,l)→b=c
 low:G≤st.next
structure Post (P:Program) (G base:Nat) (φ:Phi) (st:St) (W:World) (st':St) (φ':Phi) (W':World):Prop where
 le:φ.le φ'
 new: ∀b x,φ' b=some x→φ b=some x∨(st.next≤b∧b<st'.next)
 newr: ∀b r κ,φ' b=some (r,κ)→φ b=none→W.heap.size≤r∨ ∃c l,φ c=some (r,l)∧st'.low≤c∧c<st.next
 inv:Inv P G base φ' st' W'
 next:st.next≤st'.next
 low:st'.low≤st.low
 same: ∀b,b<st.next→b<st'.low→look st'.heap b=look st.heap b
 frame: ∀r,r<W.heap.size→(∀b κ,φ b=some (r,κ)→b<st.next→b<st'.low)→W'.heap[r]? =W.heap[r]?
 size:W.heap.size≤W'.heap.size
 os:W'.os=W.os
 tape:W'.tape=W.tape
 output:W'.output=W.output
theorem Post.refl {P:Program} {G base:Nat} {φ:Phi} {st:St} {W:World} (h:Inv P G base φ st W):Post P G base φ st W st φ W:=
 ⟨.rfl,fun _ _ h=> .inl h,fun b r κ h k=>(by rw [h] at k;cases k),h,Nat.le_refl _,Nat.le_refl _,fun _ _ _=>rfl,fun _ _ _=>rfl,Nat.le_refl _,rfl,rfl,rfl⟩
theorem Post.trans {P:Program} {G base:Nat} {φ φ' φ'':Phi} {st st' st'':St} {W W' W'':World} (h:Post P G base φ st W st' φ' W')
  (hf: ∀b,st.next≤b→b<st'.next→φ b=none) (k:Post P G base φ' st' W' st'' φ'' W''):Post P G base φ st W st'' φ'' W'':=by
 refine ⟨h.le.trans k.le,?_,?_,k.inv,Nat.le_trans h.next k.next,Nat.le_trans k.low h.low,?_,?_,Nat.le_trans h.size k.size,k.os.trans h.os,k.tape.trans h.tape,k.output.trans h.output⟩
 ·intro b x hx
  have:=h.next
  have:=k.next
  rcases k.new b x hx with h1|h1
  ·rcases h.new b x h1 with h2|h2
   ·exact .inl h2
   ·exact .inr ⟨h2.1,by omega⟩
  ·exact .inr ⟨by omega,h1.2⟩
 ·intro b r κ hx hn
  have hlow:=k.low
  by_cases hb:φ' b=none
  ·rcases k.newr b r κ hx hb with h1|⟨c,l,hc,hcl,hcn⟩
   ·exact .inl (Nat.le_trans h.size h1)
   ·by_cases hc0:φ c=none
    ·rcases h.newr c r l hc hc0 with h2|⟨d,m,hd,hdl,hdn⟩
     ·exact .inl h2
     ·exact .inr ⟨d,m,hd,by omega,hdn⟩
    ·obtain ⟨x,hx0⟩:=Option.ne_none_iff_exists'.1 hc0
     have he:=h.le c x hx0
     rw [hc] at he
     cases he
     refine .inr ⟨c,l,hx0,hcl,?_⟩
     rcases Nat.lt_or_ge c st.next with h3|h3
     ·exact h3
     ·exact absurd (hf c h3 hcn) (by rw [hx0];simp)
  ·obtain ⟨x,hx0⟩:=Option.ne_none_iff_exists'.1 hb
   have he:=k.le b x hx0
   rw [hx] at he
   cases he
   rcases h.newr b r κ hx0 hn with h2|⟨d,m,hd,hdl,hdn⟩
   ·exact .inl h2
   ·exact .inr ⟨d,m,hd,by omega,hdn⟩
 ·intro b hb hl
  rw [k.same b (Nat.lt_of_lt_of_le hb h.next) hl,h.same b hb (Nat.lt_of_lt_of_le hl k.low)]
 ·intro r hr hall
  have hlow:=k.low
  rw [k.frame r (Nat.lt_of_lt_of_le hr h.size) ?_,h.frame r hr (fun b κ hb hn=>Nat.lt_of_lt_of_le (hall b κ hb hn) hlow)]
  intro b κ hb hn
  by_cases hb0:φ b=none
  ·rcases h.newr b r κ hb hb0 with h1|⟨c,l,hc,hcl,hcn⟩
   ·omega
   ·have:=hall c l hc hcn
    omega
  ·obtain ⟨x,hx0⟩:=Option.ne_none_iff_exists'.1 hb0
   have he:=h.le b x hx0
   rw [hb] at he
   cases he
   rcases Nat.lt_or_ge b st.next with h3|h3
   ·exact hall b κ hx0 h3
   ·exact absurd (hf b h3 hn) (by rw [hx0];simp)
theorem Post.below {P:Program} {G base:Nat} {φ φ':Phi} {st st':St} {W W':World} (h:Post P G base φ st W st' φ' W') (hi:Inv P G base φ st W) (hb:base≤W.heap.size):Below base W W':=
 ⟨h.os,h.tape,h.output,h.size,fun k hk=>h.frame k (by omega) (fun b κ he _=>absurd (hi.dom b k κ he).2.1 (by omega))⟩
end
section
open Go Go.RowKit
section
variable {G:Nat} {φ:Phi}
theorem getD_list (cs:Array Value) (i:Nat):cs.getD i undef=cs.toList.getD i undef:=by
 simp [Array.getD_eq_getD_getElem?,List.getD]
theorem Rel.scalar {v V:Value} (h:Rel G φ v V):(∃d,pf G d v=true∧V=v)∨(∀d b k n f c s,v≠ .bool d∧v≠ .int k n∧v≠ .float f b∧v≠ .string s∧v≠ .pointer none∧v≠ .slice none b c∧v≠ .nilFunc∧v≠ .nilIface):=by
 cases h with
 |free h=>exact .inl ⟨_,h,rfl⟩
 |_=>right;intros;simp
theorem Rel.bool {b:Bool} {V:Value} (h:Rel G φ (.bool b) V):V= .bool b:=by cases h;rfl
theorem Rel.int {k:IntKind} {n:Int} {V:Value} (h:Rel G φ (.int k n) V):V= .int k n:=by cases h;rfl
theorem Rel.string {s:ByteArray} {V:Value} (h:Rel G φ (.string s) V):V= .string s:=by cases h;rfl
theorem Rel.ptr_nil {V:Value} (h:Rel G φ (.pointer none) V):V= .pointer none:=by cases h;rfl
theorem Rel.nilI {V:Value} (h:Rel G φ .nilIface V):V= .nilIface:=by cases h;rfl
theorem Rel.nilF {V:Value} (h:Rel G φ .nilFunc V):V= .nilFunc:=by cases h;rfl
theorem Rel.map_nil {V:Value} (h:Rel G φ (.map none) V):V= .map none:=by cases h;rfl
theorem Rel.slice_nil {n c:Nat} {V:Value} (h:Rel G φ (.slice none n c) V):V= .slice none n c:=by cases h;rfl
theorem Rel.ptr_inv {a:Addr} {V:Value} (h:Rel G φ (.pointer (some a)) V):
  (a.block<G∧V= .pointer (some a))∨ ∃r κ,a.spot=none∧φ a.block=some (r,κ)∧V= .pointer (some ⟨r,a.off,none⟩):=by
 cases h with
 |free h=>left;simp [pf] at h;exact ⟨by simpa [Nat.blt,Nat.ble_eq,Nat.succ_le_iff] using h,rfl⟩
 |ptr h=>exact .inr ⟨_,_,rfl,h,rfl⟩
theorem Rel.slice_inv {a:Addr} {n c:Nat} {V:Value} (h:Rel G φ (.slice (some a) n c) V):
  ∃r κ,a.spot=none∧φ a.block=some (r,κ)∧((∃c',c=2*c'∧V= .slice (some ⟨r,a.off,none⟩) n c')∨(∃c',c=2*c'+1∧V= .slice (some ⟨r,a.off,none⟩) n (c'+κ))):=by
 cases h with
 |free h=>simp [pf] at h
 |sliceX h=>exact ⟨_,_,rfl,h,.inl ⟨_,rfl,rfl⟩⟩
 |sliceE h=>exact ⟨_,_,rfl,h,.inr ⟨_,rfl,rfl⟩⟩
theorem RelL.free_all {d:Nat} {cs:Array Value} (h:cs.toList.all (pf G d)=true):RelL G φ cs.toList cs.toList:=RelL.of_free h
theorem Rel.iface_inv {t:TypeId} {v V:Value} (h:Rel G φ (.iface t v) V): ∃U,V= .iface t U∧Rel G φ v U:=by
 cases h with
 | @free d v h=>cases d with
  |zero=>simp [pf] at h
  |succ d=>exact ⟨_,rfl,.free (d:=d) (by simpa [pf] using h)⟩
 |iface h=>exact ⟨_,rfl,h⟩
theorem Rel.agg_inv {cs:Array Value} {V:Value} (h:Rel G φ (.agg cs) V): ∃Cs,V= .agg Cs∧RelL G φ cs.toList Cs.toList:=by
 cases h with
 | @free d v h=>cases d with
  |zero=>simp [pf] at h
  |succ d=>exact ⟨_,rfl,RelL.free_all (d:=d) (by simpa [pf] using h)⟩
 |agg e h=>exact ⟨_,rfl,relA.1 ⟨e,h⟩⟩
theorem Rel.tuple_inv {cs:Array Value} {V:Value} (h:Rel G φ (.tuple cs) V): ∃Cs,V= .tuple Cs∧RelL G φ cs.toList Cs.toList:=by
 cases h with
 | @free d v h=>cases d with
  |zero=>simp [pf] at h
  |succ d=>exact ⟨_,rfl,RelL.free_all (d:=d) (by simpa [pf] using h)⟩
 |tuple e h=>exact ⟨_,rfl,relA.1 ⟨e,h⟩⟩
theorem Rel.func_inv {fn:Fn} {f c:Array Value} {V:Value} (h:Rel G φ (.func fn f c) V): ∃F C,V= .func fn F C∧RelL G φ f.toList F.toList∧RelL G φ c.toList C.toList:=by
 cases h with
 | @free d v h=>cases d with
  |zero=>simp [pf] at h
  |succ d=>
   simp only [pf,Bool.and_eq_true] at h
   exact ⟨_,_,rfl,RelL.free_all (d:=d) h.1,RelL.free_all (d:=d) h.2⟩
 |func e h e' h'=>exact ⟨_,_,rfl,relA.1 ⟨e,h⟩,relA.1 ⟨e',h'⟩⟩
theorem Rel.map_inv {b:Nat} {V:Value} (h:Rel G φ (.map (some b)) V): ∃r κ,φ b=some (r,κ)∧V= .map (some r):=by
 cases h with
 |free h=>simp [pf] at h
 |map h=>exact ⟨_,_,h,rfl⟩
abbrev Above (G:Nat) (φ:Phi):Prop:= ∀b x,φ b=some x→G≤b
theorem arr_eq {cs Cs:Array Value} (e:cs.size=Cs.size) (h: ∀i,i<cs.size→Cs.getD i undef=cs.getD i undef):Cs=cs:=by
 apply Array.ext e.symm
 intro i h1 h2
 have:=h i h2
 simpa [Array.getD_eq_getD_getElem?,h1,h2] using this
theorem all_getD {d:Nat} {cs:Array Value} (h:cs.toList.all (pf G d)=true) {i:Nat} (hi:i<cs.size):pf G d (cs.getD i undef)=true:=by
 rw [List.all_eq_true] at h
 apply h
 rw [getD_list]
 simp [List.getD,hi]
theorem Rel.eq_of_pf (hG:Above G φ) {v V:Value} (h:Rel G φ v V): ∀d,pf G d v=true→V=v:=by
 induction h with
 |free=>intros;rfl
 |ptr e=>intro d hd;have:=hG _ _ e;simp [pf,Nat.blt,Nat.ble_eq] at hd;omega
 |sliceX=>intro d hd;simp [pf] at hd
 |sliceE=>intro d hd;simp [pf] at hd
 |map=>intro d hd;simp [pf] at hd
 |iface _ ih=>intro d hd;cases d with
  |zero=>simp [pf] at hd
  |succ d=>rw [ih d (by simpa [pf] using hd)]
 |agg e _ ih=>intro d hd;cases d with
  |zero=>simp [pf] at hd
  |succ d=>rw [arr_eq e fun i hi=>ih i hi d (all_getD (by simpa [pf] using hd) hi)]
 |tuple e _ ih=>intro d hd;cases d with
  |zero=>simp [pf] at hd
  |succ d=>rw [arr_eq e fun i hi=>ih i hi d (all_getD (by simpa [pf] using hd) hi)]
 |func e _ e' _ ih ih'=>intro d hd;cases d with
  |zero=>simp [pf] at hd
  |succ d=>
   simp only [pf,Bool.and_eq_true] at hd
   rw [arr_eq e fun i hi=>ih i hi d (all_getD hd.1 hi),arr_eq e' fun i hi=>ih' i hi d (all_getD hd.2 hi)]
theorem RelL.eq_of_pf (hG:Above G φ) {d:Nat}: ∀{l L:List Value},RelL G φ l L→l.all (pf G d)=true→L=l
 |[],L,h,_=>h.nil_inv
 |v::l,L,h,hd=>by
  obtain ⟨V,L',rfl,hv,hl⟩:=h.cons_inv
  simp only [List.all_cons,Bool.and_eq_true] at hd
  rw [hv.eq_of_pf hG d hd.1,hl.eq_of_pf hG hd.2]
theorem Rel.cells {v V:Value} (h:Rel G φ v V):RelL G φ v.cells.toList V.cells.toList∧V.cells.size=v.cells.size∧V.oneCell'=one v:=by
 have sing: ∀{v V:Value},Rel G φ v V→RelL G φ [v] [V]:=fun h=> .cons h .nil
 cases v with
 |agg cs=>obtain ⟨Cs,rfl,h'⟩:=h.agg_inv;exact ⟨h',by show Cs.size=cs.size;simpa using h'.1.symm,rfl⟩
 |tuple cs=>obtain ⟨Cs,rfl,h'⟩:=h.tuple_inv;exact ⟨sing h,rfl,rfl⟩
 |_=>cases h<;>exact ⟨sing (by first|exact .free (by assumption)|exact .ptr (by assumption)|exact .sliceX (by assumption)|exact .sliceE (by assumption)|exact .map (by assumption)|exact .iface (by assumption)|exact .func (by assumption) (by assumption) (by assumption) (by assumption)),rfl,rfl⟩
theorem RelL.ones: ∀{l L:List Value},RelL G φ l L→l.all one=true→ ∀V∈L,V.oneCell'=true
 |[],L,h,_,V,hV=>by rw [h.nil_inv] at hV;cases hV
 |v::l,L,h,hd,V,hV=>by
  obtain ⟨U,L',rfl,hv,hl⟩:=h.cons_inv
  simp only [List.all_cons,Bool.and_eq_true] at hd
  rcases List.mem_cons.1 hV with rfl|hm
  ·rw [hv.cells.2.2];exact hd.1
  ·exact hl.ones hd.2 V hm
end
theorem ObjOk.mono {P:Program} {G:Nat} {φ ψ:Phi} (hle:φ.le ψ) {κ:Nat} {o:AObj} {W W':World} {r:Nat} (h:ObjOk P G φ κ o W r) (e:W'.heap[r]? =W.heap[r]?):ObjOk P G ψ κ o W' r:=by
 cases o with
 |row cs el ext fz=>
  obtain ⟨C,fr,s,h1,h2,h3,h4,h5,h6⟩:=h
  exact ⟨C,fr,s,e.trans h1,h2.mono hle,h3,h4,h5,h6⟩
 |iter s pos=>exact e.trans h
theorem Inv.above {P:Program} {G base:Nat} {φ:Phi} {st:St} {W:World} (h:Inv P G base φ st W):Above G φ:=fun b x e=>by
 obtain ⟨r,κ⟩:=x
 exact (h.dom b r κ e).1
theorem cellsAt_ok {P:Program} {G base:Nat} {φ:Phi} {st:St} {W:World} (hi:Inv P G base φ st W) {a:Addr} {n:Nat} {l:List Value} (h:cellsAt st.heap a n=some l)
  {r κ:Nat} (hr:φ a.block=some (r,κ)):
  ∃L,RelL G φ l L∧L.length=n∧a.spot=none∧ ∀j V,L[j]? =some V→W.cell? ((⟨r,a.off,none⟩:Addr).add j)=some V:=by
 unfold cellsAt at h
 split at h
 ·cases h
 ·rename_i hs
  split at h
  ·rename_i cs e ext fz hl
   obtain ⟨C,fr,s,h1,h2,h3,h4,h5,h6⟩:=hi.obj _ _ _ _ hl hr
   obtain ⟨hb,rfl,hrel⟩:=h2.slc h
   refine ⟨_,hrel,?_,hs,?_⟩
   ·simp only [List.length_take,List.length_drop,Array.length_toList];omega
   ·intro j V hj
    rw [List.getElem?_take] at hj
    split at hj
    ·rename_i hjn
     rw [List.getElem?_drop,List.getElem?_take] at hj
     split at hj
     ·have e1:(⟨r,a.off,none⟩:Addr).add j=⟨r,a.off+j,none⟩:=by unfold Addr.add;split<;>simp_all
      rw [e1]
      simp only [World.cell?,h1]
      simpa using hj
     ·cases hj
    ·cases hj
  ·cases h
theorem load_ok {P:Program} {G base:Nat} {φ:Phi} {st:St} {W:World} (hi:Inv P G base φ st W) {a:Addr} {n:Nat} {l:List Value} (h:cellsAt st.heap a n=some l)
  {r κ:Nat} (hr:φ a.block=some (r,κ)): ∃L,RelL G φ l L∧L.length=n∧a.spot=none∧(loadCells ⟨r,a.off,none⟩ n).run P W= .ok L.toArray W∧
   (∀j V,L[j]? =some V→W.cell? ((⟨r,a.off,none⟩:Addr).add j)=some V):=by
 obtain ⟨L,h1,h2,h3,h4⟩:=cellsAt_ok hi h hr
 subst h2
 exact ⟨L,h1,rfl,h3,run_loadCells_list W _ L h4,h4⟩
theorem own_of_cells {P:Program} {G base:Nat} {φ:Phi} {st:St} {W:World} (hi:Inv P G base φ st W) {a:Addr} {n:Nat} {l:List Value} (h:cellsAt st.heap a n=some l):G≤a.block:=by
 unfold cellsAt at h
 split at h
 ·cases h
 ·split at h
  ·rename_i hl;exact (hi.wf _ _ hl).1
  ·cases h
theorem run_storeCells_any (P:Program) (g o:Nat) (t:TypeId) (fr:Nat×Nat): ∀(vs:List Value) (i:Nat) (cur:Array Value) (w:World),w.heap[g]? =some (.cells cur t fr)→o+i+vs.length≤cur.size→
  (∀k,k<cur.size→ ¬(fr.1≤k∧k<fr.2))→(∀v∈vs,v.oneCell'=true)→
  (storeCells ⟨g,o,none⟩ vs i).run P w= .ok () (w.setRow g (splice cur.toList (o+i) vs).toArray)
 |[],i,cur,w,hg,_,_,_=>by
  have e:splice cur.toList (o+i) []=cur.toList:=by
   have: ∀(l:List Value) (n:Nat),splice l n []=l:=by
    intro l
    induction l with
    |nil=>intro n;cases n<;>rfl
    |cons v l ih=>intro n;cases n with
     |zero=>rfl
     |succ n=>simp [splice,ih]
   exact this _ _
  simp only [storeCells,e,Array.toArray_toList]
  rw [setRow_self w g cur t fr hg]
  rfl
 |v::rest,i,cur,w,hg,hl,hf,h1=>by
  have hi:o+i<cur.size:=by simp at hl;omega
  have hadd:(⟨g,o,none⟩:Addr).add i=⟨g,o+i,none⟩:=by unfold Addr.add;split<;>simp_all
  have hcell:w.cell? ⟨g,o+i,none⟩=some cur[o+i]:=by simp [World.cell?,hg,hi]
  have hfro:w.frozen? ⟨g,o+i,none⟩=false:=by
   have:=hf (o+i) hi
   simp only [World.frozen?,hg,Bool.and_eq_false_iff,decide_eq_false_iff_not]
   by_cases h:fr.1≤o+i
   ·exact .inr fun k=>this ⟨h,k⟩
   ·exact .inl h
  have hst:(store ((⟨g,o,none⟩:Addr).add i) v).run P w= .ok () (w.setRow g (cur.setIfInBounds (o+i) v)):=by
   rw [hadd,run_store P w _ v _ (h1 v (by simp)),hcell]
   simp [hfro,setCell_eq_setRow w g (o+i) cur t fr v hg]
  have ih:=run_storeCells_any P g o t fr rest (i+1) (cur.setIfInBounds (o+i) v) (w.setRow g (cur.setIfInBounds (o+i) v)) (setRow_heap w g cur _ t fr hg) (by simp at hl ⊢;omega) (by simpa using hf) (fun x hx=>h1 x (by simp [hx]))
  simp only [storeCells,Sem.run_bind,hst,Result.andThen_ok,ih,setRow_setRow]
  congr 3
  have key: ∀(l:List Value) (n:Nat),n<l.length→splice (l.set n v) (n+1) rest=splice l n (v::rest):=by
   intro l
   induction l with
   |nil=>intro n h;simp at h
   |cons x l ih=>intro n h;cases n with
    |zero=>simp [splice]
    |succ n=>simp only [List.set_cons_succ,splice];rw [ih n (by simpa using h)]
  have:=key cur.toList (o+i) (by simpa using hi)
  simpa [Nat.add_assoc] using this
theorem splice_take: ∀(C:List Value) (n k:Nat) (x:List Value),n+x.length≤k→(splice C n x).take k=splice (C.take k) n x:=by
 intro C
 induction C with
 |nil=>intro n k x _;cases n<;>cases x<;>simp [splice]
 |cons c C ih=>
  intro n k x h
  cases n with
  |succ n=>
   cases k with
   |zero=>omega
   |succ k=>simp only [splice,List.take_succ_cons];rw [ih n k x (by omega)]
  |zero=>
   cases x with
   |nil=>cases k<;>simp [splice]
   |cons y x=>
    cases k with
    |zero=>simp at h
    |succ k=>simp only [splice,List.take_succ_cons];rw [ih 0 k x (by simp at h ⊢;omega)]
theorem write_ok {P:Program} {G base:Nat} {φ:Phi} {st st':St} {W:World} (hi:Inv P G base φ st W) {a:Addr} {new New:List Value} (h:writeB st a new=some st')
  {r κ:Nat} (hr:φ a.block=some (r,κ)) (hrel:RelL G φ new New):
  ∃W',(storeCells ⟨r,a.off,none⟩ New).run P W= .ok () W'∧Post P G base φ st W st' φ W'∧a.spot=none:=by
 unfold writeB at h
 split at h
 ·rename_i cs e ext hs hl
  split at h
  ·rename_i hc
   cases h
   rw [Bool.and_eq_true] at hc
   obtain ⟨hb,hone⟩:=hc
   have hb:=Nat.le_of_ble_eq_true hb
   obtain ⟨C,fr,s,h1,h2,h3,h4,h5,h6⟩:=hi.obj _ _ _ _ hl hr
   have hN:New.length=new.length:=hrel.1.symm
   have hcl:cs.length≤C.size:=by omega
   have hrun:=run_storeCells_any P r a.off e fr New 0 C W h1 (by omega) (h6 rfl) (hrel.ones hone)
   refine ⟨_,hrun,?_,hs⟩
   have hd:=hi.dom _ _ _ hr
   have hw:=hi.wf _ _ hl
   have hlt:st.next≤st.next:=Nat.le_refl _
   refine ⟨.rfl,fun _ _ h=> .inl h,fun b r' κ' h1 h2=>(by rw [h1] at h2;cases h2),?_,hlt,Nat.min_le_left _ _,?_,?_,by simp,rfl,rfl,rfl⟩
   ·refine ⟨fun b r' κ' hb'=>by simpa using hi.dom b r' κ' hb',?_,srt_putB hi.srt _ _,?_,?_,hi.low⟩
    ·intro b o hb'
     change look (putB st.heap a.block _) b=some o at hb'
     rw [look_putB] at hb'
     split at hb'
     ·rename_i heq;subst heq;exact hw
     ·exact hi.wf b o hb'
    ·intro b o r' κ' hb' hr'
     change look (putB st.heap a.block _) b=some o at hb'
     rw [look_putB] at hb'
     split at hb'
     ·rename_i heq
      subst heq
      rw [hl] at hb'
      rw [hr] at hr'
      cases hb'
      cases hr'
      refine ⟨_,fr,s,setRow_heap W r C _ e fr h1,?_,h3,?_,h5,?_⟩
      ·rw [splice_length]
       rw [splice_take _ _ _ _ (by omega)]
       simpa using h2.splice hrel
      ·simp only [List.size_toArray,splice_length,Array.length_toList];exact h4
      ·intro hz
       simp only [List.size_toArray,splice_length,Array.length_toList]
       exact h6 rfl
     ·rename_i hne
      have hne':r'≠r:=fun e'=>hne (by subst e';exact hi.inj _ _ _ _ _ _ _ hl hb' hr hr')
      exact (hi.obj b o r' κ' hb' hr').mono .rfl (setRow_other W r r' _ hne')
    ·intro b c o q r' κ' l' hb' hc' h1' h2'
     change look (putB st.heap a.block _) b=some o at hb'
     change look (putB st.heap a.block _) c=some q at hc'
     have wit: ∀d w,look (putB st.heap a.block (.row (splice cs a.off new) e ext false)) d=some w→ ∃w',look st.heap d=some w':=by
      intro d w hd'
      rw [look_putB] at hd'
      split at hd'
      ·rename_i heq;subst heq;exact ⟨_,hl⟩
      ·exact ⟨_,hd'⟩
     obtain ⟨_,x1⟩:=wit b o hb'
     obtain ⟨_,x2⟩:=wit c q hc'
     exact hi.inj _ _ _ _ _ _ _ x1 x2 h1' h2'
   ·intro b _ hbl
    change look (putB st.heap a.block _) b=look st.heap b
    have:b<Nat.min st.low a.block:=hbl
    have:b<a.block:=Nat.lt_of_lt_of_le this (Nat.min_le_right _ _)
    rw [look_putB,if_neg (by omega)]
   ·intro r' _ hall
    refine setRow_other W r r' _ ?_
    intro e'
    subst e'
    have:=hall a.block κ hr hw.2
    have:a.block<Nat.min st.low a.block:=this
    have:a.block<a.block:=Nat.lt_of_lt_of_le this (Nat.min_le_right _ _)
    omega
  ·cases h
 ·cases h
end
section
open Go Go.RowKit
def SemOk (P:Program) (G base:Nat) (φ:Phi) (st:St) (W:World) (s:Sem Value) (v:Value) (st':St):Prop:=
 ∃V φ' W',s.run P W= .ok V W'∧Post P G base φ st W st' φ' W'∧Rel G φ' v V
def Phi.add (φ:Phi) (b:Nat) (x:Nat×Nat):Phi:=fun c=>if c=b then some x else φ c
theorem Phi.add_le {φ:Phi} {b:Nat} {x:Nat×Nat} (h:φ b=none):φ.le (φ.add b x):=fun c y e=>by
 unfold Phi.add
 split
 ·rename_i hc;subst hc;rw [h] at e;cases e
 ·exact e
theorem Phi.add_self (φ:Phi) (b:Nat) (x:Nat×Nat):φ.add b x b=some x:=by simp [Phi.add]
theorem new_post {P:Program} {G base:Nat} {φ:Phi} {st:St} {W W1:World} (hi:Inv P G base φ st W) (hb:base≤W.heap.size) (hf:φ st.next=none) (o:AObj) (O:Obj) (κ:Nat)
  (h1:W1.heap=W.heap) (h2:W1.os=W.os) (h3:W1.tape=W.tape) (h4:W1.output=W.output)
  (hO:ObjOk P G (φ.add st.next (W.heap.size,κ)) κ o (W1.alloc O) W.heap.size):
  Post P G base φ st W ⟨(st.next,o)::st.heap,st.next+1,st.low⟩ (φ.add st.next (W.heap.size,κ)) (W1.alloc O):=by
 have hs:(W1.alloc O).heap.size=W.heap.size+1:=by simp [h1]
 have hold: ∀r,r<W.heap.size→(W1.alloc O).heap[r]? =W.heap[r]? :=fun r hr=>by
  rw [←h1] at hr ⊢
  show (W1.heap.push O)[r]? =_
  rw [Array.getElem?_push,if_neg (by omega)]
 have hle:=Phi.add_le (x:=(W.heap.size,κ)) hf
 refine ⟨hle,?_,?_,?_,Nat.le_succ _,Nat.le_refl _,?_,fun r hr _=>hold r hr,by rw [hs];omega,h2,h3,h4⟩
 ·intro b x hx
  unfold Phi.add at hx
  split at hx
  ·rename_i hc;subst hc;exact .inr ⟨Nat.le_refl _,Nat.lt_succ_self _⟩
  ·exact .inl hx
 ·intro b r κ' hx hn
  unfold Phi.add at hx
  split at hx
  ·cases hx;exact .inl (Nat.le_refl _)
  ·rw [hn] at hx;cases hx
 ·refine ⟨?_,?_,?_,?_,?_,by have:=hi.low;show G≤st.next+1;omega⟩
  ·intro b r κ' hx
   unfold Phi.add at hx
   split at hx
   ·rename_i hc;subst hc;cases hx;exact ⟨hi.low,hb,by rw [hs];omega⟩
   ·have:=hi.dom b r κ' hx;exact ⟨this.1,this.2.1,by rw [hs];omega⟩
  ·intro b q hq
   change look ((st.next,o)::st.heap) b=some q at hq
   rw [look_cons] at hq
   show G≤b∧b<st.next+1
   split at hq
   ·rename_i hc;change st.next=b at hc;subst hc;exact ⟨hi.low,Nat.lt_succ_self _⟩
   ·have:=hi.wf b q hq;omega
  ·refine List.pairwise_cons.2 ⟨fun x hx=> ?_,hi.srt⟩
   obtain ⟨k,q⟩:=x
   have: ∃q',look st.heap k=some q':=by
    have key: ∀l:Hp,(k,q)∈l→ ∃q',look l k=some q':=by
     intro l
     induction l with
     |nil=>intro h;cases h
     |cons y l ih=>
      intro h
      rw [look_cons]
      split
      ·exact ⟨_,rfl⟩
      ·rename_i hne
       rcases List.mem_cons.1 h with e|e
       ·exact absurd (by rw [←e]) hne
       ·exact ih e
    exact key _ hx
   obtain ⟨q',hq'⟩:=this
   exact (hi.wf k q' hq').2
  ·intro b q r κ' hq hx
   change look ((st.next,o)::st.heap) b=some q at hq
   rw [look_cons] at hq
   unfold Phi.add at hx
   split at hq
   ·rename_i hc
    change st.next=b at hc
    subst hc
    rw [if_pos rfl] at hx
    cases hx;cases hq
    exact hO
   ·rename_i hc
    change ¬st.next=b at hc
    rw [if_neg (fun e=>hc e.symm)] at hx
    exact (hi.obj b q r κ' hq hx).mono hle (hold r (hi.dom b r κ' hx).2.2)
  ·intro b c q q' r κ' l hq hq' hx hx'
   change look ((st.next,o)::st.heap) b=some q at hq
   change look ((st.next,o)::st.heap) c=some q' at hq'
   rw [look_cons] at hq hq'
   unfold Phi.add at hx hx'
   split at hq<;>split at hq'
   ·rename_i h5 h6;change st.next=b at h5;change st.next=c at h6;omega
   ·rename_i h5 h6
    change st.next=b at h5;change ¬st.next=c at h6
    rw [if_pos h5.symm] at hx;rw [if_neg (fun e=>h6 e.symm)] at hx'
    cases hx
    have:=(hi.dom _ _ _ hx').2.2
    omega
   ·rename_i h5 h6
    change ¬st.next=b at h5;change st.next=c at h6
    rw [if_pos h6.symm] at hx';rw [if_neg (fun e=>h5 e.symm)] at hx
    cases hx'
    have:=(hi.dom _ _ _ hx).2.2
    omega
   ·rename_i h5 h6
    change ¬st.next=b at h5;change ¬st.next=c at h6
    rw [if_neg (fun e=>h5 e.symm)] at hx;rw [if_neg (fun e=>h6 e.symm)] at hx'
    exact hi.inj _ _ _ _ _ _ _ hq hq' hx hx'
 ·intro b hbn _
  show look ((st.next,o)::st.heap) b=_
  rw [look_cons,if_neg (show ¬st.next=b by omega)]
section
variable {P:Program} {G base:Nat} {φ:Phi} {st st':St} {W:World}
theorem zeroB_ok {t:TypeId} {z:Value} (h:zeroB P G t=some z): ∃i,P.info? t=some i∧i.zero=some z∧pf G 6 z=true:=by
 unfold zeroB at h
 split at h
 ·rename_i i hi
  split at h
  ·rename_i z' hz
   split at h
   ·rename_i hp;cases h;exact ⟨i,hi,hz,hp⟩
   ·cases h
  ·cases h
 ·cases h
theorem sizeB_ok {t:TypeId} {n:Nat} (h:sizeB P t=some n): ∃i,P.info? t=some i∧i.size=n:=by
 unfold sizeB at h
 cases hi:P.info? t with
 |none=>rw [hi] at h;cases h
 |some i=>rw [hi] at h;exact ⟨i,rfl,by simpa using h⟩
theorem bytesB_ok {t:TypeId} {n:Nat} (h:bytesB P t=some n): ∃i,P.info? t=some i∧i.bytes=n:=by
 unfold bytesB at h
 cases hi:P.info? t with
 |none=>rw [hi] at h;cases h
 |some i=>rw [hi] at h;exact ⟨i,rfl,by simpa using h⟩
theorem row_new {ψ:Phi} {cs Cs:List Value} {e:TypeId} (hrel:RelL G ψ cs Cs) (W1:World):ObjOk P G ψ 0 (.row cs e false false) (W1.alloc (.cells Cs.toArray e)) W1.heap.size:=by
 refine ⟨Cs.toArray,(0,0),0,?_,?_,.inl rfl,?_,fun _=>rfl,fun _ i _=>by simp⟩
 ·show (W1.heap.push _)[W1.heap.size]? =_
  simp
 ·rw [hrel.1];simpa using hrel
 ·simp [hrel.1]
theorem put_inv {o:AObj} {f:Nat→Value} {v:Value} (h:st.put o f=some (v,st')):v=f st.next∧st'=⟨(st.next,o)::st.heap,st.next+1,st.low⟩:=by
 unfold St.put at h
 cases h
 exact ⟨rfl,rfl⟩
abbrev Fresh (φ:Phi) (st _st':St):Prop:= ∀b,st.next≤b→φ b=none
theorem Fresh.one {o:AObj} {l:Nat} {h:Hp} (hf:Fresh φ st ⟨(st.next,o)::h,st.next+1,l⟩):φ st.next=none:=hf _ (Nat.le_refl _)
theorem evBox_ok (hi:Inv P G base φ st W) (hb:base≤W.heap.size) {e:TypeId} {x X v:Value} (h:evBox e x st=some (v,st')) (hf:Fresh φ st st') (hx:Rel G φ x X):
  SemOk P G base φ st W (Instr.box e X) v st':=by
 obtain ⟨rfl,rfl⟩:=put_inv h
 have hle:=Phi.add_le (x:=(W.heap.size,0)) hf.one
 have ho:=row_new (P:=P) (e:=e) (hx.cells.1.mono hle) W
 have hp:=new_post hi hb hf.one _ _ 0 rfl rfl rfl rfl ho
 simp only [Array.toArray_toList] at hp
 refine ⟨_,_,_,?_,hp,.ptr (Phi.add_self _ _ _)⟩
 simp [Instr.box,newVar,newRow]
theorem evAlloc_ok (hi:Inv P G base φ st W) (hb:base≤W.heap.size) {e:TypeId} {v:Value} (h:evAlloc P G e st=some (v,st')) (hf:Fresh φ st st'):
  SemOk P G base φ st W (Instr.alloc e true (.tuple #[])) v st':=by
 unfold evAlloc at h
 split at h
 ·rename_i z hz
  obtain ⟨i,hi1,hi2,hi3⟩:=zeroB_ok hz
  obtain ⟨rfl,rfl⟩:=put_inv h
  have ho:=row_new (P:=P) (e:=e) (Rel.free (φ:=φ.add st.next (W.heap.size,0)) hi3).cells.1 W
  have hp:=new_post hi hb hf.one _ _ 0 rfl rfl rfl rfl ho
  simp only [Array.toArray_toList] at hp
  refine ⟨_,_,_,?_,hp,.ptr (Phi.add_self _ _ _)⟩
  simp [Instr.alloc,zeroValue,typeInfo,hi1,hi2,newVar,newRow]
 ·cases h
theorem isAggB_ok {t:TypeId} {b:Bool} (h:isAggB P t=some b) (W:World):(isAgg t).run P W= .ok b W:=by
 unfold isAggB at h
 split at h
 ·rename_i hu;cases h;simp [isAgg,run_underlying hu]
 ·rename_i hu;cases h;simp [isAgg,run_underlying hu]
 ·rename_i d hu h1 h2
  cases h
  simp only [isAgg,Sem.run_bind,run_underlying h2,Result.andThen_ok]
  cases d<;>simp_all
 ·cases h
theorem add_zero (a:Addr):a.add 0=a:=by simp [Addr.add]
theorem loadB_ok (hi:Inv P G base φ st W) {t:TypeId} {a A v:Value} (h:loadB P st.heap t a=some v) (ha:Rel G φ a A):
  ∃V,Rel G φ v V∧ ∃ad,A= .pointer (some ad)∧(loadVar t ad).run P W= .ok V W:=by
 unfold loadB at h
 split at h
 ·rename_i a0
  split at h
  ·rename_i n h1 h2
   split at h
   ·rename_i l hl
    cases h
    rcases ha.ptr_inv with ⟨hlt,_⟩|⟨r,κ,hs,hr,rfl⟩
    ·have:=own_of_cells hi hl;omega
    ·obtain ⟨L,hL,hlen,_,hrun,_⟩:=load_ok hi hl hr
     obtain ⟨i,hi1,hi2⟩:=sizeB_ok h2
     refine ⟨_,Rel.aggL hL,_,rfl,?_⟩
     simp [loadVar,isAggB_ok h1,sizeOf,typeInfo,hi1,hi2,hrun]
   ·cases h
  ·rename_i _ h2
   split at h
   ·rename_i v' hl
    cases h
    rcases ha.ptr_inv with ⟨hlt,_⟩|⟨r,κ,hs,hr,rfl⟩
    ·have:=own_of_cells hi hl;omega
    ·obtain ⟨L,hL,hlen,_,hrun,hcell⟩:=load_ok hi hl hr
     obtain ⟨V,L',rfl,hV,hL'⟩:=hL.cons_inv
     have hc:=hcell 0 V rfl
     rw [add_zero] at hc
     refine ⟨V,hV,_,rfl,?_⟩
     simp [loadVar,isAggB_ok h2,hc]
   ·cases h
  ·cases h
 ·cases h
theorem evLoad_ok (hi:Inv P G base φ st W) {t:TypeId} {a A v:Value} (h:evLoad P t a st=some (v,st')) (ha:Rel G φ a A):
  st'=st∧ ∃V,Rel G φ v V∧(Instr.loadAt t A).run P W= .ok V W:=by
 unfold evLoad at h
 split at h
 ·rename_i v' hv
  cases h
  obtain ⟨V,hV,ad,rfl,hrun⟩:=loadB_ok hi hv ha
  exact ⟨rfl,V,hV,by simp [Instr.loadAt,Instr.sureAddr,hrun]⟩
 ·cases h
theorem own_of_write {a:Addr} {new:List Value} (hi:Inv P G base φ st W) (h:writeB st a new=some st'):G≤a.block:=by
 unfold writeB at h
 split at h
 ·rename_i hl;exact (hi.wf _ _ hl).1
 ·cases h
theorem evStore_ok (hi:Inv P G base φ st W) {t:TypeId} {a A x X v:Value} (h:evStore P t a x st=some (v,st')) (ha:Rel G φ a A) (hx:Rel G φ x X):
  v=undef∧ ∃W',(Instr.storeAt t A X).run P W= .ok () W'∧Post P G base φ st W st' φ W':=by
 unfold evStore at h
 split at h
 ·rename_i a0 n hn
  split at h
  ·rename_i hsz
   split at h
   ·rename_i st1 hw
    cases h
    rcases ha.ptr_inv with ⟨hlt,_⟩|⟨r,κ,hs,hr,rfl⟩
    ·have:=own_of_write hi hw;omega
    ·obtain ⟨W',hrun,hpost,_⟩:=write_ok hi hw hr hx.cells.1
     obtain ⟨i,hi1,hi2⟩:=sizeB_ok hn
     have hsz':=Nat.eq_of_beq_eq_true hsz
     refine ⟨rfl,W',?_,hpost⟩
     simp [Instr.storeAt,Instr.sureAddr,storeVar,sizeOf,typeInfo,hi1,hi2,hx.cells.2.1,hsz',hrun]
   ·cases h
  ·cases h
 ·cases h
end
end
section
open Go Go.RowKit
def CalmOk (P:Program) (G:Nat) (φ:Phi) (s:Sem Value) (v:Value):Prop:= ∃V,Rel G φ v V∧ ∀W,s.run P W= .ok V W
section
variable {P:Program} {G:Nat} {φ:Phi} {st st':St}
theorem blt_ok {a b:Nat} (h:Nat.blt a b=true):a<b:=Nat.le_of_ble_eq_true h
theorem addr_add (r o n:Nat):(⟨r,o,none⟩:Addr).add n=⟨r,o+n,none⟩:=by unfold Addr.add;split<;>simp_all
theorem natOf_ok {v:Value} {n:Nat} (h:natOf v=some n): ∃k,v= .int k n:=by
 unfold natOf at h
 split at h
 ·cases h;exact ⟨_,rfl⟩
 ·cases h
theorem natOf_rel {v V:Value} {n:Nat} (h:natOf v=some n) (hr:Rel G φ v V): ∃k,V= .int k n:=by
 obtain ⟨k,rfl⟩:=natOf_ok h
 exact ⟨k,hr.int⟩
theorem free_ptr {a:Addr} (h:a.block<G):Rel G φ (.pointer (some a)) (.pointer (some a)):=
 .free (d:=0) (by simp [pf,Nat.blt,Nat.ble_eq];exact h)
theorem ptr_moved {b o:Nat} {X:Value} (hx:Rel G φ (.pointer (some ⟨b,o,none⟩)) X): ∃r,X= .pointer (some ⟨r,o,none⟩)∧ ∀n,Rel G φ (.pointer (some ⟨b,o+n,none⟩)) (.pointer (some ⟨r,o+n,none⟩)):=by
 rcases hx.ptr_inv with ⟨hlt,rfl⟩|⟨r,κ,_,hr,rfl⟩
 ·exact ⟨b,rfl,fun n=>free_ptr hlt⟩
 ·exact ⟨r,rfl,fun n=> .ptr hr⟩
theorem evFieldAddr_ok {s:TypeId} {x X v:Value} {f:Nat} (h:evFieldAddr P s x f st=some (v,st')) (hx:Rel G φ x X):st'=st∧CalmOk P G φ (Instr.fieldAt s X f) v:=by
 unfold evFieldAddr at h
 split at h
 ·rename_i fs b o hu
  split at h
  ·rename_i fd hfd
   split at h
   ·rename_i n hn
    split at h
    ·cases h
    ·rename_i hz
     cases h
     obtain ⟨r,rfl,hm⟩:=ptr_moved hx
     obtain ⟨i,hi1,hi2⟩:=sizeB_ok hn
     have hne:i.size≠0:=fun e=>by rw [hi2] at e;subst e;cases hz
     refine ⟨rfl,_,hm fd.offset,fun W=> ?_⟩
     simp [Instr.fieldAt,run_underlying hu,hfd,Instr.sureAddr,fieldPlace,sizeOf,typeInfo,hi1,hne,addr_add]
   ·cases h
  ·cases h
 ·cases h
theorem evIndexAddr_ok {t:TypeId} {x X ix IX v:Value} (h:evIndexAddr P t x ix st=some (v,st')) (hx:Rel G φ x X) (hix:Rel G φ ix IX):st'=st∧CalmOk P G φ (Instr.indexAt t X IX) v:=by
 unfold evIndexAddr at h
 split at h
 ·rename_i elem b o len cap i hu hi
  split at h
  ·rename_i n hn hlt
   cases h
   obtain ⟨k,rfl⟩:=natOf_rel hi hix
   obtain ⟨j,hj1,hj2⟩:=sizeB_ok hn
   have hlt':i<len:=blt_ok hlt
   have hle:(0:Int)≤(i:Int)∧(i:Int)<(len:Int):=⟨by omega,by omega⟩
   obtain ⟨r,κ,_,hr,hX⟩:=hx.slice_inv
   refine ⟨rfl,.pointer (some ⟨r,o+i*n,none⟩),.ptr hr,fun W=> ?_⟩
   rcases hX with ⟨c,_,rfl⟩|⟨c,_,rfl⟩<;>
    (simp [Instr.indexAt,asIntOf,run_underlying hu,sizeOf,typeInfo,hj1,hj2,addr_add];intro;omega)
  ·cases h
 ·rename_i len elem b o i hu hi
  split at h
  ·rename_i n hn hlt
   cases h
   obtain ⟨k,rfl⟩:=natOf_rel hi hix
   obtain ⟨j,hj1,hj2⟩:=sizeB_ok hn
   have hlt':i<len:=blt_ok hlt
   have hle:(0:Int)≤(i:Int)∧(i:Int)<(len:Int):=⟨by omega,by omega⟩
   obtain ⟨r,rfl,hm⟩:=ptr_moved hx
   refine ⟨rfl,_,hm (i*n),fun W=> ?_⟩
   simp [Instr.indexAt,Instr.sureAddr,asIntOf,run_underlying hu,sizeOf,typeInfo,hj1,hj2,addr_add]
   intro;omega
  ·cases h
 ·cases h
theorem boundB_ok {x X:Option Value} {d y n:Nat} (h:boundB x d y=some n) (hx: ∀v,x=some v→ ∃V,X=some V∧Rel G φ v V) (hn:x=none→X=none):
  (X=none∧n=d)∨ ∃k,X=some (.int k n)∧n≤y:=by
 unfold boundB at h
 split at h
 ·cases h;exact .inl ⟨hn rfl,rfl⟩
 ·rename_i k i
  split at h
  ·rename_i hb
   cases h
   obtain ⟨V,rfl,hV⟩:=hx _ rfl
   right
   exact ⟨k,by rw [hV.int];rfl,Nat.le_of_ble_eq_true hb⟩
  ·cases h
 ·cases h
theorem run_sliceBound (W:World) (k:IntKind) (n y:Nat) (c:BoundsCode) (h:n≤y):(Instr.sliceBound (.int k n) y c).run P W= .ok n W:=by
 have:(0:Int)≤(n:Int)∧(n:Int)≤(y:Int):=⟨by omega,by omega⟩
 simp [Instr.sliceBound,asIntOf,this]
def RelO (G:Nat) (φ:Phi) (x X:Option Value):Prop:=(∀v,x=some v→ ∃V,X=some V∧Rel G φ v V)∧(x=none→X=none)
theorem RelO.map {ts:Ts} {A:Act} {o:Option Operand} (h: ∀y,o=some y→Rel G φ (ρ ts y) (A.eval y)):RelO G φ (o.map (ρ ts)) (o.map A.eval):=by
 cases o with
 |none=>exact ⟨fun v hv=>(by cases hv),fun _=>rfl⟩
 |some y=>exact ⟨fun v hv=>⟨_,rfl,by cases hv;exact h y rfl⟩,fun hn=>by cases hn⟩
theorem evSliceStr_ok {t:TypeId} (hu:P.underlying t=some .string) {s:ByteArray} {lo hi LO HI:Option Value} {v:Value} (h:evSliceStr s lo hi st=some (v,st')) (hlo:RelO G φ lo LO) (hhi:RelO G φ hi HI):
  st'=st∧CalmOk P G φ (Instr.sliceAt t (.string s) LO HI none) v:=by
 unfold evSliceStr at h
 split at h
 ·rename_i hh hb1
  split at h
  ·rename_i l hb2
   cases h
   refine ⟨rfl,_,.free (d:=0) rfl,fun W=> ?_⟩
   rcases boundB_ok hb1 hhi.1 hhi.2 with ⟨rfl,rfl⟩|⟨k,rfl,hle⟩<;>rcases boundB_ok hb2 hlo.1 hlo.2 with ⟨rfl,rfl⟩|⟨k',rfl,hle'⟩<;>
    simp [Instr.sliceAt,Instr.slice,run_underlying hu,Instr.sliceBounds,run_sliceBound, *]
  ·cases h
 ·cases h
theorem evSliceRow_ok {t elem:TypeId} (hu:P.underlying t=some (.slice elem)) {a:Addr} {len cap:Nat} {X v:Value} {lo hi LO HI:Option Value} (h:evSliceRow P elem a len cap lo hi st=some (v,st'))
  (hx:Rel G φ (.slice (some a) len cap) X) (hlo:RelO G φ lo LO) (hhi:RelO G φ hi HI):st'=st∧CalmOk P G φ (Instr.sliceAt t X LO HI none) v:=by
 unfold evSliceRow at h
 split at h
 ·rename_i n hh hn hh1
  split at h
  ·rename_i l hl1
   obtain ⟨j,hj1,hj2⟩:=sizeB_ok hn
   obtain ⟨r,κ,_,hr,hX⟩:=hx.slice_inv
   have bnd: ∀c,cap/2≤c→ ∀W,(Instr.sliceBounds true len c LO HI none).run P W= .ok (l,hh,c) W:=by
    intro c hc W
    rcases boundB_ok hh1 hhi.1 hhi.2 with ⟨rfl,rfl⟩|⟨k,rfl,hle⟩<;>rcases boundB_ok hl1 hlo.1 hlo.2 with ⟨rfl,rfl⟩|⟨k',rfl,hle'⟩
    ·simp [Instr.sliceBounds]
    ·simp [Instr.sliceBounds,run_sliceBound,hle']
    ·simp [Instr.sliceBounds,run_sliceBound,Nat.le_trans hle hc]
    ·simp [Instr.sliceBounds,run_sliceBound,Nat.le_trans hle hc,hle']
   split at h
   ·rename_i hev
    have hX':X= .slice (some ⟨r,a.off,none⟩) len (cap/2):=by
     rcases hX with ⟨c',hc,rfl⟩|⟨c',hc,rfl⟩
     ·rw [show cap/2=c' by omega]
     ·omega
    subst hX'
    split at h
    ·rename_i hbe
     cases h
     have hbe:=Nat.eq_of_beq_eq_true hbe
     subst hbe
     refine ⟨rfl,.slice (some ⟨r,a.off,none⟩) (hh - _) 0,.sliceX hr,fun W=> ?_⟩
     simp [Instr.sliceAt,Instr.slice,run_underlying hu,bnd _ (Nat.le_refl _),sizeOf,typeInfo,hj1]
    ·rename_i hbe
     cases h
     have hbe:cap/2≠l:=Nat.ne_of_beq_eq_false hbe
     refine ⟨rfl,.slice (some ⟨r,a.off+l*n,none⟩) (hh - l) (cap/2 - l),.sliceX hr,fun W=> ?_⟩
     simp [Instr.sliceAt,Instr.slice,run_underlying hu,bnd _ (Nat.le_refl _),sizeOf,typeInfo,hj1,hj2,hbe,addr_add]
   ·rename_i hodd
    split at h
    ·rename_i hlt
     cases h
     have hlt:=blt_ok hlt
     have hX':X= .slice (some ⟨r,a.off,none⟩) len (cap/2+κ):=by
      rcases hX with ⟨c',hc,rfl⟩|⟨c',hc,rfl⟩
      ·exact absurd (by omega:cap % 2=0) hodd
      ·rw [show cap/2=c' by omega]
     subst hX'
     have hne: ¬(cap/2+κ=l):=by omega
     refine ⟨rfl,.slice (some ⟨r,a.off+l*n,none⟩) (hh - l) (cap/2 - l+κ),.sliceE hr,fun W=> ?_⟩
     simp [Instr.sliceAt,Instr.slice,run_underlying hu,bnd _ (Nat.le_add_right _ κ),sizeOf,typeInfo,hj1,hj2,hne,addr_add]
     omega
    ·cases h
  ·cases h
 ·cases h
theorem evSliceMax_ok {t elem:TypeId} (hu:P.underlying t=some (.slice elem)) {a:Addr} {len cap:Nat} {X v hi mx HI MX:Value} {lo LO:Option Value} (h:evSliceMax P elem a cap lo hi mx st=some (v,st'))
  (hx:Rel G φ (.slice (some a) len cap) X) (hlo:RelO G φ lo LO) (hhi:Rel G φ hi HI) (hmx:Rel G φ mx MX):st'=st∧CalmOk P G φ (Instr.sliceAt t X LO (some HI) (some MX)) v:=by
 unfold evSliceMax at h
 split at h
 ·rename_i n m hh hn hm hh1
  split at h
  ·rename_i l hb hl1
   rw [Bool.and_eq_true] at hb
   have hb1:=Nat.le_of_ble_eq_true hb.1
   have hb2:=Nat.le_of_ble_eq_true hb.2
   obtain ⟨k1,rfl⟩:=natOf_rel hm hmx
   obtain ⟨k2,rfl⟩:=natOf_rel hh1 hhi
   obtain ⟨j,hj1,hj2⟩:=sizeB_ok hn
   obtain ⟨r,κ,_,hr,hX⟩:=hx.slice_inv
   have hX': ∃c,X= .slice (some ⟨r,a.off,none⟩) len c∧cap/2≤c:=by
    rcases hX with ⟨c',hc,rfl⟩|⟨c',hc,rfl⟩
    ·exact ⟨_,rfl,by omega⟩
    ·exact ⟨_,rfl,by omega⟩
   obtain ⟨c,rfl,hc⟩:=hX'
   clear hX
   have bnd: ∀W,(Instr.sliceBounds true len c LO (some (.int k2 hh)) (some (.int k1 m))).run P W= .ok (l,hh,m) W:=by
    intro W
    rcases boundB_ok hl1 hlo.1 hlo.2 with ⟨rfl,rfl⟩|⟨k',rfl,hle'⟩
    ·simp [Instr.sliceBounds,run_sliceBound,Nat.le_trans hb1 hc,hb2]
    ·simp [Instr.sliceBounds,run_sliceBound,Nat.le_trans hb1 hc,hb2,hle']
   split at h
   ·rename_i hbe
    cases h
    have hbe:=Nat.eq_of_beq_eq_true hbe
    subst hbe
    refine ⟨rfl,.slice (some ⟨r,a.off,none⟩) (hh - _) 0,.sliceX hr,fun W=> ?_⟩
    simp [Instr.sliceAt,Instr.slice,run_underlying hu,bnd,sizeOf,typeInfo,hj1]
   ·rename_i hbe
    cases h
    have hbe:m≠l:=Nat.ne_of_beq_eq_false hbe
    refine ⟨rfl,.slice (some ⟨r,a.off+l*n,none⟩) (hh - l) (m - l),.sliceX hr,fun W=> ?_⟩
    simp [Instr.sliceAt,Instr.slice,run_underlying hu,bnd,sizeOf,typeInfo,hj1,hj2,hbe,addr_add]
  ·cases h
 ·cases h
theorem evSliceArr_ok {t elem:TypeId} {N:Nat} (hu:P.underlying t=some (.array N elem)) {a:Addr} (ha:G≤a.block) {X v:Value} {lo hi LO HI:Option Value} (h:evSliceArr P elem N a lo hi st=some (v,st'))
  (hx:Rel G φ (.pointer (some a)) X) (hlo:RelO G φ lo LO) (hhi:RelO G φ hi HI):st'=st∧CalmOk P G φ (Instr.sliceAt t X LO HI none) v:=by
 unfold evSliceArr at h
 split at h
 ·rename_i n hh hn hh1
  split at h
  ·rename_i l hl1
   obtain ⟨j,hj1,hj2⟩:=sizeB_ok hn
   rcases hx.ptr_inv with ⟨hlt,_⟩|⟨r,κ,hs,hr,rfl⟩
   ·omega
   have bnd: ∀W,(Instr.sliceBounds false N N LO HI none).run P W= .ok (l,hh,N) W:=by
    intro W
    rcases boundB_ok hh1 hhi.1 hhi.2 with ⟨rfl,rfl⟩|⟨k,rfl,hle⟩<;>rcases boundB_ok hl1 hlo.1 hlo.2 with ⟨rfl,rfl⟩|⟨k',rfl,hle'⟩
    ·simp [Instr.sliceBounds]
    ·simp [Instr.sliceBounds,run_sliceBound,hle']
    ·simp [Instr.sliceBounds,run_sliceBound,hle]
    ·simp [Instr.sliceBounds,run_sliceBound,hle,hle']
   split at h
   ·rename_i hbe
    cases h
    have hbe:=Nat.eq_of_beq_eq_true hbe
    subst hbe
    refine ⟨rfl,.slice (some ⟨r,a.off,none⟩) (hh - _) 0,.sliceX hr,fun W=> ?_⟩
    simp [Instr.sliceAt,Instr.sureAddr,run_underlying hu,bnd,sizeOf,typeInfo,hj1]
   ·rename_i hbe
    cases h
    have hbe:N≠l:=Nat.ne_of_beq_eq_false hbe
    refine ⟨rfl,.slice (some ⟨r,a.off+l*n,none⟩) (hh - l) (N - l),.sliceX hr,fun W=> ?_⟩
    simp [Instr.sliceAt,Instr.sureAddr,run_underlying hu,bnd,sizeOf,typeInfo,hj1,hj2,hbe,addr_add]
  ·cases h
 ·cases h
theorem evSlice_ok {t:TypeId} {x X v:Value} {lo hi mx LO HI MX:Option Value} (h:evSlice P G t x lo hi mx st=some (v,st'))
  (hx:Rel G φ x X) (hlo:RelO G φ lo LO) (hhi:RelO G φ hi HI) (hmx:RelO G φ mx MX):st'=st∧CalmOk P G φ (Instr.sliceAt t X LO HI MX) v:=by
 unfold evSlice at h
 split at h
 ·rename_i hu;rw [hx.string,hmx.2 rfl];exact evSliceStr_ok hu h hlo hhi
 ·rename_i hu;rw [hmx.2 rfl];exact evSliceRow_ok hu h hx hlo hhi
 ·rename_i hu
  split at h
  ·obtain ⟨M,rfl,hM⟩:=hmx.1 _ rfl
   obtain ⟨H,rfl,hH⟩:=hhi.1 _ rfl
   exact evSliceMax_ok hu h hx hlo hH hM
  ·cases h
 ·rename_i elem hu
  split at h
  ·rename_i n h1 l1 hn hb1 hb2
   cases h
   obtain ⟨j,hj1,hj2⟩:=sizeB_ok hn
   rw [hx.slice_nil,hmx.2 rfl]
   refine ⟨rfl,.slice none 0 0,.free (d:=0) rfl,fun W=> ?_⟩
   have h0: ∀k c,(Instr.sliceBound (.int k 0) 0 c).run P W= .ok 0 W:=fun k c=>run_sliceBound W k 0 0 c (Nat.le_refl 0)
   rcases boundB_ok hb1 hhi.1 hhi.2 with ⟨rfl,rfl⟩|⟨k,rfl,hle⟩<;>rcases boundB_ok hb2 hlo.1 hlo.2 with ⟨rfl,rfl⟩|⟨k',rfl,hle'⟩
   ·simp [Instr.sliceAt,Instr.slice,run_underlying hu,Instr.sliceBounds,sizeOf,typeInfo,hj1]
   ·have:l1=0:=by omega
    subst this
    simp [Instr.sliceAt,Instr.slice,run_underlying hu,Instr.sliceBounds,sizeOf,typeInfo,hj1,h0]
   ·have:h1=0:=by omega
    subst this
    simp [Instr.sliceAt,Instr.slice,run_underlying hu,Instr.sliceBounds,sizeOf,typeInfo,hj1,h0]
   ·have:h1=0:=by omega
    subst this
    have:l1=0:=by omega
    subst this
    simp [Instr.sliceAt,Instr.slice,run_underlying hu,Instr.sliceBounds,sizeOf,typeInfo,hj1,h0]
  ·cases h
 ·rename_i hu
  split at h
  ·rename_i hb
   rw [hmx.2 rfl]
   exact evSliceArr_ok hu (Nat.le_of_ble_eq_true hb) h hx hlo hhi
  ·cases h
 ·cases h
def RelP (G:Nat) (φ:Phi) (l L:List (Nat×Value)):Prop:=l.length=L.length∧ ∀i,i<l.length→(l.getD i (0,undef)).1=(L.getD i (0,undef)).1∧Rel G φ (l.getD i (0,undef)).2 (L.getD i (0,undef)).2
theorem RelP.nil_inv {L:List (Nat×Value)} (h:RelP G φ [] L):L=[]:=List.eq_nil_of_length_eq_zero (by simpa using h.1.symm)
theorem RelP.cons_inv {k:Nat} {v:Value} {l L:List (Nat×Value)} (h:RelP G φ ((k,v)::l) L): ∃V L',L=(k,V)::L'∧Rel G φ v V∧RelP G φ l L':=by
 cases L with
 |nil=>simp [RelP] at h
 |cons x L'=>
  obtain ⟨k',V⟩:=x
  have h0:=h.2 0 (by simp)
  have e:k=k':=h0.1
  subst e
  refine ⟨V,L',rfl,h0.2,by simpa using h.1,fun i hi=> ?_⟩
  have:=h.2 (i+1) (by simp;exact hi)
  simpa using this
theorem RelP.of_map {ts:Ts} {A:Act}: ∀{l:List (Nat×Operand)},(∀y∈l,Rel G φ (ρ ts y.2) (A.eval y.2))→RelP G φ (l.map fun p=>(p.1,ρ ts p.2)) (l.map fun p=>(p.1,A.eval p.2)):=by
 intro l h
 refine ⟨by simp,fun i hi=> ?_⟩
 have hi':i<l.length:=by simpa using hi
 simp only [List.getD,List.getElem?_map,List.getElem?_eq_getElem hi',Option.map_some,Option.getD_some]
 exact ⟨trivial,h _ (List.getElem_mem hi')⟩
theorem RelL.set {l L:List Value} (h:RelL G φ l L) {v V:Value} (hv:Rel G φ v V) (i:Nat):RelL G φ (l.set i v) (L.set i V):=by
 refine ⟨by simpa using h.1,fun j hj=> ?_⟩
 have hj':j<l.length:=by simpa using hj
 have hJ:j<L.length:=h.1▸hj'
 by_cases e:i=j
 ·subst e;simp [List.getD,hj',hJ,hv]
 ·have:=h.2 j hj'
  simp only [List.getD,List.getElem?_set_ne e] at this ⊢
  exact this
theorem fold_set: ∀(vs Vs:List Value) (cs Cs:Array Value) (off k:Nat),RelL G φ vs Vs→RelL G φ cs.toList Cs.toList→
  RelL G φ ((vs.zipIdx k).foldl (fun cs (x:Value×Nat)=>cs.setIfInBounds (off+x.2) x.1) cs).toList ((Vs.zipIdx k).foldl (fun cs (x:Value×Nat)=>cs.setIfInBounds (off+x.2) x.1) Cs).toList:=by
 intro vs
 induction vs with
 |nil=>intro Vs cs Cs off k h hc;rw [h.nil_inv];exact hc
 |cons v vs ih=>
  intro Vs cs Cs off k h hc
  obtain ⟨V,Vs',rfl,hv,hl⟩:=h.cons_inv
  simp only [List.zipIdx_cons,List.foldl_cons]
  refine ih _ _ _ off (k+1) hl ?_
  simp only [Array.toList_setIfInBounds]
  exact hc.set hv _
theorem fill_ok {place:Nat→Option (Nat×Nat)}: ∀{l L:List (Nat×Value)} {cs Cs out:Array Value},RelP G φ l L→RelL G φ cs.toList Cs.toList→Instr.fill place cs l=some out→
  ∃Out,Instr.fill place Cs L=some Out∧RelL G φ out.toList Out.toList:=by
 intro l
 induction l with
 |nil=>intro L cs Cs out h hc e;rw [h.nil_inv];simp only [Instr.fill] at e;cases e;exact ⟨Cs,rfl,hc⟩
 |cons x l ih=>
  obtain ⟨k,v⟩:=x
  intro L cs Cs out h hc e
  obtain ⟨V,L',rfl,hv,hl⟩:=h.cons_inv
  simp only [Instr.fill] at e ⊢
  cases hp:place k with
  |none=>rw [hp] at e;cases e
  |some y=>
   obtain ⟨off,size⟩:=y
   rw [hp] at e
   simp only at e ⊢
   have hvc:=hv.cells
   have hsz:Cs.size=cs.size:=by have:=hc.1;simpa using this.symm
   rw [hvc.2.1,hsz]
   split at e
   ·cases e
   ·rename_i hcond
    rw [if_neg hcond]
    refine ih hl ?_ e
    have hz: ∀(a:Array Value) (cs:Array Value),(a.zipIdx.foldl (fun cs (x:Value×Nat)=>cs.setIfInBounds (off+x.2) x.1) cs)=((a.toList.zipIdx 0).foldl (fun cs (x:Value×Nat)=>cs.setIfInBounds (off+x.2) x.1) cs):=by
     intro a cs
     rw [←Array.foldl_toList]
     simp
    have:=fold_set v.cells.toList V.cells.toList cs Cs off 0 hvc.1 hc
    rw [←hz,←hz] at this
    exact this
theorem run_sizeOf {t:TypeId} {n:Nat} (h:sizeB P t=some n) (W:World):(sizeOf t).run P W= .ok n W:=by
 obtain ⟨j,hj1,hj2⟩:=sizeB_ok h
 simp [sizeOf,typeInfo,hj1,hj2]
theorem evBuild_ok {t:TypeId} {l L:List (Nat×Value)} {v:Value} (h:evBuild P G t l st=some (v,st')) (hl:RelP G φ l L):st'=st∧CalmOk P G φ (Instr.build t L.toArray) v:=by
 unfold evBuild at h
 split at h
 ·rename_i fs z hu hz
  obtain ⟨i,hi1,hi2,hi3⟩:=zeroB_ok hz
  split at h
  ·rename_i hall
   split at h
   ·rename_i cells hfill
    cases h
    obtain ⟨Out,hO,hrel⟩:=fill_ok hl (Rel.free (φ:=φ) hi3).cells.1 hfill
    refine ⟨rfl,.agg Out,by simpa using Rel.aggL hrel,fun W=> ?_⟩
    have hplaces: ∀(l:List Field),(l.all fun f=>(sizeB P f.type).isSome)=true→(l.mapM fun f=>(do pure (f.offset,←sizeOf f.type):Sem (Nat×Nat))).run P W= .ok (l.map fun f=>(f.offset,(sizeB P f.type).getD 0)) W:=by
     intro l
     induction l with
     |nil=>intro _;rfl
     |cons f l ih=>
      intro hall
      simp only [List.all_cons,Bool.and_eq_true] at hall
      obtain ⟨n,hn⟩:=Option.isSome_iff_exists.1 hall.1
      simp only [List.mapM_cons,Sem.run_bind,run_sizeOf hn,Sem.run_pure,Result.andThen_ok,ih hall.2,List.map_cons,hn,Option.getD_some]
    have hp:=hplaces fs.toList (by simpa using hall)
    have hpa:(fs.mapM fun f=>(do pure (f.offset,←sizeOf f.type):Sem (Nat×Nat))).run P W= .ok (fs.map fun f=>(f.offset,(sizeB P f.type).getD 0)) W:=by
     rw [Array.mapM_eq_mapM_toList]
     rw [Sem.run_map,hp]
     simp only [Result.andThen_ok]
     congr 1
     apply Array.ext'
     simp
    have hpl:(fun k=>(fs.map fun f=>(f.offset,(sizeB P f.type).getD 0))[k]?)=placeB P fs:=by
     funext k
     unfold placeB
     rw [Array.getElem?_map]
     cases hk:fs[k]? with
     |none=>rfl
     |some f=>
      have hm:f∈fs:=Array.mem_of_getElem? hk
      have:=Array.all_eq_true_iff_forall_mem.1 hall f hm
      obtain ⟨n,hn⟩:=Option.isSome_iff_exists.1 this
      simp [hn]
    have hz0:(zeroValue t).run P W= .ok z W:=by simp [zeroValue,typeInfo,hi1,hi2]
    simp only [Instr.build,Sem.run_bind,hz0,Result.andThen_ok,run_underlying hu,hpa]
    rw [hpl,hO]
    rfl
   ·cases h
  ·cases h
 ·rename_i n e z hu hz
  obtain ⟨i,hi1,hi2,hi3⟩:=zeroB_ok hz
  split at h
  ·rename_i n hn
   obtain ⟨j,hj1,hj2⟩:=sizeB_ok hn
   split at h
   ·rename_i cells hfill
    cases h
    obtain ⟨Out,hO,hrel⟩:=fill_ok hl (Rel.free (φ:=φ) hi3).cells.1 hfill
    refine ⟨rfl,.agg Out,by simpa using Rel.aggL hrel,fun W=> ?_⟩
    simp [Instr.build,zeroValue,typeInfo,hi1,hi2,run_underlying hu,sizeOf,hj1,hj2,hO]
   ·cases h
  ·cases h
 ·cases h
theorem evPart_ok {t:TypeId} {cs:List Value} {Cs:Array Value} {off:Nat} {v:Value} (h:evPart P t cs off st=some (v,st')) (hc:RelL G φ cs Cs.toList):st'=st∧CalmOk P G φ (part t Cs off) v:=by
 unfold evPart at h
 split at h
 ·rename_i n ha hn
  obtain ⟨j,hj1,hj2⟩:=sizeB_ok hn
  split at h
  ·rename_i l hl
   cases h
   obtain ⟨hb,rfl,hrel⟩:=hc.slc hl
   refine ⟨rfl,_,Rel.aggL hrel,fun W=> ?_⟩
   simp only [part,Sem.run_bind,isAggB_ok ha,Result.andThen_ok,if_true,sizeOf,typeInfo]
   simp only [run_program,Result.andThen_ok,hj1,hj2,Sem.run_pure]
   congr 2
   apply Array.ext'
   simp
  ·cases h
 ·rename_i ha hn
  split at h
  ·rename_i v' hl
   cases h
   obtain ⟨hb,he,hrel⟩:=hc.slc hl
   obtain ⟨V,L',hL,hV,hn'⟩:=hrel.cons_inv
   refine ⟨rfl,V,hV,fun W=> ?_⟩
   have hget:Cs[off]? =some V:=by
    have:(Cs.toList.drop off).take 1=V::L':=hL
    have h2:((Cs.toList.drop off).take 1)[0]? =some V:=by rw [this];rfl
    rw [List.getElem?_take,if_pos (by omega),List.getElem?_drop] at h2
    simpa using h2
   simp [part,isAggB_ok ha,hget]
  ·cases h
 ·cases h
theorem evField_ok {t:TypeId} {x X v:Value} {f:Nat} (h:evField P t x f st=some (v,st')) (hx:Rel G φ x X):st'=st∧CalmOk P G φ (Instr.field t X f) v:=by
 unfold evField at h
 split at h
 ·rename_i fs cs hu
  split at h
  ·rename_i fd hfd
   obtain ⟨Cs,rfl,hc⟩:=hx.agg_inv
   obtain ⟨h1,V,hV,hrun⟩:=evPart_ok h hc
   refine ⟨h1,V,hV,fun W=> ?_⟩
   simp [Instr.field,run_underlying hu,hfd,asAgg,hrun]
  ·cases h
 ·cases h
theorem evIndex_ok {t:TypeId} {x X ix IX v:Value} (h:evIndex P t x ix st=some (v,st')) (hx:Rel G φ x X) (hix:Rel G φ ix IX):st'=st∧CalmOk P G φ (Instr.index t X IX) v:=by
 unfold evIndex at h
 split at h
 ·rename_i s i hu hi
  obtain ⟨k,rfl⟩:=natOf_rel hi hix
  split at h
  ·rename_i b hb
   cases h
   rw [hx.string]
   refine ⟨rfl,_,.free (d:=0) rfl,fun W=> ?_⟩
   have hb':s[i]? =some b:=by
    obtain ⟨h1,h2⟩:=List.getElem?_eq_some_iff.1 hb
    have h3:i<s.size:=by simpa using h1
    rw [getElem?_pos s i h3]
    congr 1
   simp [Instr.index,asIntOf,run_underlying hu,hb']
  ·cases h
 ·rename_i len e cs i hu hi
  obtain ⟨k,rfl⟩:=natOf_rel hi hix
  split at h
  ·rename_i n hlt hn
   obtain ⟨j,hj1,hj2⟩:=sizeB_ok hn
   obtain ⟨Cs,rfl,hc⟩:=hx.agg_inv
   obtain ⟨h1,V,hV,hrun⟩:=evPart_ok h hc
   have hlt:=blt_ok hlt
   refine ⟨h1,V,hV,fun W=> ?_⟩
   have hle:(0:Int)≤(i:Int)∧(i:Int)<(len:Int):=⟨by omega,by omega⟩
   simp only [Instr.index,asIntOf,run_underlying hu,Sem.run_bind,Sem.run_pure,Result.andThen_ok,hle,and_self,if_true,sizeOf,typeInfo,run_program,hj1,hj2,Int.toNat_natCast]
   exact hrun W
  ·cases h
 ·cases h
end
end
section
open Go Go.RowKit
section
variable {P:Program} {G:Nat} {φ:Phi} {st st':St}
theorem run_pureRun {α:Type}: ∀{s:Sem α} {a:α},pureRun P s=some a→ ∀W,s.run P W= .ok a W:=by
 intro s
 induction s with
 |pure x=>intro a h W;simp only [pureRun] at h;cases h;rfl
 |program k ih=>intro a h W;simp only [pureRun] at h;exact ih P h W
 |_=>intro a h W;simp [pureRun] at h
theorem evPure_ok (hG:Above G φ) {args Args:List Value} {s:List Value→Sem Value} {v:Value} (h:evPure P G args (s args) st=some (v,st')) (ha:RelL G φ args Args):st'=st∧CalmOk P G φ (s Args) v:=by
 unfold evPure at h
 split at h
 ·rename_i hp
  split at h
  ·rename_i v' hr
   split at h
   ·rename_i hv
    cases h
    rw [ha.eq_of_pf hG hp]
    exact ⟨rfl,v,.free hv,run_pureRun hr⟩
   ·cases h
  ·cases h
 ·cases h
theorem evIface_ok {t:TypeId} {x X v:Value} (h:evIface P t x st=some (v,st')) (hx:Rel G φ x X):st'=st∧CalmOk P G φ (Instr.makeInterface t X) v:=by
 unfold evIface at h
 split at h
 ·cases h
 ·rename_i d hd hu
  cases h
  refine ⟨rfl,_,.iface hx,fun W=> ?_⟩
  simp only [Instr.makeInterface,Sem.run_bind,run_underlying hu,Result.andThen_ok]
  cases d<;>first|rfl|exact absurd rfl (hd _)
 ·cases h
theorem evPick_ok {c C a A b B v:Value} (h:evPick c a b st=some (v,st')) (hc:Rel G φ c C) (ha:Rel G φ a A) (hb:Rel G φ b B):
  st'=st∧CalmOk P G φ (do pure (if ←asBool C then A else B)) v:=by
 unfold evPick at h
 split at h
 ·cases h;rw [hc.bool];exact ⟨rfl,A,ha,fun W=>by simp [asBool]⟩
 ·cases h;rw [hc.bool];exact ⟨rfl,B,hb,fun W=>by simp [asBool]⟩
 ·cases h
theorem evExtract_ok {t T v:Value} {i:Nat} (h:evExtract t i st=some (v,st')) (ht:Rel G φ t T):st'=st∧CalmOk P G φ (Instr.extract T i) v:=by
 unfold evExtract at h
 split at h
 ·rename_i vs
  split at h
  ·rename_i v' hv
   cases h
   obtain ⟨Vs,rfl,hl⟩:=ht.tuple_inv
   obtain ⟨V,hV,hr⟩:=hl.get hv
   refine ⟨rfl,V,hr,fun W=> ?_⟩
   have:Vs[i]? =some V:=by simpa using hV
   simp [Instr.extract,this]
  ·cases h
 ·cases h
theorem evNil_ok {x X v:Value} (h:evNil x st=some (v,st')) (hx:Rel G φ x X):st'=st∧v=x∧
  ((∃a,X= .pointer (some a))∨(∃t u,X= .iface t u)∨ ∃f F C,X= .func (.func f) F C):=by
 unfold evNil at h
 split at h
 ·cases h
  rcases hx.ptr_inv with ⟨_,rfl⟩|⟨_,_,_,_,rfl⟩
  ·exact ⟨rfl,rfl,.inl ⟨_,rfl⟩⟩
  ·exact ⟨rfl,rfl,.inl ⟨_,rfl⟩⟩
 ·cases h
  obtain ⟨U,rfl,_⟩:=hx.iface_inv
  exact ⟨rfl,rfl,.inr (.inl ⟨_,_,rfl⟩)⟩
 ·cases h
  obtain ⟨F,C,rfl,_⟩:=hx.func_inv
  exact ⟨rfl,rfl,.inr (.inr ⟨_,_,_,rfl⟩)⟩
 ·cases h
theorem holdsB_rel {ok:Bool} {v V:Value} (h:Rel G φ v V):Rel G φ (holdsB ok v) (holdsB ok V):=by
 cases ok
 ·exact h
 ·exact Rel.tupleL (.cons h (.cons (.free (d:=0) rfl) .nil))
theorem evAssert_ok {x X v:Value} {t0 asserted:TypeId} {ok:Bool} (h:evAssert P G x asserted ok st=some (v,st')) (hx:Rel G φ x X):st'=st∧CalmOk P G φ (Instr.typeAssert X t0 asserted ok) v:=by
 have fails: ∀z,zeroB P G asserted=some z→Rel G φ (.tuple #[z,.bool false]) (.tuple #[z,.bool false])∧ ∀W,(zeroValue asserted).run P W= .ok z W:=by
  intro z hz
  obtain ⟨i,hi1,hi2,hi3⟩:=zeroB_ok hz
  exact ⟨Rel.tupleL (l:=[z,.bool false]) (L:=[z,.bool false]) (.cons (.free hi3) (.cons (.free (d:=0) rfl) .nil)),fun W=>by simp [zeroValue,typeInfo,hi1,hi2]⟩
 unfold evAssert at h
 split at h
 ·rename_i want t u hu
  split at h
  ·rename_i i hi
   split at h
   ·rename_i hm
    cases h
    obtain ⟨U,rfl,hU⟩:=hx.iface_inv
    refine ⟨rfl,_,holdsB_rel hx,fun W=> ?_⟩
    cases ok<;>simp [Instr.typeAssert,run_underlying hu,typeInfo,hi,hm,holdsB]
   ·cases h
  ·cases h
 ·cases h
 ·rename_i d t u hd hu
  obtain ⟨U,rfl,hU⟩:=hx.iface_inv
  split at h
  ·rename_i he
   cases h
   have he:=Nat.eq_of_beq_eq_true he
   subst he
   refine ⟨rfl,_,holdsB_rel hU,fun W=> ?_⟩
   simp only [Instr.typeAssert,Sem.run_bind,run_underlying hu,Result.andThen_ok]
   cases d<;>first|(cases ok<;>simp [holdsB])|exact absurd rfl (hd _)
  ·rename_i he
   have he:t≠asserted:=Nat.ne_of_beq_eq_false he
   split at h
   ·rename_i z hz
    cases h
    obtain ⟨h1,h2⟩:=fails z hz
    refine ⟨rfl,_,h1,fun W=> ?_⟩
    simp only [Instr.typeAssert,Sem.run_bind,run_underlying hu,Result.andThen_ok]
    cases d<;>first|simp [he,h2]|exact absurd rfl (hd _)
   ·cases h
 ·rename_i d hd hu
  rw [hx.nilI]
  split at h
  ·rename_i z hz
   cases h
   obtain ⟨h1,h2⟩:=fails z hz
   refine ⟨rfl,_,h1,fun W=> ?_⟩
   simp only [Instr.typeAssert,Sem.run_bind,run_underlying hu,Result.andThen_ok]
   cases d<;>first|simp [h2]|exact absurd rfl (hd _)
  ·cases h
 ·cases h
theorem evLen_ok {t ty:TypeId} {ts:Array TypeId} {x X v:Value} (ht:ts[0]? =some t) (h:evLen P t x st=some (v,st')) (hx:Rel G φ x X):st'=st∧CalmOk P G φ (Builtin.len_ ts ty #[X]) v:=by
 unfold evLen at h
 split at h
 ·rename_i hu;cases h;rw [hx.string]
  exact ⟨rfl,_,.free (d:=0) rfl,fun W=>by simp [Builtin.len_,ht,run_underlying hu]⟩
 ·rename_i hu;cases h
  refine ⟨rfl,_,.free (d:=0) rfl,fun W=> ?_⟩
  rename_i a n c
  cases a with
  |none=>rw [hx.slice_nil];simp [Builtin.len_,ht,run_underlying hu]
  |some a=>
   obtain ⟨r,κ,_,_,hX⟩:=hx.slice_inv
   rcases hX with ⟨c',_,rfl⟩|⟨c',_,rfl⟩<;>simp [Builtin.len_,ht,run_underlying hu]
 ·rename_i hu;cases h
  exact ⟨rfl,_,.free (d:=0) rfl,fun W=>by simp [Builtin.len_,ht,run_underlying hu]⟩
 ·cases h
theorem run_sliceData {ts:Array TypeId} {ty:TypeId} (a:Addr) (n c:Nat) (h:c≠0) (W:World):(Builtin.unsafeSliceData_ ts ty #[.slice (some a) n c]).run P W= .ok (.pointer (some a)) W:=by
 have e:Builtin.unsafeSliceData_ ts ty #[.slice (some a) n c]=(if c≠0 then pure (.pointer (some a)) else do
  if (←viewAt a.block).isSome then pure (.pointer (some a))
  else pure (.pointer (some ⟨←newObj (.view a (←elemOf ty)),0,none⟩))):=rfl
 rw [e,if_pos h]
 rfl
theorem evSliceData_ok {ts:Array TypeId} {ty:TypeId} {x X v:Value} (h:evSliceData x st=some (v,st')) (hx:Rel G φ x X):st'=st∧CalmOk P G φ (Builtin.unsafeSliceData_ ts ty #[X]) v:=by
 unfold evSliceData at h
 split at h
 ·cases h;rw [hx.slice_nil]
  exact ⟨rfl,_,.free (d:=0) rfl,fun W=>rfl⟩
 ·rename_i a n cap
  split at h
  ·rename_i hb
   cases h
   have hb:=Nat.le_of_ble_eq_true hb
   obtain ⟨r,κ,hs,hr,hX⟩:=hx.slice_inv
   obtain ⟨ab,ao,asp⟩:=a
   cases hs
   refine ⟨rfl,.pointer (some ⟨r,ao,none⟩),.ptr hr,fun W=> ?_⟩
   rcases hX with ⟨c',hc,rfl⟩|⟨c',hc,rfl⟩
   ·exact run_sliceData _ _ _ (by omega) W
   ·exact run_sliceData _ _ _ (by omega) W
  ·cases h
 ·cases h
theorem run_eqGuard_out {op:BinOp} {t:TypeId} {x y:Operand} {A B:Value} (h1: ¬(A= .nilIface∧B= .nilIface)) (h2: ∀c d,¬(A= .agg c∧B= .agg d)) (W:World):(eqGuard op t x y A B).run P W= .ok () W:=by
 unfold eqGuard
 split
 ·simp only [Bool.not_true,Bool.false_eq_true,if_false]
  cases A<;>cases B<;>first|rfl|exact absurd ⟨rfl,rfl⟩ h1|exact absurd ⟨rfl,rfl⟩ (h2 _ _)
 ·simp only [Bool.not_true,Bool.false_eq_true,if_false]
  cases A<;>cases B<;>first|rfl|exact absurd ⟨rfl,rfl⟩ h1|exact absurd ⟨rfl,rfl⟩ (h2 _ _)
 ·simp
theorem run_binOp_eq {t:TypeId} {A B:Value} {r:Bool} (hA: ∀k n,A≠ .int k n) (hA2: ∀k n,A≠ .float k n) (hA3: ∀k n m,A≠ .complex k n m) (hA4: ∀s,A≠ .string s)
  (h: ∀d W,(Op.equalIn (d+1) t A B).run P W= .ok r W) (W:World):
  (binOp .eql t A B).run P W= .ok (.bool r) W∧(binOp .neq t A B).run P W= .ok (.bool (!r)) W:=by
 have e: ∀W,(Op.equal t A B).run P W= .ok r W:=fun W=>h 9999 W
 constructor
 ·cases A<;>first|exact absurd rfl (hA _ _)|exact absurd rfl (hA2 _ _)|exact absurd rfl (hA3 _ _ _)|exact absurd rfl (hA4 _)|simp [binOp,e]
 ·cases A<;>first|exact absurd rfl (hA _ _)|exact absurd rfl (hA2 _ _)|exact absurd rfl (hA3 _ _ _)|exact absurd rfl (hA4 _)|simp [binOp,e]
end
end
section
open Go Go.RowKit
section
variable {P:Program} {G:Nat} {φ:Phi} {st st':St}
def EqOk (P:Program) (t:TypeId) (A B:Value) (r:Bool):Prop:=
 (∀n W,(Op.equalIn (n+1) t A B).run P W= .ok r W)∧(∀k n,A≠ .int k n)∧(∀k n,A≠ .float k n)∧(∀k n m,A≠ .complex k n m)∧(∀s,A≠ .string s)∧
   ¬(A= .nilIface∧B= .nilIface)∧(∀c d,¬(A= .agg c∧B= .agg d))
theorem nilEq_ok {t:TypeId} {a A b B:Value} {s:Bool} {d:TypeDesc} (ha:Rel G φ a A) (hb:Rel G φ b B) (hn:nilEq a b=some s) (hu:P.underlying t=some d) (hk:eqKind d a=true):s=false∧EqOk P t A B false:=by
 unfold nilEq at hn
 split at hn
 ·cases hn
  cases hb.ptr_nil
  rcases ha.ptr_inv with ⟨_,rfl⟩|⟨_,_,_,_,rfl⟩<;>
  ·cases d<;>simp [eqKind] at hk
   exact ⟨rfl,fun n W=>by simp [Op.equalIn,run_underlying hu],by simp,by simp,by simp,by simp,by simp,by simp⟩
 ·cases hn
  cases ha.ptr_nil
  rcases hb.ptr_inv with ⟨_,rfl⟩|⟨_,_,_,_,rfl⟩<;>
  ·cases d<;>simp [eqKind] at hk
   exact ⟨rfl,fun n W=>by simp [Op.equalIn,run_underlying hu],by simp,by simp,by simp,by simp,by simp,by simp⟩
 ·cases hn
  cases hb.slice_nil
  obtain ⟨_,_,_,_,hX⟩:=ha.slice_inv
  rcases hX with ⟨_,_,rfl⟩|⟨_,_,rfl⟩<;>
  ·cases d<;>simp [eqKind] at hk
   exact ⟨rfl,fun n W=>by simp [Op.equalIn,run_underlying hu],by simp,by simp,by simp,by simp,by simp,by simp⟩
 ·cases hn
  cases ha.slice_nil
  obtain ⟨_,_,_,_,hX⟩:=hb.slice_inv
  rcases hX with ⟨_,_,rfl⟩|⟨_,_,rfl⟩<;>
  ·cases d<;>simp [eqKind] at hk
   exact ⟨rfl,fun n W=>by simp [Op.equalIn,run_underlying hu],by simp,by simp,by simp,by simp,by simp,by simp⟩
 ·cases hn
  cases hb.nilI
  obtain ⟨_,rfl,_⟩:=ha.iface_inv
  cases d<;>simp [eqKind] at hk
  exact ⟨rfl,fun n W=>by simp [Op.equalIn,run_underlying hu],by simp,by simp,by simp,by simp,by simp,by simp⟩
 ·cases hn
  cases ha.nilI
  obtain ⟨_,rfl,_⟩:=hb.iface_inv
  cases d<;>simp [eqKind] at hk
  exact ⟨rfl,fun n W=>by simp [Op.equalIn,run_underlying hu],by simp,by simp,by simp,by simp,by simp,by simp⟩
 ·cases hn
  cases hb.map_nil
  obtain ⟨_,_,_,rfl⟩:=ha.map_inv
  cases d<;>simp [eqKind] at hk
  exact ⟨rfl,fun n W=>by simp [Op.equalIn,run_underlying hu],by simp,by simp,by simp,by simp,by simp,by simp⟩
 ·cases hn
  cases ha.map_nil
  obtain ⟨_,_,_,rfl⟩:=hb.map_inv
  cases d<;>simp [eqKind] at hk
  exact ⟨rfl,fun n W=>by simp [Op.equalIn,run_underlying hu],by simp,by simp,by simp,by simp,by simp,by simp⟩
 ·cases hn
  cases hb.nilF
  obtain ⟨_,_,rfl,_⟩:=ha.func_inv
  cases d<;>simp [eqKind] at hk
  exact ⟨rfl,fun n W=>by simp [Op.equalIn,run_underlying hu],by simp,by simp,by simp,by simp,by simp,by simp⟩
 ·cases hn
  cases ha.nilF
  obtain ⟨_,_,rfl,_⟩:=hb.func_inv
  cases d<;>simp [eqKind] at hk
  exact ⟨rfl,fun n W=>by simp [Op.equalIn,run_underlying hu],by simp,by simp,by simp,by simp,by simp,by simp⟩
 ·cases hn
theorem eqB_ok (hG:Above G φ) {t:TypeId} {a A b B:Value} {r:Bool} (h:eqB P t a b=some r) (ha:Rel G φ a A) (hb:Rel G φ b B):EqOk P t A B r:=by
 unfold eqB at h
 split at h
 ·rename_i r' d hn hu
  split at h
  ·rename_i hk
   cases h
   obtain ⟨rfl,h1⟩:=nilEq_ok ha hb hn hu hk
   exact h1
  ·cases h
 ·rename_i e hn hu
  split at h
  ·rename_i b1 o1 b2 o2 n hn'
   split at h
   ·rename_i hc
    cases h
    rw [Bool.and_eq_true] at hc
    have e1:=Nat.eq_of_beq_eq_true hc.1
    have e2:=Nat.eq_of_beq_eq_true hc.2
    subst e1;subst e2
    obtain ⟨j,hj1,hj2⟩:=sizeB_ok hn'
    have hne:j.size≠0:=by omega
    have: ∃ad,A= .pointer (some ad)∧B= .pointer (some ad):=by
     rcases ha.ptr_inv with ⟨h1,rfl⟩|⟨r1,κ1,_,h1,rfl⟩<;>rcases hb.ptr_inv with ⟨h2,rfl⟩|⟨r2,κ2,_,h2,rfl⟩
     ·exact ⟨_,rfl,rfl⟩
     ·have:=hG _ _ h2;change b1<G at h1;change G≤b1 at this;omega
     ·have:=hG _ _ h1;change b1<G at h2;change G≤b1 at this;omega
     ·rw [h1] at h2;cases h2;exact ⟨_,rfl,rfl⟩
    obtain ⟨ad,rfl,rfl⟩:=this
    exact ⟨fun d W=>by simp [Op.equalIn,run_underlying hu,sizeOf,typeInfo,hj1,run_sameAddr_same],by simp,by simp,by simp,by simp,by simp,by simp⟩
   ·cases h
  ·cases h
 ·cases h
theorem evEq_ok (hG:Above G φ) {op:BinOp} {t:TypeId} {x y:Operand} {a A b B:Value} {r:Bool} (h:evEq P op t a b=some r) (ha:Rel G φ a A) (hb:Rel G φ b B):
  CalmOk P G φ (do eqGuard op t x y A B;binOp op t A B) (.bool r):=by
 refine ⟨.bool r,.free (d:=0) rfl,fun W=> ?_⟩
 unfold evEq at h
 split at h
 ·rename_i r' he
  cases h
  obtain ⟨h1,h2,h3,h4,h5,h6,h7⟩:=eqB_ok hG he ha hb
  simp only [Sem.run_bind,run_eqGuard_out h6 h7,Result.andThen_ok]
  exact (run_binOp_eq h2 h3 h4 h5 h1 W).1
 ·rename_i r' he
  cases h
  obtain ⟨h1,h2,h3,h4,h5,h6,h7⟩:=eqB_ok hG he ha hb
  simp only [Sem.run_bind,run_eqGuard_out h6 h7,Result.andThen_ok]
  exact (run_binOp_eq h2 h3 h4 h5 h1 W).2
 ·cases h
theorem evBin_ok (hG:Above G φ) {op:BinOp} {t:TypeId} {x y:Operand} {a A b B v:Value} (h:evBin P G op t x y a b st=some (v,st')) (ha:Rel G φ a A) (hb:Rel G φ b B):
  st'=st∧CalmOk P G φ (do eqGuard op t x y A B;binOp op t A B) v:=by
 unfold evBin at h
 split at h
 ·rename_i hp
  rw [Bool.and_eq_true] at hp
  split at h
  ·rename_i v' hr
   split at h
   ·rename_i hv
    cases h
    rw [ha.eq_of_pf hG 6 hp.1,hb.eq_of_pf hG 6 hp.2]
    exact ⟨rfl,v,.free hv,run_pureRun hr⟩
   ·cases h
  ·cases h
 ·split at h
  ·rename_i r he
   cases h
   exact ⟨rfl,evEq_ok hG he ha hb⟩
  ·cases h
end
end
section
open Go Go.RowKit
section
variable {P:Program} {G base:Nat} {φ:Phi} {st st':St} {W:World}
theorem zerosB_free {z:Value} (h:pf G 6 z=true) (n:Nat) (hz:z.cells.size≠0):RelL G φ (zerosB z n).toList (zerosB z n).toList:=by
 have hc:=(Rel.free (φ:=φ) h).cells.1
 refine ⟨rfl,fun i hi=> ?_⟩
 have hn:i<n:=by simpa [zerosB] using hi
 have hlt:i % z.cells.size<z.cells.size:=Nat.mod_lt _ (by omega)
 have:=hc.2 (i % z.cells.size) (by simpa using hlt)
 have e:(zerosB z n).toList.getD i undef=z.cells.toList.getD (i % z.cells.size) undef:=by
  simp [zerosB,List.getD,hn,hlt]
 rw [e]
 exact this
theorem row_post (hi:Inv P G base φ st W) (hb:base≤W.heap.size) (hf:φ st.next=none) {cs:List Value} {Cs:Array Value} {e:TypeId} (hrel:RelL G φ cs Cs.toList):
  Post P G base φ st W ⟨(st.next,.row cs e false false)::st.heap,st.next+1,st.low⟩ (φ.add st.next (W.heap.size,0)) (W.alloc (.cells Cs e)):=by
 have hle:=Phi.add_le (x:=(W.heap.size,0)) hf
 have ho:=row_new (P:=P) (e:=e) (hrel.mono hle) W
 have hp:=new_post hi hb hf _ _ 0 rfl rfl rfl rfl ho
 simpa only [Array.toArray_toList] using hp
theorem evBuildSlice_ok (hi:Inv P G base φ st W) (hb:base≤W.heap.size) {t:TypeId} {len:Nat} {l L:List (Nat×Value)} {v:Value} (h:evBuildSlice P G t len l st=some (v,st')) (hf:Fresh φ st st') (hl:RelP G φ l L):
  SemOk P G base φ st W (Instr.buildSlice t len L.toArray) v st':=by
 unfold evBuildSlice at h
 split at h
 ·rename_i elem hu
  split at h
  ·rename_i n z hn hz
   split at h
   ·rename_i hc
    rw [Bool.and_eq_true] at hc
    split at h
    ·rename_i cells hfill
     obtain ⟨rfl,rfl⟩:=put_inv h
     obtain ⟨i,hi1,hi2,hi3⟩:=zeroB_ok hz
     have hc':=Nat.le_of_ble_eq_true hc.1
     have hz0:=blt_ok hc.2
     obtain ⟨Out,hO,hrel⟩:=fill_ok hl (zerosB_free (φ:=φ) hi3 (len*n) (by omega)) hfill
     refine ⟨_,_,_,?_,row_post hi hb hf.one hrel,.sliceX (Phi.add_self _ _ _)⟩
     have hzv:(zeroValue elem).run P W= .ok z W:=by simp [zeroValue,typeInfo,hi1,hi2]
     have hle: ¬(len*n>2^24):=by omega
     simp only [Instr.buildSlice,Sem.run_bind,run_underlying hu,Result.andThen_ok,run_sizeOf hn,hle,if_false]
     by_cases h0:len*n=0
     ·have e:Array.map (fun x=>(#[]:Array Value)[x % (#[]:Array Value).size]!) (Array.range (len*n))=zerosB z (len*n):=by simp [h0,zerosB]
      rw [if_pos h0]
      simp only [Sem.run_bind,Sem.run_pure,Result.andThen_ok]
      rw [e,hO]
      simp [newRow]
     ·have e:Array.map (fun x=>z.cells[x % z.cells.size]!) (Array.range (len*n))=zerosB z (len*n):=rfl
      rw [if_neg h0]
      simp only [Sem.run_bind,Sem.run_pure,Result.andThen_ok,hzv]
      rw [e,hO]
      simp [newRow]
    ·cases h
   ·cases h
  ·cases h
 ·cases h
theorem wrap_small {n:Nat} (h:n≤9223372036854775807):IntKind.i64.wrap (n:Int)=n:=by
 rw [IntKind.wrap_i64]
 omega
theorem evMakeSlice_ok (hi:Inv P G base φ st W) (hb:base≤W.heap.size) {t:TypeId} {l L c C v:Value} (h:evMakeSlice P G t l c st=some (v,st')) (hf:Fresh φ st st') (hl:Rel G φ l L) (hc:Rel G φ c C):
  SemOk P G base φ st W (Instr.makeSlice t L C) v st':=by
 unfold evMakeSlice at h
 split at h
 ·rename_i elem hu
  split at h
  ·rename_i n by_ z ln cn hn hby hz hln hcn
   split at h
   ·rename_i hcd
    simp only [Bool.and_eq_true] at hcd
    obtain ⟨⟨⟨h1,h2⟩,h3⟩,h4⟩:=hcd
    have h1:=Nat.le_of_ble_eq_true h1
    have h2:=Nat.le_of_ble_eq_true h2
    have h3:=Nat.le_of_ble_eq_true h3
    have h4:=blt_ok h4
    obtain ⟨rfl,rfl⟩:=put_inv h
    obtain ⟨i,hi1,hi2,hi3⟩:=zeroB_ok hz
    obtain ⟨j,hj1,hj2⟩:=bytesB_ok hby
    rw [hi1] at hj1
    cases hj1
    obtain ⟨k1,rfl⟩:=natOf_rel hln hl
    obtain ⟨k2,rfl⟩:=natOf_rel hcn hc
    refine ⟨_,_,_,?_,row_post hi hb hf.one (zerosB_free (φ:=φ) hi3 (cn*n) (by omega)),.sliceX (Phi.add_self _ _ _)⟩
    have w1:=wrap_small (n:=ln) (by omega)
    have w2:=wrap_small (n:=cn) (by omega)
    have hzv:(zeroValue elem).run P W= .ok z W:=by simp [zeroValue,typeInfo,hi1,hi2]
    have hb1:i.bytes*cn≤4096*4096:=Nat.mul_le_mul (by omega) h2
    have hb2: ¬((i.bytes:Int)*(cn:Int)>2^48):=by
     have h5:=Int.ofNat_le.2 hb1
     rw [Int.natCast_mul] at h5
     intro h6
     have h7:=Int.lt_of_lt_of_le h6 h5
     revert h7
     decide
    have hti:(typeInfo elem).run P W= .ok i W:=by simp [typeInfo,hi1]
    have hcn0: ¬((cn:Int)<0):=by omega
    have hln0: ¬((ln:Int)<0):=by omega
    have hlc: ¬((ln:Int)>(cn:Int)):=by omega
    simp only [Instr.makeSlice,Sem.run_bind,run_underlying hu,Result.andThen_ok,asInt,asIntOf,Sem.run_pure,hti,w1,w2,hb2,hcn0,hln0,hlc,decide_false,Bool.or_self,Bool.false_eq_true,if_false,run_askRoom,run_sizeOf hn,Int.toNat_natCast]
    by_cases h0:cn*n=0
    ·have e:Array.map (fun x=>(#[]:Array Value)[x % (#[]:Array Value).size]!) (Array.range (cn*n))=zerosB z (cn*n):=by simp [h0,zerosB]
     rw [if_pos h0]
     simp only [Sem.run_bind,Sem.run_pure,Result.andThen_ok]
     rw [e]
     simp [newRow]
    ·have e:Array.map (fun x=>z.cells[x % z.cells.size]!) (Array.range (cn*n))=zerosB z (cn*n):=rfl
     rw [if_neg h0]
     simp only [Sem.run_bind,Sem.run_pure,Result.andThen_ok,hzv]
     rw [e]
     simp [newRow]
   ·cases h
  ·cases h
 ·cases h
theorem evRange_ok (hi:Inv P G base φ st W) (hb:base≤W.heap.size) {t:TypeId} {x X v:Value} (h:evRange P t x st=some (v,st')) (hf:Fresh φ st st') (hx:Rel G φ x X):
  SemOk P G base φ st W (Instr.range t X) v st':=by
 unfold evRange at h
 split at h
 ·rename_i s hu
  obtain ⟨rfl,rfl⟩:=put_inv h
  rw [hx.string]
  refine ⟨_,_,_,?_,new_post hi hb hf.one _ (.stringIter s 0) 0 rfl rfl rfl rfl ?_,.ptr (Phi.add_self _ _ _)⟩
  ·simp [Instr.range,run_underlying hu]
  ·show (W.heap.push _)[W.heap.size]? =_
   simp
 ·cases h
theorem set_post (hi:Inv P G base φ st W) {b r κ:Nat} {o o':AObj} (hl:look st.heap b=some o) (hr:φ b=some (r,κ)) {O:Obj} {W':World} (e1:W'.heap=W.heap.setIfInBounds r O)
  (e2:W'.os=W.os) (e3:W'.tape=W.tape) (e4:W'.output=W.output) (ho: ∀V:World,V.heap[r]? =some O→ObjOk P G φ κ o' V r):Post P G base φ st W (st.set b o') φ W':=by
 have hd:=hi.dom _ _ _ hr
 have hw:=hi.wf _ _ hl
 have hsz:W'.heap.size=W.heap.size:=by rw [e1];simp
 have hother: ∀k,k≠r→W'.heap[k]? =W.heap[k]? :=fun k hk=>by rw [e1];exact Array.getElem?_setIfInBounds_ne (Ne.symm hk)
 have hself:W'.heap[r]? =some O:=by rw [e1];exact Array.getElem?_setIfInBounds_self_of_lt hd.2.2
 have hlook: ∀c,look (putB st.heap b o') c=if b=c then some o' else look st.heap c:=fun c=>by
  rw [look_putB]
  split
  ·rename_i hc;subst hc;rw [hl];rfl
  ·rfl
 refine ⟨.rfl,fun _ _ h=> .inl h,fun b r' κ' h1 h2=>(by rw [h1] at h2;cases h2),?_,Nat.le_refl _,Nat.min_le_left _ _,?_,?_,by rw [hsz];exact Nat.le_refl _,e2,e3,e4⟩
 ·refine ⟨fun c r' κ' h=>by rw [hsz];exact hi.dom c r' κ' h,?_,srt_putB hi.srt _ _,?_,?_,hi.low⟩
  ·intro c q hc
   change look (putB st.heap b o') c=some q at hc
   rw [hlook] at hc
   split at hc
   ·rename_i e;subst e;exact hw
   ·exact hi.wf c q hc
  ·intro c q r' κ' hc hc'
   change look (putB st.heap b o') c=some q at hc
   rw [hlook] at hc
   split at hc
   ·rename_i e;subst e;cases hc;rw [hr] at hc';cases hc';exact ho W' hself
   ·rename_i hne
    exact (hi.obj c q r' κ' hc hc').mono .rfl (hother r' fun e=>hne (by subst e;exact hi.inj _ _ _ _ _ _ _ hl hc hr hc'))
  ·intro c d q q' r' κ' l hc hd' h1 h2
   have wit: ∀d w,look (putB st.heap b o') d=some w→ ∃w',look st.heap d=some w':=by
    intro d w hd'
    rw [hlook] at hd'
    split at hd'
    ·rename_i heq;subst heq;exact ⟨_,hl⟩
    ·exact ⟨_,hd'⟩
   obtain ⟨_,x1⟩:=wit c q hc
   obtain ⟨_,x2⟩:=wit d q' hd'
   exact hi.inj _ _ _ _ _ _ _ x1 x2 h1 h2
 ·intro c _ hcl
  have h1:c<Nat.min st.low b:=hcl
  have h2:c<b:=Nat.lt_of_lt_of_le h1 (Nat.min_le_right _ _)
  show look (putB st.heap b o') c=_
  rw [hlook,if_neg (by omega)]
 ·intro r' _ hall
  refine hother r' fun e=> ?_
  subst e
  have h1:b<Nat.min st.low b:=hall b κ hr hw.2
  have h2:b<b:=Nat.lt_of_lt_of_le h1 (Nat.min_le_right _ _)
  omega
theorem evNext_ok (hi:Inv P G base φ st W) {it It v:Value} {ty:TypeId} (h:evNext it st=some (v,st')) (hx:Rel G φ it It):SemOk P G base φ st W (Instr.next It true ty) v st':=by
 unfold evNext at h
 split at h
 ·rename_i b
  split at h
  ·rename_i s pos hl
   rcases hx.ptr_inv with ⟨hlt,_⟩|⟨r,κ,_,hr,rfl⟩
   ·have:=(hi.wf _ _ hl).1;change b<G at hlt;omega
   ·have ho:W.heap[r]? =some (.stringIter s pos):=hi.obj _ _ _ _ hl hr
    have hg:(getObj r).run P W= .ok (.stringIter s pos) W:=by simp [getObj,Sem.run,ho]
    split at h
    ·rename_i hlt
     have hlt:=blt_ok hlt
     split at h
     rename_i c width hdec
     cases h
     refine ⟨_,φ,{W with heap:=W.heap.setIfInBounds r (.stringIter s (pos+width))},?_,set_post hi hl hr rfl rfl rfl rfl (fun V hV=>hV),.free (d:=1) rfl⟩
     simp only [Instr.next,Sem.run_bind,hg,Result.andThen_ok,hlt,if_true,hdec]
     simp [setObj,Sem.run,ho]
    ·rename_i hlt
     cases h
     have hlt: ¬pos<s.size:=fun h=>by rw [show Nat.blt pos s.size=true from Nat.ble_eq_true_of_le h] at hlt;cases hlt
     refine ⟨_,φ,W,?_,Post.refl hi,.free (d:=1) rfl⟩
     simp only [Instr.next,Sem.run_bind,hg,Result.andThen_ok,hlt,if_false]
     rfl
  ·cases h
 ·cases h
end
end
section
open Go Go.RowKit
section
variable {P:Program} {G base:Nat} {φ:Phi} {st st':St} {W:World}
theorem valBytes_ok: ∀{l:List Value} {m:List UInt8},valBytes l=some m→l=m.map fun b=> .int .u8 (b.toNat:Int)
 |[],m,h=>by simp only [valBytes] at h;cases h;rfl
 |v::l,m,h=>by
  simp only [valBytes] at h
  split at h
  ·rename_i b m' h1 h2
   cases h
   have e1:v= .int .u8 (b.toNat:Int):=by
    unfold valByte at h1
    split at h1
    ·rename_i n
     split at h1
     ·rename_i hlt
      have hlt:=blt_ok hlt
      cases h1
      simp [Nat.mod_eq_of_lt hlt]
     ·cases h1
    ·cases h1
   rw [e1,valBytes_ok h2]
   rfl
  ·cases h
theorem bytes_free (m:List UInt8):(m.map fun b=>Value.int .u8 (b.toNat:Int)).all (pf G 0)=true:=by
 rw [List.all_eq_true]
 intro x hx
 obtain ⟨b,_,rfl⟩:=List.mem_map.1 hx
 rfl
theorem byteVals_eq (s:ByteArray):byteVals s=s.data.toList.map fun b=> .int .u8 (b.toNat:Int):=rfl
theorem byteVals_free (s:ByteArray):RelL G φ (byteVals s) (byteVals s):=RelL.of_free (d:=0) (bytes_free _)
theorem byteVals_len (s:ByteArray):(byteVals s).length=s.size:=by simp [byteVals]
theorem evToString_ok (hi:Inv P G base φ st W) {src dst e:TypeId} (hs:P.underlying src=some (.slice e)) (he:P.underlying e=some (.int .u8)) (hd:P.underlying dst=some .string)
  {a:Addr} {n c:Nat} {X v:Value} (h:evToString a n st=some (v,st')) (hx:Rel G φ (.slice (some a) n c) X):st'=st∧ ∃V,Rel G φ v V∧(convert src dst X).run P W= .ok V W:=by
 unfold evToString at h
 split at h
 ·rename_i l hl
  split at h
  ·rename_i m hm
   cases h
   obtain ⟨r,κ,_,hr,hX⟩:=hx.slice_inv
   obtain ⟨L,hL,hlen,_,hrun,_⟩:=load_ok hi hl hr
   have el:=valBytes_ok hm
   have hLl:L=l:=by
    subst el
    exact hL.eq_of_pf (fun b x e=>hi.above b x e) (bytes_free m)
   subst hLl
   refine ⟨rfl,_,.free (d:=0) rfl,?_⟩
   have hrun':(loadCells ⟨r,a.off,none⟩ n).run P W= .ok ((m.map fun b=>(b.toNat:Int)).map (Value.int .u8)).toArray W:=by
    rw [hrun,el,List.map_map];rfl
   have hfold: ∀(m:List UInt8) (acc:ByteArray),(m.map fun b=>(b.toNat:Int)).foldl (fun r n=>r.push (UInt8.ofNat n.toNat)) acc=⟨acc.data++m.toArray⟩:=by
    intro m
    induction m with
    |nil=>intro acc;simp
    |cons b m ih=>
     intro acc
     simp only [List.map_cons,List.foldl_cons]
     rw [ih]
     apply ByteArray.ext
     simp [ByteArray.push]
   have hz:=hfold m ByteArray.empty
   have hz':(⟨ByteArray.empty.data++m.toArray⟩:ByteArray)=⟨m.toArray⟩:=by apply ByteArray.ext;simp
   rw [hz'] at hz
   rcases hX with ⟨c',_,rfl⟩|⟨c',_,rfl⟩<;>
    rw [run_convert_bytes_string W src dst e _ _ _ hs he hd,run_bytesToString W _ _ _ _ hrun',hz]
  ·cases h
 ·cases h
theorem evToBytes_ok (hi:Inv P G base φ st W) (hb:base≤W.heap.size) {src dst e:TypeId} (hs:P.underlying src=some .string) (he:P.underlying e=some (.int .u8)) (hd:P.underlying dst=some (.slice e))
  {s:ByteArray} {v:Value} (h:evToBytes P e s st=some (v,st')) (hf:Fresh φ st st'):SemOk P G base φ st W (convert src dst (.string s)) v st':=by
 unfold evToBytes at h
 split at h
 ·rename_i hsz hle
  obtain ⟨rfl,rfl⟩:=put_inv h
  let c:=grownCap W s.size 0 e
  have hc:s.size≤c:=grownCap_ge W s.size 0 e
  let C:Array Value:=(s.data.map fun b=>Value.int .u8 (b.toNat:Int))++Array.replicate (c - s.size) (.int .u8 0)
  have hCs:C.size=c:=by simp [C];omega
  refine ⟨.slice (some ⟨W.heap.size,0,none⟩) s.size c,_,W.drew.alloc (.cells C e (C.size,C.size+1)),?_,new_post (W1:=W.drew) hi hb hf.one _ _ (c - s.size) rfl rfl rfl rfl ?_,?_⟩
  ·have e1:(convert src dst (.string s)).run P W=(Conv.stringToBytes e s).run P W:=by
    simp [convert,run_underlying hs,run_underlying hd,run_underlying he]
   rw [e1]
   have hcap:(choose (.appendCap s.size 0 e)).run P W= .ok c W.drew:=by simp [choose,Sem.run,Question.forced,c,grownCap]
   simp only [Conv.stringToBytes,Sem.run_bind,hcap,Result.andThen_ok,newRow,run_newObj,Sem.run_pure,markStringish,run_shape]
   have hshape:World.shape? {W.drew with heap:=W.drew.heap.push (.cells C e)} W.heap.size=some (e,C.size):=by
    show (match (W.heap.push (Obj.cells C e))[W.heap.size]? with|some (.cells c elem _)=>some (elem,c.size)|_=>none)=_
    simp
   have hsz2:W.drew.heap.size=W.heap.size:=rfl
   rw [hsz2]
   change (Sem.run P (do
    let some (_,n) ←(pure (World.shape? {W.drew with heap:=W.drew.heap.push (.cells C e)} W.heap.size):Sem _)|pure ()
    freeze {block:=W.heap.size,off:=n} 1) {W.drew with heap:=W.drew.heap.push (.cells C e)}).andThen _=_
   rw [hshape]
   simp only [Sem.run_bind,Sem.run_pure,Result.andThen_ok,run_freeze]
   congr 1
   simp only [World.freeze,World.alloc]
   rw [if_neg (by decide)]
   congr 1
   have hpm: ∀(h:Array Obj) (f:Obj→Obj) (o:Obj),(h.push o).modify h.size f=h.push (f o):=by
    intro h f o
    apply Array.ext
    ·simp
    ·intro k h1 h2
     simp only [Array.getElem_modify,Array.getElem_push]
     by_cases hk:h.size=k
     ·subst hk;simp
     ·have:k<h.size:=by simp at h1;omega
      simp [hk,this]
   have:=hpm W.heap
   change (W.heap.push _).modify W.heap.size _=W.heap.push _
   rw [this]
   simp
  ·refine ⟨C,(C.size,C.size+1),1,?_,?_,.inr hsz,?_,by simp,fun _ i hi'=>by simp;omega⟩
   ·show (W.heap.push _)[W.heap.size]? =_
    simp
   ·rw [byteVals_len]
    have:C.toList.take s.size=byteVals s:=by
     have hl:(byteVals s).length=s.size:=byteVals_len s
     simp only [C,Array.toList_append,Array.toList_map]
     rw [←hl]
     exact List.take_left
    rw [this]
    exact byteVals_free s
   ·rw [hCs,byteVals_len];omega
  ·have:c=s.size+(c - s.size):=by omega
   rw [this]
   have h2:=Rel.sliceE (G:=G) (φ:=φ.add st.next (W.heap.size,c - s.size)) (o:=0) (n:=s.size) (c:=s.size) (Phi.add_self φ st.next (W.heap.size,c - s.size))
   rw [show s.size+(c - s.size) - s.size=c - s.size by omega]
   exact h2
 ·cases h
theorem liesB_ok (hi:Inv P G base φ st W) {b o:Nat} {u:TypeId} (h:liesB P st.heap ⟨b,o,none⟩ u=true) {r κ:Nat} (hr:φ b=some (r,κ)):
  ∃e cells,W.shape? r=some (e,cells)∧liesAt P P.depth e (cells/P.cellsOf e) o u 1=true∧o<cells:=by
 unfold liesB at h
 split at h
 ·rename_i cs e fz hl
  rw [Bool.and_eq_true] at h
  obtain ⟨C,fr,s,h1,h2,h3,h4,h5,h6⟩:=hi.obj _ _ _ _ hl hr
  have h0:=h5 rfl
  subst h0
  have h4':C.size=cs.length:=by simpa using h4
  exact ⟨e,C.size,by simp [World.shape?,h1],by rw [h4'];exact h.1,by rw [h4'];exact blt_ok h.2⟩
 ·cases h
theorem own_of_lies (hi:Inv P G base φ st W) {a:Addr} {u:TypeId} (h:liesB P st.heap a u=true):G≤a.block:=by
 unfold liesB at h
 split at h
 ·rename_i hl;exact (hi.wf _ _ hl).1
 ·cases h
theorem evConvert_ok (hi:Inv P G base φ st W) (hb:base≤W.heap.size) {src dst:TypeId} {x X v:Value} (h:evConvert P G src dst x st=some (v,st')) (hf:Fresh φ st st') (hx:Rel G φ x X):
  SemOk P G base φ st W (convert src dst X) v st':=by
 have hlast: ∀x X,Rel G φ x X→evPure P G [x] (convert src dst x) st=some (v,st')→SemOk P G base φ st W (convert src dst X) v st':=by
  intro x X hx h
  have h':evPure P G [x] (convert src dst ([x].getD 0 undef)) st=some (v,st'):=h
  obtain ⟨rfl,V,hV,hrun⟩:=evPure_ok (args:=[x]) (Args:=[X]) (s:=fun l=>convert src dst (l.getD 0 undef)) (fun b x e=>hi.above b x e) h' (.cons hx .nil)
  exact ⟨V,φ,W,hrun W,Post.refl hi,hV⟩
 unfold evConvert at h
 split at h
 ·rename_i e s hs hd
  split at h
  ·rename_i he;rw [hx.string];exact evToBytes_ok hi hb hs he hd h hf
  ·cases h
 ·rename_i e a n c hs hd
  split at h
  ·rename_i he
   obtain ⟨rfl,V,hV,hrun⟩:=evToString_ok hi hs he hd h hx
   exact ⟨V,φ,W,hrun,Post.refl hi,hV⟩
  ·cases h
 ·rename_i t b o hs hd
  split at h
  ·rename_i n hn hl
   cases h
   obtain ⟨j,hj1,hj2⟩:=sizeB_ok hn
   rcases hx.ptr_inv with ⟨hlt,_⟩|⟨r,κ,_,hr,rfl⟩
   ·have:=own_of_lies hi hl;change b<G at hlt;change G≤b at this;omega
   ·obtain ⟨e,cells,h1,h2,h3⟩:=liesB_ok hi hl hr
    exact ⟨_,φ,W,Lib.run_to_unsafe W _ hs hd hj1 (by omega) h1 h3,Post.refl hi,hx⟩
  ·cases h
 ·rename_i u b o hs hd
  split at h
  ·rename_i n hn hl
   cases h
   obtain ⟨j,hj1,hj2⟩:=sizeB_ok hn
   rcases hx.ptr_inv with ⟨hlt,_⟩|⟨r,κ,_,hr,rfl⟩
   ·have:=own_of_lies hi hl;change b<G at hlt;change G≤b at this;omega
   ·obtain ⟨e,cells,h1,h2,h3⟩:=liesB_ok hi hl hr
    exact ⟨_,φ,W,Lib.run_from_unsafe W _ hs hd hj1 h1 h2,Post.refl hi,hx⟩
  ·cases h
 ·exact hlast _ _ hx h
theorem evUnsafeString_ok (hi:Inv P G base φ st W) {pt it ty:TypeId} {p X n N v:Value} (h:evUnsafeString P pt p n st=some (v,st')) (hp:Rel G φ p X) (hn:Rel G φ n N):
  SemOk P G base φ st W (Builtin.unsafeString_ #[pt,it] ty #[X,N]) v st':=by
 unfold evUnsafeString at h
 split at h
 ·rename_i a k e hu
  split at h
  ·rename_i cs e' ext fz hl hsz hc
   rw [Bool.and_eq_true] at hc
   have hoff:=Nat.eq_of_beq_eq_true hc.1
   have hk:=Nat.le_of_ble_eq_true hc.2
   split at h
   ·rename_i l he hsl hsp
    split at h
    ·rename_i m hm
     cases h
     have he:=Nat.eq_of_beq_eq_true he
     subst he
     obtain ⟨j,hj1,hj2⟩:=sizeB_ok hsz
     rcases hp.ptr_inv with ⟨hlt,_⟩|⟨r,κ,_,hr,rfl⟩
     ·have:=(hi.wf _ _ hl).1;omega
     ·obtain ⟨C,fr,s,h1,h2,h3,h4,h5,h6⟩:=hi.obj _ _ _ _ hl hr
      obtain ⟨hb,el,hrel⟩:=h2.slc hsl
      have el2:=valBytes_ok hm
      have hml:m.length=k+1:=by
       have:l.length=k+1:=by rw [el];simp;omega
       rw [el2] at this;simpa using this
      have hLl:((C.toList.take cs.length).drop 0).take (k+1)=l:=by
       have hh:=hrel
       rw [el2] at hh ⊢
       exact hh.eq_of_pf (fun b x e=>hi.above b x e) (bytes_free m)
      have hcell: ∀j x,m[j]? =some x→W.cell? ((⟨r,0,none⟩:Addr).add j)=some (.int .u8 x.toNat):=by
       intro j x hj
       have hjl:l[j]? =some (.int .u8 (x.toNat:Int)):=by rw [el2];simp [hj]
       rw [←hLl,List.getElem?_take] at hjl
       split at hjl
       ·rw [List.drop_zero,List.getElem?_take] at hjl
        split at hjl
        ·rw [addr_add,Nat.zero_add]
         simp only [World.cell?,h1]
         simpa using hjl
        ·cases hjl
       ·cases hjl
      have hco:P.cellsOf e=1:=by simp [Program.cellsOf,hj1,hj2]
      have hrun:=Lib.run_unsafeString_row (P:=P) W pt it ty e hu hco r C.size (by simp [World.shape?,h1]) m (by intro h0;rw [h0] at hml;simp at hml) (by omega) (by omega) hcell
      rw [hn.int]
      have hN:((k+1:Nat):Int)=(m.length:Int):=by rw [hml]
      obtain ⟨ab,ao,asp⟩:=a
      change ao=0 at hoff
      subst hoff
      have hNi:(Int.ofNat (k+1))=((k+1:Nat):Int):=rfl
      rw [hNi,hN]
      refine ⟨_,φ,_,hrun,set_post (W':=W.freeze ⟨r,0,none⟩ m.length) (O:= .cells C e (if fr.1==fr.2 then (0,0+m.length) else (min fr.1 0,max fr.2 (0+m.length)))) hi hl hr ?_ ?_ ?_ ?_ ?_,.free (d:=0) rfl⟩
      ·simp only [World.freeze,if_neg (show ¬m.length=0 by omega)]
       obtain ⟨hlt,hv⟩:=Array.getElem?_eq_some_iff.1 h1
       apply Array.ext_getElem?
       intro i
       by_cases hri:r=i
       ·subst hri
        rw [Array.getElem?_modify,if_pos rfl,h1,Array.getElem?_setIfInBounds_self_of_lt hlt]
        rfl
       ·rw [Array.getElem?_modify,if_neg hri,Array.getElem?_setIfInBounds_ne hri]
      ·unfold World.freeze;split<;>rfl
      ·unfold World.freeze;split<;>rfl
      ·unfold World.freeze;split<;>rfl
      ·intro V hV
       exact ⟨C,_,s,hV,h2,h3,h4,h5,fun h=>by cases h⟩
    ·cases h
   ·cases h
  ·cases h
 ·rw [hn.int]
  rename_i o
  have: ∃q,X= .pointer q:=by
   cases o with
   |none=>exact ⟨_,hp.ptr_nil⟩
   |some a=>rcases hp.ptr_inv with ⟨_,rfl⟩|⟨_,_,_,_,rfl⟩<;>exact ⟨_,rfl⟩
  obtain ⟨q,rfl⟩:=this
  cases h
  exact ⟨_,φ,W,Lib.run_unsafeString_none W pt it ty q,Post.refl hi,.free (d:=0) rfl⟩
 ·cases h
end
end
section
open Go Go.RowKit
section
variable {P:Program} {G base:Nat} {φ:Phi} {st st':St} {W:World}
inductive AppArg (P:Program) (W:World) (size:Nat) (z:Value) (u:TypeDesc):Value→Nat→List Value→Prop
 |slice {o:Option Addr} {k c:Nat} {Xs:List Value}:(∀q,u≠ .int q)→(∀W1:World,W1.heap=W.heap→(Builtin.firstCells size k (.slice o k c)).run P W1= .ok Xs.toArray W1)→AppArg P W size z u (.slice o k c) k Xs
 |string {s:ByteArray}:(∀q,u≠ .int q)→AppArg P W size z u (.string s) s.size (byteVals s)
 |zeros {k:Nat} {q:IntKind}:u= .int q→k≤4096→AppArg P W size z u (.int .i64 (k:Int)) k (Builtin.zeroCells z.cells k).toList
theorem run_firstCells_str (size:Nat) (s:ByteArray) (W1:World):(Builtin.firstCells size s.size (.string s)).run P W1= .ok (byteVals s).toArray W1:=by
 simp [Builtin.firstCells]
 apply Array.ext'
 simp [byteVals]
theorem run_append_in {sT xT ty elem:TypeId} {i:TypeInfo} {z X:Value} {u:TypeDesc} {k:Nat} {Xs:List Value} (hs:P.underlying sT=some (.slice elem)) (hu:P.underlying xT=some u) (hi:P.info? elem=some i) (hz:i.zero=some z) (h0:0<i.size)
  (hby:i.bytes≤4096) (ha:AppArg P W i.size z u X k Xs) (base:Option Addr) (n c:Nat) (hroom:n+k≤c):
  (Builtin.append_ #[sT,xT] ty #[.slice base n c,X]).run P W=((match base with|some a=>storeCells (a.add (n*i.size)) Xs|none=>pure ():Sem Unit).run P W).andThen fun _ W'=> .ok (.slice base (n+k) c) W':=by
 cases ha with
 | @slice o k c' Xs hne hf=>
  cases base<;>simp [Builtin.append_,run_underlying hs,run_underlying hu,sizeOf,typeInfo,hi,Builtin.lenOf,hroom,hf W rfl]
 | @string s hne=>
  have hx:=run_firstCells_str (P:=P) i.size s
  cases base<;>simp [Builtin.append_,run_underlying hs,run_underlying hu,sizeOf,typeInfo,hi,Builtin.lenOf,hroom,hx]
 | @zeros k q hq hk=>
  subst hq
  have w:=wrap_small (n:=k) (by omega)
  have hk0: ¬((k:Int)<0):=by omega
  have hkb: ¬(281474976710656<(k:Int)*(i.bytes:Int)):=by
   have h5:k*i.bytes≤4096*4096:=Nat.mul_le_mul hk hby
   have h5:=Int.ofNat_le.2 h5
   rw [Int.natCast_mul] at h5
   intro h6
   have h7:=Int.lt_of_lt_of_le h6 h5
   revert h7
   decide
  by_cases hkz:k*i.size=0
  ·have hk00:k=0:=by rcases Nat.mul_eq_zero.1 hkz with h|h<;>omega
   subst hk00
   have e0:Builtin.zeroCells z.cells 0= #[]:=by simp [Builtin.zeroCells]
   have w0:IntKind.i64.wrap 0=0:=w
   cases base<;>simp [Builtin.append_,run_underlying hs,run_underlying hu,sizeOf,typeInfo,hi,asInt,asIntOf,w0,show n≤c by omega,e0]
  ·cases base<;>simp [Builtin.append_,run_underlying hs,run_underlying hu,sizeOf,typeInfo,zeroValue,hi,hz,asInt,asIntOf,w,hk0,hkb,hroom,hkz]
theorem run_append_out {sT xT ty elem:TypeId} {i:TypeInfo} {z X:Value} {u:TypeDesc} {k:Nat} {Xs:List Value} (hs:P.underlying sT=some (.slice elem)) (hu:P.underlying xT=some u) (hi:P.info? elem=some i) (hz:i.zero=some z) (h0:0<i.size)
  (hby:i.bytes≤4096) (ha:AppArg P W i.size z u X k Xs) (base:Option Addr) (n c:Nat) (Olds:List Value) (hold: ∀W1:World,W1.heap=W.heap→(Builtin.firstCells i.size n (.slice base n c)).run P W1= .ok Olds.toArray W1)
  (hroom:c<n+k) (hn:n+k≤2000000):
  (Builtin.append_ #[sT,xT] ty #[.slice base n c,X]).run P W= .ok (.slice (some ⟨W.heap.size,0,none⟩) (n+k) (grownCap W (n+k) c elem))
   (W.drew.alloc (.cells (Olds++Xs++(Builtin.zeroCells z.cells (grownCap W (n+k) c elem - (n+k))).toList).toArray elem)):=by
 have hnr: ¬(n+k≤c):=by omega
 have hno: ¬(9223372036854775807<((n:Int)+(k:Int))):=by omega
 have hcap: ¬(281474976710656<Builtin.nextslicecap (n+k) c*i.bytes):=by
  have h1:Builtin.nextslicecap (n+k) c≤2*(n+k):=nextslicecap_le hroom
  have h2:Builtin.nextslicecap (n+k) c*i.bytes≤4000000*4096:=Nat.mul_le_mul (by omega) hby
  omega
 have fin: ∀A B C:List Value,A++(B++C)=A++B++C:=fun A B C=>(List.append_assoc A B C).symm
 cases ha with
 | @slice o k c' Xs hne hf=>
  simp [Builtin.append_,run_underlying hs,run_underlying hu,sizeOf,typeInfo,zeroValue,hi,hz,Builtin.lenOf,hnr,hno,hcap,Question.forced,hf W.drew rfl,hold W.drew rfl,newRow,grownCap]
  try (congr 2;apply Array.ext';simp)
 | @string s hne=>
  have hx:=run_firstCells_str (P:=P) i.size s
  simp [Builtin.append_,run_underlying hs,run_underlying hu,sizeOf,typeInfo,zeroValue,hi,hz,Builtin.lenOf,hnr,hno,hcap,Question.forced,hold W.drew rfl,newRow,grownCap,hx]
  try (congr 2;apply Array.ext';simp)
 | @zeros k q hq hk=>
  subst hq
  have w:=wrap_small (n:=k) (by omega)
  have hk0: ¬((k:Int)<0):=by omega
  have hkb: ¬(281474976710656<(k:Int)*(i.bytes:Int)):=by
   have h5:k*i.bytes≤4096*4096:=Nat.mul_le_mul hk hby
   have h5:=Int.ofNat_le.2 h5
   rw [Int.natCast_mul] at h5
   intro h6
   have h7:=Int.lt_of_lt_of_le h6 h5
   revert h7
   decide
  by_cases hkz:k*i.size=0
  ·have hk00:k=0:=by rcases Nat.mul_eq_zero.1 hkz with h|h<;>omega
   subst hk00
   have e0:Builtin.zeroCells z.cells 0= #[]:=by simp [Builtin.zeroCells]
   have w0:IntKind.i64.wrap 0=0:=w
   simp only [Nat.add_zero] at*
   have hno': ¬(9223372036854775807<(n:Int)):=by omega
   simp [Builtin.append_,run_underlying hs,run_underlying hu,sizeOf,typeInfo,zeroValue,hi,hz,asInt,asIntOf,w0,hnr,hno',hcap,e0,Question.forced,hold W.drew rfl,newRow,grownCap]
   try (congr 2;apply Array.ext';simp)
  ·simp [Builtin.append_,run_underlying hs,run_underlying hu,sizeOf,typeInfo,zeroValue,hi,hz,asInt,asIntOf,w,hk0,hkb,hnr,hno,hcap,hkz,Question.forced,hold W.drew rfl,newRow,grownCap]
   try (congr 2;apply Array.ext';simp)
theorem heap_cell {W1:World} (h:W1.heap=W.heap) (a:Addr):W1.cell? a=W.cell? a:=by simp [World.cell?,h]
theorem firstCells_ok (hi:Inv P G base φ st W) {a:Addr} {n size:Nat} {l:List Value} (h:cellsAt st.heap a (n*size)=some l) {r κ:Nat} (hr:φ a.block=some (r,κ)):
  ∃L,RelL G φ l L∧L.length=n*size∧a.spot=none∧ ∀W1:World,W1.heap=W.heap→ ∀m c,(Builtin.firstCells size n (.slice (some ⟨r,a.off,none⟩) m c)).run P W1= .ok L.toArray W1:=by
 obtain ⟨L,h1,h2,h3,h4⟩:=cellsAt_ok hi h hr
 refine ⟨L,h1,h2,h3,fun W1 hW m c=> ?_⟩
 have:=run_loadCells_list (P:=P) W1 ⟨r,a.off,none⟩ L (fun j V hj=>by rw [heap_cell hW];exact h4 j V hj)
 simp only [Builtin.firstCells]
 rw [←h2]
 exact this
theorem appended_ok (hi:Inv P G base φ st W) {elem:TypeId} {x X z:Value} {xs:List Value} {k size:Nat} {u:TypeDesc} (h:appendedB P G elem size x st.heap=some (xs,k)) (hk:appendKind x u=true) (hx:Rel G φ x X)
  (hz:zeroB P G elem=some z) (hzs:z.cells.size=size) (h0:0<size): ∃Xs,RelL G φ xs Xs∧AppArg P W size z u X k Xs:=by
 have hne: ∀v,(∀k n,v≠Value.int k n)→appendKind v u=true→ ∀q,u≠ .int q:=by
  intro v hv hk q hq
  subst hq
  cases v<;>first|exact absurd rfl (hv _ _)|(simp [appendKind] at hk)
 unfold appendedB at h
 split at h
 ·cases h
  rw [hx.slice_nil]
  exact ⟨[],.nil,.slice (hne _ (by simp) hk) fun W1 _=>by simp [Builtin.firstCells]⟩
 ·rename_i a n c
  split at h
  ·rename_i l hl
   cases h
   obtain ⟨r,κ,_,hr,hX⟩:=hx.slice_inv
   obtain ⟨L,hL,hlen,_,hrun⟩:=firstCells_ok hi hl hr
   refine ⟨L,hL,?_⟩
   rcases hX with ⟨c',_,rfl⟩|⟨c',_,rfl⟩
   ·exact .slice (hne _ (by simp) hk) fun W1 hW=>hrun W1 hW _ _
   ·exact .slice (hne _ (by simp) hk) fun W1 hW=>hrun W1 hW _ _
  ·cases h
 ·rename_i b
  split at h
  ·cases h
   rw [hx.string]
   exact ⟨_,byteVals_free b,.string (hne _ (by simp) hk)⟩
  ·cases h
 ·rename_i n
  rw [hz] at h
  simp only at h
  split at h
  ·rename_i hle
   cases h
   have hle:=Nat.le_of_ble_eq_true hle
   obtain ⟨i,hi1,hi2,hi3⟩:=zeroB_ok hz
   rw [hx.int]
   have hq: ∃q,u= .int q:=by cases u<;>simp [appendKind] at hk ⊢
   obtain ⟨q,hq⟩:=hq
   exact ⟨_,zerosB_free hi3 (k*z.cells.size) (by omega),.zeros hq hle⟩
  ·cases h
 ·cases h
theorem drop_post (hi:Inv P G base φ st W) (b:Nat):Post P G base φ st W ⟨dropB st.heap b,st.next,Nat.min st.low b⟩ φ W:=by
 have sub: ∀c o,look (dropB st.heap b) c=some o→look st.heap c=some o∧c≠b:=fun c o h=>by
  rw [look_dropB] at h
  split at h
  ·cases h
  ·rename_i hc;exact ⟨h,fun e=>hc e.symm⟩
 refine ⟨.rfl,fun _ _ h=> .inl h,fun c r' κ' h1 h2=>(by rw [h1] at h2;cases h2),?_,Nat.le_refl _,Nat.min_le_left _ _,?_,fun _ _ _=>rfl,Nat.le_refl _,rfl,rfl,rfl⟩
 ·exact ⟨hi.dom,fun c o h=>hi.wf c o (sub c o h).1,hi.srt.sublist (sub_dropB _ _),fun c o r κ h=>hi.obj c o r κ (sub c o h).1,fun c d o q r κ l h1 h2=>hi.inj c d o q r κ l (sub c o h1).1 (sub d q h2).1,hi.low⟩
 ·intro c _ hc
  have h1:c<Nat.min st.low b:=hc
  have h2:c<b:=Nat.lt_of_lt_of_le h1 (Nat.min_le_right _ _)
  show look (dropB st.heap b) c=_
  rw [look_dropB,if_neg (by omega)]
theorem grow_post (hi:Inv P G base φ st W) (hb:base≤W.heap.size) (hf:φ st.next=none) {elem:TypeId} {size n cap:Nat} {cs Cs Z:List Value} (hs:sizeB P elem=some size) (hrel:RelL G φ cs Cs) (_hlen:cs.length=n*size) (hZ:Z.length=(cap - n)*size) (_hcap:n≤cap):
  Post P G base φ st W ⟨(st.next,.row cs elem true false)::st.heap,st.next+1,st.low⟩ (φ.add st.next (W.heap.size,cap - n)) (W.drew.alloc (.cells (Cs++Z).toArray elem)):=by
 have hle:=Phi.add_le (x:=(W.heap.size,cap - n)) hf
 refine new_post (W1:=W.drew) hi hb hf _ _ _ rfl rfl rfl rfl ⟨(Cs++Z).toArray,(0,0),size,?_,?_,.inr hs,?_,by simp,fun _ i _=>by simp⟩
 ·show (W.heap.push _)[W.heap.size]? =_
  simp
 ·have:((Cs++Z).toArray.toList).take cs.length=Cs:=by
   rw [hrel.1]
   exact List.take_left
  rw [this]
  exact hrel.mono hle
 ·simp [hZ,←hrel.1]
theorem take_post (hi:Inv P G base φ st W) (hf:φ st.next=none) {b r κ κ':Nat} {cs:List Value} {elem:TypeId} {ext:Bool} {new:List Value} (hl:look st.heap b=some (.row cs elem ext false)) (hr:φ b=some (r,κ))
  {C C':Array Value} {fr:Nat×Nat} {size:Nat} (h1:W.heap[r]? =some (.cells C elem fr)) (h6: ∀i,i<C.size→ ¬(fr.1≤i∧i<fr.2)) (hs:sizeB P elem=some size) (hsz:C'.size=C.size) (hC:C'.size=new.length+κ'*size) (hrel:RelL G φ new (C'.toList.take new.length)):
  Post P G base φ st W ⟨(st.next,.row new elem true false)::dropB st.heap b,st.next+1,Nat.min st.low b⟩ (φ.add st.next (r,κ')) (W.setRow r C'):=by
 have hle:=Phi.add_le (x:=(r,κ')) hf
 have hd:=hi.dom _ _ _ hr
 have hw:=hi.wf _ _ hl
 have sub: ∀c o,look (dropB st.heap b) c=some o→look st.heap c=some o∧c≠b:=fun c o h=>by
  rw [look_dropB] at h
  split at h
  ·cases h
  ·rename_i hc;exact ⟨h,fun e=>hc e.symm⟩
 have lk: ∀c o,look ((st.next,AObj.row new elem true false)::dropB st.heap b) c=some o→(c=st.next∧o= .row new elem true false)∨(c≠st.next∧c≠b∧look st.heap c=some o):=fun c o h=>by
  rw [look_cons] at h
  split at h
  ·rename_i e;cases h;exact .inl ⟨e.symm,rfl⟩
  ·rename_i e;exact .inr ⟨fun x=>e x.symm,(sub c o h).2,(sub c o h).1⟩
 have padd: ∀c x,φ.add st.next (r,κ') c=some x→(c=st.next∧x=(r,κ'))∨(c≠st.next∧φ c=some x):=fun c x h=>by
  unfold Phi.add at h
  split at h
  ·rename_i e;cases h;exact .inl ⟨e,rfl⟩
  ·rename_i e;exact .inr ⟨e,h⟩
 refine ⟨hle,?_,?_,?_,Nat.le_succ _,Nat.min_le_left _ _,?_,?_,by simp,rfl,rfl,rfl⟩
 ·intro c x hx
  rcases padd c x hx with ⟨rfl,rfl⟩|⟨_,h⟩
  ·exact .inr ⟨Nat.le_refl _,Nat.lt_succ_self _⟩
  ·exact .inl h
 ·intro c r' l hx hn
  rcases padd c _ hx with ⟨rfl,e⟩|⟨_,h⟩
  ·cases e
   exact .inr ⟨b,κ,hr,Nat.min_le_right _ _,hw.2⟩
  ·rw [hn] at h;cases h
 ·refine ⟨?_,?_,?_,?_,?_,by have:=hi.low;show G≤st.next+1;omega⟩
  ·intro c r' l hx
   rw [setRow_size]
   rcases padd c _ hx with ⟨rfl,e⟩|⟨_,h⟩
   ·cases e;exact ⟨hi.low,hd.2⟩
   ·exact hi.dom c r' l h
  ·intro c o hc
   show G≤c∧c<st.next+1
   rcases lk c o hc with ⟨rfl,_⟩|⟨_,_,h⟩
   ·exact ⟨hi.low,Nat.lt_succ_self _⟩
   ·have:=hi.wf c o h;omega
  ·refine List.pairwise_cons.2 ⟨fun x hx=> ?_,hi.srt.sublist (sub_dropB _ _)⟩
   have hx:=(sub_dropB _ _).subset hx
   obtain ⟨k,q⟩:=x
   have key: ∀l:Hp,(k,q)∈l→ ∃q',look l k=some q':=by
    intro l
    induction l with
    |nil=>intro h;cases h
    |cons y l ih=>
     intro h
     rw [look_cons]
     split
     ·exact ⟨_,rfl⟩
     ·rename_i hne
      rcases List.mem_cons.1 h with e|e
      ·exact absurd (by rw [←e]) hne
      ·exact ih e
   obtain ⟨q',hq'⟩:=key _ hx
   exact (hi.wf k q' hq').2
  ·intro c o r' l hc hx
   rcases lk c o hc with ⟨rfl,rfl⟩|⟨hne,hnb,h⟩
   ·rcases padd _ _ hx with ⟨_,e⟩|⟨hne,_⟩
    ·cases e
     exact ⟨C',fr,size,setRow_heap W r C C' elem fr h1,hrel.mono hle,.inr hs,hC,by simp,fun _ i hi'=>h6 i (by omega)⟩
    ·exact absurd rfl hne
   ·rcases padd _ _ hx with ⟨e,_⟩|⟨_,hx'⟩
    ·exact absurd e hne
    ·refine (hi.obj c o r' l h hx').mono hle (setRow_other W r r' _ fun e=> ?_)
     subst e
     exact hnb (hi.inj _ _ _ _ _ _ _ h hl hx' hr)
  ·intro c d o q r' l l' hc hd' hx hx'
   rcases lk c o hc with ⟨rfl,_⟩|⟨hne,hnb,h⟩<;>rcases lk d q hd' with ⟨rfl,_⟩|⟨hne',hnb',h'⟩
   ·rfl
   ·rcases padd _ _ hx with ⟨_,e⟩|⟨hne,_⟩
    ·cases e
     rcases padd _ _ hx' with ⟨e,_⟩|⟨_,hx''⟩
     ·exact absurd e hne'
     ·exact absurd (hi.inj _ _ _ _ _ _ _ h' hl hx'' hr) hnb'
    ·exact absurd rfl hne
   ·rcases padd _ _ hx' with ⟨_,e⟩|⟨hne,_⟩
    ·cases e
     rcases padd _ _ hx with ⟨e,_⟩|⟨_,hx''⟩
     ·exact absurd e hne
     ·exact absurd (hi.inj _ _ _ _ _ _ _ h hl hx'' hr) hnb
    ·exact absurd rfl hne
   ·rcases padd _ _ hx with ⟨e,_⟩|⟨_,hx1⟩
    ·exact absurd e hne
    ·rcases padd _ _ hx' with ⟨e,_⟩|⟨_,hx2⟩
     ·exact absurd e hne'
     ·exact hi.inj _ _ _ _ _ _ _ h h' hx1 hx2
 ·intro c hc hcl
  have h1:c<Nat.min st.low b:=hcl
  have h2:c<b:=Nat.lt_of_lt_of_le h1 (Nat.min_le_right _ _)
  show look ((st.next,AObj.row new elem true false)::dropB st.heap b) c=_
  rw [look_cons,if_neg (show ¬st.next=c by omega),look_dropB,if_neg (by omega)]
 ·intro r' _ hall
  refine setRow_other W r r' _ fun e=> ?_
  subst e
  have h1:b<Nat.min st.low b:=hall b κ hr hw.2
  have h2:b<b:=Nat.lt_of_lt_of_le h1 (Nat.min_le_right _ _)
  omega
end
end
end Go.Proofs.YtmjappnpedjlnaaGreatDoor.Ev
