/-
  A walk on paper: what a call does in a memory of its own, reckoned out; and that the call does so (1 of 2).
-/
import Derived.Orders
import Derived.RowKit3
import Derived.KernelRfl
import Derived.Below
import Derived.Laws.CopyRow
import Derived.Laws.Append
import Derived.Laws.AppendOwn
import Derived.Lib.UnsafeStr
import Derived.Lib.Builder
import Derived.LaidEql
import Derived.Laws.BytesString
import Derived.Scope
import Derived.Lib.Bytealg
import Derived.Lib.Index
import Derived.Lib.TrailingZeros
import Derived.Lib.BitFns
import Derived.Lib.ItoaNum
import Derived.Lib.Join
import Derived.Laws.Externs
import Derived.Lib.Replace
import Derived.Shelf.Abstract
import Derived.Laws.RangeString
namespace Go.Proofs.YtpmaemedpcgjaaaGreatDoor.Ev
set_option autoImplicit false
noncomputable section
open Go
inductive AObj where
 |row (cs:List Value) (elem:TypeId) (ext fz:Bool)
 |iter (s:ByteArray) (pos:Nat)
 |map (ks vs:List Value)
abbrev Hp:=List (Nat×AObj)
abbrev br {g:Type} (b:Bool) (x y:g):g:=Bool.rec (motive:=fun _=>g) y x b
structure St where
 heap:Hp
 next:Nat
 low:Nat
def look (h:Hp) (b:Nat):Option AObj:=
 List.rec (motive:=fun _=>Option AObj) none (fun x _ g=>br (Nat.beq x.1 b) (some x.2) g) h
def putB (h:Hp) (b:Nat) (o:AObj):Hp:=
 List.rec (motive:=fun _=>Hp) [] (fun x l g=>br (Nat.beq x.1 b) ((x.1,o)::l) (x::g)) h
def dropB (h:Hp) (b:Nat):Hp:=
 List.rec (motive:=fun _=>Hp) [] (fun x _ g=>br (Nat.beq x.1 b) g (x::g)) h
def cutB (h:Hp) (n:Nat):Hp:=
 List.rec (motive:=fun _=>Hp) [] (fun x l g=>br (Nat.ble n x.1) g (x::l)) h
abbrev Res:=Option (Value×St)
def St.put (st:St) (o:AObj) (f:Nat→Value):Res:=some (f st.next,⟨(st.next,o)::st.heap,st.next+1,st.low⟩)
def St.set (st:St) (b:Nat) (o:AObj):St:=⟨putB st.heap b o,st.next,Nat.min st.low b⟩
def ptrV (b:Nat):Value:= .pointer (some ⟨b,0,none⟩)
def pureRun {g:Type} (P:Program):Sem g→Option g
 | .pure a=>some a
 | .program k=>pureRun P (k P)
 |_=>none
inductive Tr where
 |e|n (l:Tr) (v:Value) (r:Tr)
def Tr.get (t:Tr):Nat→Value:=
 Tr.rec (motive:=fun _=>Nat→Value) (fun _=>undef) (fun _ v _ h g k=>br (Nat.beq k 0) v (br (Nat.beq (Nat.mod k 2) 1) (h (Nat.div k 2)) (g (Nat.sub (Nat.div k 2) 1)))) t
def Tr.left (t:Tr):Tr:=Tr.rec (motive:=fun _=>Tr) .e (fun l _ _ _ _=>l) t
def Tr.right (t:Tr):Tr:=Tr.rec (motive:=fun _=>Tr) .e (fun _ _ r _ _=>r) t
def Tr.val (t:Tr):Value:=Tr.rec (motive:=fun _=>Value) undef (fun _ v _ _ _=>v) t
def Tr.put (f:Nat):Tr→Nat→Value→Tr:=
 Nat.rec (motive:=fun _=>Tr→Nat→Value→Tr) (fun t _ _=>t)
  (fun _ g t k v=>br (Nat.beq k 0) (.n t.left v t.right) (br (Nat.beq (Nat.mod k 2) 1) (.n (g t.left (Nat.div k 2) v) t.val t.right) (.n t.left t.val (g t.right (Nat.sub (Nat.div k 2) 1) v)))) f
abbrev Ts:=Tr
def ofArgs (args:List Value):Ts:=
 List.rec (motive:=fun _=>Nat→Tr→Tr) (fun _ t=>t) (fun v _ g k t=>g (Nat.add k 1) (t.put 12 k v)) args 0 .e
def ρ (ts:Ts):Operand→Value
 | .tmp t=>ts.get t
 | .const v=>v
 | .global g=> .pointer (some ⟨g,0,none⟩)
 | .func f=> .func (.func f) #[] #[]
def pf (G:Nat):Nat→Value→Bool
 |_,.bool _|_,.int .. |_,.float .. |_,.complex .. |_,.string _|_,.nilFunc|_,.nilIface=>true
 |_,.pointer none=>true
 |_,.pointer (some a)=>Nat.blt a.block G
 |_,.slice none _ _=>true
 |_,.slice (some _) _ _=>false
 |_,.map none=>true
 |_,.map (some _)=>false
 |_,.chan _=>false
 |n+1,.func _ f c=>f.toList.all (pf G n)&&c.toList.all (pf G n)
 |n+1,.iface _ v=>pf G n v
 |n+1,.agg cs=>cs.toList.all (pf G n)
 |n+1,.tuple cs=>cs.toList.all (pf G n)
 |0,_=>false
abbrev CallF:=FuncId→List Value→St→Res
def isAggB (P:Program) (t:TypeId):Option Bool:=
 match P.underlying t with
 |some (.struct _)|some (.array _ _)=>some true
 |some _=>some false
 |none=>none
def sizeB (P:Program) (t:TypeId):Option Nat:=(P.info? t).map (·.size)
def slc (l:List Value) (o n:Nat):Option (List Value):=
 match Nat.ble (o+n) l.length with
 |true=>some ((l.drop o).take n)
 |false=>none
def splice:List Value→Nat→List Value→List Value
 |l,0,[]=>l
 |[],_,_=>[]
 |_::l,0,x::xs=>x::splice l 0 xs
 |v::l,n+1,xs=>v::splice l n xs
def one (v:Value):Bool:=match v with| .agg _| .tuple _=>false|_=>true
def cellsAt (h:Hp) (a:Addr) (n:Nat):Option (List Value):=
 match a.spot with
 |some _=>none
 |none=>match look h a.block with
  |some (.row cs _ _ _)=>slc cs a.off n
  |_=>none
def natOf:Value→Option Nat
 | .int _ (.ofNat n)=>some n
 |_=>none
def loadB (P:Program) (h:Hp) (t:TypeId) (v:Value):Option Value:=
 match v with
 | .pointer (some a)=>
  match isAggB P t,sizeB P t with
  |some true,some n=>match cellsAt h a n with|some l=>some (.agg l.toArray)|none=>none
  |some false,_=>match cellsAt h a 1 with|some [v]=>some v|_=>none
  |_,_=>none
 |_=>none
def evLoad (P:Program) (t:TypeId) (v:Value) (st:St):Res:=
 match loadB P st.heap t v with
 |some v=>some (v,st)
 |none=>none
def writeB (st:St) (a:Addr) (new:List Value):Option St:=
 match a.spot,look st.heap a.block with
 |none,some (.row cs e ext false)=>
  match Nat.ble (a.off+new.length) cs.length&&new.all one with
  |true=>some (st.set a.block (.row (splice cs a.off new) e ext false))
  |false=>none
 |_,_=>none
def evStore (P:Program) (t:TypeId) (a x:Value) (st:St):Res:=
 match a,sizeB P t with
 | .pointer (some a),some n=>
  match Nat.beq x.cells.size n with
  |true=>match writeB st a x.cells.toList with|some st=>some (undef,st)|none=>none
  |false=>none
 |_,_=>none
def zeroB (P:Program) (G:Nat) (t:TypeId):Option Value:=
 match P.info? t with
 |some i=>match i.zero with
  |some z=>match pf G 6 z with|true=>some z|false=>none
  |none=>none
 |none=>none
def evAlloc (P:Program) (G:Nat) (e:TypeId) (st:St):Res:=
 match zeroB P G e with
 |some z=>st.put (.row z.cells.toList e false false) ptrV
 |none=>none
def evBox (e:TypeId) (x:Value) (st:St):Res:=st.put (.row x.cells.toList e false false) ptrV
def zerosB (z:Value) (n:Nat):Array Value:=(Array.range n).map (z.cells[· % z.cells.size]!)
def evBuildSlice (P:Program) (G:Nat) (t:TypeId) (g:Nat) (h:List (Nat×Value)) (st:St):Res:=
 match P.underlying t with
 |some (.slice elem)=>match sizeB P elem,zeroB P G elem with
  |some n,some z=>
   match Nat.ble (g*n) 4096&&Nat.blt 0 z.cells.size with
   |true=>match Instr.fill (fun k=>some (k*n,n)) (zerosB z (g*n)) h with
    |some cells=>st.put (.row cells.toList elem false false) fun b=> .slice (some ⟨b,0,none⟩) g (2*g)
    |none=>none
   |false=>none
  |_,_=>none
 |_=>none
def bytesB (P:Program) (t:TypeId):Option Nat:=(P.info? t).map (·.bytes)
def evMakeSlice (P:Program) (G:Nat) (t:TypeId) (l c:Value) (st:St):Res:=
 match P.underlying t with
 |some (.slice elem)=>match sizeB P elem,bytesB P elem,zeroB P G elem,natOf l,natOf c with
  |some n,some g,some z,some l,some c=>
   match Nat.ble l c&&Nat.ble c 4096&&Nat.ble g 4096&&Nat.blt 0 z.cells.size with
   |true=>st.put (.row (zerosB z (c*n)).toList elem false false) fun b=> .slice (some ⟨b,0,none⟩) l (2*c)
   |false=>none
  |_,_,_,_,_=>none
 |_=>none
def evFieldAddr (P:Program) (s:TypeId) (x:Value) (f:Nat) (st:St):Res:=
 match P.underlying s,x with
 |some (.struct g),.pointer (some ⟨b,o,none⟩)=>
  match g[f]? with
  |some f=>match sizeB P f.type with
   |some n=>match Nat.beq n 0 with|true=>none|false=>some (.pointer (some ⟨b,o+f.offset,none⟩),st)
   |none=>none
  |none=>none
 |_,_=>none
def evIndexAddr (P:Program) (t:TypeId) (x h:Value) (st:St):Res:=
 match P.underlying t,x,natOf h with
 |some (.slice elem),.slice (some ⟨b,o,none⟩) g _,some i=>
  match sizeB P elem,Nat.blt i g with
  |some n,true=>some (.pointer (some ⟨b,o+i*n,none⟩),st)
  |_,_=>none
 |some (.array g elem),.pointer (some ⟨b,o,none⟩),some i=>
  match sizeB P elem,Nat.blt i g with
  |some n,true=>some (.pointer (some ⟨b,o+i*n,none⟩),st)
  |_,_=>none
 |_,_,_=>none
def boundB (x:Option Value) (d y:Nat):Option Nat:=
 match x with
 |none=>some d
 |some (.int _ (.ofNat i))=>match Nat.ble i y with|true=>some i|false=>none
 |_=>none
def evSliceRow (P:Program) (elem:TypeId) (a:Addr) (g cap:Nat) (y B:Option Value) (st:St):Res:=
 match sizeB P elem,boundB B g (cap/2) with
 |some n,some h=>
  match boundB y 0 h with
  |some l=>
   match cap % 2 with
   |0=>match Nat.beq (cap/2) l with
    |true=>some (.slice (some ⟨a.block,a.off,none⟩) (h - l) (2*0),st)
    |false=>some (.slice (some ⟨a.block,a.off+l*n,none⟩) (h - l) (2*(cap/2 - l)),st)
   |_=>match Nat.blt l (cap/2) with
    |true=>some (.slice (some ⟨a.block,a.off+l*n,none⟩) (h - l) (2*(cap/2 - l)+1),st)
    |false=>match Nat.beq h l with
     |true=>some (.chan none,st)
     |false=>none
  |none=>none
 |_,_=>none
def evSliceMax (P:Program) (elem:TypeId) (a:Addr) (cap:Nat) (y:Option Value) (B g:Value) (st:St):Res:=
 match sizeB P elem,natOf g,natOf B with
 |some n,some m,some h=>
  match Nat.ble m (cap/2)&&Nat.ble h m,boundB y 0 h with
  |true,some l=>
   match Nat.beq m l with
   |true=>some (.slice (some ⟨a.block,a.off,none⟩) (h - l) (2*0),st)
   |false=>some (.slice (some ⟨a.block,a.off+l*n,none⟩) (h - l) (2*(m - l)),st)
  |_,_=>none
 |_,_,_=>none
def evSliceArr (P:Program) (elem:TypeId) (N:Nat) (a:Addr) (g y:Option Value) (st:St):Res:=
 match sizeB P elem,boundB y N N with
 |some n,some h=>
  match boundB g 0 h with
  |some l=>match Nat.beq N l with
   |true=>some (.slice (some ⟨a.block,a.off,none⟩) (h - l) (2*0),st)
   |false=>some (.slice (some ⟨a.block,a.off+l*n,none⟩) (h - l) (2*(N - l)),st)
  |none=>none
 |_,_=>none
def evSliceStr (s:ByteArray) (g y:Option Value) (st:St):Res:=
 match boundB y s.size s.size with
 |some h=>match boundB g 0 h with
  |some l=>some (.string (s.extract l h),st)
  |none=>none
 |none=>none
def evSlice (P:Program) (G:Nat) (t:TypeId) (x:Value) (g y D:Option Value) (st:St):Res:=
 match P.underlying t,x,D with
 |some .string,.string s,none=>evSliceStr s g y st
 |some (.slice elem),.slice (some a) B cap,none=>evSliceRow P elem a B cap g y st
 |some (.slice elem),.slice (some a) _ cap,some m=>match y with|some h=>evSliceMax P elem a cap g h m st|none=>none
 |some (.slice elem),.slice none 0 0,none=>match sizeB P elem,boundB y 0 0,boundB g 0 0 with
  |some _,some _,some _=>some (.slice none 0 0,st)
  |_,_,_=>none
 |some (.array n elem),.pointer (some a),none=>match Nat.ble G a.block with|true=>evSliceArr P elem n a g y st|false=>none
 |_,_,_=>none
def evRange (P:Program) (t:TypeId) (x:Value) (st:St):Res:=
 match P.underlying t,x with
 |some .string,.string s=>st.put (.iter s 0) ptrV
 |_,_=>none
def evNext (it:Value) (st:St):Res:=
 match it with
 | .pointer (some ⟨b,0,none⟩)=>
  match look st.heap b with
  |some (.iter s pos)=>
   match Nat.blt pos s.size with
   |true=>match Utf8.decode s pos with
    |(c,g)=>some (.tuple #[.bool true,goInt pos,.int .i32 c],st.set b (.iter s (pos+g)))
   |false=>some (.tuple #[.bool false],st)
  |_=>none
 |_=>none
def eqBytes:List UInt8→List UInt8→Bool
 |[],[]=>true
 |a::l,b::m=>Nat.beq a.toNat b.toNat&&eqBytes l m
 |_,_=>false
def keyIx (k:ByteArray):List Value→Option (Option Nat)
 |[]=>some none
 | .string s::l=>match eqBytes k.data.toList s.data.toList with
  |true=>some (some 0)
  |false=>match keyIx k l with
   |some (some i)=>some (some (i+1))
   |o=>o
 |_=>none
def mapOf (h:Hp) (x:Value):Option (List Value×List Value):=
 match x with
 | .map none=>some ([],[])
 | .map (some b)=>match look h b with|some (.map ks vs)=>some (ks,vs)|_=>none
 |_=>none
def evMakeMap (P:Program) (t:TypeId) (r:Option Value) (st:St):Res:=
 match r,P.underlying t with
 |none,_=>st.put (.map [] []) fun b=> .map (some b)
 |some (.int _ _),some (.map _ _)=>st.put (.map [] []) fun b=> .map (some b)
 |_,_=>none
def hasB (ok:Bool) (v:Value) (b:Bool):Value:=match ok with|true=> .tuple #[v,.bool b]|false=>v
def evLookup (P:Program) (G:Nat) (t:TypeId) (x g:Value) (ok:Bool) (st:St):Res:=
 match P.underlying t,g with
 |some (.map k e),.string s=>
  match P.underlying k,zeroB P G e,mapOf st.heap x with
  |some .string,some z,some (ks,vs)=>
   match keyIx s ks with
   |some none=>some (hasB ok z false,st)
   |some (some j)=>match vs[j]? with|some v=>some (hasB ok v true,st)|none=>none
   |none=>none
  |_,_,_=>none
 |_,_=>none
def evMapUpdate (P:Program) (t:TypeId) (m k v:Value) (st:St):Res:=
 match P.underlying t,m,k with
 |some (.map g _),.map (some b),.string s=>
  match P.underlying g,look st.heap b with
  |some .string,some (.map ks vs)=>
   match keyIx s ks with
   |some none=>some (undef,st.set b (.map (ks++[k]) (vs++[v])))
   |some (some j)=>some (undef,st.set b (.map ks (vs.set j v)))
   |none=>none
  |_,_=>none
 |_,_,_=>none
def byteVals (b:ByteArray):List Value:=b.data.toList.map fun c=> .int .u8 c.toNat
def valByte:Value→Option UInt8
 | .int .u8 (.ofNat n)=>match Nat.blt n 256 with|true=>some (UInt8.ofNat n)|false=>none
 |_=>none
def valBytes:List Value→Option (List UInt8)
 |[]=>some []
 |v::l=>match valByte v,valBytes l with
  |some b,some m=>some (b::m)
  |_,_=>none
def evToBytes (P:Program) (e:TypeId) (s:ByteArray) (st:St):Res:=
 match sizeB P e,Nat.ble s.size 1000000 with
 |some 1,true=>st.put (.row (byteVals s) e true false) fun b=> .slice (some ⟨b,0,none⟩) s.size (2*s.size+1)
 |_,_=>none
def evToString (a:Addr) (n:Nat) (st:St):Res:=
 match cellsAt st.heap a n with
 |some l=>match valBytes l with
  |some m=>some (.string ⟨m.toArray⟩,st)
  |none=>none
 |none=>none
def liesB (P:Program) (h:Hp) (a:Addr) (u:TypeId):Bool:=
 match look h a.block with
 |some (.row cs e false _)=>liesAt P P.depth e (cs.length/P.cellsOf e) a.off u 1&&Nat.blt a.off cs.length
 |_=>false
def evPure (P:Program) (G:Nat) (args:List Value) (s:Sem Value) (st:St):Res:=
 match args.all (pf G 6) with
 |true=>match pureRun P s with
  |some v=>match pf G 6 v with|true=>some (v,st)|false=>none
  |none=>none
 |false=>none
def evConvert (P:Program) (G:Nat) (g dst:TypeId) (x:Value) (st:St):Res:=
 match P.underlying g,P.underlying dst,x with
 |some .string,some (.slice e),.string s=>
  match P.underlying e with
  |some (.int .u8)=>evToBytes P e s st
  |_=>none
 |some (.slice e),some .string,.slice (some a) n _=>
  match P.underlying e with
  |some (.int .u8)=>evToString a n st
  |_=>none
 |some (.pointer t),some .unsafePointer,.pointer (some ⟨b,o,none⟩)=>
  match sizeB P t,liesB P st.heap ⟨b,o,none⟩ t with
  |some (_+1),true=>some (x,st)
  |_,_=>none
 |some .unsafePointer,some (.pointer u),.pointer (some ⟨b,o,none⟩)=>
  match sizeB P u,liesB P st.heap ⟨b,o,none⟩ u with
  |some (_+1),true=>some (x,st)
  |_,_=>none
 |_,_,_=>evPure P G [x] (convert g dst x) st
def methodB (P:Program) (t:TypeId) (g:String):Option FuncId:=
 match P.info? t with
 |some i=>match i.methods.find? (fun m=>m.name==g) with
  |some m=>match m.path.toList,m.func with
   |[],some (f,h)=>
    match P.underlying t with
    |some (.pointer _)=>match h with|true=>some f|false=>none
    |some _=>match h with|true=>none|false=>some f
    |none=>none
   |_,_=>none
  |none=>none
 |none=>none
def appendedB (P:Program) (G:Nat) (elem:TypeId) (size:Nat) (x:Value) (h:Hp):Option (List Value×Nat):=
 match x with
 | .slice none 0 _=>some ([],0)
 | .slice (some a) n _=>match cellsAt h a (n*size) with|some l=>some (l,n)|none=>none
 | .string b=>match Nat.beq size 1 with|true=>some (byteVals b,b.size)|false=>none
 | .int .i64 (.ofNat n)=>match zeroB P G elem with
  |some z=>match Nat.ble n 4096 with|true=>some ((Builtin.zeroCells z.cells n).toList,n)|false=>none
  |none=>none
 |_=>none
def growB (elem:TypeId) (cs:List Value) (n:Nat) (st:St):Res:=
 st.put (.row cs elem true false) fun b=> .slice (some ⟨b,0,none⟩) n (2*n+1)
def appendTo (elem:TypeId) (size:Nat) (a:Addr) (n cap:Nat) (xs:List Value) (k:Nat) (st:St):Res:=
 match a.spot,look st.heap a.block with
 |none,some (.row cs e _ false)=>
  match Nat.ble (n+k) (cap/2) with
  |true=>match writeB st ⟨a.block,a.off+n*size,none⟩ xs with|some st=>some (.slice (some a) (n+k) cap,st)|none=>none
  |false=>match slc cs a.off (n*size) with
   |none=>none
   |some old=>
    match cap % 2 with
    |0=>growB elem (old++xs) (n+k) st
    |_=>
     match Nat.beq a.off 0&&Nat.beq e elem&&Nat.beq (cap/2*size) cs.length&&xs.all one with
     |true=>growB elem (old++xs) (n+k) ⟨dropB st.heap a.block,st.next,Nat.min st.low a.block⟩
     |false=>none
 |_,_=>none
def appendKind (x:Value) (u:TypeDesc):Bool:=
 match x,u with
 | .int ..,.int _=>true
 | .int ..,_=>false
 |_,.int _=>false
 |_,_=>true
def evAppend2 (P:Program) (G:Nat) (elem:TypeId) (size:Nat) (s x:Value) (st:St):Res:=
 match appendedB P G elem size x st.heap with
 |some (xs,k)=>
  match Nat.ble k 1000000&&Nat.beq xs.length (k*size) with
  |true=>
   match s with
   | .slice none 0 0=>match k with
    |0=>some (s,st)
    |_+1=>growB elem xs k st
   | .slice (some a) n cap=>match Nat.ble n 1000000 with|true=>appendTo elem size a n cap xs k st|false=>none
   |_=>none
  |false=>none
 |none=>none
def evAppend (P:Program) (G:Nat) (g:List TypeId) (s x:Value) (st:St):Res:=
 match g with
 |[B,y]=>
  match P.underlying B,P.underlying y with
  |some (.slice elem),some D=>
   match sizeB P elem,bytesB P elem,zeroB P G elem with
   |some size,some h,some z=>
    match appendKind x D&&Nat.blt 0 size&&Nat.ble h 4096&&Nat.beq z.cells.size size with
    |true=>evAppend2 P G elem size s x st
    |false=>none
   |_,_,_=>none
  |_,_=>none
 |_=>none
def evCopy (P:Program) (t:TypeId) (d x:Value) (st:St):Res:=
 match P.underlying t,d with
 |some (.slice elem),.slice (some a) n _=>
  match sizeB P elem with
  |some (size+1)=>
   match x with
   | .slice (some b) m _=>match cellsAt st.heap b (Nat.min m n*(size+1)) with
    |some xs=>match writeB st a xs with|some st=>some (goInt (Nat.min m n:Nat),st)|none=>none
    |none=>none
   |_=>none
  |_=>none
 |_,_=>none
def evSliceData (x:Value) (st:St):Res:=
 match x with
 | .slice none _ _=>some (.pointer none,st)
 | .slice (some a) _ cap=>match Nat.ble 2 cap with|true=>some (.pointer (some a),st)|false=>none
 |_=>none
def evUnsafeString (P:Program) (g:TypeId) (p x:Value) (st:St):Res:=
 match p,x,P.underlying g with
 | .pointer (some a),.int .i64 (.ofNat (n+1)),some (.pointer e)=>
  match look st.heap a.block,sizeB P e,Nat.beq a.off 0&&Nat.ble n 1000000 with
  |some (.row cs e' ext _),some 1,true=>
   match Nat.beq e e',slc cs 0 (n+1),a.spot with
   |true,some l,none=>match valBytes l with
    |some m=>some (.string ⟨m.toArray⟩,st.set a.block (.row cs e' ext true))
    |none=>none
   |_,_,_=>none
  |_,_,_=>none
 | .pointer _,.int .i64 (.ofNat 0),_=>some (.string .empty,st)
 |_,_,_=>none
def evLen (P:Program) (t:TypeId) (x:Value) (st:St):Res:=
 match P.underlying t,x with
 |some .string,.string s=>some (goInt s.size,st)
 |some (.slice _),.slice _ n _=>some (goInt n,st)
 |some (.slice _),.chan none=>some (goInt 0,st)
 |some (.array n _),_=>some (goInt n,st)
 |_,_=>none
def evLenA (P:Program) (t:TypeId) (x:Value) (st:St):Res:=
 match P.underlying t,x with
 |some (.map _ _),.map _=>match mapOf st.heap x with|some (ks,_)=>some (goInt ks.length,st)|none=>none
 |_,_=>evLen P t x st
def on1 (args:List Value) (f:Value→Res):Res:=match args with|[x]=>f x|_=>none
def on2 (args:List Value) (f:Value→Value→Res):Res:=match args with|[x,y]=>f x y|_=>none
def tyAt (g:Array TypeId) (f:TypeId→Res):Res:=match g.toList with|t::_=>f t|[]=>none
def tyAt2 (g:Array TypeId) (f:TypeId→Res):Res:=match g.toList with|[t,_]=>f t|_=>none
def evBuiltin (P:Program) (G:Nat) (b:Builtin) (g:Array TypeId) (h:TypeId) (args:List Value) (st:St):Res:=
 match b with
 | .append=>on2 args fun s x=>evAppend P G g.toList s x st
 | .copy=>on2 args fun d x=>tyAt g fun t=>evCopy P t d x st
 | .len=>on1 args fun x=>tyAt g fun t=>evLenA P t x st
 | .unsafeSliceData=>on1 args fun x=>evSliceData x st
 | .unsafeString=>on2 args fun p n=>tyAt2 g fun t=>evUnsafeString P t p n st
 | .min=>evPure P G args (Builtin.min_ g h args.toArray) st
 | .max=>evPure P G args (Builtin.max_ g h args.toArray) st
 |_=>none
def evCall (P:Program) (G:Nat) (callf:CallF) (ts:Ts) (c:Call) (h:TypeId) (st:St):Res:=
 match c.callee with
 | .value f=>
  match ρ ts f with
  | .func (.func g) first captured=>callf g (first.toList++c.args.toList.map (ρ ts)++captured.toList) st
  |_=>none
 | .invoke r y=>
  match ρ ts r with
  | .iface t v=>match methodB P t y with
   |some g=>callf g (v::c.args.toList.map (ρ ts)) st
   |none=>none
  |_=>none
 | .builtin b=>evBuiltin P G b c.argTypes h (c.args.toList.map (ρ ts)) st
def nilEq:Value→Value→Option Bool
 | .pointer (some _),.pointer none| .pointer none,.pointer (some _)=>some false
 | .slice (some _) _ _,.slice none _ _| .slice none _ _,.slice (some _) _ _=>some false
 | .iface _ _,.nilIface| .nilIface,.iface _ _=>some false
 | .map (some _),.map none| .map none,.map (some _)=>some false
 | .func ..,.nilFunc| .nilFunc,.func .. =>some false
 |_,_=>none
def eqKind:TypeDesc→Value→Bool
 | .pointer _,.pointer _=>true
 | .slice _,.slice _ _ _=>true
 | .interface _,.iface _ _| .interface _,.nilIface=>true
 | .map _ _,.map _=>true
 | .func _ _ _,.func _ _ _| .func _ _ _,.nilFunc=>true
 |_,_=>false
def eqB (P:Program) (t:TypeId) (a b:Value):Option Bool:=
 match nilEq a b,P.underlying t with
 |some r,some d=>match eqKind d a with|true=>some r|false=>none
 |none,some (.pointer e)=>match a,b,sizeB P e with
  | .pointer (some ⟨b,o,none⟩),.pointer (some ⟨h,g,none⟩),some (_+1)=>match Nat.beq b h&&Nat.beq o g with
   |true=>some true
   |false=>none
  |_,_,_=>none
 |_,_=>none
def evEq (P:Program) (op:BinOp) (t:TypeId) (a b:Value):Option Bool:=
 match eqB P t a b,op with
 |some r,.eql=>some r
 |some r,.neq=>some (!r)
 |_,_=>none
def evBin (P:Program) (G:Nat) (op:BinOp) (t:TypeId) (x y:Operand) (a b:Value) (st:St):Res:=
 match pf G 6 a&&pf G 6 b with
 |true=>match pureRun P (do eqGuard op t x y a b;binOp op t a b) with
  |some v=>match pf G 6 v with|true=>some (v,st)|false=>none
  |none=>none
 |false=>match evEq P op t a b with
  |some r=>some (.bool r,st)
  |none=>none
def placeB (P:Program) (g:Array Field) (k:Nat):Option (Nat×Nat):=
 match g[k]? with
 |some f=>match sizeB P f.type with|some n=>some (f.offset,n)|none=>none
 |none=>none
def evBuild (P:Program) (G:Nat) (t:TypeId) (g:List (Nat×Value)) (st:St):Res:=
 match P.underlying t,zeroB P G t with
 |some (.struct h),some z=>match h.all (fun f=>(sizeB P f.type).isSome) with
  |true=>match Instr.fill (placeB P h) z.cells g with
   |some cells=>some (.agg cells,st)
   |none=>none
  |false=>none
 |some (.array _ e),some z=>match sizeB P e with
  |some n=>match Instr.fill (fun k=>some (k*n,n)) z.cells g with
   |some cells=>some (.agg cells,st)
   |none=>none
  |none=>none
 |_,_=>none
def evPart (P:Program) (t:TypeId) (cs:List Value) (off:Nat) (st:St):Res:=
 match isAggB P t,sizeB P t with
 |some true,some n=>match slc cs off n with|some l=>some (.agg l.toArray,st)|none=>none
 |some false,some _=>match slc cs off 1 with|some [v]=>some (v,st)|_=>none
 |_,_=>none
def evField (P:Program) (t:TypeId) (x:Value) (f:Nat) (st:St):Res:=
 match P.underlying t,x with
 |some (.struct g),.agg cs=>match g[f]? with
  |some f=>evPart P f.type cs.toList f.offset st
  |none=>none
 |_,_=>none
def evIndex (P:Program) (t:TypeId) (x h:Value) (st:St):Res:=
 match P.underlying t,x,natOf h with
 |some .string,.string s,some i=>match s.data.toList[i]? with|some b=>some (.int .u8 b.toNat,st)|none=>none
 |some (.array g e),.agg cs,some i=>match Nat.blt i g,sizeB P e with
  |true,some n=>evPart P e cs.toList (i*n) st
  |_,_=>none
 |_,_,_=>none
def holdsB (ok:Bool) (v:Value):Value:=match ok with|true=> .tuple #[v,.bool true]|false=>v
def evAssert (P:Program) (G:Nat) (x:Value) (g:TypeId) (ok:Bool) (st:St):Res:=
 match P.underlying g,x with
 |some (.interface h),.iface t _=>match P.info? t with
  |some i=>match Instr.missingMethod h i.methods with
   |none=>some (holdsB ok x,st)
   |some _=>none
  |none=>none
 |some (.interface _),_=>none
 |some _,.iface t v=>match Nat.beq t g with
  |true=>some (holdsB ok v,st)
  |false=>match ok,zeroB P G g with
   |true,some z=>some (.tuple #[z,.bool false],st)
   |_,_=>none
 |some _,.nilIface=>match ok,zeroB P G g with
  |true,some z=>some (.tuple #[z,.bool false],st)
  |_,_=>none
 |_,_=>none
def evIface (P:Program) (t:TypeId) (x:Value) (st:St):Res:=
 match P.underlying t with
 |some (.interface _)=>none
 |some _=>some (.iface t x,st)
 |none=>none
def evNil (x:Value) (st:St):Res:=
 match x with
 | .pointer (some _)=>some (x,st)
 | .iface _ _=>some (x,st)
 | .func (.func _) _ _=>some (x,st)
 |_=>none
def evPick (c a b:Value) (st:St):Res:=
 match c with
 | .bool true=>some (a,st)
 | .bool false=>some (b,st)
 |_=>none
def evExtract (t:Value) (i:Nat) (st:St):Res:=
 match t with
 | .tuple vs=>match vs.toList[i]? with|some v=>some (v,st)|none=>none
 |_=>none
abbrev H:=Program→Nat→CallF→Ts→TypeId→St→Res
def hMove (x:Operand):H:=fun _ _ _ ts _ st=>some (ρ ts x,st)
def hPick (c a b:Operand):H:=fun _ _ _ ts _ st=>evPick (ρ ts c) (ρ ts a) (ρ ts b) st
def hAlloc (e:TypeId):H:=fun P G _ _ _ st=>evAlloc P G e st
def hBox (e:TypeId) (x:Operand):H:=fun _ _ _ ts _ st=>evBox e (ρ ts x) st
def hBuild (t:TypeId) (g:Array (Nat×Operand)):H:=fun P G _ ts _ st=>evBuild P G t (g.toList.map fun p=>(p.1,ρ ts p.2)) st
def hBuildSlice (t:TypeId) (h:Nat) (g:Array (Nat×Operand)):H:=fun P G _ ts _ st=>evBuildSlice P G t h (g.toList.map fun p=>(p.1,ρ ts p.2)) st
def hMakeSlice (t:TypeId) (l c:Operand):H:=fun P G _ ts _ st=>evMakeSlice P G t (ρ ts l) (ρ ts c) st
def hLoad (t:TypeId) (a:Operand):H:=fun P _ _ ts _ st=>evLoad P t (ρ ts a) st
def hStore (t:TypeId) (a x:Operand):H:=fun P _ _ ts _ st=>evStore P t (ρ ts a) (ρ ts x) st
def hNil (x:Operand):H:=fun _ _ _ ts _ st=>evNil (ρ ts x) st
def hBin (op:BinOp) (t:TypeId) (x y:Operand):H:=fun P G _ ts _ st=>evBin P G op t x y (ρ ts x) (ρ ts y) st
def hUn (op:UnOp) (x:Operand):H:=fun P G _ ts _ st=>evPure P G [ρ ts x] (Op.unary op (ρ ts x)) st
def hConvert (g dst:TypeId) (x:Operand):H:=fun P G _ ts _ st=>evConvert P G g dst (ρ ts x) st
def hIface (t:TypeId) (x:Operand):H:=fun P _ _ ts _ st=>evIface P t (ρ ts x) st
def hFunc (fn:Fn) (first g:Array Operand):H:=fun _ _ _ ts _ st=>some (.func fn (first.map (ρ ts)) (g.map (ρ ts)),st)
def hSlice (t:TypeId) (x:Operand) (h y g:Option Operand):H:=fun P G _ ts _ st=>evSlice P G t (ρ ts x) (h.map (ρ ts)) (y.map (ρ ts)) (g.map (ρ ts)) st
def hFieldAddr (s:TypeId) (x:Operand) (f:Nat):H:=fun P _ _ ts _ st=>evFieldAddr P s (ρ ts x) f st
def hField (t:TypeId) (x:Operand) (f:Nat):H:=fun P _ _ ts _ st=>evField P t (ρ ts x) f st
def hIndexAddr (t:TypeId) (x g:Operand):H:=fun P _ _ ts _ st=>evIndexAddr P t (ρ ts x) (ρ ts g) st
def hIndex (t:TypeId) (x g:Operand):H:=fun P _ _ ts _ st=>evIndex P t (ρ ts x) (ρ ts g) st
def hRange (t:TypeId) (x:Operand):H:=fun P _ _ ts _ st=>evRange P t (ρ ts x) st
def hNext (it:Operand) (g:Bool):H:=fun _ _ _ ts _ st=>match g with|true=>evNext (ρ ts it) st|false=>none
def hAssert (x:Operand) (g:TypeId) (ok:Bool):H:=fun P G _ ts _ st=>evAssert P G (ρ ts x) g ok st
def hExtract (t:Operand) (i:Nat):H:=fun _ _ _ ts _ st=>evExtract (ρ ts t) i st
def hCall (c:Call):H:=fun P G callf ts g st=>evCall P G callf ts c g st
def hMakeMap (t:TypeId) (r:Option Operand):H:=fun P _ _ ts _ st=>evMakeMap P t (r.map (ρ ts)) st
def hLookup (t:TypeId) (x g:Operand) (ok:Bool):H:=fun P G _ ts _ st=>evLookup P G t (ρ ts x) (ρ ts g) ok st
def hMapUpdate (t:TypeId) (m k v:Operand):H:=fun P _ _ ts _ st=>evMapUpdate P t (ρ ts m) (ρ ts k) (ρ ts v) st
def hNone:H:=fun _ _ _ _ _ _=>none
def opD (op:Op):H:=
 match op with
 | .move x| .assign x=>hMove x
 | .pick c a b=>hPick c a b
 | .alloc e=>hAlloc e
 | .box e x=>hBox e x
 | .build t g=>hBuild t g
 | .buildSlice t D g=>hBuildSlice t D g
 | .makeSlice t l c=>hMakeSlice t l c
 | .load t a=>hLoad t a
 | .store t a x=>hStore t a x
 | .nilCheck x=>hNil x
 | .binOp op t x y _=>hBin op t x y
 | .unOp op _ x=>hUn op x
 | .convert E dst x=>hConvert E dst x
 | .makeInterface t x=>hIface t x
 | .makeFunc fn first captured=>hFunc fn first captured
 | .slice t x K J I=>hSlice t x K J I
 | .fieldAddr s x f=>hFieldAddr s x f
 | .field t x f=>hField t x f
 | .indexAddr t x B=>hIndexAddr t x B
 | .index t x B=>hIndex t x B
 | .range t x=>hRange t x
 | .next it s=>hNext it s
 | .typeAssert x _ h ok=>hAssert x h ok
 | .extract t i=>hExtract t i
 | .call c=>hCall c
 | .makeMap t r=>hMakeMap t r
 | .lookup t x B ok=>hLookup t x B ok
 | .mapUpdate t m k v=>hMapUpdate t m k v
 | .insert t m k v=>hMapUpdate t m k v
 |_=>hNone
def evOp (P:Program) (G:Nat) (callf:CallF) (ts:Ts) (o:Oper) (st:St):Res:=opD o.op P G callf ts o.type st
def yieldB (ops:Array Oper) (ts:Ts) (j:Nat):Option Bool:=
 match (ops[j]?).bind (·.dst) with
 |some d=>match ts.get d with| .bool b=>some b|_=>none
 |none=>none
def putT (m:Nat) (ts:Ts) (d:Option Tmp) (v:Value):Ts:=
 match d with
 |some d=>br (Nat.blt d m) (ts.put 12 d v) ts
 |none=>ts
def wantB (ops:Array Oper) (ts:Ts) (o:Oper):Bool:=
 match o.guard with
 |none=>true
 |some (j,w)=>match yieldB ops ts j,w with
  |some true,true|some false,false=>true
  |_,_=>false
abbrev ResT:=Option (Ts×St)
abbrev KT:=Ts→St→ResT
def evOpsK (m:Nat) (o:Oper) (g:KT) (ts:Ts) (r:Res):ResT:=
 match r with
 |some (v,st)=>g (putT m ts o.dst v) st
 |none=>none
def evOps (P:Program) (G:Nat) (callf:CallF) (m:Nat) (ops:Array Oper) (l:List Oper):KT:=
 List.rec (motive:=fun _=>KT) (fun ts st=>some (ts,st))
  (fun o _ g ts st=>br (wantB ops ts o) (evOpsK m o g ts (evOp P G callf ts o st)) (g (putT m ts o.dst undef) st)) l
def maskB (l:List Nat) (o:Oper):Nat:=
 o.after.toList.foldl (fun s e=>match Region.binds .any e with|true=>s|||2^e.on|||l.getD e.on 0|false=>s) 0
def masksB:List Oper→List Nat→List Nat
 |[],g=>g
 |o::l,g=>masksB l (g++[maskB g o])
def ancB (ops:Array Oper) (i j:Nat):Bool:=((masksB ops.toList []).getD i 0).testBit j
def nodupB:List Nat→Bool
 |[]=>true
 |x::l=> !l.any (Nat.beq x)&&nodupB l
def regionB (ops:Array Oper):Bool:=
 nodupB (ops.toList.filterMap (·.dst))&&
 (List.range ops.size).all fun i=>match ops[i]? with
  |none=>false
  |some o=>(o.after.all fun e=> !Region.binds .any e||Nat.blt e.on i)&&
   (match o.op with| .select .. =>false|_=>true)&&
   (List.range ops.size).all fun j=>match ops[j]? with
    |none=>false
    |some p=>match p.dst with
     |none=>true
     |some d=> !(o.looksAt ops).any (Nat.beq d)||Nat.beq i j||ancB ops i j||ancB ops j i
def calmB:Op→Bool
 | .move _| .assign _| .pick .. | .build .. | .nilCheck _| .binOp .. | .unOp .. | .makeInterface .. | .makeFunc .. | .slice .. | .fieldAddr .. | .field .. | .indexAddr .. | .index .. | .typeAssert .. | .extract .. =>true
 |_=>false
inductive Kind where
 |calm|rd (b:Nat)|quiet|wr (b:Nat)|any|new (b:Nat)
def blockOf:Value→Nat
 | .pointer (some a)=>a.block
 |_=>0
def kindOf (ts:Ts) (o:Op) (g:Bool):Kind:=
 match o with
 | .load _ a=> .rd (blockOf (ρ ts a))
 | .store _ a _=> .wr (blockOf (ρ ts a))
 | .convert _ _ x=>match ρ ts x with
  | .slice (some a) _ _=> .rd a.block
  |_=>match g with|true=> .any|false=> .quiet
 |_=>match g with|true=> .any|false=> .quiet
def calmT (ts:Ts) (o:Op):Bool:=
 match o with
 | .convert _ _ x=>match ρ ts x with| .int .. =>true|_=>false
 | .call ⟨.builtin .len,args,_⟩=>match args.toList with|[x]=>(match ρ ts x with| .map _=>false|_=>true)|_=>false
 |o=>calmB o
def Kind.free:Kind→Kind→Bool
 | .calm,_|_,.calm=>true
 | .rd _,.rd _| .rd _,.quiet| .quiet,.rd _=>true
 | .new _,.quiet| .quiet,.new _=>true
 | .rd b,.wr c| .wr b,.rd c| .rd b,.new c| .new b,.rd c| .wr b,.new c| .new b,.wr c| .new b,.new c=> !Nat.beq b c
 |_,_=>false
def freeB (ops:Array Oper) (i:Nat) (k:Kind):List (Nat×Kind)→Bool
 |[]=>true
 |(j,c)::l=>(Kind.free c k||ancB ops i j)&&freeB ops i k l
def freeN (k:Kind) (ks:List (Nat×Kind)):Bool:=ks.all fun p=>Kind.free p.2 k
def allocB:Op→Option TypeId
 | .alloc e=>some e
 |_=>none
def newsB:List Oper→Nat→List (Nat×TypeId)
 |[],_=>[]
 |o::l,i=>match allocB o.op with
  |some e=>(i,e)::newsB l (i+1)
  |none=>newsB l (i+1)
def preB (P:Program) (G:Nat):List (Nat×TypeId)→Nat→Hp→Option Hp
 |[],_,h=>some h
 |(i,e)::l,b,h=>match zeroB P G e with
  |some z=>preB P G l b ((b+i,.row z.cells.toList e false false)::h)
  |none=>none
def evDrawn (P:Program) (G:Nat) (callf:CallF) (m:Nat) (ops:Array Oper) (n0:Nat):List Oper→Nat→List (Nat×Kind)→Ts→St→ResT
 |[],_,_,ts,st=>some (ts,st)
 |o::l,i,ks,ts,st=>
  match wantB ops ts o with
  |true=>
   match allocB o.op with
   |some _=>match freeN (.new (n0+i)) ks with
    |true=>evDrawn P G callf m ops n0 l (i+1) ((i,.new (n0+i))::ks) (putT m ts o.dst (ptrV (n0+i))) st
    |false=>none
   |none=>
   match calmT ts o.op with
   |true=>match evOp P G callf ts o st with
    |some (v,_)=>evDrawn P G callf m ops n0 l (i+1) ks (putT m ts o.dst v) st
    |none=>none
   |false=>
    match evOp P G callf ts o ⟨st.heap,st.next,st.next⟩ with
    |some (v,st')=>
     match freeB ops i (kindOf ts o.op (!Nat.ble st.next st'.low)) ks&&Nat.ble st.next st'.next with
     |true=>evDrawn P G callf m ops n0 l (i+1) ((i,kindOf ts o.op (!Nat.ble st.next st'.low))::ks) (putT m ts o.dst v) ⟨st'.heap,st'.next,Nat.min st.low st'.low⟩
     |false=>none
    |none=>none
  |false=>evDrawn P G callf m ops n0 l (i+1) ks (putT m ts o.dst undef) st
def evDraw (P:Program) (G:Nat) (callf:CallF) (m:Nat) (ops:Array Oper) (ts:Ts) (st:St):ResT:=
 match preB P G (newsB ops.toList 0) st.next st.heap with
 |some h=>evDrawn P G callf m ops st.next ops.toList 0 [] ts ⟨h,st.next+ops.size,st.low⟩
 |none=>none
inductive Ex where
 |normal|exit (id:Nat)|ret
abbrev ResC:=Option (Ex×Ts×St)
def resB (P:Program) (h:Hp) (ts:Ts):List ResultVar→Option (List Value)
 |[]=>some []
 | .tmp t::l=>match resB P h ts l with|some r=>some (ts.get t::r)|none=>none
 | .cell a t::l=>match loadB P h t (ts.get a),resB P h ts l with
  |some v,some r=>some (v::r)
  |_,_=>none
def retB:List Value→Value
 |[v]=>v
 |l=> .tuple l.toArray
abbrev Orc:=FuncId→List Value→Hp→Option Value
abbrev Rec:=Nat→Code→Ts→St→ResC
def evRet (P:Program) (G:Nat) (rs:List ResultVar) (st:St) (r:ResC):Res:=
 match r with
 |some (.normal,ts',st')|some (.ret,ts',st')=>
  match resB P st'.heap ts' rs with
  |some l=>
   match pf G 6 (retB l)&&Nat.ble st.next st'.low with
   |true=>some (retB l,⟨cutB st'.heap st.next,st'.next,Nat.min st.low st'.low⟩)
   |false=>some (retB l,⟨st'.heap,st'.next,Nat.min st.low st'.low⟩)
  |none=>none
 |_=>none
def evEnter (P:Program) (G:Nat) (y:Rec) (g:FuncId) (args:List Value) (st:St):Res:=
 match P.funcs[g]? with
 |none=>none
 |some fn=>match fn.body with
  |none=>none
  |some h=>match Nat.ble args.length fn.ntmps&&Nat.ble fn.ntmps 4000 with
   |true=>evRet P G fn.results.toList st (y fn.ntmps h (ofArgs args) ⟨st.heap,st.next,st.next⟩)
   |false=>none
def evCallF (P:Program) (G:Nat) (orc:Orc) (h:Rec):CallF:=fun g args st=>
 match orc g args st.heap with
 |some v=>some (v,st)
 |none=>evEnter P G h g args st
def operandB (G:Nat):Operand→Bool
 | .const v=>pf G 6 v
 | .global g=>Nat.blt g G
 |_=>true
def constsB (G:Nat) (ops:Array Oper):Bool:=ops.toList.all fun o=>o.op.operands.toList.all (operandB G)
def evRegion (P:Program) (G:Nat) (orc:Orc) (h:Rec) (m:Nat) (ops:Array Oper) (g:Bool) (ts:Ts) (st:St):ResC:=
 match constsB G ops,g with
 |true,false=>match evOps P G (evCallF P G orc h) m ops ops.toList ts st with
  |some (ts,st)=>some (.normal,ts,st)
  |none=>none
 |true,true=>match regionB ops with
  |true=>match evDraw P G (evCallF P G orc h) m ops ts st with
   |some (ts,st)=>some (.normal,ts,st)
   |none=>none
  |false=>none
 |false,_=>none
def evSeq (g:Rec) (m:Nat) (b:Code) (r:ResC):ResC:=
 match r with
 |some (.normal,ts,st)=>g m b ts st
 |r=>r
def evCond (g:Rec) (m:Nat) (a b:Code) (v:Value) (ts:Ts) (st:St):ResC:=
 match v with
 | .bool true=>g m a ts st
 | .bool false=>g m b ts st
 |_=>none
def evBlock (id:Nat) (r:ResC):ResC:=
 match r with
 |some (.exit k,ts,st)=>match Nat.beq k id with|true=>some (.normal,ts,st)|false=>some (.exit k,ts,st)
 |r=>r
abbrev HC:=Program→Nat→Orc→Rec→Nat→Ts→St→ResC
def cSkip:HC:=fun _ _ _ _ _ ts st=>some (.normal,ts,st)
def cSeq (a b:Code):HC:=fun _ _ _ g m ts st=>evSeq g m b (g m a ts st)
def cCond (x:Operand) (a b:Code):HC:=fun _ _ _ g m ts st=>evCond g m a b (ρ ts x) ts st
def cBlock (id:Nat) (b:Code):HC:=fun _ _ _ g m ts st=>evBlock id (g m b ts st)
def cLoop (b:Code):HC:=fun _ _ _ g m ts st=>evSeq g m (.loop b) (g m b ts st)
def cScope (b:Code):HC:=fun _ _ _ g m ts st=>g m b ts st
def cExit (id:Nat):HC:=fun _ _ _ _ _ ts st=>some (.exit id,ts,st)
def cRet:HC:=fun _ _ _ _ _ ts st=>some (.ret,ts,st)
def cRegion (ops:Array Oper) (g:Bool):HC:=fun P G orc h m ts st=>evRegion P G orc h m ops g ts st
def cNone:HC:=fun _ _ _ _ _ _ _=>none
def codeD (c:Code):HC:=
 match c with
 | .skip| .label _=>cSkip
 | .seq a b=>cSeq a b
 | .cond x a b=>cCond x a b
 | .block id b=>cBlock id b
 | .loop b=>cLoop b
 | .scope b=>cScope b
 | .exit id=>cExit id
 | .ret=>cRet
 | .region _ ops g=>cRegion ops g
 |_=>cNone
def ec (P:Program) (G:Nat) (orc:Orc) (n:Nat):Rec:=
 Nat.rec (motive:=fun _=>Rec) (fun _ _ _ _=>none) (fun _ g m c ts st=>codeD c P G orc g m ts st) n
def runF (P:Program) (G:Nat) (orc:Orc) (n:Nat) (f:FuncId) (args:List Value):Option Value:=
 match evEnter P G (ec P G orc n) f args ⟨[],G,G⟩ with
 |some (v,_)=>some v
 |none=>none
end

section
open Go
abbrev Phi:=Nat→Option (Nat×Nat)
inductive Rel (G:Nat) (φ:Phi):Value→Value→Prop
 |free {d:Nat} {v:Value}:pf G d v=true→Rel G φ v v
 |ptr {b o r κ:Nat}:φ b=some (r,κ)→Rel G φ (.pointer (some ⟨b,o,none⟩)) (.pointer (some ⟨r,o,none⟩))
 |sliceX {b o r κ n c:Nat}:φ b=some (r,κ)→Rel G φ (.slice (some ⟨b,o,none⟩) n (2*c)) (.slice (some ⟨r,o,none⟩) n c)
 |sliceE {b o r κ n c:Nat}:φ b=some (r,κ)→Rel G φ (.slice (some ⟨b,o,none⟩) n (2*c+1)) (.slice (some ⟨r,o,none⟩) n (c+κ))
 |sliceZ {p:Addr} {c:Nat}:Rel G φ (.chan none) (.slice (some p) 0 c)
 |map {b r κ:Nat}:φ b=some (r,κ)→Rel G φ (.map (some b)) (.map (some r))
 |iface {t:TypeId} {v V:Value}:Rel G φ v V→Rel G φ (.iface t v) (.iface t V)
 |agg {cs Cs:Array Value}:cs.size=Cs.size→(∀i,i<cs.size→Rel G φ (cs.getD i undef) (Cs.getD i undef))→Rel G φ (.agg cs) (.agg Cs)
 |tuple {cs Cs:Array Value}:cs.size=Cs.size→(∀i,i<cs.size→Rel G φ (cs.getD i undef) (Cs.getD i undef))→Rel G φ (.tuple cs) (.tuple Cs)
 |func {fn:Fn} {f F c C:Array Value}:f.size=F.size→(∀i,i<f.size→Rel G φ (f.getD i undef) (F.getD i undef))→
   c.size=C.size→(∀i,i<c.size→Rel G φ (c.getD i undef) (C.getD i undef))→Rel G φ (.func fn f c) (.func fn F C)
def Phi.le (φ g:Phi):Prop:= ∀b x,φ b=some x→g b=some x
theorem Phi.le.rfl {φ:Phi}:φ.le φ:=fun _ _ h=>h
theorem Phi.le.trans {φ g y:Phi} (h:φ.le g) (k:g.le y):φ.le y:=fun b x e=>k b x (h b x e)
theorem Rel.mono {G:Nat} {φ D:Phi} (g:φ.le D) {v V:Value} (h:Rel G φ v V):Rel G D v V:=by
 induction h with
 |free h=>exact .free h
 |ptr h=>exact .ptr (g _ _ h)
 |sliceX h=>exact .sliceX (g _ _ h)
 |sliceE h=>exact .sliceE (g _ _ h)
 |sliceZ=>exact .sliceZ
 |map h=>exact .map (g _ _ h)
 |iface _ y=>exact .iface y
 |agg e _ y=>exact .agg e y
 |tuple e _ y=>exact .tuple e y
 |func e _ E _ y B=>exact .func e y E B
def RelL (G:Nat) (φ:Phi) (l L:List Value):Prop:=l.length=L.length∧ ∀i,i<l.length→Rel G φ (l.getD i undef) (L.getD i undef)
theorem RelL.mono {G:Nat} {φ y:Phi} (g:φ.le y) {l L:List Value} (h:RelL G φ l L):RelL G y l L:=⟨h.1,fun i B=>(h.2 i B).mono g⟩
theorem RelL.nil {G:Nat} {φ:Phi}:RelL G φ [] []:=⟨rfl,fun _ h=>absurd h (by simp)⟩
theorem RelL.cons {G:Nat} {φ:Phi} {v V:Value} {l L:List Value} (h:Rel G φ v V) (k:RelL G φ l L):RelL G φ (v::l) (V::L):=
 ⟨by simp [k.1],fun i g=>by cases i with|zero=>exact h|succ i=>exact k.2 i (by simpa using g)⟩
theorem RelL.cons_inv {G:Nat} {φ:Phi} {v:Value} {l L:List Value} (h:RelL G φ (v::l) L): ∃V g,L=V::g∧Rel G φ v V∧RelL G φ l g:=by
 cases L with
 |nil=>simp [RelL] at h
 |cons V g=>
  refine ⟨V,g,rfl,h.2 0 (by simp),by simpa using h.1,fun i y=> ?_⟩
  have:=h.2 (i+1) (by simp;exact y)
  simpa using this
theorem RelL.nil_inv {G:Nat} {φ:Phi} {L:List Value} (h:RelL G φ [] L):L=[]:=List.eq_nil_of_length_eq_zero (by simpa using h.1.symm)
theorem RelL.get {G:Nat} {φ:Phi} {l L:List Value} (h:RelL G φ l L) {i:Nat} {v:Value} (B:l[i]? =some v): ∃V,L[i]? =some V∧Rel G φ v V:=by
 obtain ⟨y,rfl⟩:=List.getElem?_eq_some_iff.1 B
 have g:i<L.length:=h.1▸y
 refine ⟨L[i],List.getElem?_eq_getElem g,?_⟩
 have:=h.2 i y
 simpa [List.getD,y,g] using this
theorem RelL.append {G:Nat} {φ:Phi} {a A b B:List Value} (h:RelL G φ a A) (k:RelL G φ b B):RelL G φ (a++b) (A++B):=by
 induction a generalizing A with
 |nil=>rw [h.nil_inv];exact k
 |cons v l g=>obtain ⟨V,L,rfl,D,y⟩:=h.cons_inv;exact .cons D (g y)
theorem RelL.take {G:Nat} {φ:Phi} {a A:List Value} (h:RelL G φ a A) (n:Nat):RelL G φ (a.take n) (A.take n):=by
 induction a generalizing A n with
 |nil=>rw [h.nil_inv];simpa using RelL.nil
 |cons v l g=>
  obtain ⟨V,L,rfl,B,y⟩:=h.cons_inv
  cases n with
  |zero=>exact .nil
  |succ n=>exact .cons B (g y n)
theorem RelL.drop {G:Nat} {φ:Phi} {a A:List Value} (h:RelL G φ a A) (n:Nat):RelL G φ (a.drop n) (A.drop n):=by
 induction a generalizing A n with
 |nil=>rw [h.nil_inv];simpa using RelL.nil
 |cons v l y=>
  obtain ⟨V,L,rfl,B,g⟩:=h.cons_inv
  cases n with
  |zero=>exact .cons B g
  |succ n=>exact y g n
theorem RelL.slc {G:Nat} {φ:Phi} {a A l:List Value} {o n:Nat} (h:RelL G φ a A) (e:slc a o n=some l):o+n≤a.length∧l=(a.drop o).take n∧RelL G φ l ((A.drop o).take n):=by
 unfold Ev.slc at e
 split at e
 ·rename_i g
  cases e
  exact ⟨Nat.le_of_ble_eq_true g,rfl,(h.drop o).take n⟩
 ·cases e
theorem RelL.splice {G:Nat} {φ:Phi}: ∀{a A x X:List Value} {n:Nat},RelL G φ a A→RelL G φ x X→RelL G φ (splice a n x) (splice A n X):=by
 intro a
 induction a with
 |nil=>
  intro A x X n h k
  rw [h.nil_inv]
  cases n<;>cases x<;>cases X<;>first|exact .nil|skip
  all_goals simp [Ev.splice];exact .nil
 |cons v l D=>
  intro A x X n h k
  obtain ⟨V,L,rfl,B,g⟩:=h.cons_inv
  cases n with
  |succ n=>exact .cons B (D g k)
  |zero=>
   cases x with
   |nil=>rw [k.nil_inv];exact .cons B g
   |cons y m=>obtain ⟨Y,M,rfl,I,E⟩:=k.cons_inv;exact .cons I (D g E)
theorem splice_length: ∀(a:List Value) (n:Nat) (x:List Value),(splice a n x).length=a.length:=by
 intro a
 induction a with
 |nil=>intro n x;cases n<;>cases x<;>rfl
 |cons v l g=>
  intro n x
  cases n with
  |succ n=>simp [splice,g]
  |zero=>cases x<;>simp [splice,g]
theorem relA {G:Nat} {φ:Phi} {cs Cs:Array Value}:(cs.size=Cs.size∧ ∀i,i<cs.size→Rel G φ (cs.getD i undef) (Cs.getD i undef))↔RelL G φ cs.toList Cs.toList:=by
 unfold RelL
 constructor
 ·rintro ⟨h,k⟩
  refine ⟨by simpa using h,fun i g=> ?_⟩
  have:=k i (by simpa using g)
  simpa [Array.getD_eq_getD_getElem?,List.getD] using this
 ·rintro ⟨h,k⟩
  refine ⟨by simpa using h,fun i g=> ?_⟩
  have:=k i (by simpa using g)
  simpa [Array.getD_eq_getD_getElem?,List.getD] using this
theorem Rel.aggL {G:Nat} {φ:Phi} {l L:List Value} (h:RelL G φ l L):Rel G φ (.agg l.toArray) (.agg L.toArray):=
 have:=relA.2 (show RelL G φ l.toArray.toList L.toArray.toList by simpa using h);.agg this.1 this.2
theorem Rel.tupleL {G:Nat} {φ:Phi} {l L:List Value} (h:RelL G φ l L):Rel G φ (.tuple l.toArray) (.tuple L.toArray):=
 have:=relA.2 (show RelL G φ l.toArray.toList L.toArray.toList by simpa using h);.tuple this.1 this.2
theorem RelL.of_free {G d:Nat} {φ:Phi} {l:List Value} (h:l.all (pf G d)=true):RelL G φ l l:=
 ⟨rfl,fun i g=> .free (d:=d) (by rw [List.all_eq_true] at h;exact h _ (by simp [List.getD,g]))⟩
end

section
open Go Go.RowKit
theorem beq_yes {x b:Nat} (h:x=b):Nat.beq x b=true:=by subst h;exact Nat.beq_refl x
theorem beq_no {x b:Nat} (h:x≠b):Nat.beq x b=false:=by
 cases e:Nat.beq x b
 ·rfl
 ·exact absurd (Nat.eq_of_beq_eq_true e) h
theorem look_nil (b:Nat):look [] b=none:=rfl
theorem look_cons (x:Nat×AObj) (h:Hp) (b:Nat):look (x::h) b=if x.1=b then some x.2 else look h b:=by
 have e:look (x::h) b=br (Nat.beq x.1 b) (some x.2) (look h b):=rfl
 rw [e]
 by_cases e:x.1=b
 ·rw [if_pos e,beq_yes e]
 ·rw [if_neg e,beq_no e]
theorem putB_cons (x:Nat×AObj) (h:Hp) (b:Nat) (o:AObj):putB (x::h) b o=if x.1=b then (x.1,o)::h else x::putB h b o:=by
 have e:putB (x::h) b o=br (Nat.beq x.1 b) ((x.1,o)::h) (x::putB h b o):=rfl
 rw [e]
 by_cases e:x.1=b
 ·rw [if_pos e,beq_yes e]
 ·rw [if_neg e,beq_no e]
theorem dropB_cons (x:Nat×AObj) (h:Hp) (b:Nat):dropB (x::h) b=if x.1=b then dropB h b else x::dropB h b:=by
 have e:dropB (x::h) b=br (Nat.beq x.1 b) (dropB h b) (x::dropB h b):=rfl
 rw [e]
 by_cases e:x.1=b
 ·rw [if_pos e,beq_yes e]
 ·rw [if_neg e,beq_no e]
theorem cutB_cons (x:Nat×AObj) (h:Hp) (n:Nat):cutB (x::h) n=if n≤x.1 then cutB h n else x::h:=by
 have e:cutB (x::h) n=br (Nat.ble n x.1) (cutB h n) (x::h):=rfl
 rw [e]
 by_cases e:n≤x.1
 ·rw [if_pos e,Nat.ble_eq_true_of_le e]
 ·rw [if_neg e]
  cases g:Nat.ble n x.1
  ·rfl
  ·exact absurd (Nat.le_of_ble_eq_true g) e
theorem look_putB (h:Hp) (b c:Nat) (o:AObj):look (putB h b o) c=if b=c then (look h c).map (fun _=>o) else look h c:=by
 induction h with
 |nil=>show look [] c=_;simp [look_nil]
 |cons x h B=>
  rw [putB_cons]
  by_cases g:x.1=b
  ·rw [if_pos g,look_cons,look_cons]
   subst g
   by_cases y:x.1=c<;>simp [y]
  ·rw [if_neg g,look_cons,look_cons,B]
   by_cases y:b=c
   ·subst y;simp [g]
   ·simp [y]
theorem look_dropB (h:Hp) (b c:Nat):look (dropB h b) c=if b=c then none else look h c:=by
 induction h with
 |nil=>show look [] c=_;simp [look_nil]
 |cons x h B=>
  rw [dropB_cons]
  by_cases y:x.1=b
  ·rw [if_pos y,B,look_cons,y]
   by_cases g:b=c<;>simp [g]
  ·rw [if_neg y,look_cons,look_cons,B]
   by_cases g:b=c
   ·subst g;simp [y]
   ·simp [g]
abbrev Srt (h:Hp):Prop:=h.Pairwise fun x y=>y.1<x.1
theorem look_mem {h:Hp} {b:Nat} {o:AObj} (e:look h b=some o):(b,o)∈h:=by
 induction h with
 |nil=>rw [look_nil] at e;cases e
 |cons x h g=>
  rw [look_cons] at e
  split at e
  ·rename_i y;cases e;subst y;exact List.mem_cons_self
  ·exact List.mem_cons_of_mem _ (g e)
theorem look_cutB {h:Hp} (J:Srt h) (n c:Nat):look (cutB h n) c=if c<n then look h c else none:=by
 induction h with
 |nil=>show look [] c=_;simp [look_nil]
 |cons x h I=>
  have y:=List.pairwise_cons.1 J
  rw [cutB_cons]
  by_cases B:n≤x.1
  ·rw [if_pos B,I y.2,look_cons]
   by_cases g:c<n
   ·rw [if_pos g,if_pos g,if_neg (by omega)]
   ·rw [if_neg g,if_neg g]
  ·rw [if_neg B]
   by_cases g:c<n
   ·rw [if_pos g]
   ·rw [if_neg g]
    cases e:look (x::h) c with
    |none=>rfl
    |some o=>
     have E:=look_mem e
     rcases List.mem_cons.1 E with D|D
     ·subst D;exact absurd B (by simp;omega)
     ·have:=y.1 _ D
      simp at this
      omega
theorem srt_putB {h:Hp} (B:Srt h) (b:Nat) (o:AObj):Srt (putB h b o):=by
 have key: ∀h:Hp,(putB h b o).map (·.1)=h.map (·.1):=by
  intro h
  induction h with
  |nil=>rfl
  |cons x h g=>rw [putB_cons];split<;>simp [g]
 have D:Srt h↔(h.map (·.1)).Pairwise (fun x y=>y<x):=by rw [List.pairwise_map]
 have E:Srt (putB h b o)↔((putB h b o).map (·.1)).Pairwise (fun x y=>y<x):=by rw [List.pairwise_map]
 rw [E,key h]
 exact D.1 B
theorem sub_dropB (h:Hp) (b:Nat):(dropB h b).Sublist h:=by
 induction h with
 |nil=>exact List.Sublist.slnil
 |cons x h g=>
  rw [dropB_cons]
  split
  ·exact g.cons _
  ·exact g.cons_cons _
theorem sub_cutB (h:Hp) (n:Nat):(cutB h n).Sublist h:=by
 induction h with
 |nil=>exact List.Sublist.slnil
 |cons x h g=>
  rw [cutB_cons]
  split
  ·exact g.cons _
  ·exact List.Sublist.refl _
def ObjOk (P:Program) (G:Nat) (φ:Phi) (g:Nat) (o:AObj) (W:World) (r:Nat):Prop:=
 match o with
 | .row cs e ext fz=> ∃C h s,W.heap[r]? =some (.cells C e h)∧RelL G φ cs (C.toList.take cs.length)∧(g=0∨sizeB P e=some s)∧C.size=cs.length+g*s∧
   (ext=false→g=0)∧(fz=false→ ∀i,i<C.size→ ¬(h.1≤i∧i<h.2))
 | .iter s pos=>W.heap[r]? =some (.stringIter s pos)
 | .map ks vs=> ∃E c,W.heap[r]? =some (.map E c)∧E.toList.map (·.key)=ks∧RelL G φ vs (E.toList.map (·.val))
structure Inv (P:Program) (G base:Nat) (φ:Phi) (st:St) (W:World):Prop where
 dom: ∀b r κ,φ b=some (r,κ)→G≤b∧base≤r∧r<W.heap.size
 wf: ∀b o,look st.heap b=some o→G≤b∧b<st.next
 srt:Srt st.heap
 obj: ∀b o r κ,look st.heap b=some o→φ b=some (r,κ)→ObjOk P G φ κ o W r
 inj: ∀b c o q r κ l,look st.heap b=some o→look st.heap c=some q→φ b=some (r,κ)→φ c=some (r,l)→b=c
 low:G≤st.next
structure Post (P:Program) (G base:Nat) (φ:Phi) (st:St) (W:World) (st':St) (φ':Phi) (W':World):Prop where
 le:φ.le φ'
 new: ∀b x,φ' b=some x→φ b=some x∨(st.next≤b∧b<st'.next)
 newr: ∀b r κ,φ' b=some (r,κ)→φ b=none→W.heap.size≤r∨ ∃c l,φ c=some (r,l)∧st'.low≤c∧c<st.next
 inv:Inv P G base φ' st' W'
 next:st.next≤st'.next
 low:st'.low≤st.low
 same: ∀b,b<st.next→b<st'.low→look st'.heap b=look st.heap b
 frame: ∀r,r<W.heap.size→(∀b κ,φ b=some (r,κ)→b<st.next→b<st'.low)→W'.heap[r]? =W.heap[r]?
 size:W.heap.size≤W'.heap.size
 os:W'.os=W.os
 tape:W'.tape=W.tape
 output:W'.output=W.output
theorem Post.refl {P:Program} {G base:Nat} {φ:Phi} {st:St} {W:World} (h:Inv P G base φ st W):Post P G base φ st W st φ W:=
 ⟨.rfl,fun _ _ h=> .inl h,fun b r g h k=>(by rw [h] at k;cases k),h,Nat.le_refl _,Nat.le_refl _,fun _ _ _=>rfl,fun _ _ _=>rfl,Nat.le_refl _,rfl,rfl,rfl⟩
theorem Post.trans {P:Program} {G base:Nat} {φ Q J:Phi} {st st' D:St} {W W' X:World} (h:Post P G base φ st W st' Q W')
  (hf: ∀b,st.next≤b→b<st'.next→φ b=none) (k:Post P G base Q st' W' D J X):Post P G base φ st W D J X:=by
 refine ⟨h.le.trans k.le,?_,?_,k.inv,Nat.le_trans h.next k.next,Nat.le_trans k.low h.low,?_,?_,Nat.le_trans h.size k.size,k.os.trans h.os,k.tape.trans h.tape,k.output.trans h.output⟩
 ·intro b x hx
  have:=h.next
  have:=k.next
  rcases k.new b x hx with S|S
  ·rcases h.new b x S with O|O
   ·exact .inl O
   ·exact .inr ⟨O.1,by omega⟩
  ·exact .inr ⟨by omega,S.2⟩
 ·intro b r N hx T
  have I:=k.low
  by_cases B:Q b=none
  ·rcases k.newr b r N hx B with S|⟨c,l,hc,U,K⟩
   ·exact .inl (Nat.le_trans h.size S)
   ·by_cases Z:φ c=none
    ·rcases h.newr c r l hc Z with O|⟨d,m,hd,qa,M⟩
     ·exact .inl O
     ·exact .inr ⟨d,m,hd,by omega,M⟩
    ·obtain ⟨x,g⟩:=Option.ne_none_iff_exists'.1 Z
     have E:=h.le c x g
     rw [hc] at E
     cases E
     refine .inr ⟨c,l,g,U,?_⟩
     rcases Nat.lt_or_ge c st.next with L|L
     ·exact L
     ·exact absurd (hf c L K) (by rw [g];simp)
  ·obtain ⟨x,g⟩:=Option.ne_none_iff_exists'.1 B
   have E:=k.le b x g
   rw [hx] at E
   cases E
   rcases h.newr b r N g T with O|⟨d,m,hd,qa,M⟩
   ·exact .inl O
   ·exact .inr ⟨d,m,hd,by omega,M⟩
 ·intro b B hl
  rw [k.same b (Nat.lt_of_lt_of_le B h.next) hl,h.same b B (Nat.lt_of_lt_of_le hl k.low)]
 ·intro r hr y
  have I:=k.low
  rw [k.frame r (Nat.lt_of_lt_of_le hr h.size) ?_,h.frame r hr (fun b N B T=>Nat.lt_of_lt_of_le (y b N B T) I)]
  intro b N B T
  by_cases Y:φ b=none
  ·rcases h.newr b r N B Y with S|⟨c,l,hc,U,K⟩
   ·omega
   ·have:=y c l hc K
    omega
  ·obtain ⟨x,g⟩:=Option.ne_none_iff_exists'.1 Y
   have E:=h.le b x g
   rw [B] at E
   cases E
   rcases Nat.lt_or_ge b st.next with L|L
   ·exact y b N g L
   ·exact absurd (hf b L T) (by rw [g];simp)
theorem Post.below {P:Program} {G base:Nat} {φ g:Phi} {st st':St} {W W':World} (h:Post P G base φ st W st' g W') (D:Inv P G base φ st W) (I:base≤W.heap.size):Below base W W':=
 ⟨h.os,h.tape,h.output,h.size,fun k E=>h.frame k (by omega) (fun b B y _=>absurd (D.dom b k B y).2.1 (by omega))⟩
end

section
open Go Go.RowKit
section
variable {G:Nat} {φ:Phi}
theorem getD_list (cs:Array Value) (i:Nat):cs.getD i undef=cs.toList.getD i undef:=by
 simp [Array.getD_eq_getD_getElem?,List.getD]
theorem Rel.scalar {v V:Value} (h:Rel G φ v V):(∃d,pf G d v=true∧V=v)∨(∀d b k n f c s,v≠ .bool d∧v≠ .int k n∧v≠ .float f b∧v≠ .string s∧v≠ .pointer none∧v≠ .slice none b c∧v≠ .nilFunc∧v≠ .nilIface):=by
 cases h with
 |free h=>exact .inl ⟨_,h,rfl⟩
 |_=>right;intros;simp
theorem Rel.bool {b:Bool} {V:Value} (h:Rel G φ (.bool b) V):V= .bool b:=by cases h;rfl
theorem Rel.int {k:IntKind} {n:Int} {V:Value} (h:Rel G φ (.int k n) V):V= .int k n:=by cases h;rfl
theorem Rel.string {s:ByteArray} {V:Value} (h:Rel G φ (.string s) V):V= .string s:=by cases h;rfl
theorem Rel.ptr_nil {V:Value} (h:Rel G φ (.pointer none) V):V= .pointer none:=by cases h;rfl
theorem Rel.nilI {V:Value} (h:Rel G φ .nilIface V):V= .nilIface:=by cases h;rfl
theorem Rel.nilF {V:Value} (h:Rel G φ .nilFunc V):V= .nilFunc:=by cases h;rfl
theorem Rel.map_nil {V:Value} (h:Rel G φ (.map none) V):V= .map none:=by cases h;rfl
theorem Rel.slice_nil {n c:Nat} {V:Value} (h:Rel G φ (.slice none n c) V):V= .slice none n c:=by cases h;rfl
theorem Rel.ptr_inv {a:Addr} {V:Value} (h:Rel G φ (.pointer (some a)) V):
  (a.block<G∧V= .pointer (some a))∨ ∃r g,a.spot=none∧φ a.block=some (r,g)∧V= .pointer (some ⟨r,a.off,none⟩):=by
 cases h with
 |free h=>left;simp [pf] at h;exact ⟨by simpa [Nat.blt,Nat.ble_eq,Nat.succ_le_iff] using h,rfl⟩
 |ptr h=>exact .inr ⟨_,_,rfl,h,rfl⟩
theorem Rel.slice_inv {a:Addr} {n c:Nat} {V:Value} (h:Rel G φ (.slice (some a) n c) V):
  ∃r y,a.spot=none∧φ a.block=some (r,y)∧((∃g,c=2*g∧V= .slice (some ⟨r,a.off,none⟩) n g)∨(∃g,c=2*g+1∧V= .slice (some ⟨r,a.off,none⟩) n (g+y))):=by
 cases h with
 |free h=>simp [pf] at h
 |sliceX h=>exact ⟨_,_,rfl,h,.inl ⟨_,rfl,rfl⟩⟩
 |sliceE h=>exact ⟨_,_,rfl,h,.inr ⟨_,rfl,rfl⟩⟩
theorem Rel.ghost {V:Value} (h:Rel G φ (.chan none) V): ∃p c,V= .slice (some p) 0 c:=by
 cases h with
 |free h=>simp [pf] at h
 |sliceZ=>exact ⟨_,_,rfl⟩
theorem RelL.free_all {d:Nat} {cs:Array Value} (h:cs.toList.all (pf G d)=true):RelL G φ cs.toList cs.toList:=RelL.of_free h
theorem Rel.iface_inv {t:TypeId} {v V:Value} (h:Rel G φ (.iface t v) V): ∃U,V= .iface t U∧Rel G φ v U:=by
 cases h with
 | @free d v h=>cases d with
  |zero=>simp [pf] at h
  |succ d=>exact ⟨_,rfl,.free (d:=d) (by simpa [pf] using h)⟩
 |iface h=>exact ⟨_,rfl,h⟩
theorem Rel.agg_inv {cs:Array Value} {V:Value} (h:Rel G φ (.agg cs) V): ∃Cs,V= .agg Cs∧RelL G φ cs.toList Cs.toList:=by
 cases h with
 | @free d v h=>cases d with
  |zero=>simp [pf] at h
  |succ d=>exact ⟨_,rfl,RelL.free_all (d:=d) (by simpa [pf] using h)⟩
 |agg e h=>exact ⟨_,rfl,relA.1 ⟨e,h⟩⟩
theorem Rel.tuple_inv {cs:Array Value} {V:Value} (h:Rel G φ (.tuple cs) V): ∃Cs,V= .tuple Cs∧RelL G φ cs.toList Cs.toList:=by
 cases h with
 | @free d v h=>cases d with
  |zero=>simp [pf] at h
  |succ d=>exact ⟨_,rfl,RelL.free_all (d:=d) (by simpa [pf] using h)⟩
 |tuple e h=>exact ⟨_,rfl,relA.1 ⟨e,h⟩⟩
theorem Rel.func_inv {fn:Fn} {f c:Array Value} {V:Value} (h:Rel G φ (.func fn f c) V): ∃F C,V= .func fn F C∧RelL G φ f.toList F.toList∧RelL G φ c.toList C.toList:=by
 cases h with
 | @free d v h=>cases d with
  |zero=>simp [pf] at h
  |succ d=>
   simp only [pf,Bool.and_eq_true] at h
   exact ⟨_,_,rfl,RelL.free_all (d:=d) h.1,RelL.free_all (d:=d) h.2⟩
 |func e h y g=>exact ⟨_,_,rfl,relA.1 ⟨e,h⟩,relA.1 ⟨y,g⟩⟩
theorem Rel.map_inv {b:Nat} {V:Value} (h:Rel G φ (.map (some b)) V): ∃r g,φ b=some (r,g)∧V= .map (some r):=by
 cases h with
 |free h=>simp [pf] at h
 |map h=>exact ⟨_,_,h,rfl⟩
abbrev Above (G:Nat) (φ:Phi):Prop:= ∀b x,φ b=some x→G≤b
theorem arr_eq {cs Cs:Array Value} (e:cs.size=Cs.size) (h: ∀i,i<cs.size→Cs.getD i undef=cs.getD i undef):Cs=cs:=by
 apply Array.ext e.symm
 intro i y g
 have:=h i g
 simpa [Array.getD_eq_getD_getElem?,y,g] using this
theorem all_getD {d:Nat} {cs:Array Value} (h:cs.toList.all (pf G d)=true) {i:Nat} (g:i<cs.size):pf G d (cs.getD i undef)=true:=by
 rw [List.all_eq_true] at h
 apply h
 rw [getD_list]
 simp [List.getD,g]
theorem Rel.eq_of_pf (E:Above G φ) {v V:Value} (h:Rel G φ v V): ∀d,pf G d v=true→V=v:=by
 induction h with
 |free=>intros;rfl
 |ptr e=>intro d g;have:=E _ _ e;simp [pf,Nat.blt,Nat.ble_eq] at g;omega
 |sliceX=>intro d g;simp [pf] at g
 |sliceE=>intro d g;simp [pf] at g
 |sliceZ=>intro d g;simp [pf] at g
 |map=>intro d g;simp [pf] at g
 |iface _ B=>intro d g;cases d with
  |zero=>simp [pf] at g
  |succ d=>rw [B d (by simpa [pf] using g)]
 |agg e _ B=>intro d g;cases d with
  |zero=>simp [pf] at g
  |succ d=>rw [arr_eq e fun i y=>B i y d (all_getD (by simpa [pf] using g) y)]
 |tuple e _ B=>intro d g;cases d with
  |zero=>simp [pf] at g
  |succ d=>rw [arr_eq e fun i y=>B i y d (all_getD (by simpa [pf] using g) y)]
 |func e _ I _ B D=>intro d g;cases d with
  |zero=>simp [pf] at g
  |succ d=>
   simp only [pf,Bool.and_eq_true] at g
   rw [arr_eq e fun i y=>B i y d (all_getD g.1 y),arr_eq I fun i y=>D i y d (all_getD g.2 y)]
theorem RelL.eq_of_pf (y:Above G φ) {d:Nat}: ∀{l L:List Value},RelL G φ l L→l.all (pf G d)=true→L=l
 |[],L,h,_=>h.nil_inv
 |v::l,L,h,g=>by
  obtain ⟨V,E,rfl,D,B⟩:=h.cons_inv
  simp only [List.all_cons,Bool.and_eq_true] at g
  rw [D.eq_of_pf y d g.1,B.eq_of_pf y g.2]
theorem Rel.cells {v V:Value} (h:Rel G φ v V):RelL G φ v.cells.toList V.cells.toList∧V.cells.size=v.cells.size∧V.oneCell'=one v:=by
 have g: ∀{v V:Value},Rel G φ v V→RelL G φ [v] [V]:=fun h=> .cons h .nil
 cases v with
 |agg cs=>obtain ⟨Cs,rfl,y⟩:=h.agg_inv;exact ⟨y,by show Cs.size=cs.size;simpa using y.1.symm,rfl⟩
 |tuple cs=>obtain ⟨Cs,rfl,y⟩:=h.tuple_inv;exact ⟨g h,rfl,rfl⟩
 |_=>cases h<;>exact ⟨g (by first|exact .free (by assumption)|exact .ptr (by assumption)|exact .sliceX (by assumption)|exact .sliceE (by assumption)|exact .sliceZ|exact .map (by assumption)|exact .iface (by assumption)|exact .func (by assumption) (by assumption) (by assumption) (by assumption)),rfl,rfl⟩
theorem RelL.ones: ∀{l L:List Value},RelL G φ l L→l.all one=true→ ∀V∈L,V.oneCell'=true
 |[],L,h,_,V,g=>by rw [h.nil_inv] at g;cases g
 |v::l,L,h,y,V,g=>by
  obtain ⟨U,I,rfl,E,D⟩:=h.cons_inv
  simp only [List.all_cons,Bool.and_eq_true] at y
  rcases List.mem_cons.1 g with rfl|B
  ·rw [E.cells.2.2];exact y.1
  ·exact D.ones y.2 V B
end
theorem ObjOk.mono {P:Program} {G:Nat} {φ J:Phi} (g:φ.le J) {I:Nat} {o:AObj} {W W':World} {r:Nat} (h:ObjOk P G φ I o W r) (e:W'.heap[r]? =W.heap[r]?):ObjOk P G J I o W' r:=by
 cases o with
 |row cs el ext fz=>
  obtain ⟨C,M,s,B,D,y,K,L,N⟩:=h
  exact ⟨C,M,s,e.trans B,D.mono g,y,K,L,N⟩
 |iter s pos=>exact e.trans h
 |map ks vs=>obtain ⟨E,c,B,D,y⟩:=h;exact ⟨E,c,e.trans B,D,y.mono g⟩
theorem Inv.above {P:Program} {G base:Nat} {φ:Phi} {st:St} {W:World} (h:Inv P G base φ st W):Above G φ:=fun b x e=>by
 obtain ⟨r,g⟩:=x
 exact (h.dom b r g e).1
theorem cellsAt_ok {P:Program} {G base:Nat} {φ:Phi} {st:St} {W:World} (E:Inv P G base φ st W) {a:Addr} {n:Nat} {l:List Value} (h:cellsAt st.heap a n=some l)
  {r D:Nat} (K:φ a.block=some (r,D)):
  ∃L,RelL G φ l L∧L.length=n∧a.spot=none∧ ∀j V,L[j]? =some V→W.cell? ((⟨r,a.off,none⟩:Addr).add j)=some V:=by
 unfold cellsAt at h
 split at h
 ·cases h
 ·rename_i M
  split at h
  ·rename_i cs e ext fz N
   obtain ⟨C,U,s,B,J,O,Q,T,X⟩:=E.obj _ _ _ _ N K
   obtain ⟨S,rfl,hrel⟩:=J.slc h
   refine ⟨_,hrel,?_,M,?_⟩
   ·simp only [List.length_take,List.length_drop,Array.length_toList];omega
   ·intro j V g
    rw [List.getElem?_take] at g
    split at g
    ·rename_i I
     rw [List.getElem?_drop,List.getElem?_take] at g
     split at g
     ·have y:(⟨r,a.off,none⟩:Addr).add j=⟨r,a.off+j,none⟩:=by unfold Addr.add;split<;>simp_all
      rw [y]
      simp only [World.cell?,B]
      simpa using g
     ·cases g
    ·cases g
  ·cases h
theorem load_ok {P:Program} {G base:Nat} {φ:Phi} {st:St} {W:World} (E:Inv P G base φ st W) {a:Addr} {n:Nat} {l:List Value} (h:cellsAt st.heap a n=some l)
  {r D:Nat} (J:φ a.block=some (r,D)): ∃L,RelL G φ l L∧L.length=n∧a.spot=none∧(loadCells ⟨r,a.off,none⟩ n).run P W= .ok L.toArray W∧
   (∀j V,L[j]? =some V→W.cell? ((⟨r,a.off,none⟩:Addr).add j)=some V):=by
 obtain ⟨L,B,I,y,g⟩:=cellsAt_ok E h J
 subst I
 exact ⟨L,B,rfl,y,run_loadCells_list W _ L g,g⟩
theorem own_of_cells {P:Program} {G base:Nat} {φ:Phi} {st:St} {W:World} (y:Inv P G base φ st W) {a:Addr} {n:Nat} {l:List Value} (h:cellsAt st.heap a n=some l):G≤a.block:=by
 unfold cellsAt at h
 split at h
 ·cases h
 ·split at h
  ·rename_i g;exact (y.wf _ _ g).1
  ·cases h
theorem run_storeCells_any (P:Program) (g o:Nat) (t:TypeId) (B:Nat×Nat): ∀(vs:List Value) (i:Nat) (y:Array Value) (w:World),w.heap[g]? =some (.cells y t B)→o+i+vs.length≤y.size→
  (∀k,k<y.size→ ¬(B.1≤k∧k<B.2))→(∀v∈vs,v.oneCell'=true)→
  (storeCells ⟨g,o,none⟩ vs i).run P w= .ok () (w.setRow g (splice y.toList (o+i) vs).toArray)
 |[],i,y,w,E,_,_,_=>by
  have e:splice y.toList (o+i) []=y.toList:=by
   have: ∀(l:List Value) (n:Nat),splice l n []=l:=by
    intro l
    induction l with
    |nil=>intro n;cases n<;>rfl
    |cons v l J=>intro n;cases n with
     |zero=>rfl
     |succ n=>simp [splice,J]
   exact this _ _
  simp only [storeCells,e,Array.toArray_toList]
  rw [setRow_self w g y t B E]
  rfl
 |v::rest,i,y,w,E,Q,O,N=>by
  have L:o+i<y.size:=by simp at Q;omega
  have K:(⟨g,o,none⟩:Addr).add i=⟨g,o+i,none⟩:=by unfold Addr.add;split<;>simp_all
  have D:w.cell? ⟨g,o+i,none⟩=some y[o+i]:=by simp [World.cell?,E,L]
  have I:w.frozen? ⟨g,o+i,none⟩=false:=by
   have:=O (o+i) L
   simp only [World.frozen?,E,Bool.and_eq_false_iff,decide_eq_false_iff_not]
   by_cases h:B.1≤o+i
   ·exact .inr fun k=>this ⟨h,k⟩
   ·exact .inl h
  have M:(store ((⟨g,o,none⟩:Addr).add i) v).run P w= .ok () (w.setRow g (y.setIfInBounds (o+i) v)):=by
   rw [K,run_store P w _ v _ (N v (by simp)),D]
   simp [I,setCell_eq_setRow w g (o+i) y t B v E]
  have J:=run_storeCells_any P g o t B rest (i+1) (y.setIfInBounds (o+i) v) (w.setRow g (y.setIfInBounds (o+i) v)) (setRow_heap w g y _ t B E) (by simp at Q ⊢;omega) (by simpa using O) (fun x S=>N x (by simp [S]))
  simp only [storeCells,Sem.run_bind,M,Result.andThen_ok,J,setRow_setRow]
  congr 3
  have key: ∀(l:List Value) (n:Nat),n<l.length→splice (l.set n v) (n+1) rest=splice l n (v::rest):=by
   intro l
   induction l with
   |nil=>intro n h;simp at h
   |cons x l J=>intro n h;cases n with
    |zero=>simp [splice]
    |succ n=>simp only [List.set_cons_succ,splice];rw [J n (by simpa using h)]
  have:=key y.toList (o+i) (by simpa using L)
  simpa [Nat.add_assoc] using this
theorem splice_take: ∀(C:List Value) (n k:Nat) (x:List Value),n+x.length≤k→(splice C n x).take k=splice (C.take k) n x:=by
 intro C
 induction C with
 |nil=>intro n k x _;cases n<;>cases x<;>simp [splice]
 |cons c C g=>
  intro n k x h
  cases n with
  |succ n=>
   cases k with
   |zero=>omega
   |succ k=>simp only [splice,List.take_succ_cons];rw [g n k x (by omega)]
  |zero=>
   cases x with
   |nil=>cases k<;>simp [splice]
   |cons y x=>
    cases k with
    |zero=>simp at h
    |succ k=>simp only [splice,List.take_succ_cons];rw [g 0 k x (by simp at h ⊢;omega)]
theorem write_ok {P:Program} {G base:Nat} {φ:Phi} {st st':St} {W:World} (B:Inv P G base φ st W) {a:Addr} {new I:List Value} (h:writeB st a new=some st')
  {r κ:Nat} (N:φ a.block=some (r,κ)) (hrel:RelL G φ new I):
  ∃W',(storeCells ⟨r,a.off,none⟩ I).run P W= .ok () W'∧Post P G base φ st W st' φ W'∧a.spot=none:=by
 unfold writeB at h
 split at h
 ·rename_i cs e ext hs Q
  split at h
  ·rename_i hc
   cases h
   rw [Bool.and_eq_true] at hc
   obtain ⟨hb,M⟩:=hc
   have hb:=Nat.le_of_ble_eq_true hb
   obtain ⟨C,Y,s,U,X,h3,h4,h5,h6⟩:=B.obj _ _ _ _ Q N
   have hN:I.length=new.length:=hrel.1.symm
   have qe:cs.length≤C.size:=by omega
   have L:=run_storeCells_any P r a.off e Y I 0 C W U (by omega) (h6 rfl) (hrel.ones M)
   refine ⟨_,L,?_,hs⟩
   have hd:=B.dom _ _ _ N
   have hw:=B.wf _ _ Q
   have qd:st.next≤st.next:=Nat.le_refl _
   refine ⟨.rfl,fun _ _ h=> .inl h,fun b E κ' U X=>(by rw [U] at X;cases X),?_,qd,Nat.min_le_left _ _,?_,?_,by simp,rfl,rfl,rfl⟩
   ·refine ⟨fun b E κ' g=>by simpa using B.dom b E κ' g,?_,srt_putB B.srt _ _,?_,?_,B.low⟩
    ·intro b o g
     change look (putB st.heap a.block _) b=some o at g
     rw [look_putB] at g
     split at g
     ·rename_i y;subst y;exact hw
     ·exact B.wf b o g
    ·intro b o E κ' g D
     change look (putB st.heap a.block _) b=some o at g
     rw [look_putB] at g
     split at g
     ·rename_i y
      subst y
      rw [Q] at g
      rw [N] at D
      cases g
      cases D
      refine ⟨_,Y,s,setRow_heap W r C _ e Y U,?_,h3,?_,h5,?_⟩
      ·rw [splice_length]
       rw [splice_take _ _ _ _ (by omega)]
       simpa using X.splice hrel
      ·simp only [List.size_toArray,splice_length,Array.length_toList];exact h4
      ·intro hz
       simp only [List.size_toArray,splice_length,Array.length_toList]
       exact h6 rfl
     ·rename_i qb
      have T:E≠r:=fun e'=>qb (by subst e';exact B.inj _ _ _ _ _ _ _ Q g N D)
      exact (B.obj b o E κ' g D).mono .rfl (setRow_other W r E _ T)
    ·intro b c o q E κ' l' g O Z qc
     change look (putB st.heap a.block _) b=some o at g
     change look (putB st.heap a.block _) c=some q at O
     have K: ∀d w,look (putB st.heap a.block (.row (splice cs a.off new) e ext false)) d=some w→ ∃w',look st.heap d=some w':=by
      intro d w J
      rw [look_putB] at J
      split at J
      ·rename_i y;subst y;exact ⟨_,Q⟩
      ·exact ⟨_,J⟩
     obtain ⟨_,x1⟩:=K b o g
     obtain ⟨_,x2⟩:=K c q O
     exact B.inj _ _ _ _ _ _ _ x1 x2 Z qc
   ·intro b _ qa
    change look (putB st.heap a.block _) b=look st.heap b
    have:b<Nat.min st.low a.block:=qa
    have:b<a.block:=Nat.lt_of_lt_of_le this (Nat.min_le_right _ _)
    rw [look_putB,if_neg (by omega)]
   ·intro E _ S
    refine setRow_other W r E _ ?_
    intro e'
    subst e'
    have:=S a.block κ N hw.2
    have:a.block<Nat.min st.low a.block:=this
    have:a.block<a.block:=Nat.lt_of_lt_of_le this (Nat.min_le_right _ _)
    omega
  ·cases h
 ·cases h
end

section
open Go Go.RowKit
def SemOk (P:Program) (G base:Nat) (φ:Phi) (st:St) (W:World) (s:Sem Value) (v:Value) (st':St):Prop:=
 ∃V g W',s.run P W= .ok V W'∧Post P G base φ st W st' g W'∧Rel G g v V
def Phi.add (φ:Phi) (b:Nat) (x:Nat×Nat):Phi:=fun c=>if c=b then some x else φ c
theorem Phi.add_le {φ:Phi} {b:Nat} {x:Nat×Nat} (h:φ b=none):φ.le (φ.add b x):=fun c y e=>by
 unfold Phi.add
 split
 ·rename_i g;subst g;rw [h] at e;cases e
 ·exact e
theorem Phi.add_self (φ:Phi) (b:Nat) (x:Nat×Nat):φ.add b x b=some x:=by simp [Phi.add]
theorem new_post {P:Program} {G base:Nat} {φ:Phi} {st:St} {W W1:World} (J:Inv P G base φ st W) (hb:base≤W.heap.size) (hf:φ st.next=none) (o:AObj) (O:Obj) (S:Nat)
  (Y:W1.heap=W.heap) (h2:W1.os=W.os) (h3:W1.tape=W.tape) (h4:W1.output=W.output)
  (hO:ObjOk P G (φ.add st.next (W.heap.size,S)) S o (W1.alloc O) W.heap.size):
  Post P G base φ st W ⟨(st.next,o)::st.heap,st.next+1,st.low⟩ (φ.add st.next (W.heap.size,S)) (W1.alloc O):=by
 have X:(W1.alloc O).heap.size=W.heap.size+1:=by simp [Y]
 have M: ∀r,r<W.heap.size→(W1.alloc O).heap[r]? =W.heap[r]? :=fun r T=>by
  rw [←Y] at T ⊢
  show (W1.heap.push O)[r]? =_
  rw [Array.getElem?_push,if_neg (by omega)]
 have Q:=Phi.add_le (x:=(W.heap.size,S)) hf
 refine ⟨Q,?_,?_,?_,Nat.le_succ _,Nat.le_refl _,?_,fun r T _=>M r T,by rw [X];omega,h2,h3,h4⟩
 ·intro b x g
  unfold Phi.add at g
  split at g
  ·rename_i I;subst I;exact .inr ⟨Nat.le_refl _,Nat.lt_succ_self _⟩
  ·exact .inl g
 ·intro b r κ' g Z
  unfold Phi.add at g
  split at g
  ·cases g;exact .inl (Nat.le_refl _)
  ·rw [Z] at g;cases g
 ·refine ⟨?_,?_,?_,?_,?_,by have:=J.low;show G≤st.next+1;omega⟩
  ·intro b r κ' g
   unfold Phi.add at g
   split at g
   ·rename_i I;subst I;cases g;exact ⟨J.low,hb,by rw [X];omega⟩
   ·have:=J.dom b r κ' g;exact ⟨this.1,this.2.1,by rw [X];omega⟩
  ·intro b q D
   change look ((st.next,o)::st.heap) b=some q at D
   rw [look_cons] at D
   show G≤b∧b<st.next+1
   split at D
   ·rename_i I;change st.next=b at I;subst I;exact ⟨J.low,Nat.lt_succ_self _⟩
   ·have:=J.wf b q D;omega
  ·refine List.pairwise_cons.2 ⟨fun x g=> ?_,J.srt⟩
   obtain ⟨k,q⟩:=x
   have: ∃N,look st.heap k=some N:=by
    have key: ∀l:Hp,(k,q)∈l→ ∃N,look l k=some N:=by
     intro l
     induction l with
     |nil=>intro h;cases h
     |cons y l ih=>
      intro h
      rw [look_cons]
      split
      ·exact ⟨_,rfl⟩
      ·rename_i U
       rcases List.mem_cons.1 h with e|e
       ·exact absurd (by rw [←e]) U
       ·exact ih e
    exact key _ g
   obtain ⟨N,E⟩:=this
   exact (J.wf k N E).2
  ·intro b q r κ' D g
   change look ((st.next,o)::st.heap) b=some q at D
   rw [look_cons] at D
   unfold Phi.add at g
   split at D
   ·rename_i I
    change st.next=b at I
    subst I
    rw [if_pos rfl] at g
    cases g;cases D
    exact hO
   ·rename_i I
    change ¬st.next=b at I
    rw [if_neg (fun e=>I e.symm)] at g
    exact (J.obj b q r κ' D g).mono Q (M r (J.dom b r κ' g).2.2)
  ·intro b c q N r κ' l D E g B
   change look ((st.next,o)::st.heap) b=some q at D
   change look ((st.next,o)::st.heap) c=some N at E
   rw [look_cons] at D E
   unfold Phi.add at g B
   split at D<;>split at E
   ·rename_i K L;change st.next=b at K;change st.next=c at L;omega
   ·rename_i K L
    change st.next=b at K;change ¬st.next=c at L
    rw [if_pos K.symm] at g;rw [if_neg (fun e=>L e.symm)] at B
    cases g
    have:=(J.dom _ _ _ B).2.2
    omega
   ·rename_i K L
    change ¬st.next=b at K;change st.next=c at L
    rw [if_pos L.symm] at B;rw [if_neg (fun e=>K e.symm)] at g
    cases B
    have:=(J.dom _ _ _ g).2.2
    omega
   ·rename_i K L
    change ¬st.next=b at K;change ¬st.next=c at L
    rw [if_neg (fun e=>K e.symm)] at g;rw [if_neg (fun e=>L e.symm)] at B
    exact J.inj _ _ _ _ _ _ _ D E g B
 ·intro b qa _
  show look ((st.next,o)::st.heap) b=_
  rw [look_cons,if_neg (show ¬st.next=b by omega)]
section
variable {P:Program} {G base:Nat} {φ:Phi} {st st':St} {W:World}
theorem zeroB_ok {t:TypeId} {z:Value} (h:zeroB P G t=some z): ∃i,P.info? t=some i∧i.zero=some z∧pf G 6 z=true:=by
 unfold zeroB at h
 split at h
 ·rename_i i g
  split at h
  ·rename_i D y
   split at h
   ·rename_i B;cases h;exact ⟨i,g,y,B⟩
   ·cases h
  ·cases h
 ·cases h
theorem sizeB_ok {t:TypeId} {n:Nat} (h:sizeB P t=some n): ∃i,P.info? t=some i∧i.size=n:=by
 unfold sizeB at h
 cases g:P.info? t with
 |none=>rw [g] at h;cases h
 |some i=>rw [g] at h;exact ⟨i,rfl,by simpa using h⟩
theorem bytesB_ok {t:TypeId} {n:Nat} (h:bytesB P t=some n): ∃i,P.info? t=some i∧i.bytes=n:=by
 unfold bytesB at h
 cases g:P.info? t with
 |none=>rw [g] at h;cases h
 |some i=>rw [g] at h;exact ⟨i,rfl,by simpa using h⟩
theorem row_new {g:Phi} {cs Cs:List Value} {e:TypeId} (hrel:RelL G g cs Cs) (W1:World):ObjOk P G g 0 (.row cs e false false) (W1.alloc (.cells Cs.toArray e)) W1.heap.size:=by
 refine ⟨Cs.toArray,(0,0),0,?_,?_,.inl rfl,?_,fun _=>rfl,fun _ i _=>by simp⟩
 ·show (W1.heap.push _)[W1.heap.size]? =_
  simp
 ·rw [hrel.1];simpa using hrel
 ·simp [hrel.1]
theorem put_inv {o:AObj} {f:Nat→Value} {v:Value} (h:st.put o f=some (v,st')):v=f st.next∧st'=⟨(st.next,o)::st.heap,st.next+1,st.low⟩:=by
 unfold St.put at h
 cases h
 exact ⟨rfl,rfl⟩
abbrev Fresh (φ:Phi) (st _st':St):Prop:= ∀b,st.next≤b→φ b=none
theorem Fresh.one {o:AObj} {l:Nat} {h:Hp} (g:Fresh φ st ⟨(st.next,o)::h,st.next+1,l⟩):φ st.next=none:=g _ (Nat.le_refl _)
theorem evBox_ok (J:Inv P G base φ st W) (I:base≤W.heap.size) {e:TypeId} {x X v:Value} (h:evBox e x st=some (v,st')) (y:Fresh φ st st') (E:Rel G φ x X):
  SemOk P G base φ st W (Instr.box e X) v st':=by
 obtain ⟨rfl,rfl⟩:=put_inv h
 have g:=Phi.add_le (x:=(W.heap.size,0)) y.one
 have D:=row_new (P:=P) (e:=e) (E.cells.1.mono g) W
 have B:=new_post J I y.one _ _ 0 rfl rfl rfl rfl D
 simp only [Array.toArray_toList] at B
 refine ⟨_,_,_,?_,B,.ptr (Phi.add_self _ _ _)⟩
 simp [Instr.box,newVar,newRow]
theorem evAlloc_ok (L:Inv P G base φ st W) (K:base≤W.heap.size) {e:TypeId} {v:Value} (h:evAlloc P G e st=some (v,st')) (E:Fresh φ st st'):
  SemOk P G base φ st W (Instr.alloc e true (.tuple #[])) v st':=by
 unfold evAlloc at h
 split at h
 ·rename_i z I
  obtain ⟨i,B,g,y⟩:=zeroB_ok I
  obtain ⟨rfl,rfl⟩:=put_inv h
  have J:=row_new (P:=P) (e:=e) (Rel.free (φ:=φ.add st.next (W.heap.size,0)) y).cells.1 W
  have D:=new_post L K E.one _ _ 0 rfl rfl rfl rfl J
  simp only [Array.toArray_toList] at D
  refine ⟨_,_,_,?_,D,.ptr (Phi.add_self _ _ _)⟩
  simp [Instr.alloc,zeroValue,typeInfo,B,g,newVar,newRow]
 ·cases h
theorem isAggB_ok {t:TypeId} {b:Bool} (h:isAggB P t=some b) (W:World):(isAgg t).run P W= .ok b W:=by
 unfold isAggB at h
 split at h
 ·rename_i g;cases h;simp [isAgg,run_underlying g]
 ·rename_i g;cases h;simp [isAgg,run_underlying g]
 ·rename_i d g B y
  cases h
  simp only [isAgg,Sem.run_bind,run_underlying y,Result.andThen_ok]
  cases d<;>simp_all
 ·cases h
theorem add_zero (a:Addr):a.add 0=a:=by simp [Addr.add]
theorem loadB_ok (E:Inv P G base φ st W) {t:TypeId} {a A v:Value} (h:loadB P st.heap t a=some v) (T:Rel G φ a A):
  ∃V,Rel G φ v V∧ ∃S,A= .pointer (some S)∧(loadVar t S).run P W= .ok V W:=by
 unfold loadB at h
 split at h
 ·rename_i a0
  split at h
  ·rename_i n X M
   split at h
   ·rename_i l D
    cases h
    rcases T.ptr_inv with ⟨O,_⟩|⟨r,Y,hs,N,rfl⟩
    ·have:=own_of_cells E D;omega
    ·obtain ⟨L,J,B,_,g,_⟩:=load_ok E D N
     obtain ⟨i,K,I⟩:=sizeB_ok M
     refine ⟨_,Rel.aggL J,_,rfl,?_⟩
     simp [loadVar,isAggB_ok X,sizeOf,typeInfo,K,I,g]
   ·cases h
  ·rename_i _ M
   split at h
   ·rename_i v' D
    cases h
    rcases T.ptr_inv with ⟨O,_⟩|⟨r,Y,hs,N,rfl⟩
    ·have:=own_of_cells E D;omega
    ·obtain ⟨L,J,B,_,g,y⟩:=load_ok E D N
     obtain ⟨V,L',rfl,Z,U⟩:=J.cons_inv
     have Q:=y 0 V rfl
     rw [add_zero] at Q
     refine ⟨V,Z,_,rfl,?_⟩
     simp [loadVar,isAggB_ok M,Q]
   ·cases h
  ·cases h
 ·cases h
theorem evLoad_ok (B:Inv P G base φ st W) {t:TypeId} {a A v:Value} (h:evLoad P t a st=some (v,st')) (E:Rel G φ a A):
  st'=st∧ ∃V,Rel G φ v V∧(Instr.loadAt t A).run P W= .ok V W:=by
 unfold evLoad at h
 split at h
 ·rename_i I D
  cases h
  obtain ⟨V,y,J,rfl,g⟩:=loadB_ok B D E
  exact ⟨rfl,V,y,by simp [Instr.loadAt,Instr.sureAddr,g]⟩
 ·cases h
theorem own_of_write {a:Addr} {new:List Value} (g:Inv P G base φ st W) (h:writeB st a new=some st'):G≤a.block:=by
 unfold writeB at h
 split at h
 ·rename_i y;exact (g.wf _ _ y).1
 ·cases h
theorem evStore_ok (K:Inv P G base φ st W) {t:TypeId} {a A x X v:Value} (h:evStore P t a x st=some (v,st')) (S:Rel G φ a A) (J:Rel G φ x X):
  v=undef∧ ∃W',(Instr.storeAt t A X).run P W= .ok () W'∧Post P G base φ st W st' φ W':=by
 unfold evStore at h
 split at h
 ·rename_i U n M
  split at h
  ·rename_i E
   split at h
   ·rename_i N L
    cases h
    rcases S.ptr_inv with ⟨Q,_⟩|⟨r,T,Y,O,rfl⟩
    ·have:=own_of_write K L;omega
    ·obtain ⟨W',y,g,_⟩:=write_ok K L O J.cells.1
     obtain ⟨i,I,D⟩:=sizeB_ok M
     have B:=Nat.eq_of_beq_eq_true E
     refine ⟨rfl,W',?_,g⟩
     simp [Instr.storeAt,Instr.sureAddr,storeVar,sizeOf,typeInfo,I,D,J.cells.2.1,B,y]
   ·cases h
  ·cases h
 ·cases h
end
end

section
open Go Go.RowKit
def CalmOk (P:Program) (G:Nat) (φ:Phi) (s:Sem Value) (v:Value):Prop:= ∃V,Rel G φ v V∧ ∀W,s.run P W= .ok V W
section
variable {P:Program} {G:Nat} {φ:Phi} {st st':St}
theorem blt_ok {a b:Nat} (h:Nat.blt a b=true):a<b:=Nat.le_of_ble_eq_true h
theorem addr_add (r o n:Nat):(⟨r,o,none⟩:Addr).add n=⟨r,o+n,none⟩:=by unfold Addr.add;split<;>simp_all
theorem natOf_ok {v:Value} {n:Nat} (h:natOf v=some n): ∃k,v= .int k n:=by
 unfold natOf at h
 split at h
 ·cases h;exact ⟨_,rfl⟩
 ·cases h
theorem natOf_rel {v V:Value} {n:Nat} (h:natOf v=some n) (g:Rel G φ v V): ∃k,V= .int k n:=by
 obtain ⟨k,rfl⟩:=natOf_ok h
 exact ⟨k,g.int⟩
theorem free_ptr {a:Addr} (h:a.block<G):Rel G φ (.pointer (some a)) (.pointer (some a)):=
 .free (d:=0) (by simp [pf,Nat.blt,Nat.ble_eq];exact h)
theorem ptr_moved {b o:Nat} {X:Value} (y:Rel G φ (.pointer (some ⟨b,o,none⟩)) X): ∃r,X= .pointer (some ⟨r,o,none⟩)∧ ∀n,Rel G φ (.pointer (some ⟨b,o+n,none⟩)) (.pointer (some ⟨r,o+n,none⟩)):=by
 rcases y.ptr_inv with ⟨g,rfl⟩|⟨r,B,_,h,rfl⟩
 ·exact ⟨b,rfl,fun n=>free_ptr g⟩
 ·exact ⟨r,rfl,fun n=> .ptr h⟩
theorem evFieldAddr_ok {s:TypeId} {x X v:Value} {f:Nat} (h:evFieldAddr P s x f st=some (v,st')) (K:Rel G φ x X):st'=st∧CalmOk P G φ (Instr.fieldAt s X f) v:=by
 unfold evFieldAddr at h
 split at h
 ·rename_i N b o L
  split at h
  ·rename_i M g
   split at h
   ·rename_i n E
    split at h
    ·cases h
    ·rename_i I
     cases h
     obtain ⟨r,rfl,J⟩:=ptr_moved K
     obtain ⟨i,B,D⟩:=sizeB_ok E
     have y:i.size≠0:=fun e=>by rw [D] at e;subst e;cases I
     refine ⟨rfl,_,J M.offset,fun W=> ?_⟩
     simp [Instr.fieldAt,run_underlying L,g,Instr.sureAddr,fieldPlace,sizeOf,typeInfo,B,y,addr_add]
   ·cases h
  ·cases h
 ·cases h
theorem evIndexAddr_ok {t:TypeId} {x X Q N v:Value} (h:evIndexAddr P t x Q st=some (v,st')) (O:Rel G φ x X) (E:Rel G φ Q N):st'=st∧CalmOk P G φ (Instr.indexAt t X N) v:=by
 unfold evIndexAddr at h
 split at h
 ·rename_i elem b o g cap i M L
  split at h
  ·rename_i n J B
   cases h
   obtain ⟨k,rfl⟩:=natOf_rel L E
   obtain ⟨j,y,D⟩:=sizeB_ok J
   have I:i<g:=blt_ok B
   have K:(0:Int)≤(i:Int)∧(i:Int)<(g:Int):=⟨by omega,by omega⟩
   obtain ⟨r,Y,_,S,T⟩:=O.slice_inv
   refine ⟨rfl,.pointer (some ⟨r,o+i*n,none⟩),.ptr S,fun W=> ?_⟩
   rcases T with ⟨c,_,rfl⟩|⟨c,_,rfl⟩<;>
    (simp [Instr.indexAt,asIntOf,run_underlying M,sizeOf,typeInfo,y,D,addr_add];intro;omega)
  ·cases h
 ·rename_i g elem b o i M L
  split at h
  ·rename_i n J B
   cases h
   obtain ⟨k,rfl⟩:=natOf_rel L E
   obtain ⟨j,y,D⟩:=sizeB_ok J
   have I:i<g:=blt_ok B
   have K:(0:Int)≤(i:Int)∧(i:Int)<(g:Int):=⟨by omega,by omega⟩
   obtain ⟨r,rfl,U⟩:=ptr_moved O
   refine ⟨rfl,_,U (i*n),fun W=> ?_⟩
   simp [Instr.indexAt,Instr.sureAddr,asIntOf,run_underlying M,sizeOf,typeInfo,y,D,addr_add]
   intro;omega
  ·cases h
 ·cases h
theorem boundB_ok {x X:Option Value} {d y n:Nat} (h:boundB x d y=some n) (B: ∀v,x=some v→ ∃V,X=some V∧Rel G φ v V) (g:x=none→X=none):
  (X=none∧n=d)∨ ∃k,X=some (.int k n)∧n≤y:=by
 unfold boundB at h
 split at h
 ·cases h;exact .inl ⟨g rfl,rfl⟩
 ·rename_i k i
  split at h
  ·rename_i D
   cases h
   obtain ⟨V,rfl,E⟩:=B _ rfl
   right
   exact ⟨k,by rw [E.int];rfl,Nat.le_of_ble_eq_true D⟩
  ·cases h
 ·cases h
theorem run_sliceBound (W:World) (k:IntKind) (n y:Nat) (c:BoundsCode) (h:n≤y):(Instr.sliceBound (.int k n) y c).run P W= .ok n W:=by
 have:(0:Int)≤(n:Int)∧(n:Int)≤(y:Int):=⟨by omega,by omega⟩
 simp [Instr.sliceBound,asIntOf,this]
def RelO (G:Nat) (φ:Phi) (x X:Option Value):Prop:=(∀v,x=some v→ ∃V,X=some V∧Rel G φ v V)∧(x=none→X=none)
theorem RelO.map {ts:Ts} {A:Act} {o:Option Operand} (h: ∀y,o=some y→Rel G φ (ρ ts y) (A.eval y)):RelO G φ (o.map (ρ ts)) (o.map A.eval):=by
 cases o with
 |none=>exact ⟨fun v g=>(by cases g),fun _=>rfl⟩
 |some y=>exact ⟨fun v g=>⟨_,rfl,by cases g;exact h y rfl⟩,fun B=>by cases B⟩
theorem evSliceStr_ok {t:TypeId} (N:P.underlying t=some .string) {s:ByteArray} {L E J K:Option Value} {v:Value} (h:evSliceStr s L E st=some (v,st')) (y:RelO G φ L J) (g:RelO G φ E K):
  st'=st∧CalmOk P G φ (Instr.sliceAt t (.string s) J K none) v:=by
 unfold evSliceStr at h
 split at h
 ·rename_i O D
  split at h
  ·rename_i l B
   cases h
   refine ⟨rfl,_,.free (d:=0) rfl,fun W=> ?_⟩
   rcases boundB_ok D g.1 g.2 with ⟨rfl,rfl⟩|⟨k,rfl,M⟩<;>rcases boundB_ok B y.1 y.2 with ⟨rfl,rfl⟩|⟨Q,rfl,I⟩<;>
    simp [Instr.sliceAt,Instr.slice,run_underlying N,Instr.sliceBounds,run_sliceBound, *]
  ·cases h
 ·cases h
theorem evSliceRow_ok {t elem:TypeId} (Y:P.underlying t=some (.slice elem)) {a:Addr} {y cap:Nat} {X v:Value} {lo hi LO HI:Option Value} (h:evSliceRow P elem a y cap lo hi st=some (v,st'))
  (hx:Rel G φ (.slice (some a) y cap) X) (U:RelO G φ lo LO) (T:RelO G φ hi HI):st'=st∧CalmOk P G φ (Instr.sliceAt t X LO HI none) v:=by
 unfold evSliceRow at h
 split at h
 ·rename_i n O hn qb
  split at h
  ·rename_i l qa
   obtain ⟨j,B,Q⟩:=sizeB_ok hn
   obtain ⟨r,J,_,hr,hX⟩:=hx.slice_inv
   have I: ∀c,cap/2≤c→ ∀W,(Instr.sliceBounds true y c LO HI none).run P W= .ok (l,O,c) W:=by
    intro c K W
    rcases boundB_ok qb T.1 T.2 with ⟨rfl,rfl⟩|⟨k,rfl,S⟩<;>rcases boundB_ok qa U.1 U.2 with ⟨rfl,rfl⟩|⟨k',rfl,L⟩
    ·simp [Instr.sliceBounds]
    ·simp [Instr.sliceBounds,run_sliceBound,L]
    ·simp [Instr.sliceBounds,run_sliceBound,Nat.le_trans S K]
    ·simp [Instr.sliceBounds,run_sliceBound,Nat.le_trans S K,L]
   split at h
   ·rename_i qc
    have E:X= .slice (some ⟨r,a.off,none⟩) y (cap/2):=by
     rcases hX with ⟨N,K,rfl⟩|⟨N,K,rfl⟩
     ·rw [show cap/2=N by omega]
     ·omega
    subst E
    split at h
    ·rename_i g
     cases h
     have g:=Nat.eq_of_beq_eq_true g
     subst g
     refine ⟨rfl,.slice (some ⟨r,a.off,none⟩) (O - _) 0,.sliceX hr,fun W=> ?_⟩
     simp [Instr.sliceAt,Instr.slice,run_underlying Y,I _ (Nat.le_refl _),sizeOf,typeInfo,B]
    ·rename_i g
     cases h
     have g:cap/2≠l:=Nat.ne_of_beq_eq_false g
     refine ⟨rfl,.slice (some ⟨r,a.off+l*n,none⟩) (O - l) (cap/2 - l),.sliceX hr,fun W=> ?_⟩
     simp [Instr.sliceAt,Instr.slice,run_underlying Y,I _ (Nat.le_refl _),sizeOf,typeInfo,B,Q,g,addr_add]
   ·rename_i M
    split at h
    ·rename_i Z
     cases h
     have Z:=blt_ok Z
     have E:X= .slice (some ⟨r,a.off,none⟩) y (cap/2+J):=by
      rcases hX with ⟨N,K,rfl⟩|⟨N,K,rfl⟩
      ·exact absurd (by omega:cap % 2=0) M
      ·rw [show cap/2=N by omega]
     subst E
     have D: ¬(cap/2+J=l):=by omega
     refine ⟨rfl,.slice (some ⟨r,a.off+l*n,none⟩) (O - l) (cap/2 - l+J),.sliceE hr,fun W=> ?_⟩
     simp [Instr.sliceAt,Instr.slice,run_underlying Y,I _ (Nat.le_add_right _ J),sizeOf,typeInfo,B,Q,D,addr_add]
     omega
    ·split at h
     ·rename_i g
      cases h
      have g:=Nat.eq_of_beq_eq_true g
      subst g
      have E:X= .slice (some ⟨r,a.off,none⟩) y (cap/2+J):=by
       rcases hX with ⟨N,K,rfl⟩|⟨N,K,rfl⟩
       ·exact absurd (by omega:cap % 2=0) M
       ·rw [show cap/2=N by omega]
      subst E
      have b2:=I _ (Nat.le_add_right _ J)
      by_cases D:cap/2+J=O
      ·refine ⟨rfl,.slice (some ⟨r,a.off,none⟩) 0 0,.sliceZ,fun W=> ?_⟩
       rw [D] at b2
       simp [Instr.sliceAt,Instr.slice,run_underlying Y,D,b2,sizeOf,typeInfo,B]
      ·refine ⟨rfl,.slice (some ⟨r,a.off+O*n,none⟩) 0 (cap/2+J - O),.sliceZ,fun W=> ?_⟩
       simp [Instr.sliceAt,Instr.slice,run_underlying Y,I _ (Nat.le_add_right _ J),sizeOf,typeInfo,B,Q,D,addr_add]
     ·cases h
  ·cases h
 ·cases h
theorem evSliceMax_ok {t elem:TypeId} (hu:P.underlying t=some (.slice elem)) {a:Addr} {y cap:Nat} {X v hi mx HI MX:Value} {lo Q:Option Value} (h:evSliceMax P elem a cap lo hi mx st=some (v,st'))
  (hx:Rel G φ (.slice (some a) y cap) X) (I:RelO G φ lo Q) (N:Rel G φ hi HI) (U:Rel G φ mx MX):st'=st∧CalmOk P G φ (Instr.sliceAt t X Q (some HI) (some MX)) v:=by
 unfold evSliceMax at h
 split at h
 ·rename_i n m M hn hm Y
  split at h
  ·rename_i l O S
   rw [Bool.and_eq_true] at O
   have D:=Nat.le_of_ble_eq_true O.1
   have J:=Nat.le_of_ble_eq_true O.2
   obtain ⟨k1,rfl⟩:=natOf_rel hm U
   obtain ⟨k2,rfl⟩:=natOf_rel Y N
   obtain ⟨j,B,Z⟩:=sizeB_ok hn
   obtain ⟨r,κ,_,hr,hX⟩:=hx.slice_inv
   have T: ∃c,X= .slice (some ⟨r,a.off,none⟩) y c∧cap/2≤c:=by
    rcases hX with ⟨c',L,rfl⟩|⟨c',L,rfl⟩
    ·exact ⟨_,rfl,by omega⟩
    ·exact ⟨_,rfl,by omega⟩
   obtain ⟨c,rfl,L⟩:=T
   clear hX
   have K: ∀W,(Instr.sliceBounds true y c Q (some (.int k2 M)) (some (.int k1 m))).run P W= .ok (l,M,m) W:=by
    intro W
    rcases boundB_ok S I.1 I.2 with ⟨rfl,rfl⟩|⟨k',rfl,E⟩
    ·simp [Instr.sliceBounds,run_sliceBound,Nat.le_trans D L,J]
    ·simp [Instr.sliceBounds,run_sliceBound,Nat.le_trans D L,J,E]
   split at h
   ·rename_i g
    cases h
    have g:=Nat.eq_of_beq_eq_true g
    subst g
    refine ⟨rfl,.slice (some ⟨r,a.off,none⟩) (M - _) 0,.sliceX hr,fun W=> ?_⟩
    simp [Instr.sliceAt,Instr.slice,run_underlying hu,K,sizeOf,typeInfo,B]
   ·rename_i g
    cases h
    have g:m≠l:=Nat.ne_of_beq_eq_false g
    refine ⟨rfl,.slice (some ⟨r,a.off+l*n,none⟩) (M - l) (m - l),.sliceX hr,fun W=> ?_⟩
    simp [Instr.sliceAt,Instr.slice,run_underlying hu,K,sizeOf,typeInfo,B,Z,g,addr_add]
  ·cases h
 ·cases h
theorem evSliceArr_ok {t elem:TypeId} {N:Nat} (Z:P.underlying t=some (.array N elem)) {a:Addr} (ha:G≤a.block) {X v:Value} {U Y K L:Option Value} (h:evSliceArr P elem N a U Y st=some (v,st'))
  (hx:Rel G φ (.pointer (some a)) X) (I:RelO G φ U K) (D:RelO G φ Y L):st'=st∧CalmOk P G φ (Instr.sliceAt t X K L none) v:=by
 unfold evSliceArr at h
 split at h
 ·rename_i n Q hn O
  split at h
  ·rename_i l M
   obtain ⟨j,E,S⟩:=sizeB_ok hn
   rcases hx.ptr_inv with ⟨qa,_⟩|⟨r,κ,hs,T,rfl⟩
   ·omega
   have J: ∀W,(Instr.sliceBounds false N N K L none).run P W= .ok (l,Q,N) W:=by
    intro W
    rcases boundB_ok O D.1 D.2 with ⟨rfl,rfl⟩|⟨k,rfl,B⟩<;>rcases boundB_ok M I.1 I.2 with ⟨rfl,rfl⟩|⟨k',rfl,y⟩
    ·simp [Instr.sliceBounds]
    ·simp [Instr.sliceBounds,run_sliceBound,y]
    ·simp [Instr.sliceBounds,run_sliceBound,B]
    ·simp [Instr.sliceBounds,run_sliceBound,B,y]
   split at h
   ·rename_i g
    cases h
    have g:=Nat.eq_of_beq_eq_true g
    subst g
    refine ⟨rfl,.slice (some ⟨r,a.off,none⟩) (Q - _) 0,.sliceX T,fun W=> ?_⟩
    simp [Instr.sliceAt,Instr.sureAddr,run_underlying Z,J,sizeOf,typeInfo,E]
   ·rename_i g
    cases h
    have g:N≠l:=Nat.ne_of_beq_eq_false g
    refine ⟨rfl,.slice (some ⟨r,a.off+l*n,none⟩) (Q - l) (N - l),.sliceX T,fun W=> ?_⟩
    simp [Instr.sliceAt,Instr.sureAddr,run_underlying Z,J,sizeOf,typeInfo,E,S,g,addr_add]
  ·cases h
 ·cases h
theorem evSlice_ok {t:TypeId} {x X v:Value} {U Y N S T Z:Option Value} (h:evSlice P G t x U Y N st=some (v,st'))
  (I:Rel G φ x X) (y:RelO G φ U S) (g:RelO G φ Y T) (D:RelO G φ N Z):st'=st∧CalmOk P G φ (Instr.sliceAt t X S T Z) v:=by
 unfold evSlice at h
 split at h
 ·rename_i B;rw [I.string,D.2 rfl];exact evSliceStr_ok B h y g
 ·rename_i B;rw [D.2 rfl];exact evSliceRow_ok B h I y g
 ·rename_i B
  split at h
  ·obtain ⟨M,rfl,hM⟩:=D.1 _ rfl
   obtain ⟨H,rfl,hH⟩:=g.1 _ rfl
   exact evSliceMax_ok B h I y hH hM
  ·cases h
 ·rename_i elem B
  split at h
  ·rename_i n O l1 hn J K
   cases h
   obtain ⟨j,E,qb⟩:=sizeB_ok hn
   rw [I.slice_nil,D.2 rfl]
   refine ⟨rfl,.slice none 0 0,.free (d:=0) rfl,fun W=> ?_⟩
   have L: ∀k c,(Instr.sliceBound (.int k 0) 0 c).run P W= .ok 0 W:=fun k c=>run_sliceBound W k 0 0 c (Nat.le_refl 0)
   rcases boundB_ok J g.1 g.2 with ⟨rfl,rfl⟩|⟨k,rfl,qa⟩<;>rcases boundB_ok K y.1 y.2 with ⟨rfl,rfl⟩|⟨k',rfl,Q⟩
   ·simp [Instr.sliceAt,Instr.slice,run_underlying B,Instr.sliceBounds,sizeOf,typeInfo,E]
   ·have:l1=0:=by omega
    subst this
    simp [Instr.sliceAt,Instr.slice,run_underlying B,Instr.sliceBounds,sizeOf,typeInfo,E,L]
   ·have:O=0:=by omega
    subst this
    simp [Instr.sliceAt,Instr.slice,run_underlying B,Instr.sliceBounds,sizeOf,typeInfo,E,L]
   ·have:O=0:=by omega
    subst this
    have:l1=0:=by omega
    subst this
    simp [Instr.sliceAt,Instr.slice,run_underlying B,Instr.sliceBounds,sizeOf,typeInfo,E,L]
  ·cases h
 ·rename_i B
  split at h
  ·rename_i hb
   rw [D.2 rfl]
   exact evSliceArr_ok B (Nat.le_of_ble_eq_true hb) h I y g
  ·cases h
 ·cases h
def RelP (G:Nat) (φ:Phi) (l L:List (Nat×Value)):Prop:=l.length=L.length∧ ∀i,i<l.length→(l.getD i (0,undef)).1=(L.getD i (0,undef)).1∧Rel G φ (l.getD i (0,undef)).2 (L.getD i (0,undef)).2
theorem RelP.nil_inv {L:List (Nat×Value)} (h:RelP G φ [] L):L=[]:=List.eq_nil_of_length_eq_zero (by simpa using h.1.symm)
theorem RelP.cons_inv {k:Nat} {v:Value} {l L:List (Nat×Value)} (h:RelP G φ ((k,v)::l) L): ∃V g,L=(k,V)::g∧Rel G φ v V∧RelP G φ l g:=by
 cases L with
 |nil=>simp [RelP] at h
 |cons x g=>
  obtain ⟨D,V⟩:=x
  have y:=h.2 0 (by simp)
  have e:k=D:=y.1
  subst e
  refine ⟨V,g,rfl,y.2,by simpa using h.1,fun i B=> ?_⟩
  have:=h.2 (i+1) (by simp;exact B)
  simpa using this
theorem RelP.of_map {ts:Ts} {A:Act}: ∀{l:List (Nat×Operand)},(∀y∈l,Rel G φ (ρ ts y.2) (A.eval y.2))→RelP G φ (l.map fun p=>(p.1,ρ ts p.2)) (l.map fun p=>(p.1,A.eval p.2)):=by
 intro l h
 refine ⟨by simp,fun i B=> ?_⟩
 have g:i<l.length:=by simpa using B
 simp only [List.getD,List.getElem?_map,List.getElem?_eq_getElem g,Option.map_some,Option.getD_some]
 exact ⟨trivial,h _ (List.getElem_mem g)⟩
theorem RelL.set {l L:List Value} (h:RelL G φ l L) {v V:Value} (y:Rel G φ v V) (i:Nat):RelL G φ (l.set i v) (L.set i V):=by
 refine ⟨by simpa using h.1,fun j B=> ?_⟩
 have g:j<l.length:=by simpa using B
 have D:j<L.length:=h.1▸g
 by_cases e:i=j
 ·subst e;simp [List.getD,g,D,y]
 ·have:=h.2 j g
  simp only [List.getD,List.getElem?_set_ne e] at this ⊢
  exact this
theorem fold_set: ∀(vs g:List Value) (cs Cs:Array Value) (off k:Nat),RelL G φ vs g→RelL G φ cs.toList Cs.toList→
  RelL G φ ((vs.zipIdx k).foldl (fun cs (x:Value×Nat)=>cs.setIfInBounds (off+x.2) x.1) cs).toList ((g.zipIdx k).foldl (fun cs (x:Value×Nat)=>cs.setIfInBounds (off+x.2) x.1) Cs).toList:=by
 intro vs
 induction vs with
 |nil=>intro g cs Cs off k h y;rw [h.nil_inv];exact y
 |cons v vs B=>
  intro g cs Cs off k h y
  obtain ⟨V,D,rfl,I,E⟩:=h.cons_inv
  simp only [List.zipIdx_cons,List.foldl_cons]
  refine B _ _ _ off (k+1) E ?_
  simp only [Array.toList_setIfInBounds]
  exact y.set I _
theorem fill_ok {g:Nat→Option (Nat×Nat)}: ∀{l L:List (Nat×Value)} {cs Cs B:Array Value},RelP G φ l L→RelL G φ cs.toList Cs.toList→Instr.fill g cs l=some B→
  ∃E,Instr.fill g Cs L=some E∧RelL G φ B.toList E.toList:=by
 intro l
 induction l with
 |nil=>intro L cs Cs B h J e;rw [h.nil_inv];simp only [Instr.fill] at e;cases e;exact ⟨Cs,rfl,J⟩
 |cons x l Q=>
  obtain ⟨k,v⟩:=x
  intro L cs Cs B h J e
  obtain ⟨V,T,rfl,O,S⟩:=h.cons_inv
  simp only [Instr.fill] at e ⊢
  cases M:g k with
  |none=>rw [M] at e;cases e
  |some y=>
   obtain ⟨off,size⟩:=y
   rw [M] at e
   simp only at e ⊢
   have I:=O.cells
   have K:Cs.size=cs.size:=by have:=J.1;simpa using this.symm
   rw [I.2.1,K]
   split at e
   ·cases e
   ·rename_i D
    rw [if_neg D]
    refine Q S ?_ e
    have N: ∀(a:Array Value) (cs:Array Value),(a.zipIdx.foldl (fun cs (x:Value×Nat)=>cs.setIfInBounds (off+x.2) x.1) cs)=((a.toList.zipIdx 0).foldl (fun cs (x:Value×Nat)=>cs.setIfInBounds (off+x.2) x.1) cs):=by
     intro a cs
     rw [←Array.foldl_toList]
     simp
    have:=fold_set v.cells.toList V.cells.toList cs Cs off 0 I.1 J
    rw [←N,←N] at this
    exact this
theorem run_sizeOf {t:TypeId} {n:Nat} (h:sizeB P t=some n) (W:World):(sizeOf t).run P W= .ok n W:=by
 obtain ⟨j,y,g⟩:=sizeB_ok h
 simp [sizeOf,typeInfo,y,g]
theorem evBuild_ok {t:TypeId} {l L:List (Nat×Value)} {v:Value} (h:evBuild P G t l st=some (v,st')) (Z:RelP G φ l L):st'=st∧CalmOk P G φ (Instr.build t L.toArray) v:=by
 unfold evBuild at h
 split at h
 ·rename_i I z U N
  obtain ⟨i,E,K,D⟩:=zeroB_ok N
  split at h
  ·rename_i g
   split at h
   ·rename_i cells y
    cases h
    obtain ⟨J,S,hrel⟩:=fill_ok Z (Rel.free (φ:=φ) D).cells.1 y
    refine ⟨rfl,.agg J,by simpa using Rel.aggL hrel,fun W=> ?_⟩
    have B: ∀(l:List Field),(l.all fun f=>(sizeB P f.type).isSome)=true→(l.mapM fun f=>(do pure (f.offset,←sizeOf f.type):Sem (Nat×Nat))).run P W= .ok (l.map fun f=>(f.offset,(sizeB P f.type).getD 0)) W:=by
     intro l
     induction l with
     |nil=>intro _;rfl
     |cons f l ih=>
      intro g
      simp only [List.all_cons,Bool.and_eq_true] at g
      obtain ⟨n,M⟩:=Option.isSome_iff_exists.1 g.1
      simp only [List.mapM_cons,Sem.run_bind,run_sizeOf M,Sem.run_pure,Result.andThen_ok,ih g.2,List.map_cons,M,Option.getD_some]
    have hp:=B I.toList (by simpa using g)
    have T:(I.mapM fun f=>(do pure (f.offset,←sizeOf f.type):Sem (Nat×Nat))).run P W= .ok (I.map fun f=>(f.offset,(sizeB P f.type).getD 0)) W:=by
     rw [Array.mapM_eq_mapM_toList]
     rw [Sem.run_map,hp]
     simp only [Result.andThen_ok]
     congr 1
     apply Array.ext'
     simp
    have Q:(fun k=>(I.map fun f=>(f.offset,(sizeB P f.type).getD 0))[k]?)=placeB P I:=by
     funext k
     unfold placeB
     rw [Array.getElem?_map]
     cases hk:I[k]? with
     |none=>rfl
     |some f=>
      have hm:f∈I:=Array.mem_of_getElem? hk
      have:=Array.all_eq_true_iff_forall_mem.1 g f hm
      obtain ⟨n,M⟩:=Option.isSome_iff_exists.1 this
      simp [M]
    have X:(zeroValue t).run P W= .ok z W:=by simp [zeroValue,typeInfo,E,K]
    simp only [Instr.build,Sem.run_bind,X,Result.andThen_ok,run_underlying U,T]
    rw [Q,S]
    rfl
   ·cases h
  ·cases h
 ·rename_i n e z U N
  obtain ⟨i,E,K,D⟩:=zeroB_ok N
  split at h
  ·rename_i n M
   obtain ⟨j,O,Y⟩:=sizeB_ok M
   split at h
   ·rename_i cells y
    cases h
    obtain ⟨J,S,hrel⟩:=fill_ok Z (Rel.free (φ:=φ) D).cells.1 y
    refine ⟨rfl,.agg J,by simpa using Rel.aggL hrel,fun W=> ?_⟩
    simp [Instr.build,zeroValue,typeInfo,E,K,run_underlying U,sizeOf,O,Y,S]
   ·cases h
  ·cases h
 ·cases h
theorem evPart_ok {t:TypeId} {cs:List Value} {Cs:Array Value} {off:Nat} {v:Value} (h:evPart P t cs off st=some (v,st')) (J:RelL G φ cs Cs.toList):st'=st∧CalmOk P G φ (part t Cs off) v:=by
 unfold evPart at h
 split at h
 ·rename_i n E I
  obtain ⟨j,y,D⟩:=sizeB_ok I
  split at h
  ·rename_i l B
   cases h
   obtain ⟨M,rfl,hrel⟩:=J.slc B
   refine ⟨rfl,_,Rel.aggL hrel,fun W=> ?_⟩
   simp only [part,Sem.run_bind,isAggB_ok E,Result.andThen_ok,if_true,sizeOf,typeInfo]
   simp only [run_program,Result.andThen_ok,y,D,Sem.run_pure]
   congr 2
   apply Array.ext'
   simp
  ·cases h
 ·rename_i E I
  split at h
  ·rename_i T B
   cases h
   obtain ⟨M,S,hrel⟩:=J.slc B
   obtain ⟨V,Q,N,O,L⟩:=hrel.cons_inv
   refine ⟨rfl,V,O,fun W=> ?_⟩
   have g:Cs[off]? =some V:=by
    have:(Cs.toList.drop off).take 1=V::Q:=N
    have K:((Cs.toList.drop off).take 1)[0]? =some V:=by rw [this];rfl
    rw [List.getElem?_take,if_pos (by omega),List.getElem?_drop] at K
    simpa using K
   simp [part,isAggB_ok E,g]
  ·cases h
 ·cases h
theorem evField_ok {t:TypeId} {x X v:Value} {f:Nat} (h:evField P t x f st=some (v,st')) (B:Rel G φ x X):st'=st∧CalmOk P G φ (Instr.field t X f) v:=by
 unfold evField at h
 split at h
 ·rename_i K cs J
  split at h
  ·rename_i L y
   obtain ⟨Cs,rfl,E⟩:=B.agg_inv
   obtain ⟨D,V,I,g⟩:=evPart_ok h E
   refine ⟨D,V,I,fun W=> ?_⟩
   simp [Instr.field,run_underlying J,y,asAgg,g]
  ·cases h
 ·cases h
theorem evIndex_ok {t:TypeId} {x X S O v:Value} (h:evIndex P t x S st=some (v,st')) (Q:Rel G φ x X) (B:Rel G φ S O):st'=st∧CalmOk P G φ (Instr.index t X O) v:=by
 unfold evIndex at h
 split at h
 ·rename_i s i M L
  obtain ⟨k,rfl⟩:=natOf_rel L B
  split at h
  ·rename_i b Y
   cases h
   rw [Q.string]
   refine ⟨rfl,_,.free (d:=0) rfl,fun W=> ?_⟩
   have I:s[i]? =some b:=by
    obtain ⟨E,h2⟩:=List.getElem?_eq_some_iff.1 Y
    have T:i<s.size:=by simpa using E
    rw [getElem?_pos s i T]
    congr 1
   simp [Instr.index,asIntOf,run_underlying M,I]
  ·cases h
 ·rename_i J e cs i M L
  obtain ⟨k,rfl⟩:=natOf_rel L B
  split at h
  ·rename_i n y U
   obtain ⟨j,K,N⟩:=sizeB_ok U
   obtain ⟨Cs,rfl,Z⟩:=Q.agg_inv
   obtain ⟨E,V,hV,g⟩:=evPart_ok h Z
   have y:=blt_ok y
   refine ⟨E,V,hV,fun W=> ?_⟩
   have D:(0:Int)≤(i:Int)∧(i:Int)<(J:Int):=⟨by omega,by omega⟩
   simp only [Instr.index,asIntOf,run_underlying M,Sem.run_bind,Sem.run_pure,Result.andThen_ok,D,and_self,if_true,sizeOf,typeInfo,run_program,K,N,Int.toNat_natCast]
   exact g W
  ·cases h
 ·cases h
end
end

section
open Go Go.RowKit
section
variable {P:Program} {G:Nat} {φ:Phi} {st st':St}
theorem run_pureRun {g:Type}: ∀{s:Sem g} {a:g},pureRun P s=some a→ ∀W,s.run P W= .ok a W:=by
 intro s
 induction s with
 |pure x=>intro a h W;simp only [pureRun] at h;cases h;rfl
 |program k y=>intro a h W;simp only [pureRun] at h;exact y P h W
 |_=>intro a h W;simp [pureRun] at h
theorem evPure_ok (B:Above G φ) {args Args:List Value} {s:List Value→Sem Value} {v:Value} (h:evPure P G args (s args) st=some (v,st')) (E:RelL G φ args Args):st'=st∧CalmOk P G φ (s Args) v:=by
 unfold evPure at h
 split at h
 ·rename_i y
  split at h
  ·rename_i I g
   split at h
   ·rename_i D
    cases h
    rw [E.eq_of_pf B y]
    exact ⟨rfl,v,.free D,run_pureRun g⟩
   ·cases h
  ·cases h
 ·cases h
theorem evIface_ok {t:TypeId} {x X v:Value} (h:evIface P t x st=some (v,st')) (y:Rel G φ x X):st'=st∧CalmOk P G φ (Instr.makeInterface t X) v:=by
 unfold evIface at h
 split at h
 ·cases h
 ·rename_i d g B
  cases h
  refine ⟨rfl,_,.iface y,fun W=> ?_⟩
  simp only [Instr.makeInterface,Sem.run_bind,run_underlying B,Result.andThen_ok]
  cases d<;>first|rfl|exact absurd rfl (g _)
 ·cases h
theorem evPick_ok {c C a A b B v:Value} (h:evPick c a b st=some (v,st')) (g:Rel G φ c C) (D:Rel G φ a A) (y:Rel G φ b B):
  st'=st∧CalmOk P G φ (do pure (if ←asBool C then A else B)) v:=by
 unfold evPick at h
 split at h
 ·cases h;rw [g.bool];exact ⟨rfl,A,D,fun W=>by simp [asBool]⟩
 ·cases h;rw [g.bool];exact ⟨rfl,B,y,fun W=>by simp [asBool]⟩
 ·cases h
theorem evExtract_ok {t T v:Value} {i:Nat} (h:evExtract t i st=some (v,st')) (B:Rel G φ t T):st'=st∧CalmOk P G φ (Instr.extract T i) v:=by
 unfold evExtract at h
 split at h
 ·rename_i vs
  split at h
  ·rename_i J E
   cases h
   obtain ⟨y,rfl,D⟩:=B.tuple_inv
   obtain ⟨V,I,g⟩:=D.get E
   refine ⟨rfl,V,g,fun W=> ?_⟩
   have:y[i]? =some V:=by simpa using I
   simp [Instr.extract,this]
  ·cases h
 ·cases h
theorem evNil_ok {x X v:Value} (h:evNil x st=some (v,st')) (g:Rel G φ x X):st'=st∧v=x∧
  ((∃a,X= .pointer (some a))∨(∃t u,X= .iface t u)∨ ∃f F C,X= .func (.func f) F C):=by
 unfold evNil at h
 split at h
 ·cases h
  rcases g.ptr_inv with ⟨_,rfl⟩|⟨_,_,_,_,rfl⟩
  ·exact ⟨rfl,rfl,.inl ⟨_,rfl⟩⟩
  ·exact ⟨rfl,rfl,.inl ⟨_,rfl⟩⟩
 ·cases h
  obtain ⟨U,rfl,_⟩:=g.iface_inv
  exact ⟨rfl,rfl,.inr (.inl ⟨_,_,rfl⟩)⟩
 ·cases h
  obtain ⟨F,C,rfl,_⟩:=g.func_inv
  exact ⟨rfl,rfl,.inr (.inr ⟨_,_,_,rfl⟩)⟩
 ·cases h
theorem holdsB_rel {ok:Bool} {v V:Value} (h:Rel G φ v V):Rel G φ (holdsB ok v) (holdsB ok V):=by
 cases ok
 ·exact h
 ·exact Rel.tupleL (.cons h (.cons (.free (d:=0) rfl) .nil))
theorem evAssert_ok {x X v:Value} {Z g:TypeId} {ok:Bool} (h:evAssert P G x g ok st=some (v,st')) (J:Rel G φ x X):st'=st∧CalmOk P G φ (Instr.typeAssert X Z g ok) v:=by
 have y: ∀z,zeroB P G g=some z→Rel G φ (.tuple #[z,.bool false]) (.tuple #[z,.bool false])∧ ∀W,(zeroValue g).run P W= .ok z W:=by
  intro z E
  obtain ⟨i,N,Q,K⟩:=zeroB_ok E
  exact ⟨Rel.tupleL (l:=[z,.bool false]) (L:=[z,.bool false]) (.cons (.free K) (.cons (.free (d:=0) rfl) .nil)),fun W=>by simp [zeroValue,typeInfo,N,Q]⟩
 unfold evAssert at h
 split at h
 ·rename_i T t u D
  split at h
  ·rename_i i hi
   split at h
   ·rename_i Y
    cases h
    obtain ⟨U,rfl,S⟩:=J.iface_inv
    refine ⟨rfl,_,holdsB_rel J,fun W=> ?_⟩
    cases ok<;>simp [Instr.typeAssert,run_underlying D,typeInfo,hi,Y,holdsB]
   ·cases h
  ·cases h
 ·cases h
 ·rename_i d t u I D
  obtain ⟨U,rfl,S⟩:=J.iface_inv
  split at h
  ·rename_i B
   cases h
   have B:=Nat.eq_of_beq_eq_true B
   subst B
   refine ⟨rfl,_,holdsB_rel S,fun W=> ?_⟩
   simp only [Instr.typeAssert,Sem.run_bind,run_underlying D,Result.andThen_ok]
   cases d<;>first|(cases ok<;>simp [holdsB])|exact absurd rfl (I _)
  ·rename_i B
   have B:t≠g:=Nat.ne_of_beq_eq_false B
   split at h
   ·rename_i z E
    cases h
    obtain ⟨M,O⟩:=y z E
    refine ⟨rfl,_,M,fun W=> ?_⟩
    simp only [Instr.typeAssert,Sem.run_bind,run_underlying D,Result.andThen_ok]
    cases d<;>first|simp [B,O]|exact absurd rfl (I _)
   ·cases h
 ·rename_i d I D
  rw [J.nilI]
  split at h
  ·rename_i z E
   cases h
   obtain ⟨M,O⟩:=y z E
   refine ⟨rfl,_,M,fun W=> ?_⟩
   simp only [Instr.typeAssert,Sem.run_bind,run_underlying D,Result.andThen_ok]
   cases d<;>first|simp [O]|exact absurd rfl (I _)
  ·cases h
 ·cases h
theorem evLen_ok {t ty:TypeId} {ts:Array TypeId} {x X v:Value} (y:ts[0]? =some t) (h:evLen P t x st=some (v,st')) (B:Rel G φ x X):st'=st∧CalmOk P G φ (Builtin.len_ ts ty #[X]) v:=by
 unfold evLen at h
 split at h
 ·rename_i g;cases h;rw [B.string]
  exact ⟨rfl,_,.free (d:=0) rfl,fun W=>by simp [Builtin.len_,y,run_underlying g]⟩
 ·rename_i g;cases h
  refine ⟨rfl,_,.free (d:=0) rfl,fun W=> ?_⟩
  rename_i a n c
  cases a with
  |none=>rw [B.slice_nil];simp [Builtin.len_,y,run_underlying g]
  |some a=>
   obtain ⟨r,I,_,_,D⟩:=B.slice_inv
   rcases D with ⟨E,_,rfl⟩|⟨E,_,rfl⟩<;>simp [Builtin.len_,y,run_underlying g]
 ·rename_i g;cases h
  refine ⟨rfl,_,.free (d:=0) rfl,fun W=> ?_⟩
  obtain ⟨p,c,rfl⟩:=B.ghost
  simp [Builtin.len_,y,run_underlying g]
 ·rename_i g;cases h
  exact ⟨rfl,_,.free (d:=0) rfl,fun W=>by simp [Builtin.len_,y,run_underlying g]⟩
 ·cases h
theorem run_sliceData {ts:Array TypeId} {ty:TypeId} (a:Addr) (n c:Nat) (h:c≠0) (W:World):(Builtin.unsafeSliceData_ ts ty #[.slice (some a) n c]).run P W= .ok (.pointer (some a)) W:=by
 have e:Builtin.unsafeSliceData_ ts ty #[.slice (some a) n c]=(if c≠0 then pure (.pointer (some a)) else do
  if (←viewAt a.block).isSome then pure (.pointer (some a))
  else pure (.pointer (some ⟨←newObj (.view a (←elemOf ty)),0,none⟩))):=rfl
 rw [e,if_pos h]
 rfl
theorem evSliceData_ok {ts:Array TypeId} {ty:TypeId} {x X v:Value} (h:evSliceData x st=some (v,st')) (g:Rel G φ x X):st'=st∧CalmOk P G φ (Builtin.unsafeSliceData_ ts ty #[X]) v:=by
 unfold evSliceData at h
 split at h
 ·cases h;rw [g.slice_nil]
  exact ⟨rfl,_,.free (d:=0) rfl,fun W=>rfl⟩
 ·rename_i a n cap
  split at h
  ·rename_i y
   cases h
   have y:=Nat.le_of_ble_eq_true y
   obtain ⟨r,M,J,I,K⟩:=g.slice_inv
   obtain ⟨N,E,B⟩:=a
   cases J
   refine ⟨rfl,.pointer (some ⟨r,E,none⟩),.ptr I,fun W=> ?_⟩
   rcases K with ⟨L,D,rfl⟩|⟨L,D,rfl⟩
   ·exact run_sliceData _ _ _ (by omega) W
   ·exact run_sliceData _ _ _ (by omega) W
  ·cases h
 ·cases h
theorem run_eqGuard_out {op:BinOp} {t:TypeId} {x y:Operand} {A B:Value} (g: ¬(A= .nilIface∧B= .nilIface)) (h: ∀c d,¬(A= .agg c∧B= .agg d)) (W:World):(eqGuard op t x y A B).run P W= .ok () W:=by
 unfold eqGuard
 split
 ·simp only [Bool.not_true,Bool.false_eq_true,if_false]
  cases A<;>cases B<;>first|rfl|exact absurd ⟨rfl,rfl⟩ g|exact absurd ⟨rfl,rfl⟩ (h _ _)
 ·simp only [Bool.not_true,Bool.false_eq_true,if_false]
  cases A<;>cases B<;>first|rfl|exact absurd ⟨rfl,rfl⟩ g|exact absurd ⟨rfl,rfl⟩ (h _ _)
 ·simp
theorem run_binOp_eq {t:TypeId} {A B:Value} {r:Bool} (E: ∀k n,A≠ .int k n) (D: ∀k n,A≠ .float k n) (g: ∀k n m,A≠ .complex k n m) (y: ∀s,A≠ .string s)
  (h: ∀d W,(Op.equalIn (d+1) t A B).run P W= .ok r W) (W:World):
  (binOp .eql t A B).run P W= .ok (.bool r) W∧(binOp .neq t A B).run P W= .ok (.bool (!r)) W:=by
 have e: ∀W,(Op.equal t A B).run P W= .ok r W:=fun W=>h 9999 W
 constructor
 ·cases A<;>first|exact absurd rfl (E _ _)|exact absurd rfl (D _ _)|exact absurd rfl (g _ _ _)|exact absurd rfl (y _)|simp [binOp,e]
 ·cases A<;>first|exact absurd rfl (E _ _)|exact absurd rfl (D _ _)|exact absurd rfl (g _ _ _)|exact absurd rfl (y _)|simp [binOp,e]
end
end

section
open Go Go.RowKit
section
variable {P:Program} {G:Nat} {φ:Phi} {st st':St}
def EqOk (P:Program) (t:TypeId) (A B:Value) (r:Bool):Prop:=
 (∀n W,(Op.equalIn (n+1) t A B).run P W= .ok r W)∧(∀k n,A≠ .int k n)∧(∀k n,A≠ .float k n)∧(∀k n m,A≠ .complex k n m)∧(∀s,A≠ .string s)∧
   ¬(A= .nilIface∧B= .nilIface)∧(∀c d,¬(A= .agg c∧B= .agg d))
theorem nilEq_ok {t:TypeId} {a A b B:Value} {s:Bool} {d:TypeDesc} (E:Rel G φ a A) (D:Rel G φ b B) (g:nilEq a b=some s) (y:P.underlying t=some d) (h:eqKind d a=true):s=false∧EqOk P t A B false:=by
 unfold nilEq at g
 split at g
 ·cases g
  cases D.ptr_nil
  rcases E.ptr_inv with ⟨_,rfl⟩|⟨_,_,_,_,rfl⟩<;>
  ·cases d<;>simp [eqKind] at h
   exact ⟨rfl,fun n W=>by simp [Op.equalIn,run_underlying y],by simp,by simp,by simp,by simp,by simp,by simp⟩
 ·cases g
  cases E.ptr_nil
  rcases D.ptr_inv with ⟨_,rfl⟩|⟨_,_,_,_,rfl⟩<;>
  ·cases d<;>simp [eqKind] at h
   exact ⟨rfl,fun n W=>by simp [Op.equalIn,run_underlying y],by simp,by simp,by simp,by simp,by simp,by simp⟩
 ·cases g
  cases D.slice_nil
  obtain ⟨_,_,_,_,I⟩:=E.slice_inv
  rcases I with ⟨_,_,rfl⟩|⟨_,_,rfl⟩<;>
  ·cases d<;>simp [eqKind] at h
   exact ⟨rfl,fun n W=>by simp [Op.equalIn,run_underlying y],by simp,by simp,by simp,by simp,by simp,by simp⟩
 ·cases g
  cases E.slice_nil
  obtain ⟨_,_,_,_,I⟩:=D.slice_inv
  rcases I with ⟨_,_,rfl⟩|⟨_,_,rfl⟩<;>
  ·cases d<;>simp [eqKind] at h
   exact ⟨rfl,fun n W=>by simp [Op.equalIn,run_underlying y],by simp,by simp,by simp,by simp,by simp,by simp⟩
 ·cases g
  cases D.nilI
  obtain ⟨_,rfl,_⟩:=E.iface_inv
  cases d<;>simp [eqKind] at h
  exact ⟨rfl,fun n W=>by simp [Op.equalIn,run_underlying y],by simp,by simp,by simp,by simp,by simp,by simp⟩
 ·cases g
  cases E.nilI
  obtain ⟨_,rfl,_⟩:=D.iface_inv
  cases d<;>simp [eqKind] at h
  exact ⟨rfl,fun n W=>by simp [Op.equalIn,run_underlying y],by simp,by simp,by simp,by simp,by simp,by simp⟩
 ·cases g
  cases D.map_nil
  obtain ⟨_,_,_,rfl⟩:=E.map_inv
  cases d<;>simp [eqKind] at h
  exact ⟨rfl,fun n W=>by simp [Op.equalIn,run_underlying y],by simp,by simp,by simp,by simp,by simp,by simp⟩
 ·cases g
  cases E.map_nil
  obtain ⟨_,_,_,rfl⟩:=D.map_inv
  cases d<;>simp [eqKind] at h
  exact ⟨rfl,fun n W=>by simp [Op.equalIn,run_underlying y],by simp,by simp,by simp,by simp,by simp,by simp⟩
 ·cases g
  cases D.nilF
  obtain ⟨_,_,rfl,_⟩:=E.func_inv
  cases d<;>simp [eqKind] at h
  exact ⟨rfl,fun n W=>by simp [Op.equalIn,run_underlying y],by simp,by simp,by simp,by simp,by simp,by simp⟩
 ·cases g
  cases E.nilF
  obtain ⟨_,_,rfl,_⟩:=D.func_inv
  cases d<;>simp [eqKind] at h
  exact ⟨rfl,fun n W=>by simp [Op.equalIn,run_underlying y],by simp,by simp,by simp,by simp,by simp,by simp⟩
 ·cases g
theorem eqB_ok (N:Above G φ) {t:TypeId} {a A b B:Value} {r:Bool} (h:eqB P t a b=some r) (Q:Rel G φ a A) (O:Rel G φ b B):EqOk P t A B r:=by
 unfold eqB at h
 split at h
 ·rename_i r' d M L
  split at h
  ·rename_i T
   cases h
   obtain ⟨rfl,g⟩:=nilEq_ok Q O M L T
   exact g
  ·cases h
 ·rename_i e M L
  split at h
  ·rename_i D o1 b2 o2 n E
   split at h
   ·rename_i J
    cases h
    rw [Bool.and_eq_true] at J
    have X:=Nat.eq_of_beq_eq_true J.1
    have Z:=Nat.eq_of_beq_eq_true J.2
    subst X;subst Z
    obtain ⟨j,I,qa⟩:=sizeB_ok E
    have S:j.size≠0:=by omega
    have: ∃K,A= .pointer (some K)∧B= .pointer (some K):=by
     rcases Q.ptr_inv with ⟨g,rfl⟩|⟨r1,U,_,g,rfl⟩<;>rcases O.ptr_inv with ⟨y,rfl⟩|⟨r2,Y,_,y,rfl⟩
     ·exact ⟨_,rfl,rfl⟩
     ·have:=N _ _ y;change D<G at g;change G≤D at this;omega
     ·have:=N _ _ g;change D<G at y;change G≤D at this;omega
     ·rw [g] at y;cases y;exact ⟨_,rfl,rfl⟩
    obtain ⟨K,rfl,rfl⟩:=this
    exact ⟨fun d W=>by simp [Op.equalIn,run_underlying L,sizeOf,typeInfo,I,run_sameAddr_same],by simp,by simp,by simp,by simp,by simp,by simp⟩
   ·cases h
  ·cases h
 ·cases h
theorem evEq_ok (N:Above G φ) {op:BinOp} {t:TypeId} {x y:Operand} {a A b B:Value} {r:Bool} (h:evEq P op t a b=some r) (Q:Rel G φ a A) (O:Rel G φ b B):
  CalmOk P G φ (do eqGuard op t x y A B;binOp op t A B) (.bool r):=by
 refine ⟨.bool r,.free (d:=0) rfl,fun W=> ?_⟩
 unfold evEq at h
 split at h
 ·rename_i S M
  cases h
  obtain ⟨E,I,g,D,J,L,K⟩:=eqB_ok N M Q O
  simp only [Sem.run_bind,run_eqGuard_out L K,Result.andThen_ok]
  exact (run_binOp_eq I g D J E W).1
 ·rename_i S M
  cases h
  obtain ⟨E,I,g,D,J,L,K⟩:=eqB_ok N M Q O
  simp only [Sem.run_bind,run_eqGuard_out L K,Result.andThen_ok]
  exact (run_binOp_eq I g D J E W).2
 ·cases h
theorem evBin_ok (D:Above G φ) {op:BinOp} {t:TypeId} {x y:Operand} {a A b B v:Value} (h:evBin P G op t x y a b st=some (v,st')) (I:Rel G φ a A) (E:Rel G φ b B):
  st'=st∧CalmOk P G φ (do eqGuard op t x y A B;binOp op t A B) v:=by
 unfold evBin at h
 split at h
 ·rename_i g
  rw [Bool.and_eq_true] at g
  split at h
  ·rename_i M L
   split at h
   ·rename_i J
    cases h
    rw [I.eq_of_pf D 6 g.1,E.eq_of_pf D 6 g.2]
    exact ⟨rfl,v,.free J,run_pureRun L⟩
   ·cases h
  ·cases h
 ·split at h
  ·rename_i r K
   cases h
   exact ⟨rfl,evEq_ok D K I E⟩
  ·cases h
end
end

section
open Go Go.RowKit
section
variable {P:Program} {G base:Nat} {φ:Phi} {st st':St} {W:World}
theorem zerosB_free {z:Value} (h:pf G 6 z=true) (n:Nat) (E:z.cells.size≠0):RelL G φ (zerosB z n).toList (zerosB z n).toList:=by
 have B:=(Rel.free (φ:=φ) h).cells.1
 refine ⟨rfl,fun i D=> ?_⟩
 have y:i<n:=by simpa [zerosB] using D
 have g:i % z.cells.size<z.cells.size:=Nat.mod_lt _ (by omega)
 have:=B.2 (i % z.cells.size) (by simpa using g)
 have e:(zerosB z n).toList.getD i undef=z.cells.toList.getD (i % z.cells.size) undef:=by
  simp [zerosB,List.getD,y,g]
 rw [e]
 exact this
theorem row_post (E:Inv P G base φ st W) (D:base≤W.heap.size) (h:φ st.next=none) {cs:List Value} {Cs:Array Value} {e:TypeId} (hrel:RelL G φ cs Cs.toList):
  Post P G base φ st W ⟨(st.next,.row cs e false false)::st.heap,st.next+1,st.low⟩ (φ.add st.next (W.heap.size,0)) (W.alloc (.cells Cs e)):=by
 have g:=Phi.add_le (x:=(W.heap.size,0)) h
 have B:=row_new (P:=P) (e:=e) (hrel.mono g) W
 have y:=new_post E D h _ _ 0 rfl rfl rfl rfl B
 simpa only [Array.toArray_toList] using y
theorem evBuildSlice_ok (U:Inv P G base φ st W) (T:base≤W.heap.size) {t:TypeId} {g:Nat} {l L:List (Nat×Value)} {v:Value} (h:evBuildSlice P G t g l st=some (v,st')) (Y:Fresh φ st st') (hl:RelP G φ l L):
  SemOk P G base φ st W (Instr.buildSlice t g L.toArray) v st':=by
 unfold evBuildSlice at h
 split at h
 ·rename_i elem Z
  split at h
  ·rename_i n z O Q
   split at h
   ·rename_i I
    rw [Bool.and_eq_true] at I
    split at h
    ·rename_i cells y
     obtain ⟨rfl,rfl⟩:=put_inv h
     obtain ⟨i,J,M,E⟩:=zeroB_ok Q
     have S:=Nat.le_of_ble_eq_true I.1
     have qa:=blt_ok I.2
     obtain ⟨X,N,hrel⟩:=fill_ok hl (zerosB_free (φ:=φ) E (g*n) (by omega)) y
     refine ⟨_,_,_,?_,row_post U T Y.one hrel,.sliceX (Phi.add_self _ _ _)⟩
     have B:(zeroValue elem).run P W= .ok z W:=by simp [zeroValue,typeInfo,J,M]
     have D: ¬(g*n>2^24):=by omega
     simp only [Instr.buildSlice,Sem.run_bind,run_underlying Z,Result.andThen_ok,run_sizeOf O,D,if_false]
     by_cases K:g*n=0
     ·have e:Array.map (fun x=>(#[]:Array Value)[x % (#[]:Array Value).size]!) (Array.range (g*n))=zerosB z (g*n):=by simp [K,zerosB]
      rw [if_pos K]
      simp only [Sem.run_bind,Sem.run_pure,Result.andThen_ok]
      rw [e,N]
      simp [newRow]
     ·have e:Array.map (fun x=>z.cells[x % z.cells.size]!) (Array.range (g*n))=zerosB z (g*n):=rfl
      rw [if_neg K]
      simp only [Sem.run_bind,Sem.run_pure,Result.andThen_ok,B]
      rw [e,N]
      simp [newRow]
    ·cases h
   ·cases h
  ·cases h
 ·cases h
theorem wrap_small {n:Nat} (h:n≤9223372036854775807):IntKind.i64.wrap (n:Int)=n:=by
 rw [IntKind.wrap_i64]
 omega
theorem evMakeSlice_ok (hi:Inv P G base φ st W) (hb:base≤W.heap.size) {t:TypeId} {l L c C v:Value} (h:evMakeSlice P G t l c st=some (v,st')) (hf:Fresh φ st st') (hl:Rel G φ l L) (hc:Rel G φ c C):
  SemOk P G base φ st W (Instr.makeSlice t L C) v st':=by
 unfold evMakeSlice at h
 split at h
 ·rename_i elem hu
  split at h
  ·rename_i n qb z Q g hn X hz Z J
   split at h
   ·rename_i E
    simp only [Bool.and_eq_true] at E
    obtain ⟨⟨⟨h1,T⟩,h3⟩,h4⟩:=E
    have h1:=Nat.le_of_ble_eq_true h1
    have T:=Nat.le_of_ble_eq_true T
    have h3:=Nat.le_of_ble_eq_true h3
    have h4:=blt_ok h4
    obtain ⟨rfl,rfl⟩:=put_inv h
    obtain ⟨i,y,qa,K⟩:=zeroB_ok hz
    obtain ⟨j,B,qc⟩:=bytesB_ok X
    rw [y] at B
    cases B
    obtain ⟨k1,rfl⟩:=natOf_rel Z hl
    obtain ⟨k2,rfl⟩:=natOf_rel J hc
    refine ⟨_,_,_,?_,row_post hi hb hf.one (zerosB_free (φ:=φ) K (g*n) (by omega)),.sliceX (Phi.add_self _ _ _)⟩
    have w1:=wrap_small (n:=Q) (by omega)
    have w2:=wrap_small (n:=g) (by omega)
    have O:(zeroValue elem).run P W= .ok z W:=by simp [zeroValue,typeInfo,y,qa]
    have M:i.bytes*g≤4096*4096:=Nat.mul_le_mul (by omega) T
    have S: ¬((i.bytes:Int)*(g:Int)>2^48):=by
     have h5:=Int.ofNat_le.2 M
     rw [Int.natCast_mul] at h5
     intro h6
     have h7:=Int.lt_of_lt_of_le h6 h5
     revert h7
     decide
    have N:(typeInfo elem).run P W= .ok i W:=by simp [typeInfo,y]
    have I: ¬((g:Int)<0):=by omega
    have D: ¬((Q:Int)<0):=by omega
    have Y: ¬((Q:Int)>(g:Int)):=by omega
    simp only [Instr.makeSlice,Sem.run_bind,run_underlying hu,Result.andThen_ok,asInt,asIntOf,Sem.run_pure,N,w1,w2,S,I,D,Y,decide_false,Bool.or_self,Bool.false_eq_true,if_false,run_askRoom,run_sizeOf hn,Int.toNat_natCast]
    by_cases U:g*n=0
    ·have e:Array.map (fun x=>(#[]:Array Value)[x % (#[]:Array Value).size]!) (Array.range (g*n))=zerosB z (g*n):=by simp [U,zerosB]
     rw [if_pos U]
     simp only [Sem.run_bind,Sem.run_pure,Result.andThen_ok]
     rw [e]
     simp [newRow]
    ·have e:Array.map (fun x=>z.cells[x % z.cells.size]!) (Array.range (g*n))=zerosB z (g*n):=rfl
     rw [if_neg U]
     simp only [Sem.run_bind,Sem.run_pure,Result.andThen_ok,O]
     rw [e]
     simp [newRow]
   ·cases h
  ·cases h
 ·cases h
theorem evRange_ok (E:Inv P G base φ st W) (D:base≤W.heap.size) {t:TypeId} {x X v:Value} (h:evRange P t x st=some (v,st')) (g:Fresh φ st st') (B:Rel G φ x X):
  SemOk P G base φ st W (Instr.range t X) v st':=by
 unfold evRange at h
 split at h
 ·rename_i s y
  obtain ⟨rfl,rfl⟩:=put_inv h
  rw [B.string]
  refine ⟨_,_,_,?_,new_post E D g.one _ (.stringIter s 0) 0 rfl rfl rfl rfl ?_,.ptr (Phi.add_self _ _ _)⟩
  ·simp [Instr.range,run_underlying y]
  ·show (W.heap.push _)[W.heap.size]? =_
   simp
 ·cases h
theorem set_post (I:Inv P G base φ st W) {b r κ:Nat} {o K:AObj} (X:look st.heap b=some o) (U:φ b=some (r,κ)) {O:Obj} {W':World} (Y:W'.heap=W.heap.setIfInBounds r O)
  (e2:W'.os=W.os) (e3:W'.tape=W.tape) (e4:W'.output=W.output) (ho: ∀V:World,V.heap[r]? =some O→ObjOk P G φ κ K V r):Post P G base φ st W (st.set b K) φ W':=by
 have hd:=I.dom _ _ _ U
 have hw:=I.wf _ _ X
 have Q:W'.heap.size=W.heap.size:=by rw [Y];simp
 have B: ∀k,k≠r→W'.heap[k]? =W.heap[k]? :=fun k hk=>by rw [Y];exact Array.getElem?_setIfInBounds_ne (Ne.symm hk)
 have M:W'.heap[r]? =some O:=by rw [Y];exact Array.getElem?_setIfInBounds_self_of_lt hd.2.2
 have g: ∀c,look (putB st.heap b K) c=if b=c then some K else look st.heap c:=fun c=>by
  rw [look_putB]
  split
  ·rename_i y;subst y;rw [X];rfl
  ·rfl
 refine ⟨.rfl,fun _ _ h=> .inl h,fun b J κ' L N=>(by rw [L] at N;cases N),?_,Nat.le_refl _,Nat.min_le_left _ _,?_,?_,by rw [Q];exact Nat.le_refl _,e2,e3,e4⟩
 ·refine ⟨fun c J κ' h=>by rw [Q];exact I.dom c J κ' h,?_,srt_putB I.srt _ _,?_,?_,I.low⟩
  ·intro c q y
   change look (putB st.heap b K) c=some q at y
   rw [g] at y
   split at y
   ·rename_i e;subst e;exact hw
   ·exact I.wf c q y
  ·intro c q J κ' y E
   change look (putB st.heap b K) c=some q at y
   rw [g] at y
   split at y
   ·rename_i e;subst e;cases y;rw [U] at E;cases E;exact ho W' M
   ·rename_i qb
    exact (I.obj c q J κ' y E).mono .rfl (B J fun e=>qb (by subst e;exact I.inj _ _ _ _ _ _ _ X y U E))
  ·intro c d q q' J κ' l y D L N
   have S: ∀d w,look (putB st.heap b K) d=some w→ ∃w',look st.heap d=some w':=by
    intro d w D
    rw [g] at D
    split at D
    ·rename_i qa;subst qa;exact ⟨_,X⟩
    ·exact ⟨_,D⟩
   obtain ⟨_,x1⟩:=S c q y
   obtain ⟨_,x2⟩:=S d q' D
   exact I.inj _ _ _ _ _ _ _ x1 x2 L N
 ·intro c _ Z
  have L:c<Nat.min st.low b:=Z
  have N:c<b:=Nat.lt_of_lt_of_le L (Nat.min_le_right _ _)
  show look (putB st.heap b K) c=_
  rw [g,if_neg (by omega)]
 ·intro J _ T
  refine B J fun e=> ?_
  subst e
  have L:b<Nat.min st.low b:=T b κ U hw.2
  have N:b<b:=Nat.lt_of_lt_of_le L (Nat.min_le_right _ _)
  omega
theorem evNext_ok (D:Inv P G base φ st W) {it I v:Value} {ty:TypeId} (h:evNext it st=some (v,st')) (M:Rel G φ it I):SemOk P G base φ st W (Instr.next I true ty) v st':=by
 unfold evNext at h
 split at h
 ·rename_i b
  split at h
  ·rename_i s pos E
   rcases M.ptr_inv with ⟨g,_⟩|⟨r,O,_,K,rfl⟩
   ·have:=(D.wf _ _ E).1;change b<G at g;omega
   ·have L:W.heap[r]? =some (.stringIter s pos):=D.obj _ _ _ _ E K
    have J:(getObj r).run P W= .ok (.stringIter s pos) W:=by simp [getObj,Sem.run,L]
    split at h
    ·rename_i g
     have g:=blt_ok g
     split at h
     rename_i c y B
     cases h
     refine ⟨_,φ,{W with heap:=W.heap.setIfInBounds r (.stringIter s (pos+y))},?_,set_post D E K rfl rfl rfl rfl (fun V N=>N),.free (d:=1) rfl⟩
     simp only [Instr.next,Sem.run_bind,J,Result.andThen_ok,g,if_true,B]
     simp [setObj,Sem.run,L]
    ·rename_i g
     cases h
     have g: ¬pos<s.size:=fun h=>by rw [show Nat.blt pos s.size=true from Nat.ble_eq_true_of_le h] at g;cases g
     refine ⟨_,φ,W,?_,Post.refl D,.free (d:=1) rfl⟩
     simp only [Instr.next,Sem.run_bind,J,Result.andThen_ok,g,if_false]
     rfl
  ·cases h
 ·cases h
theorem eqBytes_ok: ∀{l m:List UInt8},eqBytes l m=true↔l=m
 |[],[]=>by simp [eqBytes]
 |[],_::_=>by simp [eqBytes]
 |_::_,[]=>by simp [eqBytes]
 |a::l,b::m=>by
  simp only [eqBytes,Bool.and_eq_true,List.cons.injEq,eqBytes_ok]
  exact ⟨fun h=>⟨UInt8.toNat_inj.1 (Nat.eq_of_beq_eq_true h.1),h.2⟩,fun h=>⟨by rw [h.1];exact Nat.beq_refl _,h.2⟩⟩
theorem eqBytes_beq (a b:ByteArray):(a==b)=eqBytes a.data.toList b.data.toList:=by
 rw [Bool.eq_iff_iff,eqBytes_ok,show (a==b)=(a.data==b.data) from rfl,beq_iff_eq]
 exact ⟨fun h=>congrArg _ h,fun h=>Array.ext' h⟩
theorem self_beq (s:ByteArray):(s==s)=true:=by rw [eqBytes_beq];exact eqBytes_ok.2 rfl
theorem keyIx_ok {s:ByteArray}: ∀{E:List MapEntry} {o:Option Nat} (i:Nat),keyIx s (E.map (·.key))=some o→
  (o=none→Instr.findNow .string (.string s) E i=some none)∧
  (∀j,o=some j→ ∃e,E[j]? =some e∧e.key= .string s∧Instr.findNow .string (.string s) E i=some (some (i+j,e.val)))
 |[],o,i,h=>by cases h;exact ⟨fun _=>rfl,fun j h=>(by cases h)⟩
 |e::E,o,i,h=>by
  obtain ⟨k,v,n⟩:=e
  cases k with
  |string t=>
   simp only [List.map_cons,keyIx] at h
   cases g:eqBytes s.data.toList t.data.toList with
   |true=>
    rw [g] at h
    cases h
    have L:t=s:=by have:=eqBytes_ok.1 g;obtain ⟨⟨_⟩⟩:=s;obtain ⟨⟨_⟩⟩:=t;cases this;rfl
    subst L
    refine ⟨fun h=>(by cases h),fun j h=> ?_⟩
    cases h
    exact ⟨_,rfl,rfl,by simp [Instr.findNow,Instr.sameNow,self_beq]⟩
   |false=>
    rw [g] at h
    have B:(s==t)=false:=by rw [eqBytes_beq,g]
    have J:Instr.findNow .string (.string s) (⟨.string t,v,n⟩::E) i=Instr.findNow .string (.string s) E (i+1):=by simp [Instr.findNow,Instr.sameNow,B]
    rw [J]
    cases y:keyIx s (E.map (·.key)) with
    |none=>rw [y] at h;cases h
    |some q=>
     have D:=keyIx_ok (E:=E) (i+1) y
     rw [y] at h
     cases q with
     |none=>cases h;exact ⟨fun _=>D.1 rfl,fun j h=>(by cases h)⟩
     |some q=>
      cases h
      refine ⟨fun h=>(by cases h),fun j h=> ?_⟩
      cases h
      obtain ⟨e,I,M,K⟩:=D.2 q rfl
      exact ⟨e,I,M,by rw [K];congr 3;omega⟩
  |_=>simp [keyIx] at h
theorem mapOf_ok (J:Inv P G base φ st W) {x X:Value} {ks vs:List Value} (h:mapOf st.heap x=some (ks,vs)) (g:Rel G φ x X):
  (X= .map none∧ks=[]∧vs=[])∨ ∃r E c,X= .map (some r)∧(getObj r).run P W= .ok (.map E c) W∧E.toList.map (·.key)=ks∧RelL G φ vs (E.toList.map (·.val)):=by
 unfold mapOf at h
 split at h
 ·cases h;exact .inl ⟨g.map_nil,rfl,rfl⟩
 ·split at h
  ·rename_i D
   cases h
   obtain ⟨r,L,B,rfl⟩:=g.map_inv
   obtain ⟨E,c,I,K,y⟩:=J.obj _ _ _ _ D B
   exact .inr ⟨r,E,c,rfl,by simp [getObj,Sem.run,I],K,y⟩
  ·cases h
 ·cases h
theorem check_str (n:Nat) {b:Bool} {k:TypeId} {s:ByteArray} (g:P.underlying k=some .string):(Instr.checkKey b (n+1) k (.string s)).run P W= .ok () W:=by
 simp [Instr.checkKey,run_underlying g]
theorem map_new {g:Phi} (W1:World):ObjOk P G g 0 (.map [] []) (W1.alloc (.map #[] 0)) W1.heap.size:=by
 refine ⟨#[],0,?_,rfl,RelL.nil⟩
 show (W1.heap.push _)[W1.heap.size]? =_
 simp
theorem evMakeMap_ok (D:Inv P G base φ st W) (B:base≤W.heap.size) {t:TypeId} {r R:Option Value} {v:Value} (h:evMakeMap P t r st=some (v,st')) (y:Fresh φ st st') (g:RelO G φ r R):
  SemOk P G base φ st W (Instr.makeMap t R) v st':=by
 unfold evMakeMap at h
 split at h
 ·obtain ⟨rfl,rfl⟩:=put_inv h
  rw [g.2 rfl]
  refine ⟨_,_,_,?_,new_post D B y.one _ (.map #[] 0) 0 rfl rfl rfl rfl (map_new W),.map (Phi.add_self _ _ _)⟩
  simp [Instr.makeMap]
 ·rename_i E
  obtain ⟨rfl,rfl⟩:=put_inv h
  obtain ⟨V,rfl,I⟩:=g.1 _ rfl
  rw [I.int]
  refine ⟨_,_,_,?_,new_post D B y.one _ (.map #[] 0) 0 rfl rfl rfl rfl (map_new W),.map (Phi.add_self _ _ _)⟩
  have e: ∀k n,(asInt (.int k n)).run P W= .ok n W:=fun _ _=>rfl
  simp [Instr.makeMap,run_underlying E,e]
 ·cases h
theorem hasB_ok {v V:Value} (h:Rel G φ v V) (ok b:Bool):Rel G φ (hasB ok v b) (if ok then .tuple #[V,.bool b] else V):=by
 cases ok
 ·exact h
 ·exact Rel.tupleL (.cons h (.cons (.free (d:=0) rfl) .nil))
theorem evLookup_ok (hi:Inv P G base φ st W) {t:TypeId} {x X Z U v:Value} {ok:Bool} (h:evLookup P G t x Z ok st=some (v,st')) (hx:Rel G φ x X) (O:Rel G φ Z U):
  st'=st∧ ∃V,Rel G φ v V∧(Instr.lookup t X U ok).run P W= .ok V W:=by
 unfold evLookup at h
 split at h
 ·rename_i k e s S
  rw [O.string]
  split at h
  ·rename_i z ks vs J hz hm
   obtain ⟨i,M,T,L⟩:=zeroB_ok hz
   have g: ∀b,(Instr.checkKey b 10000 k (.string s)).run P W= .ok () W:=fun b=>check_str 9999 J
   have I:(zeroValue e).run P W= .ok z W:=by simp [zeroValue,typeInfo,M,T]
   have key: ∃E:List MapEntry,((X= .map none∧E=[])∨ ∃r K c,X= .map (some r)∧(getObj r).run P W= .ok (.map K c) W∧E=K.toList)∧E.map (·.key)=ks∧RelL G φ vs (E.map (·.val)):=by
    rcases mapOf_ok hi hm hx with ⟨rfl,rfl,rfl⟩|⟨r,E,c,rfl,B,h2,Q⟩
    ·exact ⟨[],.inl ⟨rfl,rfl⟩,rfl,.nil⟩
    ·exact ⟨E.toList,.inr ⟨r,E,c,rfl,B,rfl⟩,h2,Q⟩
   obtain ⟨E,hE,rfl,N⟩:=key
   have run: ∀r:Option (Nat×Value),Instr.findNow .string (.string s) E 0=some r→(Instr.lookup t X (.string s) ok).run P W= .ok (if ok then .tuple #[(r.map (·.2)).getD z,.bool r.isSome] else (r.map (·.2)).getD z) W:=by
    intro r D
    rcases hE with ⟨rfl,rfl⟩|⟨r',K,c,rfl,B,rfl⟩
    ·cases r with
     |none=>cases ok<;>simp [Instr.lookup,run_underlying S,g,Instr.findKey,run_underlying J,D,I]
     |some x=>simp [Instr.findNow] at D
    ·cases r with
     |none=>cases ok<;>simp [Instr.lookup,run_underlying S,B,g,Instr.findKey,run_underlying J,D,I]
     |some x=>cases ok<;>simp [Instr.lookup,run_underlying S,B,g,Instr.findKey,run_underlying J,D]
   split at h
   ·rename_i y
    cases h
    have D:=(keyIx_ok 0 y).1 rfl
    refine ⟨rfl,_,hasB_ok (.free (φ:=φ) L) ok false,?_⟩
    rw [run _ D];rfl
   ·rename_i j y
    split at h
    ·rename_i v' hv
     cases h
     obtain ⟨e',B,_,Q⟩:=(keyIx_ok 0 y).2 j rfl
     obtain ⟨V,Y,hrel⟩:=N.get hv
     have:V=e'.val:=by rw [List.getElem?_map,B] at Y;exact (Option.some.inj Y).symm
     subst this
     refine ⟨rfl,_,hasB_ok hrel ok true,?_⟩
     rw [run _ Q];rfl
    ·cases h
   ·cases h
  ·cases h
 ·cases h
theorem evMapUpdate_ok (N:Inv P G base φ st W) {t:TypeId} {m M k K x X v:Value} (h:evMapUpdate P t m k x st=some (v,st')) (hm:Rel G φ m M) (hk:Rel G φ k K) (S:Rel G φ x X):
  v=undef∧ ∃W',(Instr.mapUpdate t M K X).run P W= .ok () W'∧Post P G base φ st W st' φ W':=by
 unfold evMapUpdate at h
 split at h
 ·rename_i kt e b s Z
  rw [hk.string]
  split at h
  ·rename_i ks vs B Q
   obtain ⟨r,κ,L,rfl⟩:=hm.map_inv
   obtain ⟨E,c,J,rfl,Y⟩:=N.obj _ _ _ _ Q L
   have T:(getObj r).run P W= .ok (.map E c) W:=by simp [getObj,Sem.run,J]
   have I:(Instr.checkKey false 10000 kt (.string s)).run P W= .ok () W:=check_str 9999 B
   split at h
   ·rename_i D
    cases h
    have hf:=(keyIx_ok 0 D).1 rfl
    refine ⟨rfl,{W with heap:=W.heap.setIfInBounds r (.map (E.push ⟨.string s,X,c⟩) (c+1))},?_,set_post N Q L rfl rfl rfl rfl fun V O=>⟨_,_,O,by simp,by simpa using Y.append (.cons S .nil)⟩⟩
    simp [Instr.mapUpdate,run_underlying Z,T,I,Instr.findKey,run_underlying B,hf,setObj,Sem.run,J]
   ·rename_i j D
    cases h
    obtain ⟨e',h4,U,h6⟩:=(keyIx_ok 0 D).2 j rfl
    have y:E[j]? =some e':=by simpa using h4
    refine ⟨rfl,{W with heap:=W.heap.setIfInBounds r (.map (E.modify j fun e=>{e with key:= .string s,val:=X}) c)},?_,set_post N Q L rfl rfl rfl rfl fun V O=>⟨_,_,O,?_,?_⟩⟩
    ·simp [Instr.mapUpdate,run_underlying Z,T,I,Instr.findKey,run_underlying B,h6,setObj,Sem.run,J,y,U,Instr.keyThatStays,Instr.sameBits,self_beq]
    ·apply List.ext_getElem?
     intro i
     simp only [Array.toList_modify,List.getElem?_map,List.getElem?_modify]
     by_cases g:j=i
     ·subst g;simp [y,U]
     ·simp [g]
    ·have e2:(E.modify j fun e=>{e with key:= .string s,val:=X}).toList.map (·.val)=(E.toList.map (·.val)).set j X:=by
      apply List.ext_getElem?
      intro i
      simp only [Array.toList_modify,List.getElem?_map,List.getElem?_modify,List.getElem?_set]
      by_cases g:j=i
      ·subst g
       have hj:j<E.size:=by have:=(Array.getElem?_eq_some_iff.1 y).1;exact this
       simp [hj]
      ·simp [g]
     rw [e2]
     exact Y.set S j
   ·cases h
  ·cases h
 ·cases h
theorem evLenA_ok (K:Inv P G base φ st W) {t ty:TypeId} {ts:Array TypeId} {x X v:Value} (g:ts[0]? =some t) (h:evLenA P t x st=some (v,st')) (D:Rel G φ x X):
  st'=st∧ ∃V,Rel G φ v V∧(Builtin.len_ ts ty #[X]).run P W= .ok V W:=by
 unfold evLenA at h
 split at h
 ·rename_i I
  split at h
  ·rename_i ks vs J
   cases h
   refine ⟨rfl,_,.free (d:=0) rfl,?_⟩
   rcases mapOf_ok K J D with ⟨rfl,rfl,rfl⟩|⟨r,E,c,rfl,y,rfl,B⟩
   ·simp [Builtin.len_,g,run_underlying I]
   ·simp [Builtin.len_,g,run_underlying I,y]
  ·cases h
 ·obtain ⟨y,V,L,B⟩:=evLen_ok (ty:=ty) g h D
  exact ⟨y,V,L,B W⟩
end
end

section
open Go Go.RowKit
section
variable {P:Program} {G base:Nat} {φ:Phi} {st st':St} {W:World}
theorem valBytes_ok: ∀{l:List Value} {m:List UInt8},valBytes l=some m→l=m.map fun b=> .int .u8 (b.toNat:Int)
 |[],m,h=>by simp only [valBytes] at h;cases h;rfl
 |v::l,m,h=>by
  simp only [valBytes] at h
  split at h
  ·rename_i b E y D
   cases h
   have B:v= .int .u8 (b.toNat:Int):=by
    unfold valByte at y
    split at y
    ·rename_i n
     split at y
     ·rename_i g
      have g:=blt_ok g
      cases y
      simp [Nat.mod_eq_of_lt g]
     ·cases y
    ·cases y
   rw [B,valBytes_ok D]
   rfl
  ·cases h
theorem bytes_free (m:List UInt8):(m.map fun b=>Value.int .u8 (b.toNat:Int)).all (pf G 0)=true:=by
 rw [List.all_eq_true]
 intro x g
 obtain ⟨b,_,rfl⟩:=List.mem_map.1 g
 rfl
theorem byteVals_eq (s:ByteArray):byteVals s=s.data.toList.map fun b=> .int .u8 (b.toNat:Int):=rfl
theorem byteVals_free (s:ByteArray):RelL G φ (byteVals s) (byteVals s):=RelL.of_free (d:=0) (bytes_free _)
theorem byteVals_len (s:ByteArray):(byteVals s).length=s.size:=by simp [byteVals]
theorem evToString_ok (O:Inv P G base φ st W) {y dst e:TypeId} (hs:P.underlying y=some (.slice e)) (Z:P.underlying e=some (.int .u8)) (Q:P.underlying dst=some .string)
  {a:Addr} {n c:Nat} {X v:Value} (h:evToString a n st=some (v,st')) (S:Rel G φ (.slice (some a) n c) X):st'=st∧ ∃V,Rel G φ v V∧(convert y dst X).run P W= .ok V W:=by
 unfold evToString at h
 split at h
 ·rename_i l hl
  split at h
  ·rename_i m hm
   cases h
   obtain ⟨r,κ,_,U,Y⟩:=S.slice_inv
   obtain ⟨L,T,N,_,E,_⟩:=load_ok O hl U
   have M:=valBytes_ok hm
   have J:L=l:=by
    subst M
    exact T.eq_of_pf (fun b x e=>O.above b x e) (bytes_free m)
   subst J
   refine ⟨rfl,_,.free (d:=0) rfl,?_⟩
   have D:(loadCells ⟨r,a.off,none⟩ n).run P W= .ok ((m.map fun b=>(b.toNat:Int)).map (Value.int .u8)).toArray W:=by
    rw [E,M,List.map_map];rfl
   have B: ∀(m:List UInt8) (g:ByteArray),(m.map fun b=>(b.toNat:Int)).foldl (fun r n=>r.push (UInt8.ofNat n.toNat)) g=⟨g.data++m.toArray⟩:=by
    intro m
    induction m with
    |nil=>intro g;simp
    |cons b m ih=>
     intro g
     simp only [List.map_cons,List.foldl_cons]
     rw [ih]
     apply ByteArray.ext
     simp [ByteArray.push]
   have K:=B m ByteArray.empty
   have I:(⟨ByteArray.empty.data++m.toArray⟩:ByteArray)=⟨m.toArray⟩:=by apply ByteArray.ext;simp
   rw [I] at K
   rcases Y with ⟨c',_,rfl⟩|⟨c',_,rfl⟩<;>
    rw [run_convert_bytes_string W y dst e _ _ _ hs Z Q,run_bytesToString W _ _ _ _ D,K]
  ·cases h
 ·cases h
theorem evToBytes_ok (X:Inv P G base φ st W) (S:base≤W.heap.size) {y dst e:TypeId} (Y:P.underlying y=some .string) (U:P.underlying e=some (.int .u8)) (N:P.underlying dst=some (.slice e))
  {s:ByteArray} {v:Value} (h:evToBytes P e s st=some (v,st')) (T:Fresh φ st st'):SemOk P G base φ st W (convert y dst (.string s)) v st':=by
 unfold evToBytes at h
 split at h
 ·rename_i E M
  obtain ⟨rfl,rfl⟩:=put_inv h
  let c:=grownCap W s.size 0 e
  have hc:s.size≤c:=grownCap_ge W s.size 0 e
  let C:Array Value:=(s.data.map fun b=>Value.int .u8 (b.toNat:Int))++Array.replicate (c - s.size) (.int .u8 0)
  have I:C.size=c:=by simp [C];omega
  refine ⟨.slice (some ⟨W.heap.size,0,none⟩) s.size c,_,W.drew.alloc (.cells C e (C.size,C.size+1)),?_,new_post (W1:=W.drew) X S T.one _ _ (c - s.size) rfl rfl rfl rfl ?_,?_⟩
  ·have O:(convert y dst (.string s)).run P W=(Conv.stringToBytes e s).run P W:=by
    simp [convert,run_underlying Y,run_underlying N,run_underlying U]
   rw [O]
   have B:(choose (.appendCap s.size 0 e)).run P W= .ok c W.drew:=by simp [choose,Sem.run,Question.forced,c,grownCap]
   simp only [Conv.stringToBytes,Sem.run_bind,B,Result.andThen_ok,newRow,run_newObj,Sem.run_pure,markStringish,run_shape]
   have g:World.shape? {W.drew with heap:=W.drew.heap.push (.cells C e)} W.heap.size=some (e,C.size):=by
    show (match (W.heap.push (Obj.cells C e))[W.heap.size]? with|some (.cells c elem _)=>some (elem,c.size)|_=>none)=_
    simp
   have D:W.drew.heap.size=W.heap.size:=rfl
   rw [D]
   change (Sem.run P (do
    let some (_,n) ←(pure (World.shape? {W.drew with heap:=W.drew.heap.push (.cells C e)} W.heap.size):Sem _)|pure ()
    freeze {block:=W.heap.size,off:=n} 1) {W.drew with heap:=W.drew.heap.push (.cells C e)}).andThen _=_
   rw [g]
   simp only [Sem.run_bind,Sem.run_pure,Result.andThen_ok,run_freeze]
   congr 1
   simp only [World.freeze,World.alloc]
   rw [if_neg (by decide)]
   congr 1
   have J: ∀(h:Array Obj) (f:Obj→Obj) (o:Obj),(h.push o).modify h.size f=h.push (f o):=by
    intro h f o
    apply Array.ext
    ·simp
    ·intro k Q L
     simp only [Array.getElem_modify,Array.getElem_push]
     by_cases K:h.size=k
     ·subst K;simp
     ·have:k<h.size:=by simp at Q;omega
      simp [K,this]
   have:=J W.heap
   change (W.heap.push _).modify W.heap.size _=W.heap.push _
   rw [this]
   simp
  ·refine ⟨C,(C.size,C.size+1),1,?_,?_,.inr E,?_,by simp,fun _ i qa=>by simp;omega⟩
   ·show (W.heap.push _)[W.heap.size]? =_
    simp
   ·rw [byteVals_len]
    have:C.toList.take s.size=byteVals s:=by
     have Z:(byteVals s).length=s.size:=byteVals_len s
     simp only [C,Array.toList_append,Array.toList_map]
     rw [←Z]
     exact List.take_left
    rw [this]
    exact byteVals_free s
   ·rw [I,byteVals_len];omega
  ·have:c=s.size+(c - s.size):=by omega
   rw [this]
   have L:=Rel.sliceE (G:=G) (φ:=φ.add st.next (W.heap.size,c - s.size)) (o:=0) (n:=s.size) (c:=s.size) (Phi.add_self φ st.next (W.heap.size,c - s.size))
   rw [show s.size+(c - s.size) - s.size=c - s.size by omega]
   exact L
 ·cases h
theorem liesB_ok (E:Inv P G base φ st W) {b o:Nat} {u:TypeId} (h:liesB P st.heap ⟨b,o,none⟩ u=true) {r D:Nat} (I:φ b=some (r,D)):
  ∃e cells,W.shape? r=some (e,cells)∧liesAt P P.depth e (cells/P.cellsOf e) o u 1=true∧o<cells:=by
 unfold liesB at h
 split at h
 ·rename_i cs e fz L
  rw [Bool.and_eq_true] at h
  obtain ⟨C,O,s,B,N,M,y,K,Q⟩:=E.obj _ _ _ _ L I
  have J:=K rfl
  subst J
  have g:C.size=cs.length:=by simpa using y
  exact ⟨e,C.size,by simp [World.shape?,B],by rw [g];exact h.1,by rw [g];exact blt_ok h.2⟩
 ·cases h
theorem own_of_lies (g:Inv P G base φ st W) {a:Addr} {u:TypeId} (h:liesB P st.heap a u=true):G≤a.block:=by
 unfold liesB at h
 split at h
 ·rename_i y;exact (g.wf _ _ y).1
 ·cases h
theorem evConvert_ok (y:Inv P G base φ st W) (hb:base≤W.heap.size) {g dst:TypeId} {x X v:Value} (h:evConvert P G g dst x st=some (v,st')) (hf:Fresh φ st st') (D:Rel G φ x X):
  SemOk P G base φ st W (convert g dst X) v st':=by
 have E: ∀x X,Rel G φ x X→evPure P G [x] (convert g dst x) st=some (v,st')→SemOk P G base φ st W (convert g dst X) v st':=by
  intro x X D h
  have h':evPure P G [x] (convert g dst ([x].getD 0 undef)) st=some (v,st'):=h
  obtain ⟨rfl,V,T,B⟩:=evPure_ok (args:=[x]) (Args:=[X]) (s:=fun l=>convert g dst (l.getD 0 undef)) (fun b x e=>y.above b x e) h' (.cons D .nil)
  exact ⟨V,φ,W,B W,Post.refl y,T⟩
 unfold evConvert at h
 split at h
 ·rename_i e s K I
  split at h
  ·rename_i S;rw [D.string];exact evToBytes_ok y hb K S I h hf
  ·cases h
 ·rename_i e a n c K I
  split at h
  ·rename_i S
   obtain ⟨rfl,V,T,B⟩:=evToString_ok y K S I h D
   exact ⟨V,φ,W,B,Post.refl y,T⟩
  ·cases h
 ·rename_i t b o K I
  split at h
  ·rename_i n N M
   cases h
   obtain ⟨j,J,U⟩:=sizeB_ok N
   rcases D.ptr_inv with ⟨L,_⟩|⟨r,κ,_,Q,rfl⟩
   ·have:=own_of_lies y M;change b<G at L;change G≤b at this;omega
   ·obtain ⟨e,cells,O,Z,Y⟩:=liesB_ok y M Q
    exact ⟨_,φ,W,Lib.run_to_unsafe W _ K I J (by omega) O Y,Post.refl y,D⟩
  ·cases h
 ·rename_i u b o K I
  split at h
  ·rename_i n N M
   cases h
   obtain ⟨j,J,U⟩:=sizeB_ok N
   rcases D.ptr_inv with ⟨L,_⟩|⟨r,κ,_,Q,rfl⟩
   ·have:=own_of_lies y M;change b<G at L;change G≤b at this;omega
   ·obtain ⟨e,cells,O,Z,Y⟩:=liesB_ok y M Q
    exact ⟨_,φ,W,Lib.run_from_unsafe W _ K I J O Z,Post.refl y,D⟩
  ·cases h
 ·exact E _ _ D h
theorem evUnsafeString_ok (J:Inv P G base φ st W) {M it ty:TypeId} {p X n N v:Value} (h:evUnsafeString P M p n st=some (v,st')) (T:Rel G φ p X) (hn:Rel G φ n N):
  SemOk P G base φ st W (Builtin.unsafeString_ #[M,it] ty #[X,N]) v st':=by
 unfold evUnsafeString at h
 split at h
 ·rename_i a k e hu
  split at h
  ·rename_i cs e' ext fz hl U hc
   rw [Bool.and_eq_true] at hc
   have y:=Nat.eq_of_beq_eq_true hc.1
   have hk:=Nat.le_of_ble_eq_true hc.2
   split at h
   ·rename_i l he qa qf
    split at h
    ·rename_i m hm
     cases h
     have he:=Nat.eq_of_beq_eq_true he
     subst he
     obtain ⟨j,Z,qd⟩:=sizeB_ok U
     rcases T.ptr_inv with ⟨L,_⟩|⟨r,κ,_,hr,rfl⟩
     ·have:=(J.wf _ _ hl).1;omega
     ·obtain ⟨C,S,s,Q,h2,h3,h4,h5,h6⟩:=J.obj _ _ _ _ hl hr
      obtain ⟨hb,el,hrel⟩:=h2.slc qa
      have E:=valBytes_ok hm
      have D:m.length=k+1:=by
       have:l.length=k+1:=by rw [el];simp;omega
       rw [E] at this;simpa using this
      have qb:((C.toList.take cs.length).drop 0).take (k+1)=l:=by
       have hh:=hrel
       rw [E] at hh ⊢
       exact hh.eq_of_pf (fun b x e=>J.above b x e) (bytes_free m)
      have B: ∀j x,m[j]? =some x→W.cell? ((⟨r,0,none⟩:Addr).add j)=some (.int .u8 x.toNat):=by
       intro j x hj
       have g:l[j]? =some (.int .u8 (x.toNat:Int)):=by rw [E];simp [hj]
       rw [←qb,List.getElem?_take] at g
       split at g
       ·rw [List.drop_zero,List.getElem?_take] at g
        split at g
        ·rw [addr_add,Nat.zero_add]
         simp only [World.cell?,Q]
         simpa using g
        ·cases g
       ·cases g
      have qc:P.cellsOf e=1:=by simp [Program.cellsOf,Z,qd]
      have K:=Lib.run_unsafeString_row (P:=P) W M it ty e hu qc r C.size (by simp [World.shape?,Q]) m (by intro h0;rw [h0] at D;simp at D) (by omega) (by omega) B
      rw [hn.int]
      have hN:((k+1:Nat):Int)=(m.length:Int):=by rw [D]
      obtain ⟨ab,ao,qe⟩:=a
      change ao=0 at y
      subst y
      have Y:(Int.ofNat (k+1))=((k+1:Nat):Int):=rfl
      rw [Y,hN]
      refine ⟨_,φ,_,K,set_post (W':=W.freeze ⟨r,0,none⟩ m.length) (O:= .cells C e (if S.1==S.2 then (0,0+m.length) else (min S.1 0,max S.2 (0+m.length)))) J hl hr ?_ ?_ ?_ ?_ ?_,.free (d:=0) rfl⟩
      ·simp only [World.freeze,if_neg (show ¬m.length=0 by omega)]
       obtain ⟨L,hv⟩:=Array.getElem?_eq_some_iff.1 Q
       apply Array.ext_getElem?
       intro i
       by_cases I:r=i
       ·subst I
        rw [Array.getElem?_modify,if_pos rfl,Q,Array.getElem?_setIfInBounds_self_of_lt L]
        rfl
       ·rw [Array.getElem?_modify,if_neg I,Array.getElem?_setIfInBounds_ne I]
      ·unfold World.freeze;split<;>rfl
      ·unfold World.freeze;split<;>rfl
      ·unfold World.freeze;split<;>rfl
      ·intro V hV
       exact ⟨C,_,s,hV,h2,h3,h4,h5,fun h=>by cases h⟩
    ·cases h
   ·cases h
  ·cases h
 ·rw [hn.int]
  rename_i o
  have: ∃q,X= .pointer q:=by
   cases o with
   |none=>exact ⟨_,T.ptr_nil⟩
   |some a=>rcases T.ptr_inv with ⟨_,rfl⟩|⟨_,_,_,_,rfl⟩<;>exact ⟨_,rfl⟩
  obtain ⟨q,rfl⟩:=this
  cases h
  exact ⟨_,φ,W,Lib.run_unsafeString_none W M it ty q,Post.refl J,.free (d:=0) rfl⟩
 ·cases h
end
end
end Go.Proofs.YtpmaemedpcgjaaaGreatDoor.Ev
