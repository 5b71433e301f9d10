/-
  What the law ResolveParts leans on, and its walk (1 of 42).
-/
import Derived.Test.YtmjappnpedjlnaaGreatDoorChecked
import Derived.WalkKit
import Derived.WalkLawsBesides
import Derived.BigQuiet
import Derived.Deep.QuietTactic
import Derived.Lib.Hide
import Derived.Lib.OthersKept
import Derived.Lib.RuneBytes
import Derived.Test.YtmjappnpedjlnaaGreatDoorShelf
import Derived.OpenShut
import Derived.Lib.ConvBytes
import Derived.WalkSpells
import Derived.Lib.Join
namespace Go.Proofs.YtmjappnpedjlnaaGreatDoor
set_option maxRecDepth 100000
set_option maxHeartbeats 16000000
section
section
open Go.RowKit
theorem zgF {a b:Bool} (h:a=b):Ending.returned (.bool a)= .returned (.bool b):=by rw [h]
theorem zkX (w:World) (u:Value) (t:TypeId): ∀j x,[u][j]? =some x→(w.alloc (.cells #[u] t)).cell? ((⟨w.heap.size,0,none⟩:Addr).add j)=some x:=by
 intro j x hj
 match j,hj with
 |0,hj=>simp at hj;subst hj;simp [Addr.add]
theorem ziO {w w':World} {B:Nat} {t:TypeId} {v:Value} {n:Nat} {xs:List Value} (h:w.ownsRow B t 1 v n xs) (hb:Below w.heap.size w w'):w'.ownsRow B t 1 v n xs:=by
 refine ⟨h.1,?_⟩
 rcases h.2 with h2|⟨g,cap,cur,h1,h2,h3,h4⟩
 ·exact .inl h2
 ·exact .inr ⟨g,cap,cur,h1,h2,(hb.block g (Array.getElem?_eq_some_iff.1 h3).1).trans h3,h4⟩
theorem zhK (x y:List UInt8):(ByteArray.mk x.toArray++ByteArray.mk y.toArray)=ByteArray.mk (x++y).toArray:=ByteArray.mk_append_mk x y
theorem zhI (s:ByteArray):s.data.toList.length=s.size:=by simp
theorem Tryz.infoStr:(Tryz.prog.info? 9).map (fun i=>(i.zero,i.size,i.bytes))=some (some (.string ⟨#[]⟩),1,16):=by kernel_rfl
def hasB (l:List UInt8) (c:UInt8):Bool:=l.any (· ==c)
def strC (l:List UInt8):Value:= .string ⟨l.toArray⟩
def zcM (l:List (List UInt8)):List Value:=l.map strC
def zaX (B:Nat) (w:World) (v:Value) (ps:List (List UInt8)):Prop:=w.ownsRow B 9 1 v ps.length (zcM ps)
theorem zaX.nil (B:Nat) (w:World):zaX B w (.slice none 0 0) []:=World.ownsRow_nil _ _ _ _
theorem zaX.snoc {B:Nat} {w:World} {v:Value} {ps:List (List UInt8)} {x:ByteArray} {l:List UInt8} (h:w.ownsRow B 9 1 v (ps.length+1) (zcM ps++[.string x])) (hx:x=⟨l.toArray⟩):zaX B w v (ps++[l]):=by
 unfold zaX zcM
 rw [List.map_append,List.length_append]
 subst hx
 exact h
theorem zaF (l:List UInt8):(ByteArray.mk l.toArray).size=l.length:=by simp [ByteArray.size]
/-! ### parts,put together again -/
def bas (ps:List (List UInt8)):List ByteArray:=ps.map fun l=>⟨l.toArray⟩
theorem zkI (ps:List (List UInt8)) (j:Nat) (h:j<ps.length):(bas ps).getD j ByteArray.empty=⟨(ps.getD j []).toArray⟩:=by
 simp [bas,List.getD,List.getElem?_eq_getElem h]
theorem zaX.below {B:Nat} {w w':World} {v:Value} {ps:List (List UInt8)} (h:zaX B w v ps) (hb:Below w.heap.size w w'):zaX B w' v ps:=ziO h hb
/-! ### a second time -/
end
end
end Go.Proofs.YtmjappnpedjlnaaGreatDoor
