/-
  What the law DotsOnce leans on, and its walk (1 of 33).
-/
import Derived.Test.YtppgdppmheiocaaGreatDoorChecked
import Derived.WalkKit
import Derived.WalkLawsBesides
import Derived.BigQuiet
import Derived.Deep.QuietTactic
import Derived.Lib.Hide
import Derived.Lib.OthersKept
import Derived.Lib.RuneBytes
import Derived.Test.YtppgdppmheiocaaGreatDoorShelf
import Derived.OpenShut
import Derived.Lib.ConvBytes
import Derived.WalkSpells
import Derived.Lib.Join
namespace Go.Proofs.YtppgdppmheiocaaGreatDoor
set_option maxRecDepth 100000
set_option maxHeartbeats 16000000
section
section
open Go.RowKit
theorem zhM {w w':World} {B:Nat} {t:TypeId} {v:Value} {n:Nat} {xs:List Value} (h:w.ownsRow B t 1 v n xs) (hb:Below w.heap.size w w'):w'.ownsRow B t 1 v n xs:=by
 refine ⟨h.1,?_⟩
 rcases h.2 with h2|⟨g,cap,cur,h1,h2,h3,h4⟩
 ·exact .inl h2
 ·exact .inr ⟨g,cap,cur,h1,h2,(hb.block g (Array.getElem?_eq_some_iff.1 h3).1).trans h3,h4⟩
theorem Tryz.infoStr:(Tryz.prog.info? 9).map (fun i=>(i.zero,i.size,i.bytes))=some (some (.string ⟨#[]⟩),1,16):=by kernel_rfl
def hasB (l:List UInt8) (c:UInt8):Bool:=l.any (· ==c)
def zaJ (p:UInt8→Bool) (st:List (List UInt8)×List UInt8) (c:UInt8):List (List UInt8)×List UInt8:=
 if p c then (st.1++[st.2],[]) else (st.1,st.2++[c])
def spl (p:UInt8→Bool) (l:List UInt8):List (List UInt8)×List UInt8:=l.foldl (zaJ p) ([],[])
def splitB (p:UInt8→Bool) (l:List UInt8):List (List UInt8):=(spl p l).1++[(spl p l).2]
def strC (l:List UInt8):Value:= .string ⟨l.toArray⟩
def zbB (l:List (List UInt8)):List Value:=l.map strC
def zaO (B:Nat) (w:World) (v:Value) (ps:List (List UInt8)):Prop:=w.ownsRow B 9 1 v ps.length (zbB ps)
theorem zaO.nil (B:Nat) (w:World):zaO B w (.slice none 0 0) []:=World.ownsRow_nil _ _ _ _
theorem zaO.snoc {B:Nat} {w:World} {v:Value} {ps:List (List UInt8)} {x:ByteArray} {l:List UInt8} (h:w.ownsRow B 9 1 v (ps.length+1) (zbB ps++[.string x])) (hx:x=⟨l.toArray⟩):zaO B w v (ps++[l]):=by
 unfold zaO zbB
 rw [List.map_append,List.length_append]
 subst hx
 exact h
theorem zcQ (l:List UInt8):(ByteArray.mk l.toArray).size=l.length:=by simp [ByteArray.size]
/-! ### parts,put together again -/
def bas (ps:List (List UInt8)):List ByteArray:=ps.map fun l=>⟨l.toArray⟩
theorem ziY (ps:List (List UInt8)) (j:Nat) (h:j<ps.length):(bas ps).getD j ByteArray.empty=⟨(ps.getD j []).toArray⟩:=by
 simp [bas,List.getD,List.getElem?_eq_getElem h]
theorem zaO.below {B:Nat} {w w':World} {v:Value} {ps:List (List UInt8)} (h:zaO B w v ps) (hb:Below w.heap.size w w'):zaO B w' v ps:=zhM h hb
theorem zcB (p:UInt8→Bool) (l:List UInt8):(splitB p l).length≤l.length+1:=by
 have key: ∀(l:List UInt8) (st:List (List UInt8)×List UInt8),(l.foldl (zaJ p) st).1.length≤st.1.length+l.length:=by
  intro l
  induction l with
  |nil=>intro st;simp
  |cons c l ih=>
   intro st
   rw [List.foldl_cons]
   have:=ih (zaJ p st c)
   have h2:(zaJ p st c).1.length≤st.1.length+1:=by unfold zaJ;split<;>simp
   simp;omega
 have:=key l ([],[])
 simp [splitB,spl] at this ⊢
 omega
/-! ### a second time -/
end
end
end Go.Proofs.YtppgdppmheiocaaGreatDoor
