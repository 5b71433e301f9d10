/-
  What the law ResolveParts leans on, and its walk (12 of 42).
-/
import Derived.Below
namespace Go.Proofs.YtmjappnpedjlnaaGreatDoor
set_option maxRecDepth 100000
set_option maxHeartbeats 16000000
section
open Go.RowKit
structure PZ where
 scheme:List UInt8
 hasS:Bool
 user:List UInt8
 hasU:Bool
 host:List UInt8
 hasA:Bool
 port:List UInt8
 hasP:Bool
 path:List UInt8
 query:List UInt8
 hasQ:Bool
 frag:List UInt8
 hasF:Bool
 deriving DecidableEq
def zaD:PZ:=⟨[],false,[],false,[],false,[],false,[],[],false,[],false⟩
def segD:List UInt8→List UInt8
 |[]=>[]
 |c::l=>if c=47 then [] else c::segD l
theorem zfX (l:List UInt8):(segD l).length≤l.length:=by
 induction l with
 |nil=>exact Nat.le_refl _
 |cons c l ih=>unfold segD;split<;>simp<;>omega
def zcG (p:List UInt8) (out:List (List UInt8)):List UInt8×List (List UInt8):=
 match p with
 |[46]=>([],out)
 |[46,46]=>([],out)
 |46::46::47::r=>(r,out)
 |46::47::r=>(r,out)
 |[47,46]=>([47],out)
 |[47,46,46]=>([47],out.dropLast)
 |47::46::47::r=>(47::r,out)
 |47::46::46::47::r=>(47::r,out.dropLast)
 |c::l=>(l.drop (segD l).length,out++[c::segD l])
 |[]=>([],out)
theorem zfC (p:List UInt8) (out:List (List UInt8)) (h:p≠[]):(zcG p out).1.length<p.length:=by
 unfold zcG
 split<;>first|(exact absurd rfl h)|(simp;done)|(simp<;>omega)
def remD (p:List UInt8) (out:List (List UInt8)):List (List UInt8):=
 if _h:p=[] then out else remD (zcG p out).1 (zcG p out).2
termination_by p.length
decreasing_by exact zfC p out _h
def zaG (p:List UInt8):List UInt8:=(remD p []).flatten
theorem zdE (out:List (List UInt8)):remD [] out=out:=by rw [remD,dif_pos rfl]
theorem zeJ {p:List UInt8} (out:List (List UInt8)) (h:p≠[]):remD p out=remD (zcG p out).1 (zcG p out).2:=by rw [remD,dif_neg h]
/-! ### by steps -/
theorem zdN (out:List (List UInt8)):out.dropLast.flatten.length≤out.flatten.length:=by
 rcases List.eq_nil_or_concat out with rfl|⟨q,x,rfl⟩
 ·exact Nat.le_refl _
 ·rw [List.concat_eq_append];simp
theorem zkE (p:List UInt8) (out:List (List UInt8)):(zcG p out).1.length+(zcG p out).2.flatten.length≤p.length+out.flatten.length:=by
 have hd:=zdN out
 unfold zcG
 split
 all_goals first
  |(rename_i c l _ _ _ _ _ _ _ _
    have:=zfX l
    simp only [List.length_drop,List.flatten_append,List.length_append,List.flatten_cons,List.flatten_nil,List.length_cons,List.length_nil]
    omega)
  |(simp only [List.length_cons,List.length_nil];omega)
theorem zhH (p:List UInt8) (out:List (List UInt8)):(remD p out).flatten.length≤p.length+out.flatten.length:=by
 by_cases h:p=[]
 ·subst h;rw [zdE];simp
 ·rw [zeJ out h]
  exact Nat.le_trans (zhH _ _) (zkE p out)
termination_by p.length
decreasing_by exact zfC p out h
theorem zbV (p:List UInt8):(zaG p).length≤p.length:=by
 have:=zhH p []
 simpa [zaG] using this
end
end Go.Proofs.YtmjappnpedjlnaaGreatDoor
