/-
  What the law DotsGo leans on, and its walk (12 of 33).
-/
import Derived.Below
namespace Go.Proofs.YtppgdppmheiocaaGreatDoor
set_option maxRecDepth 100000
set_option maxHeartbeats 16000000
section
open Go.RowKit
def segD:List UInt8→List UInt8
 |[]=>[]
 |c::l=>if c=47 then [] else c::segD l
theorem zfF (l:List UInt8):(segD l).length≤l.length:=by
 induction l with
 |nil=>exact Nat.le_refl _
 |cons c l ih=>unfold segD;split<;>simp<;>omega
def zbN (p:List UInt8) (out:List (List UInt8)):List UInt8×List (List UInt8):=
 match p with
 |[46]=>([],out)
 |[46,46]=>([],out)
 |46::46::47::r=>(r,out)
 |46::47::r=>(r,out)
 |[47,46]=>([47],out)
 |[47,46,46]=>([47],out.dropLast)
 |47::46::47::r=>(47::r,out)
 |47::46::46::47::r=>(47::r,out.dropLast)
 |c::l=>(l.drop (segD l).length,out++[c::segD l])
 |[]=>([],out)
theorem zfE (p:List UInt8) (out:List (List UInt8)) (h:p≠[]):(zbN p out).1.length<p.length:=by
 unfold zbN
 split<;>first|(exact absurd rfl h)|(simp;done)|(simp<;>omega)
def remD (p:List UInt8) (out:List (List UInt8)):List (List UInt8):=
 if _h:p=[] then out else remD (zbN p out).1 (zbN p out).2
termination_by p.length
decreasing_by exact zfE p out _h
def zaH (p:List UInt8):List UInt8:=(remD p []).flatten
theorem zcT (out:List (List UInt8)):remD [] out=out:=by rw [remD,dif_pos rfl]
theorem zdI {p:List UInt8} (out:List (List UInt8)) (h:p≠[]):remD p out=remD (zbN p out).1 (zbN p out).2:=by rw [remD,dif_neg h]
/-! ### by steps -/
theorem zcZ (out:List (List UInt8)):out.dropLast.flatten.length≤out.flatten.length:=by
 rcases List.eq_nil_or_concat out with rfl|⟨q,x,rfl⟩
 ·exact Nat.le_refl _
 ·rw [List.concat_eq_append];simp
theorem zjS (p:List UInt8) (out:List (List UInt8)):(zbN p out).1.length+(zbN p out).2.flatten.length≤p.length+out.flatten.length:=by
 have hd:=zcZ out
 unfold zbN
 split
 all_goals first
  |(rename_i c l _ _ _ _ _ _ _ _
    have:=zfF l
    simp only [List.length_drop,List.flatten_append,List.length_append,List.flatten_cons,List.flatten_nil,List.length_cons,List.length_nil]
    omega)
  |(simp only [List.length_cons,List.length_nil];omega)
theorem zhQ (p:List UInt8) (out:List (List UInt8)):(remD p out).flatten.length≤p.length+out.flatten.length:=by
 by_cases h:p=[]
 ·subst h;rw [zcT];simp
 ·rw [zdI out h]
  exact Nat.le_trans (zhQ _ _) (zjS p out)
termination_by p.length
decreasing_by exact zfE p out h
theorem zbC (p:List UInt8):(zaH p).length≤p.length:=by
 have:=zhQ p []
 simpa [zaH] using this
end
end Go.Proofs.YtppgdppmheiocaaGreatDoor
