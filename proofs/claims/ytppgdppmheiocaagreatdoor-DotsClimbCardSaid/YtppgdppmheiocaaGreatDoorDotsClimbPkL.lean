/-
  What the law DotsClimb leans on, and its walk (12 of 33).
-/
import Derived.Below
namespace Go.Proofs.YtppgdppmheiocaaGreatDoor
set_option maxRecDepth 100000
set_option maxHeartbeats 16000000
section
open Go.RowKit
def segD:List UInt8→List UInt8
 |[]=>[]
 |c::l=>if c=47 then [] else c::segD l
theorem zeT (l:List UInt8):(segD l).length≤l.length:=by
 induction l with
 |nil=>exact Nat.le_refl _
 |cons c l ih=>unfold segD;split<;>simp<;>omega
def zbE (p:List UInt8) (out:List (List UInt8)):List UInt8×List (List UInt8):=
 match p with
 |[46]=>([],out)
 |[46,46]=>([],out)
 |46::46::47::r=>(r,out)
 |46::47::r=>(r,out)
 |[47,46]=>([47],out)
 |[47,46,46]=>([47],out.dropLast)
 |47::46::47::r=>(47::r,out)
 |47::46::46::47::r=>(47::r,out.dropLast)
 |c::l=>(l.drop (segD l).length,out++[c::segD l])
 |[]=>([],out)
theorem zeK (p:List UInt8) (out:List (List UInt8)) (h:p≠[]):(zbE p out).1.length<p.length:=by
 unfold zbE
 split<;>first|(exact absurd rfl h)|(simp;done)|(simp<;>omega)
def remD (p:List UInt8) (out:List (List UInt8)):List (List UInt8):=
 if _h:p=[] then out else remD (zbE p out).1 (zbE p out).2
termination_by p.length
decreasing_by exact zeK p out _h
def zaK (p:List UInt8):List UInt8:=(remD p []).flatten
theorem zbG (out:List (List UInt8)):remD [] out=out:=by rw [remD,dif_pos rfl]
theorem zaI {p:List UInt8} (out:List (List UInt8)) (h:p≠[]):remD p out=remD (zbE p out).1 (zbE p out).2:=by rw [remD,dif_neg h]
/-! ### by steps -/
def goD:List (List UInt8)→List (List UInt8)→List (List UInt8)
 |[],out=>out
 |[s],out=>if s=[46] then out++[[47]] else if s=[46,46] then out.dropLast++[[47]] else out++[47::s]
 |s::t::r,out=>if s=[46] then goD (t::r) out else if s=[46,46] then goD (t::r) out.dropLast else goD (t::r) (out++[47::s])
def zaH:List (List UInt8)→List UInt8
 |[]=>[]
 |s::r=>47::s++zaH r
def zbF (s:List UInt8):Prop:= ∀c∈s,c≠47
theorem zcH: ∀{s:List UInt8} (r:List (List UInt8)),zbF s→segD (s++zaH r)=s
 |[],[],_=>rfl
 |[],_::_,_=>by simp [zaH,segD]
 |c::s,r,h=>by
  have hc:c≠47:=h c (by simp)
  show (if c=47 then [] else c::segD (s++zaH r))=_
  rw [if_neg hc,zcH r fun d hd=>h d (by simp [hd])]
theorem zcU {s:List UInt8} (r:List (List UInt8)) (out:List (List UInt8)) (h:zbF s) (h1:s≠[46]) (h2:s≠[46,46]):zbE (47::(s++zaH r)) out=(zaH r,out++[47::s]):=by
 have hs:=zcH r h
 have hd:(s++zaH r).drop (segD (s++zaH r)).length=zaH r:=by rw [hs];simp
 unfold zbE
 split<;>rename_i e
 all_goals first|(cases e;done)|skip
 ·-- /.
  simp only [List.cons.injEq,true_and] at e
  cases s with
  |nil=>cases r with
   |nil=>simp [zaH] at e
   |cons a r=>simp [zaH] at e
  |cons c s=>
   simp only [List.cons_append,List.cons.injEq] at e
   obtain ⟨rfl,e⟩:=e
   cases s with
   |nil=>exact absurd rfl h1
   |cons d s=>simp at e
 ·simp only [List.cons.injEq,true_and] at e
  cases s with
  |nil=>cases r with
   |nil=>simp [zaH] at e
   |cons a r=>simp [zaH] at e
  |cons c s=>
   simp only [List.cons_append,List.cons.injEq] at e
   obtain ⟨rfl,e⟩:=e
   cases s with
   |nil=>cases r with
    |nil=>simp [zaH] at e
    |cons a r=>simp [zaH] at e
   |cons d s=>
    simp only [List.cons_append,List.cons.injEq] at e
    obtain ⟨rfl,e⟩:=e
    cases s with
    |nil=>exact absurd rfl h2
    |cons d s=>simp at e
 ·simp only [List.cons.injEq,true_and] at e
  cases s with
  |nil=>cases r with
   |nil=>simp [zaH] at e
   |cons a r=>simp [zaH] at e
  |cons c s=>
   simp only [List.cons_append,List.cons.injEq] at e
   obtain ⟨rfl,e⟩:=e
   cases s with
   |nil=>exact absurd rfl h1
   |cons d s=>
    simp only [List.cons_append,List.cons.injEq] at e
    exact absurd e.1 (h d (by simp))
 ·simp only [List.cons.injEq,true_and] at e
  cases s with
  |nil=>cases r with
   |nil=>simp [zaH] at e
   |cons a r=>simp [zaH] at e
  |cons c s=>
   simp only [List.cons_append,List.cons.injEq] at e
   obtain ⟨rfl,e⟩:=e
   cases s with
   |nil=>cases r with
    |nil=>simp [zaH] at e
    |cons a r=>simp [zaH] at e
   |cons d s=>
    simp only [List.cons_append,List.cons.injEq] at e
    obtain ⟨rfl,e⟩:=e
    cases s with
    |nil=>exact absurd rfl h2
    |cons d s=>
     simp only [List.cons_append,List.cons.injEq] at e
     exact absurd e.1 (h d (by simp))
 ·simp only [List.cons.injEq] at e
  obtain ⟨rfl,rfl⟩:=e
  rw [hd,hs]
theorem zgK:zbF [46]:=fun c h=>by simp at h;subst h;decide
theorem zhV: ∀(r:List (List UInt8)) (out:List (List UInt8)),(∀s∈r,zbF s)→remD (zaH r) out=goD r out
 |[],out,_=>by unfold zaH;rw [zbG];rfl
 |[s],out,h=>by
  have hs:zaH [s]=47::s:=by simp [zaH]
  have hpush: ∀(o:List (List UInt8)),remD [47] o=o++[[47]]:=fun o=>by
   rw [zaI o (by simp)]
   show remD [] (o++[[47]])=_
   exact zbG _
  by_cases h1:s=[46]
  ·subst h1
   rw [hs,zaI out (by simp)]
   show remD [47] out=_
   rw [hpush];rfl
  ·by_cases h2:s=[46,46]
   ·subst h2
    rw [hs,zaI out (by simp)]
    show remD [47] out.dropLast=_
    rw [hpush];rfl
   ·have e:=zcU (s:=s) [] out (h s (by simp)) h1 h2
    rw [hs,show (47::s:List UInt8)=47::(s++zaH []) by simp [zaH],zaI out (by simp),e]
    show remD [] _=_
    rw [zbG]
    unfold goD
    rw [if_neg h1,if_neg h2]
 |s::t::r,out,h=>by
  have ih:=fun o=>zhV (t::r) o fun x hx=>h x (by simp at hx ⊢;exact .inr hx)
  have hs:zaH (s::t::r)=47::(s++zaH (t::r)):=rfl
  have ht:zaH (t::r)=47::(t++zaH r):=rfl
  by_cases h1:s=[46]
  ·subst h1
   rw [hs,zaI out (by simp),ht]
   show remD (47::(t++zaH r)) out=_
   rw [←ht,ih];rfl
  ·by_cases h2:s=[46,46]
   ·subst h2
    rw [hs,zaI out (by simp),ht]
    show remD (47::(t++zaH r)) out.dropLast=_
    rw [←ht,ih];rfl
   ·rw [hs,zaI out (by simp),zcU (t::r) out (h s (by simp)) h1 h2,ih]
    show _=goD (s::t::r) out
    rw [goD,if_neg h1,if_neg h2]
def cutD:List UInt8→List UInt8×List (List UInt8)
 |[]=>([],[])
 |c::l=>if c=47 then ([],(cutD l).1::(cutD l).2) else (c::(cutD l).1,(cutD l).2)
theorem zgT (p:List UInt8):p=(cutD p).1++zaH (cutD p).2∧zbF (cutD p).1∧ ∀s∈(cutD p).2,zbF s:=by
 induction p with
 |nil=>exact ⟨rfl,fun _ h=>(by cases h),fun _ h=>(by cases h)⟩
 |cons c l ih=>
  obtain ⟨h1,h2,h3⟩:=ih
  unfold cutD
  by_cases hc:c=47
  ·rw [if_pos hc]
   refine ⟨?_,fun _ h=>(by cases h),fun s h=> ?_⟩
   ·subst hc
    show 47::l=47::(cutD l).1++zaH (cutD l).2
    rw [List.cons_append,←h1]
   ·rcases List.mem_cons.1 h with rfl|h
    ·exact h2
    ·exact h3 s h
  ·rw [if_neg hc]
   refine ⟨?_,fun d h=> ?_,h3⟩
   ·show c::l=c::(cutD l).1++zaH (cutD l).2
    rw [List.cons_append,←h1]
   ·rcases List.mem_cons.1 h with rfl|h
    ·exact hc
    ·exact h2 d h
theorem zdE (out:List (List UInt8)):out.dropLast.flatten.length≤out.flatten.length:=by
 rcases List.eq_nil_or_concat out with rfl|⟨q,x,rfl⟩
 ·exact Nat.le_refl _
 ·rw [List.concat_eq_append];simp
theorem ziT (p:List UInt8) (out:List (List UInt8)):(zbE p out).1.length+(zbE p out).2.flatten.length≤p.length+out.flatten.length:=by
 have hd:=zdE out
 unfold zbE
 split
 all_goals first
  |(rename_i c l _ _ _ _ _ _ _ _
    have:=zeT l
    simp only [List.length_drop,List.flatten_append,List.length_append,List.flatten_cons,List.flatten_nil,List.length_cons,List.length_nil]
    omega)
  |(simp only [List.length_cons,List.length_nil];omega)
theorem zgB (p:List UInt8) (out:List (List UInt8)):(remD p out).flatten.length≤p.length+out.flatten.length:=by
 by_cases h:p=[]
 ·subst h;rw [zbG];simp
 ·rw [zaI out h]
  exact Nat.le_trans (zgB _ _) (ziT p out)
termination_by p.length
decreasing_by exact zeK p out h
theorem zcC (p:List UInt8):(zaK p).length≤p.length:=by
 have:=zgB p []
 simpa [zaK] using this
def upsD:Nat→List UInt8
 |0=>[]
 |n+1=>46::46::47::upsD n
theorem zcF: ∀(n:Nat) (l:List UInt8),zaK (47::(upsD n++l))=zaK (47::l)
 |0,_=>rfl
 |n+1,l=>by
  have ih:=zcF n l
  unfold zaK at ih ⊢
  rw [show (47::(upsD (n+1)++l):List UInt8)=47::46::46::47::(upsD n++l) from rfl,zaI [] (by simp)]
  show (remD (47::(upsD n++l)) []).flatten=_
  exact ih
theorem zbM (s t:List UInt8) (r out:List (List UInt8)):goD (s::t::r) out=if s=[46] then goD (t::r) out else if s=[46,46] then goD (t::r) out.dropLast else goD (t::r) (out++[47::s]):=by rw [goD]
theorem zgI: ∀(a:List (List UInt8)) (t:List UInt8) (b out:List (List UInt8)),goD (a++[46]::t::b) out=goD (a++t::b) out
 |[],t,b,out=>by
  show goD ([46]::t::b) out=goD (t::b) out
  rw [zbM,if_pos rfl]
 |[s],t,b,out=>by
  show goD (s::[46]::t::b) out=goD (s::t::b) out
  rw [zbM s,zbM s]
  have:=zgI [] t b
  simp only [List.nil_append] at this
  rw [this,this,this]
 |s::u::a,t,b,out=>by
  show goD (s::u::(a++[46]::t::b)) out=goD (s::u::(a++t::b)) out
  rw [zbM s,zbM s]
  have:=zgI (u::a) t b
  simp only [List.cons_append] at this
  rw [this,this,this]
theorem zfI (a:List (List UInt8)) (t:List UInt8) (b:List (List UInt8)) (h: ∀s∈a++t::b,zbF s):zaK (zaH (a++[46]::t::b))=zaK (zaH (a++t::b)):=by
 unfold zaK
 rw [zhV _ [] h,zhV _ [] fun s hs=> ?_,zgI]
 rcases List.mem_append.1 hs with hs|hs
 ·exact h s (by simp [hs])
 ·rcases List.mem_cons.1 hs with rfl|hs
  ·exact zgK
  ·exact h s (List.mem_append.2 (.inr hs))
end
end Go.Proofs.YtppgdppmheiocaaGreatDoor
