/-
  What the law DotsOnce leans on, and its walk (12 of 33).
-/
import Derived.Below
namespace Go.Proofs.YtppgdppmheiocaaGreatDoor
set_option maxRecDepth 100000
set_option maxHeartbeats 16000000
section
open Go.RowKit
def segD:List UInt8→List UInt8
 |[]=>[]
 |c::l=>if c=47 then [] else c::segD l
theorem zfC (l:List UInt8):(segD l).length≤l.length:=by
 induction l with
 |nil=>exact Nat.le_refl _
 |cons c l ih=>unfold segD;split<;>simp<;>omega
def zaX (p:List UInt8) (out:List (List UInt8)):List UInt8×List (List UInt8):=
 match p with
 |[46]=>([],out)
 |[46,46]=>([],out)
 |46::46::47::r=>(r,out)
 |46::47::r=>(r,out)
 |[47,46]=>([47],out)
 |[47,46,46]=>([47],out.dropLast)
 |47::46::47::r=>(47::r,out)
 |47::46::46::47::r=>(47::r,out.dropLast)
 |c::l=>(l.drop (segD l).length,out++[c::segD l])
 |[]=>([],out)
theorem zeM (p:List UInt8) (out:List (List UInt8)) (h:p≠[]):(zaX p out).1.length<p.length:=by
 unfold zaX
 split<;>first|(exact absurd rfl h)|(simp;done)|(simp<;>omega)
def remD (p:List UInt8) (out:List (List UInt8)):List (List UInt8):=
 if _h:p=[] then out else remD (zaX p out).1 (zaX p out).2
termination_by p.length
decreasing_by exact zeM p out _h
def zaE (p:List UInt8):List UInt8:=(remD p []).flatten
theorem zaW (out:List (List UInt8)):remD [] out=out:=by rw [remD,dif_pos rfl]
theorem zaI {p:List UInt8} (out:List (List UInt8)) (h:p≠[]):remD p out=remD (zaX p out).1 (zaX p out).2:=by rw [remD,dif_neg h]
/-! ### by steps -/
def goD:List (List UInt8)→List (List UInt8)→List (List UInt8)
 |[],out=>out
 |[s],out=>if s=[46] then out++[[47]] else if s=[46,46] then out.dropLast++[[47]] else out++[47::s]
 |s::t::r,out=>if s=[46] then goD (t::r) out else if s=[46,46] then goD (t::r) out.dropLast else goD (t::r) (out++[47::s])
def zaF:List (List UInt8)→List UInt8
 |[]=>[]
 |s::r=>47::s++zaF r
def zaL (s:List UInt8):Prop:= ∀c∈s,c≠47
theorem zbK: ∀{s:List UInt8} (r:List (List UInt8)),zaL s→segD (s++zaF r)=s
 |[],[],_=>rfl
 |[],_::_,_=>by simp [zaF,segD]
 |c::s,r,h=>by
  have hc:c≠47:=h c (by simp)
  show (if c=47 then [] else c::segD (s++zaF r))=_
  rw [if_neg hc,zbK r fun d hd=>h d (by simp [hd])]
theorem zcV {s:List UInt8} (r:List (List UInt8)) (out:List (List UInt8)) (h:zaL s) (h1:s≠[46]) (h2:s≠[46,46]):zaX (47::(s++zaF r)) out=(zaF r,out++[47::s]):=by
 have hs:=zbK r h
 have hd:(s++zaF r).drop (segD (s++zaF r)).length=zaF r:=by rw [hs];simp
 unfold zaX
 split<;>rename_i e
 all_goals first|(cases e;done)|skip
 ·-- /.
  simp only [List.cons.injEq,true_and] at e
  cases s with
  |nil=>cases r with
   |nil=>simp [zaF] at e
   |cons a r=>simp [zaF] at e
  |cons c s=>
   simp only [List.cons_append,List.cons.injEq] at e
   obtain ⟨rfl,e⟩:=e
   cases s with
   |nil=>exact absurd rfl h1
   |cons d s=>simp at e
 ·simp only [List.cons.injEq,true_and] at e
  cases s with
  |nil=>cases r with
   |nil=>simp [zaF] at e
   |cons a r=>simp [zaF] at e
  |cons c s=>
   simp only [List.cons_append,List.cons.injEq] at e
   obtain ⟨rfl,e⟩:=e
   cases s with
   |nil=>cases r with
    |nil=>simp [zaF] at e
    |cons a r=>simp [zaF] at e
   |cons d s=>
    simp only [List.cons_append,List.cons.injEq] at e
    obtain ⟨rfl,e⟩:=e
    cases s with
    |nil=>exact absurd rfl h2
    |cons d s=>simp at e
 ·simp only [List.cons.injEq,true_and] at e
  cases s with
  |nil=>cases r with
   |nil=>simp [zaF] at e
   |cons a r=>simp [zaF] at e
  |cons c s=>
   simp only [List.cons_append,List.cons.injEq] at e
   obtain ⟨rfl,e⟩:=e
   cases s with
   |nil=>exact absurd rfl h1
   |cons d s=>
    simp only [List.cons_append,List.cons.injEq] at e
    exact absurd e.1 (h d (by simp))
 ·simp only [List.cons.injEq,true_and] at e
  cases s with
  |nil=>cases r with
   |nil=>simp [zaF] at e
   |cons a r=>simp [zaF] at e
  |cons c s=>
   simp only [List.cons_append,List.cons.injEq] at e
   obtain ⟨rfl,e⟩:=e
   cases s with
   |nil=>cases r with
    |nil=>simp [zaF] at e
    |cons a r=>simp [zaF] at e
   |cons d s=>
    simp only [List.cons_append,List.cons.injEq] at e
    obtain ⟨rfl,e⟩:=e
    cases s with
    |nil=>exact absurd rfl h2
    |cons d s=>
     simp only [List.cons_append,List.cons.injEq] at e
     exact absurd e.1 (h d (by simp))
 ·simp only [List.cons.injEq] at e
  obtain ⟨rfl,rfl⟩:=e
  rw [hd,hs]
theorem zeJ: ∀(r:List (List UInt8)) (out:List (List UInt8)),(∀s∈r,zaL s)→remD (zaF r) out=goD r out
 |[],out,_=>by unfold zaF;rw [zaW];rfl
 |[s],out,h=>by
  have hs:zaF [s]=47::s:=by simp [zaF]
  have hpush: ∀(o:List (List UInt8)),remD [47] o=o++[[47]]:=fun o=>by
   rw [zaI o (by simp)]
   show remD [] (o++[[47]])=_
   exact zaW _
  by_cases h1:s=[46]
  ·subst h1
   rw [hs,zaI out (by simp)]
   show remD [47] out=_
   rw [hpush];rfl
  ·by_cases h2:s=[46,46]
   ·subst h2
    rw [hs,zaI out (by simp)]
    show remD [47] out.dropLast=_
    rw [hpush];rfl
   ·have e:=zcV (s:=s) [] out (h s (by simp)) h1 h2
    rw [hs,show (47::s:List UInt8)=47::(s++zaF []) by simp [zaF],zaI out (by simp),e]
    show remD [] _=_
    rw [zaW]
    unfold goD
    rw [if_neg h1,if_neg h2]
 |s::t::r,out,h=>by
  have ih:=fun o=>zeJ (t::r) o fun x hx=>h x (by simp at hx ⊢;exact .inr hx)
  have hs:zaF (s::t::r)=47::(s++zaF (t::r)):=rfl
  have ht:zaF (t::r)=47::(t++zaF r):=rfl
  by_cases h1:s=[46]
  ·subst h1
   rw [hs,zaI out (by simp),ht]
   show remD (47::(t++zaF r)) out=_
   rw [←ht,ih];rfl
  ·by_cases h2:s=[46,46]
   ·subst h2
    rw [hs,zaI out (by simp),ht]
    show remD (47::(t++zaF r)) out.dropLast=_
    rw [←ht,ih];rfl
   ·rw [hs,zaI out (by simp),zcV (t::r) out (h s (by simp)) h1 h2,ih]
    show _=goD (s::t::r) out
    rw [goD,if_neg h1,if_neg h2]
def cutD:List UInt8→List UInt8×List (List UInt8)
 |[]=>([],[])
 |c::l=>if c=47 then ([],(cutD l).1::(cutD l).2) else (c::(cutD l).1,(cutD l).2)
theorem zdV (p:List UInt8):p=(cutD p).1++zaF (cutD p).2∧zaL (cutD p).1∧ ∀s∈(cutD p).2,zaL s:=by
 induction p with
 |nil=>exact ⟨rfl,fun _ h=>(by cases h),fun _ h=>(by cases h)⟩
 |cons c l ih=>
  obtain ⟨h1,h2,h3⟩:=ih
  unfold cutD
  by_cases hc:c=47
  ·rw [if_pos hc]
   refine ⟨?_,fun _ h=>(by cases h),fun s h=> ?_⟩
   ·subst hc
    show 47::l=47::(cutD l).1++zaF (cutD l).2
    rw [List.cons_append,←h1]
   ·rcases List.mem_cons.1 h with rfl|h
    ·exact h2
    ·exact h3 s h
  ·rw [if_neg hc]
   refine ⟨?_,fun d h=> ?_,h3⟩
   ·show c::l=c::(cutD l).1++zaF (cutD l).2
    rw [List.cons_append,←h1]
   ·rcases List.mem_cons.1 h with rfl|h
    ·exact hc
    ·exact h2 d h
theorem zbI: ∀{s:List UInt8} {r:List (List UInt8)},zaL s→(∀t∈r,zaL t)→cutD (s++zaF r)=(s,r)
 |[],[],_,_=>rfl
 |[],t::r,_,h=>by
  have e:=zbI (s:=t) (r:=r) (h t (by simp)) fun x hx=>h x (by simp [hx])
  show (if (47:UInt8)=47 then ([],(cutD (t++zaF r)).1::(cutD (t++zaF r)).2) else _)=_
  rw [if_pos rfl,e]
 |c::s,r,hs,h=>by
  have e:=zbI (s:=s) (r:=r) (fun d hd=>hs d (by simp [hd])) h
  show (if c=47 then _ else (c::(cutD (s++zaF r)).1,(cutD (s++zaF r)).2))=_
  rw [if_neg (hs c (by simp)),e]
def relD (s:List UInt8) (r:List (List UInt8)):List (List UInt8):=
 if s=[] then goD r []
 else if s=[46]∨s=[46,46] then (match r with|[]=>[]|t::q=>relD t q)
 else goD r [s]
termination_by r.length
theorem zfI {s:List UInt8} (r:List (List UInt8)) (h:zaL s) (h0:s≠[]) (h1:s≠[46]) (h2:s≠[46,46]):zaX (s++zaF r) []=(zaF r,[s]):=by
 cases s with
 |nil=>exact absurd rfl h0
 |cons c s=>
  have hc:c≠47:=h c (by simp)
  have hp:zaL s:=fun d hd=>h d (by simp [hd])
  have hs:=zbK r hp
  have hd:(s++zaF r).drop (segD (s++zaF r)).length=zaF r:=by rw [hs];simp
  rw [List.cons_append]
  unfold zaX
  split
  all_goals rename_i e
  all_goals first|(cases e;done)|skip
  all_goals first|(simp only [List.cons.injEq] at e;obtain ⟨rfl,e⟩:=e;exact absurd rfl hc)|skip
  all_goals (simp only [List.cons.injEq] at e;obtain ⟨rfl,e⟩:=e)
  ·cases s with
   |nil=>exact absurd rfl h1
   |cons d s=>simp at e
  ·cases s with
   |nil=>cases r<;>simp [zaF] at e
   |cons d s=>
    simp only [List.cons_append,List.cons.injEq] at e
    obtain ⟨rfl,e⟩:=e
    cases s with
    |nil=>exact absurd rfl h2
    |cons d s=>simp at e
  ·cases s with
   |nil=>cases r<;>simp [zaF] at e
   |cons d s=>
    simp only [List.cons_append,List.cons.injEq] at e
    obtain ⟨rfl,e⟩:=e
    cases s with
    |nil=>exact absurd rfl h2
    |cons d s=>
     simp only [List.cons_append,List.cons.injEq] at e
     exact absurd e.1 (hp d (by simp))
  ·cases s with
   |nil=>exact absurd rfl h1
   |cons d s=>
    simp only [List.cons_append,List.cons.injEq] at e
    exact absurd e.1 (hp d (by simp))
  ·subst e
   rw [hd,hs];rfl
theorem zeB: ∀(s:List UInt8) (r:List (List UInt8)),zaL s→(∀t∈r,zaL t)→remD (s++zaF r) []=relD s r
 |s,r,hs,hr=>by
  unfold relD
  by_cases h0:s=[]
  ·subst h0
   rw [if_pos rfl,List.nil_append]
   exact zeJ r [] hr
  ·rw [if_neg h0]
   by_cases hd:s=[46]∨s=[46,46]
   ·rw [if_pos hd]
    cases r with
    |nil=>
     rcases hd with rfl|rfl
     ·rw [zaI [] (by simp)];exact zaW _
     ·rw [zaI [] (by simp)];exact zaW _
    |cons t q=>
     have ih:=zeB t q (hr t (by simp)) fun x hx=>hr x (by simp [hx])
     rcases hd with rfl|rfl
     ·rw [zaI [] (by simp)];exact ih
     ·rw [zaI [] (by simp)];exact ih
   ·rw [if_neg hd]
    have h1:s≠[46]:=fun e=>hd (.inl e)
    have h2:s≠[46,46]:=fun e=>hd (.inr e)
    rw [zaI [] (by simp [h0]),zfI r hs h0 h1 h2]
    exact zeJ r [s] hr
termination_by _ r=>r.length
def zdZ (s:List UInt8):Prop:=zaL s∧s≠[46]∧s≠[46,46]
def Outs (out:List (List UInt8)):Prop:= ∃(t q:List (List UInt8)),out=t++q.map (47:: ·)∧(t=[]∨ ∃s,t=[s]∧s≠[]∧zdZ s)∧ ∀s∈q,zdZ s
theorem Outs.nil:Outs []:=⟨[],[],rfl,.inl rfl,fun _ h=>(by cases h)⟩
theorem Outs.push {out:List (List UInt8)} (h:Outs out) {s:List UInt8} (hs:zdZ s):Outs (out++[47::s]):=by
 obtain ⟨t,q,rfl,h1,h2⟩:=h
 refine ⟨t,q++[s],by simp,h1,fun x hx=> ?_⟩
 rcases List.mem_append.1 hx with hx|hx
 ·exact h2 x hx
 ·simp at hx;subst hx;exact hs
theorem Outs.pop {out:List (List UInt8)} (h:Outs out):Outs out.dropLast:=by
 obtain ⟨t,q,rfl,h1,h2⟩:=h
 rcases List.eq_nil_or_concat q with rfl|⟨q',x,rfl⟩
 ·rcases h1 with rfl|⟨s,rfl,h3⟩
  ·exact .nil
  ·exact .nil
 ·refine ⟨t,q',?_,h1,fun y hy=>h2 y (by simp [hy])⟩
  rw [List.concat_eq_append,List.map_append,←List.append_assoc]
  simp
theorem zbH:zdZ []:=⟨fun _ h=>(by cases h),by simp,by simp⟩
theorem Outs.go: ∀{r:List (List UInt8)} {out:List (List UInt8)},(∀s∈r,zaL s)→Outs out→Outs (goD r out)
 |[],_,_,h=>h
 |[s],out,hr,h=>by
  unfold goD
  by_cases h1:s=[46]
  ·rw [if_pos h1];exact h.push zbH
  ·rw [if_neg h1]
   by_cases h2:s=[46,46]
   ·rw [if_pos h2];exact h.pop.push zbH
   ·rw [if_neg h2];exact h.push ⟨hr s (by simp),h1,h2⟩
 |s::t::r,out,hr,h=>by
  have hr': ∀x∈t::r,zaL x:=fun x hx=>hr x (by simp at hx ⊢;exact .inr hx)
  unfold goD
  by_cases h1:s=[46]
  ·rw [if_pos h1];exact Outs.go hr' h
  ·rw [if_neg h1]
   by_cases h2:s=[46,46]
   ·rw [if_pos h2];exact Outs.go hr' h.pop
   ·rw [if_neg h2];exact Outs.go hr' (h.push ⟨hr s (by simp),h1,h2⟩)
theorem Outs.rel: ∀(s:List UInt8) (r:List (List UInt8)),zaL s→(∀t∈r,zaL t)→Outs (relD s r)
 |s,r,hs,hr=>by
  unfold relD
  by_cases h0:s=[]
  ·rw [if_pos h0];exact Outs.go hr .nil
  ·rw [if_neg h0]
   by_cases hd:s=[46]∨s=[46,46]
   ·rw [if_pos hd]
    cases r with
    |nil=>exact .nil
    |cons t q=>exact Outs.rel t q (hr t (by simp)) fun x hx=>hr x (by simp [hx])
   ·rw [if_neg hd]
    exact Outs.go hr ⟨[s],[],rfl,.inr ⟨s,rfl,h0,hs,fun e=>hd (.inl e),fun e=>hd (.inr e)⟩,fun _ h=>(by cases h)⟩
termination_by _ r=>r.length
theorem zfB (p:List UInt8):Outs (remD p []):=by
 obtain ⟨h1,h2,h3⟩:=zdV p
 rw [h1,zeB _ _ h2 h3]
 exact Outs.rel _ _ h2 h3
theorem zcL: ∀(q:List (List UInt8)),(q.map (47:: ·)).flatten=zaF q
 |[]=>rfl
 |s::q=>by
  show (47::s)++(q.map (47:: ·)).flatten=47::s++zaF q
  rw [zcL q]
theorem zcM: ∀{q out:List (List UInt8)},(∀s∈q,zdZ s)→goD q out=out++q.map (47:: ·)
 |[],out,_=>by simp [goD]
 |[s],out,h=>by
  obtain ⟨_,h1,h2⟩:=h s (by simp)
  unfold goD
  rw [if_neg h1,if_neg h2];rfl
 |s::t::r,out,h=>by
  obtain ⟨_,h1,h2⟩:=h s (by simp)
  unfold goD
  rw [if_neg h1,if_neg h2,zcM fun x hx=>h x (by simp at hx ⊢;exact .inr hx)]
  simp
theorem zeN {out:List (List UInt8)} (h:Outs out): ∃s q,cutD out.flatten=(s,q)∧zdZ s∧(∀t∈q,zdZ t)∧out=relD s q:=by
 obtain ⟨t,q,rfl,h1,h2⟩:=h
 have hq: ∀s∈q,zaL s:=fun s hs=>(h2 s hs).1
 rcases h1 with rfl|⟨s,rfl,h3,h4⟩
 ·refine ⟨[],q,?_,zbH,h2,?_⟩
  ·rw [List.nil_append,zcL]
   exact zbI (s:=[]) zbH.1 hq
  ·unfold relD
   rw [if_pos rfl,zcM h2]
 ·refine ⟨s,q,?_,h4,h2,?_⟩
  ·rw [List.flatten_append,zcL]
   show cutD ((s++[])++zaF q)=_
   rw [List.append_nil]
   exact zbI h4.1 hq
  ·unfold relD
   rw [if_neg h3,if_neg (by rintro (e|e);exact h4.2.1 e;exact h4.2.2 e),zcM h2]
theorem zdX (p:List UInt8):zaE (zaE p)=zaE p:=by
 obtain ⟨s,q,h1,h2,h3,h4⟩:=zeN (zfB p)
 have e:=zdV (zaE p)
 unfold zaE at e ⊢
 rw [h1] at e
 obtain ⟨e1,e2,e3⟩:=e
 rw [e1,zeB s q e2 e3,←h4]
 exact e1
theorem zdG (p:List UInt8): ∀s∈(cutD (zaE p)).1::(cutD (zaE p)).2,s≠[46]∧s≠[46,46]:=by
 obtain ⟨s,q,h1,h2,h3,_⟩:=zeN (zfB p)
 unfold zaE
 rw [h1]
 intro x hx
 rcases List.mem_cons.1 hx with rfl|hx
 ·exact h2.2
 ·exact (h3 x hx).2
theorem zdJ (out:List (List UInt8)):out.dropLast.flatten.length≤out.flatten.length:=by
 rcases List.eq_nil_or_concat out with rfl|⟨q,x,rfl⟩
 ·exact Nat.le_refl _
 ·rw [List.concat_eq_append];simp
theorem ziI (p:List UInt8) (out:List (List UInt8)):(zaX p out).1.length+(zaX p out).2.flatten.length≤p.length+out.flatten.length:=by
 have hd:=zdJ out
 unfold zaX
 split
 all_goals first
  |(rename_i c l _ _ _ _ _ _ _ _
    have:=zfC l
    simp only [List.length_drop,List.flatten_append,List.length_append,List.flatten_cons,List.flatten_nil,List.length_cons,List.length_nil]
    omega)
  |(simp only [List.length_cons,List.length_nil];omega)
theorem zgS (p:List UInt8) (out:List (List UInt8)):(remD p out).flatten.length≤p.length+out.flatten.length:=by
 by_cases h:p=[]
 ·subst h;rw [zaW];simp
 ·rw [zaI out h]
  exact Nat.le_trans (zgS _ _) (ziI p out)
termination_by p.length
decreasing_by exact zeM p out h
theorem zbL (p:List UInt8):(zaE p).length≤p.length:=by
 have:=zgS p []
 simpa [zaE] using this
theorem ziK: ∀(s:List UInt8) (r out:List (List UInt8)),goD (s::r) out≠[]
 |s,[],out=>by unfold goD;split<;>(try split)<;>simp
 |s,t::r,out=>by unfold goD;split;exact ziK t r out;split;exact ziK t r _;exact ziK t r _
theorem zbR: ∀{r:List (List UInt8)} {out:List (List UInt8)},(∀x∈out,x.head? =some 47)→ ∀x∈goD r out,x.head? =some 47
 |[],_,h=>h
 |[s],out,h=>by
  have hd: ∀x∈out.dropLast,x.head? =some 47:=fun x hx=>h x (List.dropLast_subset _ hx)
  have hp: ∀(o:List (List UInt8)) (y:List UInt8),(∀x∈o,x.head? =some 47)→ ∀x∈o++[47::y],x.head? =some 47:=fun o y ho x hx=>by
   rcases List.mem_append.1 hx with hx|hx
   ·exact ho x hx
   ·simp at hx;subst hx;rfl
  unfold goD
  split
  ·exact hp out [] h
  ·split
   ·exact hp _ [] hd
   ·exact hp out s h
 |s::t::r,out,h=>by
  unfold goD
  split
  ·exact zbR h
  ·split
   ·exact zbR fun x hx=>h x (List.dropLast_subset _ hx)
   ·exact zbR fun x hx=>by
     rcases List.mem_append.1 hx with hx|hx
     ·exact h x hx
     ·simp at hx;subst hx;rfl
theorem zdE (l:List UInt8): ∃m,zaE (47::l)=47::m:=by
 obtain ⟨h1,h2,h3⟩:=zdV l
 have hj:(47::l:List UInt8)=zaF ((cutD l).1::(cutD l).2):=by show 47::l=47::(cutD l).1++zaF (cutD l).2;rw [List.cons_append,←h1]
 have hpl: ∀s∈(cutD l).1::(cutD l).2,zaL s:=fun s hs=>by
  rcases List.mem_cons.1 hs with rfl|hs
  ·exact h2
  ·exact h3 s hs
 unfold zaE
 rw [hj,zeJ _ [] hpl]
 have hne:=ziK (cutD l).1 (cutD l).2 []
 have hsl:=zbR (r:=(cutD l).1::(cutD l).2) (out:=[]) fun _ h=>by cases h
 generalize goD ((cutD l).1::(cutD l).2) []=o at*
 cases o with
 |nil=>exact absurd rfl hne
 |cons x o=>
  have hx:=hsl x (by simp)
  cases x with
  |nil=>cases hx
  |cons c x=>
   simp at hx
   subst hx
   exact ⟨x++o.flatten,by simp⟩
end
end Go.Proofs.YtppgdppmheiocaaGreatDoor
