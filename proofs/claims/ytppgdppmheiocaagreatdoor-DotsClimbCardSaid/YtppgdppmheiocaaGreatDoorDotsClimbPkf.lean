/-
  What the law DotsClimb leans on, and its walk (31 of 33).
-/
import Derived.Test.YtppgdppmheiocaaGreatDoorDotsClimbPkb
import Derived.Test.YtppgdppmheiocaaGreatDoorDotsClimbPke
import Derived.Test.YtppgdppmheiocaaGreatDoorDotsClimbPkT
namespace Go.Proofs.YtppgdppmheiocaaGreatDoor
set_option maxRecDepth 100000
set_option maxHeartbeats 16000000
section
open Go.RowKit
theorem zkD (p:List UInt8):ByteArray.mk #[47]++ByteArray.mk p.toArray=⟨(47::p).toArray⟩:=cat2 [47] p
theorem zdS (l:List UInt8) (w:World) (hs:l.length≤1073741824) (hmax:MaxVar w):
  Calls Tryz.prog 30 #[.string ⟨l.toArray⟩,.string ⟨#[47]⟩] w fun e w'=>e= .returned (.slice (some ⟨w.heap.size,0,none⟩) (splitB (hasB [47]) l).length (splitB (hasB [47]) l).length)∧w'=w.alloc (.cells (zaP (splitB (hasB [47]) l)).toArray 9):=by
 obtain ⟨m,hm⟩:=hmax
 have h:=Tryz.strings_Split ⟨l.toArray⟩ ⟨#[47]⟩ m w (by rw [zbQ];omega) hm (by decide)
 have e1:(Lib.splitB ⟨#[47]⟩ 0 (Lib.countB ⟨l.toArray⟩ ⟨#[47]⟩) ⟨l.toArray⟩).map (·.data.toList)=splitB (hasB [47]) l:=by
  rw [Lib.splitB_data]
  exact ziV 47 _ _ (Nat.le_refl _)
 have e2:=congrArg List.length e1
 rw [List.length_map,Lib.splitB_all ⟨#[47]⟩ (by decide) 0 _ _ rfl] at e2
 rw [zhC e1,e2] at h
 exact h
theorem ziO (w:World) (ps:List (List UInt8)):Seen (w.alloc (.cells (zaP ps).toArray 9)) w.heap.size ps:=by
 refine ⟨by simp,fun j hj=> ?_⟩
 rw [cell_of_row _ w.heap.size j _ _ _ (heap_alloc_new w _)]
 simp [zaP,strC,List.getD,List.getElem?_eq_getElem hj]
theorem zdO (l:List UInt8) (w:World) (hs:l.length≤1073741824) (hmax:MaxVar w):
  Calls Tryz.prog 30 #[.string ⟨l.toArray⟩,.string ⟨#[47]⟩] w (zjQ w (splitB (hasB [47]) l)):=by
 refine (zdS l w hs hmax).mono ?_
 rintro e w' ⟨rfl,rfl⟩
 exact ⟨w.heap.size,_,rfl,Nat.le_refl _,ziO w _,(Below.refl _ _).alloc (Nat.le_refl _) _⟩
/-! ### steps -/
theorem zdP: ∀(l:List UInt8) (st:List (List UInt8)×List UInt8),zbF st.2→((l.foldl (zaE (hasB [47])) st).1++[(l.foldl (zaE (hasB [47])) st).2])=st.1++((st.2++(cutD l).1)::(cutD l).2)
 |[],st,_=>by simp [cutD]
 |c::l,st,h=>by
  rw [List.foldl_cons]
  by_cases hc:c=47
  ·subst hc
   have e:zaE (hasB [47]) st 47=(st.1++[st.2],[]):=rfl
   rw [e,zdP l _ (fun _ h=>by cases h)]
   simp [cutD]
  ·have e:zaE (hasB [47]) st c=(st.1,st.2++[c]):=by
    unfold zaE
    rw [if_neg (by simp [hasB,Ne.symm hc])]
   rw [e,zdP l _ (fun d hd=>by
    rcases List.mem_append.1 hd with q|q
    ·exact h d q
    ·rw [List.mem_singleton] at q;rw [q];exact hc)]
   simp [cutD,hc]
theorem zcW (l:List UInt8):splitB (hasB [47]) l=(cutD l).1::(cutD l).2:=by
 have:=zdP l ([],[]) (fun _ h=>by cases h)
 simpa [splitB,spl] using this
theorem zdV (l:List UInt8): ∀s∈splitB (hasB [47]) l,zbF s:=by
 rw [zcW]
 obtain ⟨_,h1,h2⟩:=zgT l
 intro s hs
 rcases List.mem_cons.1 hs with rfl|hs
 ·exact h1
 ·exact h2 s hs
theorem zdU (l:List UInt8):zaH (splitB (hasB [47]) l)=47::l:=by
 rw [zcW]
 obtain ⟨h,_,_⟩:=zgT l
 show 47::(cutD l).1++zaH (cutD l).2=_
 rw [List.cons_append,←h]
theorem zcY: ∀(ps:List (List UInt8)),ps≠[]→47::Lib.join ps [47]=zaH ps
 |[],h=>absurd rfl h
 |[a],_=>by simp [Lib.join,List.intercalate,zaH]
 |a::b::r,_=>by
  have ih:=zcY (b::r) (by simp)
  have e:Lib.join (a::b::r) [47]=a++47::Lib.join (b::r) [47]:=by simp [Lib.join,List.intercalate,List.intersperse]
  rw [e,ih]
  rfl
end
end Go.Proofs.YtppgdppmheiocaaGreatDoor
