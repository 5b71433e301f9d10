/-
  What the law DotsOnce leans on, and its walk (31 of 33).
-/
import Derived.Test.YtppgdppmheiocaaGreatDoorDotsOncePkb
import Derived.Test.YtppgdppmheiocaaGreatDoorDotsOncePke
import Derived.Test.YtppgdppmheiocaaGreatDoorDotsOncePkT
namespace Go.Proofs.YtppgdppmheiocaaGreatDoor
set_option maxRecDepth 100000
set_option maxHeartbeats 16000000
section
open Go.RowKit
theorem zdS (l:List UInt8) (w:World) (hs:l.length≤1073741824) (hmax:MaxVar w):
  Calls Tryz.prog 30 #[.string ⟨l.toArray⟩,.string ⟨#[47]⟩] w fun e w'=>e= .returned (.slice (some ⟨w.heap.size,0,none⟩) (splitB (hasB [47]) l).length (splitB (hasB [47]) l).length)∧w'=w.alloc (.cells (zbB (splitB (hasB [47]) l)).toArray 9):=by
 obtain ⟨m,hm⟩:=hmax
 have h:=Tryz.strings_Split ⟨l.toArray⟩ ⟨#[47]⟩ m w (by rw [zcQ];omega) hm (by decide)
 have e1:(Lib.splitB ⟨#[47]⟩ 0 (Lib.countB ⟨l.toArray⟩ ⟨#[47]⟩) ⟨l.toArray⟩).map (·.data.toList)=splitB (hasB [47]) l:=by
  rw [Lib.splitB_data]
  exact ziL 47 _ _ (Nat.le_refl _)
 have e2:=congrArg List.length e1
 rw [List.length_map,Lib.splitB_all ⟨#[47]⟩ (by decide) 0 _ _ rfl] at e2
 rw [zhC e1,e2] at h
 exact h
theorem ziZ (w:World) (ps:List (List UInt8)):Seen (w.alloc (.cells (zbB ps).toArray 9)) w.heap.size ps:=by
 refine ⟨by simp,fun j hj=> ?_⟩
 rw [cell_of_row _ w.heap.size j _ _ _ (heap_alloc_new w _)]
 simp [zbB,strC,List.getD,List.getElem?_eq_getElem hj]
theorem zbO (l:List UInt8) (w:World) (hs:l.length≤1073741824) (hmax:MaxVar w):
  Calls Tryz.prog 30 #[.string ⟨l.toArray⟩,.string ⟨#[47]⟩] w (zkD w (splitB (hasB [47]) l)):=by
 refine (zdS l w hs hmax).mono ?_
 rintro e w' ⟨rfl,rfl⟩
 exact ⟨w.heap.size,_,rfl,Nat.le_refl _,ziZ w _,(Below.refl _ _).alloc (Nat.le_refl _) _⟩
theorem zfQ (ps:List (List UInt8)) (k:Nat) (h:k<ps.length):zbG (ps.take (k+1))=zbG (ps.take k)+if (ps.getD k []).isEmpty then 0 else 1:=by
 unfold zbG
 rw [List.take_succ_eq_append_getElem h,List.countP_append,List.countP_singleton]
 rw [show ps.getD k []=ps[k] by simp [List.getD,List.getElem?_eq_getElem h]]
 cases ps[k].isEmpty<;>rfl
theorem ziG (ps:List (List UInt8)):zbG ps≤ps.length:=List.countP_le_length
def ziF (w:World) (n:Nat) (e:Ending) (w':World):Prop:=e= .returned (.int .i64 (n:Int))∧Below w.heap.size w w'
def zbT (p:List UInt8):Nat:=zbG (splitB (hasB [47]) (zaE p))
theorem zcA (p:List UInt8) (w:World) (hl:p.length≤1000000) (hmax:MaxVar w):
  Calls Tryz.prog 26 #[.string ⟨p.toArray⟩] w (ziF w (zbT p)):=by
 have hrl:=zbL p
 have HD:Hid (zbT p=zbG (splitB (hasB [47]) (zaE p))):=rfl
 have HX:=Lib.hid hmax
 have HR:=Lib.hid (zaY p w hl)
 have HS:=Lib.hid (fun W (h:MaxVar W)=>zbO (zaE p) W (by omega) h)
 have hsl:=zcB (hasB [47]) (zaE p)
 generalize zaE p=r at*
 generalize splitB (hasB [47]) r=ps at*
 clear hmax
 go_enter Tryz.func26,Tryz.ntmps26
 go_wp2_with fail
 refine HR.out.mono ?_
 rintro e x1 ⟨rfl,hb1⟩
 go_wp2_with fail
 refine (HS.out _ (zaA HX.out hb1)).mono ?_
 rintro e x2 ⟨g,c,rfl,hc,hsn,hb2⟩
 have HSN:=Lib.hid hsn
 have HB:=Lib.hid (zaT hb1 hb2)
 have HDS:=Lib.hid (zfQ ps)
 clear hsn hb1 hb2 HX HR HS
 go_wp2
 go_loop [3,10] (fun n i=> ∃(k:Nat),k≤ps.length∧i= .int .i64 k∧n= .int .i64 (zbG (ps.take k):Nat)) (fun _ i=>ps.length - (intOf i).toNat)
 case atStart=>exact ⟨0,Nat.zero_le _,rfl,rfl⟩
 case round=>
  obtain ⟨k,hk,rfl,rfl⟩:=hrel
  by_cases hkl:k<ps.length
  ·have hcell:=HSN.out.2 k hkl
   have hds:=HDS.out k hkl
   have hdl:=ziG (ps.take k)
   rw [List.length_take] at hdl
   generalize ps.getD k []=q at*
   generalize zbG (ps.take k)=d at*
   cases hq:q.isEmpty with
   |true=>
    rw [hq,if_pos rfl] at hds
    have HDD:=Lib.hid hds
    have hq2:(q==[])=true:=by rw [List.isEmpty_iff.1 hq];rfl
    clear HSN HDS hds
    go_wp2
    exact ⟨⟨k+1,by omega,by go_num,by rw [HDD.out];rfl⟩,by simp [intOf];omega⟩
   |false=>
    rw [hq,if_neg (by decide)] at hds
    have HDD:=Lib.hid hds
    have hq2:(q==[])=false:=beq_eq_false_iff_ne.2 (fun e=>by rw [e] at hq;cases hq)
    clear HSN HDS hds
    go_wp2
    exact ⟨⟨k+1,by omega,by go_num,by rw [HDD.out];go_num⟩,by simp [intOf];omega⟩
  ·have HF:Hid (zbG (ps.take k)=zbT p):=by show _=_;rw [HD.out,List.take_of_length_le (by omega)]
   clear HSN HDS
   go_wp2
   go_ret
   exact ⟨(by rw [HF.out];rfl),HB.out⟩
/-! ### steps -/
theorem zdW: ∀(l:List UInt8) (st:List (List UInt8)×List UInt8),zaL st.2→((l.foldl (zaJ (hasB [47])) st).1++[(l.foldl (zaJ (hasB [47])) st).2])=st.1++((st.2++(cutD l).1)::(cutD l).2)
 |[],st,_=>by simp [cutD]
 |c::l,st,h=>by
  rw [List.foldl_cons]
  by_cases hc:c=47
  ·subst hc
   have e:zaJ (hasB [47]) st 47=(st.1++[st.2],[]):=rfl
   rw [e,zdW l _ (fun _ h=>by cases h)]
   simp [cutD]
  ·have e:zaJ (hasB [47]) st c=(st.1,st.2++[c]):=by
    unfold zaJ
    rw [if_neg (by simp [hasB,Ne.symm hc])]
   rw [e,zdW l _ (fun d hd=>by
    rcases List.mem_append.1 hd with q|q
    ·exact h d q
    ·rw [List.mem_singleton] at q;rw [q];exact hc)]
   simp [cutD,hc]
theorem zgI (l:List UInt8):splitB (hasB [47]) l=(cutD l).1::(cutD l).2:=by
 have:=zdW l ([],[]) (fun _ h=>by cases h)
 simpa [splitB,spl] using this
end
end Go.Proofs.YtppgdppmheiocaaGreatDoor
