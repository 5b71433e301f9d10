/-
  A walk on paper: what a call does in a memory of its own, reckoned out; and that the call does so (2 of 2).
-/
import Derived.Orders
import Derived.RowKit3
import Derived.KernelRfl
import Derived.Below
import Derived.Laws.CopyRow
import Derived.Laws.Append
import Derived.Laws.AppendOwn
import Derived.Lib.UnsafeStr
import Derived.Lib.Builder
import Derived.LaidEql
import Derived.Laws.BytesString
import Derived.Scope
import Derived.Lib.Bytealg
import Derived.Lib.Index
import Derived.Lib.TrailingZeros
import Derived.Lib.BitFns
import Derived.Lib.ItoaNum
import Derived.Lib.Join
import Derived.Laws.Externs
import Derived.Lib.Replace
import Derived.Shelf.Abstract
import Derived.Laws.RangeString
import Derived.Test.YtmjappnpedjlnaaGreatDoorEvA
namespace Go.Proofs.YtmjappnpedjlnaaGreatDoor.Ev
set_option autoImplicit false
section
open Go Go.RowKit
section
variable {P:Program} {G base:Nat} {φ:Phi} {st st':St} {W:World}
theorem splice_mid: ∀(C:List Value) (n:Nat) (X:List Value),n+X.length≤C.length→splice C n X=C.take n++X++C.drop (n+X.length):=by
 intro C
 induction C with
 |nil=>
  intro n X h
  simp only [List.length_nil] at h
  have:X=[]:=List.eq_nil_of_length_eq_zero (by omega)
  subst this
  have:n=0:=by simpa using h
  subst this
  rfl
 |cons c C ih=>
  intro n X h
  cases n with
  |succ n=>
   simp only [splice,List.take_succ_cons,List.cons_append]
   rw [ih n X (by simp at h;omega),show n+1+X.length=(n+X.length)+1 by omega,List.drop_succ_cons]
  |zero=>
   cases X with
   |nil=>simp [splice]
   |cons x X=>
    simp only [splice]
    rw [ih 0 X (by simp at h ⊢;omega)]
    simp
theorem zeroCells_len (z:Value) (n:Nat):(Builtin.zeroCells z.cells n).toList.length=n*z.cells.size:=by simp [Builtin.zeroCells]
theorem evAppend2_ok (hi:Inv P G base φ st W) (hb:base≤W.heap.size) {sT xT ty elem:TypeId} {u:TypeDesc} {z s S x X v:Value} {size by_:Nat} (hsT:P.underlying sT=some (.slice elem)) (hxT:P.underlying xT=some u)
  (hsz:sizeB P elem=some size) (hby:bytesB P elem=some by_) (hz:zeroB P G elem=some z) (hkd:appendKind x u=true) (h0:0<size) (hby':by_≤4096) (hzs:z.cells.size=size)
  (h:evAppend2 P G elem size s x st=some (v,st')) (hf:Fresh φ st st') (hs:Rel G φ s S) (hx:Rel G φ x X):
  SemOk P G base φ st W (Builtin.append_ #[sT,xT] ty #[S,X]) v st':=by
 obtain ⟨i,hi1,hi2⟩:=sizeB_ok hsz
 obtain ⟨i2,hi3,hi4⟩:=bytesB_ok hby
 rw [hi1] at hi3
 cases hi3
 obtain ⟨i3,hi5,hi6,hi7⟩:=zeroB_ok hz
 rw [hi1] at hi5
 cases hi5
 subst hi2
 subst hi4
 unfold evAppend2 at h
 split at h
 ·rename_i xs k hap
  split at h
  ·rename_i hc
   rw [Bool.and_eq_true] at hc
   have hk:=Nat.le_of_ble_eq_true hc.1
   have hlen:=Nat.eq_of_beq_eq_true hc.2
   obtain ⟨Xs,hXs,harg⟩:=appended_ok hi hap hkd hx hz hzs h0
   have hXl:Xs.length=k*i.size:=by rw [←hXs.1];exact hlen
   have grow: ∀(st1:St) (olds Olds:List Value) (n:Nat) (b:Option Addr) (c:Nat),S= .slice b n c→(∀W1:World,W1.heap=W.heap→(Builtin.firstCells i.size n (.slice b n c)).run P W1= .ok Olds.toArray W1)→RelL G φ olds Olds→olds.length=n*i.size→n≤1000000→c<n+k→
     Post P G base φ st W st1 φ W→st1.next=st.next→φ st.next=none→growB elem (olds++xs) (n+k) st1=some (v,st')→SemOk P G base φ st W (Builtin.append_ #[sT,xT] ty #[S,X]) v st':=by
    intro st1 olds Olds n b c hS hfc hO hol hn hroom hp1 hnx hfr hg
    subst hS
    obtain ⟨rfl,rfl⟩:=put_inv hg
    have hrun:=run_append_out (P:=P) (W:=W) (ty:=ty) hsT hxT hi1 hi6 h0 hby' harg b n c Olds hfc hroom (by omega)
    have hge:=grownCap_ge W (n+k) c elem
    have hp2:=grow_post (P:=P) (base:=base) hp1.inv hb (by rw [hnx];exact hfr) (n:=n+k) (cap:=grownCap W (n+k) c elem) (Z:=(Builtin.zeroCells z.cells (grownCap W (n+k) c elem - (n+k))).toList) hsz (hO.append hXs)
     (by rw [List.length_append,hol,hlen,Nat.add_mul]) (by rw [zeroCells_len,hzs]) hge
    refine ⟨_,_,_,hrun,Post.trans hp1 (fun b hb1 hb2=>absurd hb2 (by rw [hnx];omega)) hp2,?_⟩
    have h2:=Rel.sliceE (G:=G) (o:=0) (n:=n+k) (c:=n+k) (Phi.add_self φ st1.next (W.heap.size,grownCap W (n+k) c elem - (n+k)))
    rwa [show n+k+(grownCap W (n+k) c elem - (n+k))=grownCap W (n+k) c elem by omega] at h2
   split at h
   · -- nil
    rw [hs.slice_nil]
    split at h
    ·cases h
     have hXn:Xs=[]:=List.eq_nil_of_length_eq_zero (by rw [hXl];simp)
     subst hXn
     have hrun:=run_append_in (P:=P) (W:=W) (ty:=ty) hsT hxT hi1 hi6 h0 hby' harg none 0 0 (by omega)
     refine ⟨.slice none 0 0,φ,W,?_,Post.refl hi,.free (d:=0) rfl⟩
     rw [hrun]
     simp
    ·rename_i k'
     have hfr:φ st.next=none:=by
      obtain ⟨_,rfl⟩:=put_inv h
      exact hf _ (Nat.le_refl _)
     rw [←hs.slice_nil]
     exact grow st [] [] 0 none 0 hs.slice_nil (fun W1 _=>by simp [Builtin.firstCells]) .nil (by simp) (by omega) (by omega) (Post.refl hi) rfl hfr (by simpa using h)
   · -- a row
    rename_i a n cap
    split at h
    ·rename_i hn
     have hn:=Nat.le_of_ble_eq_true hn
     obtain ⟨r,κ,hsp,hr,hS⟩:=hs.slice_inv
     have hcap: ∃c,S= .slice (some ⟨r,a.off,none⟩) n c∧cap/2≤c∧(cap % 2=0→c=cap/2)∧(cap % 2=1→c=cap/2+κ)∧ ∀m,Rel G φ (.slice (some a) m cap) (.slice (some ⟨r,a.off,none⟩) m c):=by
      obtain ⟨ab,ao,asp⟩:=a
      cases hsp
      rcases hS with ⟨c',hc,rfl⟩|⟨c',hc,rfl⟩
      ·exact ⟨_,rfl,by omega,by omega,by omega,fun m=>by subst hc;exact .sliceX hr⟩
      ·exact ⟨_,rfl,by omega,by omega,by omega,fun m=>by subst hc;exact .sliceE hr⟩
     obtain ⟨c,rfl,hc1,hc2,hc3,hrel⟩:=hcap
     clear hS
     unfold appendTo at h
     split at h
     ·rename_i cs e ext hsp' hl
      split at h
      · -- there is room
       rename_i hroom
       have hroom:=Nat.le_of_ble_eq_true hroom
       split at h
       ·rename_i st1 hw
        cases h
        obtain ⟨W',hrun',hpost,_⟩:=write_ok hi hw (a:=⟨a.block,a.off+n*i.size,none⟩) hr hXs
        have hrun:=run_append_in (P:=P) (W:=W) (ty:=ty) hsT hxT hi1 hi6 h0 hby' harg (some ⟨r,a.off,none⟩) n c (by omega)
        refine ⟨_,φ,W',?_,hpost,hrel (n+k)⟩
        rw [hrun]
        simp only [addr_add]
        rw [hrun']
        rfl
       ·cases h
      ·rename_i hroom
       have hroom: ¬(n+k≤cap/2):=fun h=>by rw [Nat.ble_eq_true_of_le h] at hroom;cases hroom
       split at h
       ·cases h
       ·rename_i old hold
        obtain ⟨C,fr,s',h1,h2,h3,h4,h5,h6⟩:=hi.obj _ _ _ _ hl hr
        have hcell:cellsAt st.heap a (n*i.size)=some old:=by
         unfold cellsAt
         rw [hsp',hl]
         exact hold
        obtain ⟨Old,hO,hOl,_,hfc⟩:=firstCells_ok hi hcell hr
        have hol:old.length=n*i.size:=by rw [hO.1];exact hOl
        split at h
        ·rename_i hev
         have hce:=hc2 hev
         have hfr:φ st.next=none:=by
          obtain ⟨_,rfl⟩:=put_inv h
          exact hf _ (Nat.le_refl _)
         exact grow st old Old n _ c rfl (fun W1 hW=>hfc W1 hW n c) hO hol hn (by omega) (Post.refl hi) rfl hfr h
        ·rename_i hodd
         have hco:=hc3 (by rcases Nat.mod_two_eq_zero_or_one cap with h|h;exact absurd h hodd;exact h)
         split at h
         ·rename_i hcd
          simp only [Bool.and_eq_true] at hcd
          obtain ⟨⟨⟨hoff,he⟩,hcl⟩,hone⟩:=hcd
          have hoff:=Nat.eq_of_beq_eq_true hoff
          have he:=Nat.eq_of_beq_eq_true he
          have hcl:=Nat.eq_of_beq_eq_true hcl
          subst he
          have hfr:φ st.next=none:=by
           obtain ⟨_,rfl⟩:=put_inv h
           exact hf _ (Nat.le_refl _)
          by_cases hin:n+k≤c
          · -- in its own place
           obtain ⟨rfl,rfl⟩:=put_inv h
           have hCsz:C.size=c*i.size:=by
            rw [h4,hco,Nat.add_mul,hcl]
            rcases h3 with rfl|h3
            ·simp
            ·rw [hsz] at h3;cases h3;rfl
           have hfit:n*i.size+Xs.length≤C.size:=by
            rw [hXl,hCsz,←Nat.add_mul]
            exact Nat.mul_le_mul_right _ hin
           have hst:=run_storeCells_any P r (n*i.size) e fr Xs 0 C W h1 (by simpa using hfit) (h6 rfl) (hXs.ones hone)
           have hrun:=run_append_in (P:=P) (W:=W) (ty:=ty) hsT hxT hi1 hi6 h0 hby' harg (some ⟨r,a.off,none⟩) n c hin
           have hlen2:(old++xs).length=(n+k)*i.size:=by rw [List.length_append,hol,hlen,Nat.add_mul]
           have hp:=take_post (P:=P) (base:=base) (κ':=c - (n+k)) (new:=old++xs) (C':=(splice C.toList (n*i.size) Xs).toArray) hi hfr hl hr h1 (h6 rfl) hsz (by simp [splice_length])
            (by
             rw [hlen2,←Nat.add_mul,show n+k+(c - (n+k))=c by omega]
             simp [splice_length,hCsz])
            (by
             rw [hlen2,splice_mid _ _ _ (by simpa using hfit)]
             have e1:(C.toList.take (n*i.size)++Xs++C.toList.drop (n*i.size+Xs.length)).take ((n+k)*i.size)=C.toList.take (n*i.size)++Xs:=by
              have e2:(C.toList.take (n*i.size)++Xs).length=(n+k)*i.size:=by
               rw [List.length_append,List.length_take,hXl,Nat.add_mul,Array.length_toList]
               omega
              rw [←e2]
              exact List.take_left
             have e3:((C.toList.take (n*i.size)++Xs++C.toList.drop (n*i.size+Xs.length)).toArray.toList).take ((n+k)*i.size)=C.toList.take (n*i.size)++Xs:=e1
             rw [e3]
             refine RelL.append ?_ hXs
             obtain ⟨hb1,ho1,hr1⟩:=h2.slc hold
             rw [hoff,List.drop_zero,List.take_take] at hr1
             rwa [Nat.min_eq_left (by omega)] at hr1)
           refine ⟨.slice (some ⟨r,0,none⟩) (n+k) c,_,_,?_,hp,?_⟩
           ·rw [hrun]
            simp only [addr_add,hoff,Nat.zero_add]
            rw [hst]
            simp only [Nat.add_zero]
            rfl
           ·have h2:=Rel.sliceE (G:=G) (o:=0) (n:=n+k) (c:=n+k) (Phi.add_self φ st.next (r,c - (n+k)))
            rw [show n+k+(c - (n+k))=c by omega] at h2
            exact h2
          ·exact grow ⟨dropB st.heap a.block,st.next,Nat.min st.low a.block⟩ old Old n _ c rfl (fun W1 hW=>hfc W1 hW n c) hO hol hn (by omega) (drop_post hi a.block) rfl hfr h
         ·cases h
     ·cases h
    ·cases h
   ·cases h
  ·cases h
 ·cases h
theorem evAppend_ok (hi:Inv P G base φ st W) (hb:base≤W.heap.size) {ats:Array TypeId} {ty:TypeId} {s S x X v:Value} (h:evAppend P G ats.toList s x st=some (v,st')) (hf:Fresh φ st st') (hs:Rel G φ s S) (hx:Rel G φ x X):
  SemOk P G base φ st W (Builtin.append_ ats ty #[S,X]) v st':=by
 unfold evAppend at h
 split at h
 ·rename_i sT xT hats
  have:ats= #[sT,xT]:=by apply Array.ext';simpa using hats
  subst this
  split at h
  ·rename_i elem u hsT hxT
   split at h
   ·rename_i size by_ z hsz hby hz
    split at h
    ·rename_i hc
     simp only [Bool.and_eq_true] at hc
     obtain ⟨⟨⟨h1,h2⟩,h3⟩,h4⟩:=hc
     exact evAppend2_ok hi hb hsT hxT hsz hby hz h1 (blt_ok h2) (Nat.le_of_ble_eq_true h3) (Nat.eq_of_beq_eq_true h4) h hf hs hx
    ·cases h
   ·cases h
  ·cases h
 ·cases h
theorem evCopy_ok (hi:Inv P G base φ st W) {t:TypeId} {ats:Array TypeId} {ty:TypeId} (ht:ats[0]? =some t) {d D x X v:Value} (h:evCopy P t d x st=some (v,st')) (hd:Rel G φ d D) (hx:Rel G φ x X):
  SemOk P G base φ st W (Builtin.copy_ ats ty #[D,X]) v st':=by
 unfold evCopy at h
 split at h
 ·rename_i elem a n c hu
  split at h
  ·rename_i size hsz
   obtain ⟨r,κ,hsp,hr,hD⟩:=hd.slice_inv
   have hD': ∃c',D= .slice (some ⟨r,a.off,none⟩) n c':=by rcases hD with ⟨c',_,rfl⟩|⟨c',_,rfl⟩<;>exact ⟨_,rfl⟩
   obtain ⟨c',rfl⟩:=hD'
   split at h
   ·rename_i b m cx
    split at h
    ·rename_i xs hxs
     split at h
     ·rename_i st1 hw
      cases h
      obtain ⟨r2,κ2,hsp2,hr2,hX⟩:=hx.slice_inv
      obtain ⟨Xs,hXs,hXl,_,hfc⟩:=firstCells_ok hi hxs hr2
      obtain ⟨W',hrun',hpost,_⟩:=write_ok hi hw hr hXs
      refine ⟨_,φ,W',?_,hpost,.free (d:=0) rfl⟩
      rcases hX with ⟨cc,_,rfl⟩|⟨cc,_,rfl⟩<;>
       simp [Builtin.copy_,ht,run_underlying hu,Builtin.lenOf,run_sizeOf hsz,hfc W rfl,hrun']
     ·cases h
    ·cases h
   ·cases h
  ·cases h
 ·cases h
end
end
section
open Go Go.RowKit
section
variable {P:Program} {G base:Nat} {φ:Phi} {st st':St} {W:World}
def CallR (P:Program) (g:FuncId) (Args:Array Value) (W:World) (R:Value→World→Prop):Prop:=
 (∃V W',(callFunc g Args).run P W= .ok (.value V) W'∧R V W')∨(∃f As,(callFunc g Args).run P W= .ok (.enter f As) W∧Calls P f As W fun e W'=> ∃V,e= .returned V∧R V W')
def CallSound (P:Program) (G base:Nat) (T:World→Prop) (callf:CallF):Prop:=
 ∀(g:FuncId) (args:List Value) (st:St) (v:Value) (st':St) (φ:Phi) (W:World) (Args:Array Value),callf g args st=some (v,st')→Inv P G base φ st W→base≤W.heap.size→T W→Fresh φ st st'→RelL G φ args Args.toList→
  CallR P g Args W fun V W'=> ∃φ',Post P G base φ st W st' φ' W'∧Rel G φ' v V
theorem wp_value {o:Oper} {A:Act} {W':World} {V:Value} {K:Act→World→Prop} {Q:Exit→Act→World→Prop} (h:(execOp A.eval o).run P W= .ok (.value V) W') (k:K (A.put o.dst V) W'):o.wp P A W K Q:=by
 unfold Oper.wp
 rw [h]
 exact k
theorem wp_skip' {o:Oper} {A:Act} {W':World} {K:Act→World→Prop} {Q:Exit→Act→World→Prop} (h:(execOp A.eval o).run P W= .ok .skip W') (k:K (A.put o.dst undef) W'):o.wp P A W K Q:=by
 unfold Oper.wp
 rw [h]
 exact k
theorem wp_callR {o:Oper} {A:Act} {g:FuncId} {Args:Array Value} {K:Act→World→Prop} {Q:Exit→Act→World→Prop} {R:Value→World→Prop} (h: ∀n W',(callFunc g Args).run P W= .ok n W'→(execOp A.eval o).run P W= .ok n W')
  (hc:CallR P g Args W R) (k: ∀V W',R V W'→K (A.put o.dst V) W'):o.wp P A W K Q:=by
 rcases hc with ⟨V,W',h1,h2⟩|⟨f,As,h1,h2⟩
 ·exact wp_value (h _ _ h1) (k _ _ h2)
 ·unfold Oper.wp
  rw [h _ _ h1]
  refine Calls.mono h2 fun e W' he=> ?_
  obtain ⟨V,rfl,hR⟩:=he
  exact k _ _ hR
theorem RelL.map_ops {ts:Ts} {A:Act}: ∀{l:List Operand},(∀y∈l,Rel G φ (ρ ts y) (A.eval y))→RelL G φ (l.map (ρ ts)) (l.map A.eval)
 |[],_=> .nil
 |y::l,h=> .cons (h y (by simp)) (RelL.map_ops fun z hz=>h z (by simp [hz]))
theorem on1_ok {ts:Ts} {l:List Operand} {f:Value→Res} {r:Value×St} (h:on1 (l.map (ρ ts)) f=some r): ∃a,l=[a]∧f (ρ ts a)=some r:=by
 unfold on1 at h
 split at h
 ·rename_i x e
  match l,e with
  |[a],e=>simp at e;exact ⟨a,rfl,by rw [e];exact h⟩
 ·cases h
theorem on2_ok {ts:Ts} {l:List Operand} {f:Value→Value→Res} {r:Value×St} (h:on2 (l.map (ρ ts)) f=some r): ∃a b,l=[a,b]∧f (ρ ts a) (ρ ts b)=some r:=by
 unfold on2 at h
 split at h
 ·rename_i x y e
  match l,e with
  |[a,b],e=>simp at e;exact ⟨a,b,rfl,by rw [e.1,e.2];exact h⟩
 ·cases h
theorem tyAt_ok {ats:Array TypeId} {f:TypeId→Res} {r:Value×St} (h:tyAt ats f=some r): ∃t,ats[0]? =some t∧f t=some r:=by
 unfold tyAt at h
 split at h
 ·rename_i t l e
  exact ⟨t,by rw [←Array.getElem?_toList,e];rfl,h⟩
 ·cases h
theorem tyAt2_ok {ats:Array TypeId} {f:TypeId→Res} {r:Value×St} (h:tyAt2 ats f=some r): ∃t u,ats= #[t,u]∧f t=some r:=by
 unfold tyAt2 at h
 split at h
 ·rename_i t u e
  exact ⟨t,u,by apply Array.ext';simpa using e,h⟩
 ·cases h
theorem arr1 {args:Array Operand} {a:Operand} (h:args.toList=[a]):args= #[a]:=by apply Array.ext';simpa using h
theorem arr2 {args:Array Operand} {a b:Operand} (h:args.toList=[a,b]):args= #[a,b]:=by apply Array.ext';simpa using h
theorem calm_sound (hG:Above G φ) {callf:CallF} {ts:Ts} {o:Oper} {A:Act} {v:Value} (hc:calmB o.op=true) (h:evOp P G callf ts o st=some (v,st')) (hx: ∀x∈o.op.operands,Rel G φ (ρ ts x) (A.eval x)):
  st'=st∧ ∃V,Rel G φ v V∧ ∀W,(execOp A.eval o).run P W= .ok (.value V) W:=by
 obtain ⟨dst,op,ty,pos,after,guard⟩:=o
 unfold evOp opD at h
 have lift: ∀{s:Sem Value} {v:Value},(st'=st∧CalmOk P G φ s v)→execOp A.eval ⟨dst,op,ty,pos,after,guard⟩=(do pure (.value (←s)))→st'=st∧ ∃V,Rel G φ v V∧ ∀W,(execOp A.eval ⟨dst,op,ty,pos,after,guard⟩).run P W= .ok (.value V) W:=by
  intro s v ⟨h1,V,h2,h3⟩ he
  refine ⟨h1,V,h2,fun W=> ?_⟩
  rw [he]
  simp only [Sem.run_bind,h3,Result.andThen_ok]
  rfl
 cases op<;>simp only [calmB] at hc<;>first|cases hc|skip
 case move x=>simp only [hMove] at h;cases h;exact ⟨rfl,_,hx x (by simp [Op.operands]),fun W=>rfl⟩
 case assign x=>simp only [hMove] at h;cases h;exact ⟨rfl,_,hx x (by simp [Op.operands]),fun W=>rfl⟩
 case pick c a b=>
  simp only [hPick] at h
  have:=evPick_ok (P:=P) h (hx c (by simp [Op.operands])) (hx a (by simp [Op.operands])) (hx b (by simp [Op.operands]))
  obtain ⟨h1,V,h2,h3⟩:=this
  refine ⟨h1,V,h2,fun W=> ?_⟩
  have h3:=h3 W
  simp only [execOp,Sem.run_bind,Result.andThen] at h3 ⊢
  split at h3
  ·simp only [Sem.run_pure] at h3 ⊢
   cases h3
   rfl
  ·cases h3
 case build t parts=>
  simp only [hBuild] at h
  exact lift (evBuild_ok h (RelP.of_map (A:=A) fun y hy=>hx y.2 (by simp only [Op.operands];simp;exact ⟨y.1,by simpa using hy⟩))) (by simp only [execOp];congr 2;apply Array.ext';simp)
 case nilCheck x=>
  simp only [hNil] at h
  obtain ⟨h1,h2,h3⟩:=evNil_ok h (hx x (by simp [Op.operands]))
  subst h2
  refine ⟨h1,_,hx x (by simp [Op.operands]),fun W=> ?_⟩
  rcases h3 with ⟨a,ha⟩|⟨t,u,ha⟩|⟨f,F,C,ha⟩<;>simp [execOp,ha]
 case binOp op t x y yt=>simp only [hBin] at h;exact lift (evBin_ok hG (x:=x) (y:=y) h (hx x (by simp [Op.operands])) (hx y (by simp [Op.operands]))) rfl
 case unOp op t x=>
  simp only [hUn] at h
  exact lift (evPure_ok (args:=[ρ ts x]) (Args:=[A.eval x]) (s:=fun l=>Op.unary op (l.getD 0 undef)) hG h (.cons (hx x (by simp [Op.operands])) .nil)) rfl
 case makeInterface t x=>simp only [hIface] at h;exact lift (evIface_ok h (hx x (by simp [Op.operands]))) rfl
 case makeFunc fn first captured=>
  simp only [hFunc] at h
  cases h
  refine ⟨rfl,_,?_,fun W=>rfl⟩
  have h1:RelL G φ (first.map (ρ ts)).toList (first.map A.eval).toList:=by
   rw [Array.toList_map,Array.toList_map];exact RelL.map_ops fun y hy=>hx y (by simp [Op.operands];exact .inl (by simpa using hy))
  have h2:RelL G φ (captured.map (ρ ts)).toList (captured.map A.eval).toList:=by
   rw [Array.toList_map,Array.toList_map];exact RelL.map_ops fun y hy=>hx y (by simp [Op.operands];exact .inr (by simpa using hy))
  exact .func (relA.2 h1).1 (relA.2 h1).2 (relA.2 h2).1 (relA.2 h2).2
 case slice t x lo hi mx=>
  simp only [hSlice] at h
  exact lift (evSlice_ok h (hx x (by simp [Op.operands])) (RelO.map fun y hy=>hx y (by simp [Op.operands,hy])) (RelO.map fun y hy=>hx y (by simp [Op.operands,hy])) (RelO.map fun y hy=>hx y (by simp [Op.operands,hy]))) rfl
 case fieldAddr s x f=>simp only [hFieldAddr] at h;exact lift (evFieldAddr_ok h (hx x (by simp [Op.operands]))) rfl
 case field t x f=>simp only [hField] at h;exact lift (evField_ok h (hx x (by simp [Op.operands]))) rfl
 case indexAddr t x ix=>simp only [hIndexAddr] at h;exact lift (evIndexAddr_ok h (hx x (by simp [Op.operands])) (hx ix (by simp [Op.operands]))) rfl
 case index t x ix=>simp only [hIndex] at h;exact lift (evIndex_ok h (hx x (by simp [Op.operands])) (hx ix (by simp [Op.operands]))) rfl
 case typeAssert x t0 asserted ok=>simp only [hAssert] at h;exact lift (evAssert_ok h (hx x (by simp [Op.operands]))) rfl
 case extract t i=>simp only [hExtract] at h;exact lift (evExtract_ok h (hx t (by simp [Op.operands]))) rfl
 case call c=>
  obtain ⟨callee,args,ats⟩:=c
  cases callee with
  |value f=>simp at hc
  |invoke r n=>simp at hc
  |builtin b=>
   cases b<;>simp at hc
   simp only [hCall,evCall] at h
   simp only [evBuiltin] at h
   obtain ⟨x,hargs,h⟩:=on1_ok h
   obtain ⟨t,ht0,hl⟩:=tyAt_ok h
   have har:=arr1 hargs;subst har
   exact lift (evLen_ok (ty:=ty) ht0 hl (hx x (by simp [Op.operands,Call.operands]))) (by simp [execOp,resolve,invoke,builtin])
theorem calmT_sound (hG:Above G φ) {callf:CallF} {ts:Ts} {o:Oper} {A:Act} {v:Value} (hc:calmT ts o.op=true) (h:evOp P G callf ts o st=some (v,st')) (hx: ∀x∈o.op.operands,Rel G φ (ρ ts x) (A.eval x)):
  st'=st∧ ∃V,Rel G φ v V∧ ∀W,(execOp A.eval o).run P W= .ok (.value V) W:=by
 by_cases hb:calmB o.op=true
 ·exact calm_sound hG hb h hx
 obtain ⟨dst,op,ty,pos,after,guard⟩:=o
 cases op<;>first|exact absurd hc hb|skip
 case convert src dst' x=>
  simp only [calmT] at hc
  split at hc
  ·rename_i k n hv
   have hX:=hx x (by simp [Op.operands])
   unfold evOp opD at h
   simp only [hConvert,hv] at h
   have h':evPure P G [.int k n] (convert src dst' ([Value.int k n].getD 0 undef)) st=some (v,st'):=by
    unfold evConvert at h
    split at h<;>first|exact h|(rename_i e;cases e)|(rename_i e _;cases e)|(rename_i e _ _;cases e)|skip
   rw [hv] at hX
   obtain ⟨h1,V,h2,h3⟩:=evPure_ok (args:=[.int k n]) (Args:=[A.eval x]) (s:=fun l=>convert src dst' (l.getD 0 undef)) hG h' (.cons hX .nil)
   refine ⟨h1,V,h2,fun W=> ?_⟩
   have:=h3 W
   simp only [execOp,Sem.run_bind]
   change ((convert src dst' (A.eval x)).run P W).andThen _=_
   have e:(convert src dst' (A.eval x)).run P W= .ok V W:=this
   rw [e]
   rfl
  ·cases hc
theorem run_method {t:TypeId} {name:String} {g:FuncId} (h:methodB P t name=some g) (V:Value) (n:Nat) (W:World):(method (n+1) t V name).run P W= .ok (g,V) W:=by
 unfold methodB at h
 split at h
 ·rename_i i hi
  split at h
  ·rename_i m hm
   split at h
   ·rename_i f pr hp hf
    have hpe:m.path= #[]:=by apply Array.ext';simpa using hp
    split at h
    ·rename_i e hu
     split at h
     ·cases h
      simp [method,typeInfo,hi,hm,hpe,follow,hf,receiverAt,run_underlying hu,Place.get]
     ·cases h
    ·rename_i d hd hu
     split at h
     ·cases h
     ·cases h
      simp only [method,Sem.run_bind,typeInfo,run_program,Result.andThen_ok,hi,Sem.run_pure,hm,hpe,follow,hf,receiverAt,run_underlying hu]
      cases d<;>first|rfl|exact absurd rfl (hd _)
    ·cases h
   ·cases h
  ·cases h
 ·cases h
theorem evCall_ok {T:World→Prop} (hi:Inv P G base φ st W) (hb:base≤W.heap.size) {callf:CallF} (hcs:CallSound P G base T callf) (hT:T W) {ts:Ts} {c:Call} {ty:TypeId} {A:Act} {v:Value} {o:Oper} (ho:o.op= .call c) (hty:o.type=ty)
  (h:evCall P G callf ts c ty st=some (v,st')) (hf:Fresh φ st st') (hx: ∀x∈c.operands,Rel G φ (ρ ts x) (A.eval x)) {K:Act→World→Prop} {Q:Exit→Act→World→Prop}
  (k: ∀φ' V W',Post P G base φ st W st' φ' W'→Rel G φ' v V→K (A.put o.dst V) W'):o.wp P A W K Q:=by
 have hargs:RelL G φ (c.args.toList.map (ρ ts)) (c.args.toList.map A.eval):=RelL.map_ops fun y hy=>hx y (by simp only [Call.operands];exact Array.mem_append.2 (.inr (by simpa using hy)))
 have hexec:execOp A.eval o=(do let d ←resolve A.eval c o.type;invoke d.target d.args):=by unfold execOp;rw [ho]
 unfold evCall at h
 split at h
 ·rename_i f hcal
  split at h
  ·rename_i g first captured hfv
   have hF:=hx f (by simp [Call.operands,hcal])
   rw [hfv] at hF
   obtain ⟨F,C,hFe,hF1,hF2⟩:=hF.func_inv
   have hrel:RelL G φ (first.toList++c.args.toList.map (ρ ts)++captured.toList) (F++c.args.map A.eval++C).toList:=by
    simp only [Array.toList_append,Array.toList_map]
    exact (hF1.append hargs).append hF2
   have hcr:=hcs _ _ _ _ _ _ _ _ h hi hb hT hf hrel
   refine wp_callR (fun n W' hr=> ?_) hcr fun V W' ⟨φ',h1,h2⟩=>k φ' V W' h1 h2
   rw [hexec]
   simp only [resolve,hcal,hFe,Deferred.ofValue,Sem.run_bind,Sem.run_pure,Result.andThen_ok,invoke]
   exact hr
  ·cases h
 ·rename_i r name hcal
  split at h
  ·rename_i t u hrv
   split at h
   ·rename_i g hm
    have hR:=hx r (by simp [Call.operands,hcal])
    rw [hrv] at hR
    obtain ⟨U,hUe,hU⟩:=hR.iface_inv
    have hrel:RelL G φ (u::c.args.toList.map (ρ ts)) (#[U]++c.args.map A.eval).toList:=by
     simp only [Array.toList_append,Array.toList_map]
     exact .cons hU hargs
    have hcr:=hcs _ _ _ _ _ _ _ _ h hi hb hT hf hrel
    refine wp_callR (fun n W' hr=> ?_) hcr fun V W' ⟨φ',h1,h2⟩=>k φ' V W' h1 h2
    rw [hexec]
    have hdep:P.types.size+Made.depth=(P.types.size+99)+1:=rfl
    have hmet:=run_method (P:=P) hm U (P.types.size+99) W
    simp only [resolve,hcal,hUe,Sem.run_bind,Sem.run_pure,Result.andThen_ok,invoke]
    have e1:(#[Value.iface t U]++c.args.map A.eval)[0]? =some (.iface t U):=by rw [Array.getElem?_append];rfl
    have e2:(#[Value.iface t U]++c.args.map A.eval).extract 1 (#[Value.iface t U]++c.args.map A.eval).size=c.args.map A.eval:=by
     apply Array.ext'
     simp
     exact List.take_of_length_le (by simp)
    rw [e1]
    simp only [e2,callMethod,Sem.run_bind,run_program,Result.andThen_ok,hdep,hmet]
    exact hr
   ·cases h
  ·cases h
 ·rename_i b hcal
  have done: ∀{s:Sem Value},SemOk P G base φ st W s v st'→(execOp A.eval o=do pure (.value (←s)))→o.wp P A W K Q:=by
   intro s ⟨V,φ',W',h1,h2,h3⟩ he
   refine wp_value (W':=W') (V:=V) ?_ (k φ' V W' h2 h3)
   rw [he]
   simp only [Sem.run_bind,h1,Result.andThen_ok]
   rfl
  have calm: ∀{s:Sem Value},(st'=st∧CalmOk P G φ s v)→(execOp A.eval o=do pure (.value (←s)))→o.wp P A W K Q:=by
   intro s ⟨h1,V,h2,h3⟩ he
   subst h1
   exact done ⟨V,φ,W,h3 W,Post.refl hi,h2⟩ he
  have hb2: ∀l:List Operand,c.args.toList=l→execOp A.eval o=builtin b c.argTypes o.type (c.args.map fun| .const _=>true|_=>false) (l.map A.eval).toArray:=by
   intro l hl
   rw [hexec]
   simp only [resolve,hcal,invoke]
   have:c.args.map A.eval=(l.map A.eval).toArray:=by apply Array.ext';simp [hl]
   rw [this]
   rfl
  have hG:=hi.above
  obtain ⟨callee,args,ats⟩:=c
  simp only at*
  subst hcal
  have rel: ∀x∈args.toList,Rel G φ (ρ ts x) (A.eval x):=fun x hx'=>hx x (by simp [Call.operands];simpa using hx')
  cases b<;>simp only [evBuiltin] at h<;>first|cases h;done|skip
  case append=>
   obtain ⟨x,y,hargs,h⟩:=on2_ok h
   have har:=arr2 hargs;subst har
   exact done (evAppend_ok (ty:=o.type) hi hb h hf (rel x (by simp)) (rel y (by simp))) (by rw [hb2 _ hargs];rfl)
  case copy=>
   obtain ⟨x,y,hargs,h⟩:=on2_ok h
   obtain ⟨t,ht0,h2⟩:=tyAt_ok h
   have har:=arr2 hargs;subst har
   exact done (evCopy_ok (ty:=o.type) hi ht0 h2 (rel x (by simp)) (rel y (by simp))) (by rw [hb2 _ hargs];rfl)
  case len=>
   obtain ⟨x,hargs,h⟩:=on1_ok h
   obtain ⟨t,ht0,h2⟩:=tyAt_ok h
   have har:=arr1 hargs;subst har
   exact calm (evLen_ok (ty:=o.type) ht0 h2 (rel x (by simp))) (by rw [hb2 _ hargs];rfl)
  case unsafeSliceData=>
   obtain ⟨x,hargs,h⟩:=on1_ok h
   have har:=arr1 hargs;subst har
   exact calm (evSliceData_ok (ts:=ats) (ty:=o.type) h (rel x (by simp))) (by rw [hb2 _ hargs];rfl)
  case unsafeString=>
   obtain ⟨x,y,hargs,h⟩:=on2_ok h
   obtain ⟨t,u,rfl,h2⟩:=tyAt2_ok h
   have har:=arr2 hargs;subst har
   exact done (evUnsafeString_ok (it:=u) (ty:=o.type) hi h2 (rel x (by simp)) (rel y (by simp))) (by rw [hb2 _ hargs];rfl)
  case min=>
   have:=evPure_ok (args:=args.toList.map (ρ ts)) (Args:=args.toList.map A.eval) (s:=fun l=>Builtin.min_ ats ty l.toArray) hG h hargs
   exact calm this (by rw [hb2 _ rfl,hty];rfl)
  case max=>
   have:=evPure_ok (args:=args.toList.map (ρ ts)) (Args:=args.toList.map A.eval) (s:=fun l=>Builtin.max_ ats ty l.toArray) hG h hargs
   exact calm this (by rw [hb2 _ rfl,hty];rfl)
theorem op_sound {T:World→Prop} (hi:Inv P G base φ st W) (hb:base≤W.heap.size) {callf:CallF} (hcs:CallSound P G base T callf) (hT:T W) {ts:Ts} {o:Oper} {A:Act} {v:Value}
  (h:evOp P G callf ts o st=some (v,st')) (hf:Fresh φ st st') (hx: ∀x∈o.op.operands,Rel G φ (ρ ts x) (A.eval x)) {K:Act→World→Prop} {Q:Exit→Act→World→Prop}
  (k: ∀φ' V W',Post P G base φ st W st' φ' W'→Rel G φ' v V→K (A.put o.dst V) W'):o.wp P A W K Q:=by
 by_cases hc:calmB o.op=true
 ·obtain ⟨rfl,V,hV,hrun⟩:=calm_sound hi.above hc h hx
  exact wp_value (hrun W) (k φ V W (Post.refl hi) hV)
 have done: ∀{s:Sem Value},SemOk P G base φ st W s v st'→(execOp A.eval o=do pure (.value (←s)))→o.wp P A W K Q:=by
  intro s ⟨V,φ',W',h1,h2,h3⟩ he
  refine wp_value (W':=W') (V:=V) ?_ (k φ' V W' h2 h3)
  rw [he]
  simp only [Sem.run_bind,h1,Result.andThen_ok]
  rfl
 obtain ⟨dst,op,ty,pos,after,guard⟩:=o
 have h0:=h
 unfold evOp opD at h
 cases op<;>simp only [calmB,not_true_eq_false] at hc<;>simp only [hNone] at h<;>first|cases h;done|skip
 case alloc e=>simp only [hAlloc] at h;exact done (evAlloc_ok hi hb h hf) rfl
 case box e x=>simp only [hBox] at h;exact done (evBox_ok hi hb h hf (hx x (by simp [Op.operands]))) rfl
 case buildSlice t len parts=>
  simp only [hBuildSlice] at h
  exact done (evBuildSlice_ok hi hb h hf (RelP.of_map (A:=A) fun y hy=>hx y.2 (by simp only [Op.operands];simp;exact ⟨y.1,by simpa using hy⟩))) (by simp only [execOp];congr 2;apply Array.ext';simp)
 case load t a=>
  simp only [hLoad] at h
  obtain ⟨rfl,V,hV,hrun⟩:=evLoad_ok hi h (hx a (by simp [Op.operands]))
  exact done ⟨V,φ,W,hrun,Post.refl hi,hV⟩ rfl
 case store t a x=>
  simp only [hStore] at h
  obtain ⟨rfl,W',hrun,hpost⟩:=evStore_ok hi h (hx a (by simp [Op.operands])) (hx x (by simp [Op.operands]))
  refine wp_skip' (W':=W') ?_ (k φ undef W' hpost (.free (d:=1) rfl))
  simp only [execOp,Sem.run_bind,hrun,Result.andThen_ok]
  rfl
 case convert src dst x=>simp only [hConvert] at h;exact done (evConvert_ok hi hb h hf (hx x (by simp [Op.operands]))) rfl
 case makeSlice t l c=>simp only [hMakeSlice] at h;exact done (evMakeSlice_ok hi hb h hf (hx l (by simp [Op.operands])) (hx c (by simp [Op.operands]))) rfl
 case range t x=>simp only [hRange] at h;exact done (evRange_ok hi hb h hf (hx x (by simp [Op.operands]))) rfl
 case next it s=>
  simp only [hNext] at h
  cases s
  ·cases h
  ·exact done (evNext_ok hi h (hx it (by simp [Op.operands]))) rfl
 case call c=>
  simp only [hCall] at h
  exact evCall_ok hi hb hcs hT rfl rfl h hf (fun x hx'=>hx x (by simpa [Op.operands] using hx')) k
end
end
section
open Go Go.RowKit
theorem Tr.get_e (k:Nat):Tr.get .e k=undef:=rfl
theorem Tr.get_n (l:Tr) (v:Value) (r:Tr) (k:Nat):Tr.get (.n l v r) k=if k=0 then v else if k % 2=1 then l.get (k/2) else r.get (k/2 - 1):=by
 have e:Tr.get (.n l v r) k=br (Nat.beq k 0) v (br (Nat.beq (Nat.mod k 2) 1) (l.get (Nat.div k 2)) (r.get (Nat.sub (Nat.div k 2) 1))):=rfl
 rw [e]
 by_cases h:k=0
 ·rw [if_pos h,beq_yes h]
 ·rw [if_neg h,beq_no h]
  by_cases h2:k % 2=1
  ·rw [if_pos h2,show Nat.beq (Nat.mod k 2) 1=true from beq_yes h2];rfl
  ·rw [if_neg h2,show Nat.beq (Nat.mod k 2) 1=false from beq_no h2];rfl
theorem Tr.get_split (t:Tr) (k:Nat):t.get k=if k=0 then t.val else if k % 2=1 then t.left.get (k/2) else t.right.get (k/2 - 1):=by
 cases t with
 |e=>
  have:Tr.get .e k=undef:=rfl
  rw [this]
  show undef=if k=0 then undef else if k % 2=1 then Tr.get .e (k/2) else Tr.get .e (k/2 - 1)
  split
  ·rfl
  ·split<;>rfl
 |n l v r=>exact Tr.get_n l v r k
theorem Tr.put_succ (f:Nat) (t:Tr) (k:Nat) (v:Value):Tr.put (f+1) t k v=if k=0 then .n t.left v t.right else if k % 2=1 then .n (Tr.put f t.left (k/2) v) t.val t.right else .n t.left t.val (Tr.put f t.right (k/2 - 1) v):=by
 have e:Tr.put (f+1) t k v=br (Nat.beq k 0) (.n t.left v t.right) (br (Nat.beq (Nat.mod k 2) 1) (.n (Tr.put f t.left (Nat.div k 2) v) t.val t.right) (.n t.left t.val (Tr.put f t.right (Nat.sub (Nat.div k 2) 1) v))):=rfl
 rw [e]
 by_cases h:k=0
 ·rw [if_pos h,beq_yes h]
 ·rw [if_neg h,beq_no h]
  by_cases h2:k % 2=1
  ·rw [if_pos h2,show Nat.beq (Nat.mod k 2) 1=true from beq_yes h2];rfl
  ·rw [if_neg h2,show Nat.beq (Nat.mod k 2) 1=false from beq_no h2];rfl
theorem Tr.get_put: ∀(f:Nat) (t:Tr) (k:Nat) (v:Value) (j:Nat),k+2≤2^f→(Tr.put f t k v).get j=if k=j then v else t.get j:=by
 intro f
 induction f with
 |zero=>intro t k v j h;simp at h
 |succ f ih=>
  intro t k v j h
  rw [Nat.pow_succ] at h
  rw [Tr.put_succ]
  by_cases h0:k=0
  ·rw [if_pos h0,Tr.get_n,Tr.get_split t j]
   subst h0
   by_cases hj:j=0
   ·subst hj;simp
   ·simp [hj,show ¬(0=j) from fun e=>hj e.symm]
  ·rw [if_neg h0]
   by_cases h1:k % 2=1
   ·rw [if_pos h1,Tr.get_n,Tr.get_split t j]
    by_cases hj:j=0
    ·subst hj;rw [if_pos rfl,if_neg h0,if_pos rfl]
    ·rw [if_neg hj]
     by_cases hj1:j % 2=1
     ·rw [if_pos hj1,ih _ _ _ _ (by omega),if_neg hj,if_pos hj1]
      by_cases e:k=j
      ·subst e;simp
      ·rw [if_neg e,if_neg (by omega)]
     ·rw [if_neg hj1,if_neg hj,if_neg hj1,if_neg (by omega)]
   ·rw [if_neg h1,Tr.get_n,Tr.get_split t j]
    by_cases hj:j=0
    ·subst hj;rw [if_pos rfl,if_neg h0,if_pos rfl]
    ·rw [if_neg hj]
     by_cases hj1:j % 2=1
     ·rw [if_pos hj1,if_neg hj,if_pos hj1,if_neg (by omega)]
     ·rw [if_neg hj1,ih _ _ _ _ (by omega),if_neg hj,if_neg hj1]
      by_cases e:k=j
      ·subst e;simp
      ·rw [if_neg e,if_neg (by omega)]
theorem get_ofArgs (args:List Value) (h:args.length≤4000) (j:Nat):(ofArgs args).get j=args.getD j undef:=by
 have key: ∀(l:List Value) (k:Nat) (t:Tr),k+l.length≤4000→ ∀j,(List.rec (motive:=fun _=>Nat→Tr→Tr) (fun _ t=>t) (fun v _ ih k t=>ih (Nat.add k 1) (t.put 12 k v)) l k t).get j=if k≤j∧j<k+l.length then l.getD (j - k) undef else t.get j:=by
  intro l
  induction l with
  |nil=>intro k t _ j;simp;omega
  |cons v l ih=>
   intro k t hk j
   have hk':k+1+l.length≤4000:=by simp at hk;omega
   have:=ih (k+1) (t.put 12 k v) hk' j
   show (List.rec (motive:=fun _=>Nat→Tr→Tr) (fun _ t=>t) (fun v _ ih k t=>ih (Nat.add k 1) (t.put 12 k v)) l (k+1) (t.put 12 k v)).get j=_
   rw [this,Tr.get_put 12 t k v j (by omega)]
   simp only [List.length_cons]
   by_cases h1:k=j
   ·subst h1
    rw [if_neg (by omega),if_pos rfl,if_pos (by omega)]
    simp
   ·rw [if_neg h1]
    by_cases h2:k+1≤j∧j<k+1+l.length
    ·rw [if_pos h2,if_pos (by omega)]
     obtain ⟨d,rfl⟩: ∃d,j=k+1+d:=⟨j - (k+1),by omega⟩
     rw [show k+1+d - (k+1)=d by omega,show k+1+d - k=d+1 by omega]
     simp
    ·rw [if_neg h2,if_neg (by omega)]
 have:=key args 0 .e (by omega) j
 unfold ofArgs
 rw [this]
 by_cases hj:j<args.length
 ·rw [if_pos (by omega)];simp
 ·rw [if_neg (by omega),Tr.get_e]
  simp [List.getD,List.getElem?_eq_none (Nat.le_of_not_lt hj)]
def RelT (G:Nat) (φ:Phi) (m:Nat) (ts:Ts) (A:Act):Prop:=A.tmps.size=m∧m≤4000∧ ∀t,Rel G φ (ts.get t) (A.tmps.getD t undef)
theorem rel_undef {G:Nat} {φ:Phi}:Rel G φ undef undef:= .free (d:=1) rfl
theorem RelT.mono {G:Nat} {φ ψ:Phi} {m:Nat} {ts:Ts} {A:Act} (h:RelT G φ m ts A) (hle:φ.le ψ):RelT G ψ m ts A:=⟨h.1,h.2.1,fun t=>(h.2.2 t).mono hle⟩
theorem get_putT {m:Nat} {ts:Ts} {d:Option Tmp} {v:Value} (hm:m≤4000) (t:Nat):(putT m ts d v).get t=if d=some t∧t<m then v else ts.get t:=by
 unfold putT
 cases d with
 |none=>simp
 |some d=>
  show (br (Nat.blt d m) (ts.put 12 d v) ts).get t=_
  by_cases h:d<m
  ·rw [show Nat.blt d m=true from Nat.ble_eq_true_of_le h]
   show (ts.put 12 d v).get t=_
   rw [Tr.get_put 12 ts d v t (Nat.le_trans (Nat.add_le_add_right (Nat.le_of_lt (Nat.lt_of_lt_of_le h hm)) 2) (by decide))]
   by_cases e:d=t
   ·subst e;simp [h]
   ·simp [e]
  ·have hb:Nat.blt d m=false:=by
    cases he:Nat.blt d m
    ·rfl
    ·exact absurd (blt_ok he) h
   rw [hb]
   show ts.get t=_
   rw [if_neg]
   rintro ⟨e,h2⟩
   cases e
   exact h h2
theorem getD_put {A:Act} {d:Option Tmp} {V:Value} (t:Nat):(A.put d V).tmps.getD t undef=if d=some t∧t<A.tmps.size then V else A.tmps.getD t undef:=by
 unfold Act.put
 cases d with
 |none=>simp
 |some d=>
  simp only [Array.getD_eq_getD_getElem?]
  by_cases e:d=t
  ·subst e
   by_cases h:d<A.tmps.size
   ·simp [h]
   ·simp [h]
  ·rw [Array.getElem?_setIfInBounds_ne e]
   simp [e]
theorem RelT.put {G:Nat} {φ:Phi} {m:Nat} {ts:Ts} {A:Act} (h:RelT G φ m ts A) {v V:Value} (hv:Rel G φ v V) (d:Option Tmp):RelT G φ m (putT m ts d v) (A.put d V):=by
 refine ⟨?_,h.2.1,fun t=> ?_⟩
 ·rw [←h.1];unfold Act.put;cases d<;>simp
 ·rw [get_putT h.2.1,getD_put,h.1]
  split
  ·exact hv
  ·exact h.2.2 t
theorem Act.put_def (A:Act) (d:Option Tmp) (V:Value):(A.put d V).defers=A.defers:=by unfold Act.put;cases d<;>rfl
theorem operand_rel {G:Nat} {φ:Phi} {m:Nat} {ts:Ts} {A:Act} (h:RelT G φ m ts A) {x:Operand} (hc:operandB G x=true):Rel G φ (ρ ts x) (A.eval x):=by
 cases x with
 |tmp t=>exact h.2.2 t
 |const v=>exact .free (d:=6) hc
 |global g=>exact free_ptr (blt_ok hc)
 |func f=>exact .free (d:=1) rfl
theorem consts_ok {G:Nat} {ops:Array Oper} (h:constsB G ops=true) {o:Oper} (ho:o∈ops.toList) {x:Operand} (hx:x∈o.op.operands):operandB G x=true:=by
 unfold constsB at h
 rw [List.all_eq_true] at h
 have:=h o ho
 rw [List.all_eq_true] at this
 exact this x (by simpa using hx)
theorem Rel.bool_inv {G:Nat} {φ:Phi} {v:Value} {b:Bool} (h:Rel G φ v (.bool b)):v= .bool b:=by
 cases h with
 |free _=>rfl
theorem want_ok {G:Nat} {φ:Phi} {ops:Array Oper} {o:Oper} {ts:Ts} {A:Act} (h: ∀j w d,o.guard=some (j,w)→(ops[j]?).bind (·.dst)=some d→Rel G φ (ts.get d) (A.tmps.getD d undef)):Region.wanted o (yielded ops A.tmps)=wantB ops ts o:=by
 unfold Region.wanted wantB
 cases hg:o.guard with
 |none=>rfl
 |some p=>
  obtain ⟨j,w⟩:=p
  have e:yielded ops A.tmps j=yieldB ops ts j:=by
   unfold yielded yieldB
   cases hd:(ops[j]?).bind (·.dst) with
   |none=>rfl
   |some d=>
    have hr:=h j w d hg hd
    simp only [Option.bind_some]
    have e1:A.tmps.getD d undef=(A.tmps[d]?).getD undef:=by simp
    rw [e1] at hr
    cases hA:A.tmps[d]? with
    |none=>
     rw [hA] at hr
     cases hv:ts.get d with
     |bool b=>rw [hv] at hr;have:=hr.bool;simp [undef] at this
     |_=>rfl
    |some V=>
     rw [hA] at hr
     simp only [Option.getD_some] at hr
     cases hv:ts.get d with
     |bool b=>rw [hv] at hr;rw [hr.bool]
     |_=>
      rw [hv] at hr
      cases V with
      |bool b=>have:=hr.bool_inv;simp at this
      |_=>rfl
  simp only [e]
  cases yieldB ops ts j with
  |none=>simp
  |some b=>cases b<;>cases w<;>rfl
end
section
open Go Go.RowKit
section
variable {P:Program} {G base:Nat} {T:World→Prop}
def ExRel:Ex→Exit→Prop
 | .normal,.normal=>True
 | .exit i,.exit j=>i=j
 | .ret,.ret=>True
 |_,_=>False
def After (P:Program) (G base:Nat) (m:Nat) (φ:Phi) (st:St) (W:World) (A:Act) (ex:Ex) (ts':Ts) (st':St) (e:Exit) (A':Act) (W':World):Prop:=
 ExRel ex e∧ ∃φ',Post P G base φ st W st' φ' W'∧RelT G φ' m ts' A'∧A'.defers=A.defers
abbrev FreshU (φ:Phi) (st:St):Prop:= ∀b,st.next≤b→φ b=none
theorem FreshU.post {φ φ':Phi} {st st':St} {W W':World} (h:FreshU φ st) (hp:Post P G base φ st W st' φ' W'):FreshU φ' st':=by
 intro b hb
 cases e:φ' b with
 |none=>rfl
 |some x=>
  rcases hp.new b x e with h1|h1
  ·rw [h b (Nat.le_trans hp.next hb)] at h1;cases h1
  ·omega
theorem Post.trans' {φ φ' φ'':Phi} {st st' st'':St} {W W' W'':World} (h:Post P G base φ st W st' φ' W') (hf:FreshU φ st) (k:Post P G base φ' st' W' st'' φ'' W''):Post P G base φ st W st'' φ'' W'':=
 h.trans (fun b hb _=>hf b hb) k
def Stays (base:Nat) (T:World→Prop):Prop:= ∀W W',Below base W W'→T W→T W'
def RecSound (P:Program) (G base:Nat) (T:World→Prop) (rec:Rec):Prop:=
 ∀(m:Nat) (c:Code) (ts:Ts) (st:St) (ex:Ex) (ts':Ts) (st':St) (φ:Phi) (W:World) (A:Act),rec m c ts st=some (ex,ts',st')→Inv P G base φ st W→base≤W.heap.size→T W→FreshU φ st→RelT G φ m ts A→
  c.wp P (After P G base m φ st W A ex ts' st') A W
theorem evOps_cons (callf:CallF) (m:Nat) (ops:Array Oper) (o:Oper) (l:List Oper) (ts:Ts) (st:St):
  evOps P G callf m ops (o::l) ts st=if wantB ops ts o=true then evOpsK m o (evOps P G callf m ops l) ts (evOp P G callf ts o st) else evOps P G callf m ops l (putT m ts o.dst undef) st:=by
 have e:evOps P G callf m ops (o::l) ts st=br (wantB ops ts o) (evOpsK m o (evOps P G callf m ops l) ts (evOp P G callf ts o st)) (evOps P G callf m ops l (putT m ts o.dst undef) st):=rfl
 rw [e]
 cases wantB ops ts o<;>rfl
theorem evOps_sound (hT:Stays base T) {callf:CallF} (hcs:CallSound P G base T callf) {m:Nat} {ops:Array Oper} (hc:constsB G ops=true) {ts':Ts} {st':St} {φ0:Phi} {st0:St} {W0:World} {A0:Act} (h0:Inv P G base φ0 st0 W0) (hb0:base≤W0.heap.size) (hf0:FreshU φ0 st0) (hT0:T W0)
  {Q:Exit→Act→World→Prop} (hQ: ∀φ' A' W',Post P G base φ0 st0 W0 st' φ' W'→RelT G φ' m ts' A'→A'.defers=A0.defers→Q .normal A' W'):
  ∀(l:List Oper) (i:Nat) (ts:Ts) (st:St) (φ:Phi) (W:World) (A:Act),ops.toList.drop i=l→evOps P G callf m ops l ts st=some (ts',st')→Post P G base φ0 st0 W0 st φ W→RelT G φ m ts A→A.defers=A0.defers→
   wpOps P ops Q (List.range' i l.length) A W:=by
 intro l
 induction l with
 |nil=>
  intro i ts st φ W A _ h hp hr hd
  have h:some (ts,st)=some (ts',st'):=h
  cases h
  exact hQ φ A W hp hr hd
 |cons o l ih=>
  intro i ts st φ W A hdrop h hp hr hd
  have hget:ops[i]? =some o:=by
   have h1:(ops.toList.drop i)[0]? =some o:=by rw [hdrop];rfl
   rw [List.getElem?_drop] at h1
   simpa using h1
  have hmem:o∈ops.toList:=by
   have:o∈ops.toList.drop i:=by rw [hdrop];simp
   exact List.mem_of_mem_drop this
  have hdrop':ops.toList.drop (i+1)=l:=by
   have:(ops.toList.drop i).drop 1=l:=by rw [hdrop];rfl
   rwa [List.drop_drop] at this
  have hw:=want_ok (G:=G) (φ:=φ) (ops:=ops) (o:=o) (ts:=ts) (A:=A) fun j w d _ _=>hr.2.2 d
  have hbW:base≤W.heap.size:=Nat.le_trans hb0 hp.size
  have hTW:T W:=hT W0 W (hp.below h0 hb0) hT0
  rw [evOps_cons] at h
  simp only [List.length_cons,List.range'_succ,wpOps,hget]
  rw [hw]
  by_cases hwant:wantB ops ts o=true
  ·rw [if_pos hwant] at h ⊢
   unfold evOpsK at h
   split at h
   ·rename_i v st1 he
    refine .inl (op_sound hp.inv hbW hcs hTW he (fun b hb=>(hf0.post hp) b hb) (fun x hx=>operand_rel hr (consts_ok hc hmem hx)) fun φ' V W' hp' hv=> ?_)
    exact ih (i+1) _ _ φ' W' _ hdrop' h (hp.trans' hf0 hp') ((hr.mono hp'.le).put hv _) ((Act.put_def _ _ _).trans hd)
   ·cases h
  ·rw [if_neg hwant] at h ⊢
   exact ih (i+1) _ _ φ W _ hdrop' h hp (hr.put rel_undef _) ((Act.put_def _ _ _).trans hd)
def OrcSound (P:Program) (G base:Nat) (T:World→Prop) (orc:Orc):Prop:=
 ∀(g:FuncId) (args:List Value) (st:St) (v:Value) (φ:Phi) (W:World) (Args:Array Value),orc g args st.heap=some v→Inv P G base φ st W→base≤W.heap.size→T W→RelL G φ args Args.toList→
  CallR P g Args W fun V W'=>Rel G φ v V∧Below W.heap.size W W'
def NoNum (P:Program):Prop:= ∀(g:FuncId) (fn:Func),P.funcs[g]? =some fn→(fn.name== "runtime.NumGoroutine")=false
theorem below_post {φ:Phi} {st:St} {W W':World} (hi:Inv P G base φ st W) (h:Below W.heap.size W W'):Post P G base φ st W st φ W':=by
 refine ⟨.rfl,fun _ _ h=> .inl h,fun b r κ h1 h2=>(by rw [h1] at h2;cases h2),?_,Nat.le_refl _,Nat.le_refl _,fun _ _ _=>rfl,fun r hr _=>h.block r hr,h.size,h.os,h.tape,h.output⟩
 exact ⟨fun b r κ he=>by have:=hi.dom b r κ he;exact ⟨this.1,this.2.1,Nat.lt_of_lt_of_le this.2.2 h.size⟩,hi.wf,hi.srt,fun b o r κ hl he=>(hi.obj b o r κ hl he).mono .rfl (h.block r (hi.dom b r κ he).2.2),hi.inj,hi.low⟩
theorem cut_post {φ φ':Phi} {st st':St} {W W':World} (hp:Post P G base φ st W st' φ' W'):Post P G base φ st W ⟨cutB st'.heap st.next,st'.next,st'.low⟩ φ' W':=by
 have hi:=hp.inv
 have sub: ∀c o,look (cutB st'.heap st.next) c=some o→look st'.heap c=some o:=fun c o h=>by
  rw [look_cutB hi.srt] at h
  split at h
  ·exact h
  ·cases h
 refine ⟨hp.le,hp.new,hp.newr,?_,hp.next,hp.low,?_,hp.frame,hp.size,hp.os,hp.tape,hp.output⟩
 ·exact ⟨hi.dom,fun c o h=>hi.wf c o (sub c o h),hi.srt.sublist (sub_cutB _ _),fun c o r κ h=>hi.obj c o r κ (sub c o h),fun c d o q r κ l h1 h2=>hi.inj c d o q r κ l (sub c o h1) (sub d q h2),hi.low⟩
 ·intro c hc hcl
  show look (cutB st'.heap st.next) c=_
  rw [look_cutB hi.srt,if_pos hc]
  exact hp.same c hc hcl
theorem low_post {φ φ':Phi} {st st':St} {W W':World} (hp:Post P G base φ ⟨st.heap,st.next,st.next⟩ W st' φ' W'):Post P G base φ st W ⟨st'.heap,st'.next,Nat.min st.low st'.low⟩ φ' W':=by
 have hle:Nat.min st.low st'.low≤st'.low:=Nat.min_le_right _ _
 refine ⟨hp.le,hp.new,?_,⟨hp.inv.dom,hp.inv.wf,hp.inv.srt,hp.inv.obj,hp.inv.inj,hp.inv.low⟩,hp.next,Nat.min_le_left _ _,fun b hb hl=>hp.same b hb (Nat.lt_of_lt_of_le hl hle),fun r hr hall=>hp.frame r hr fun b κ hb hn=>Nat.lt_of_lt_of_le (hall b κ hb hn) hle,hp.size,hp.os,hp.tape,hp.output⟩
 intro b r κ h1 h2
 rcases hp.newr b r κ h1 h2 with h|⟨c,l,hc,hcl,hcn⟩
 ·exact .inl h
 ·exact .inr ⟨c,l,hc,Nat.le_trans hle hcl,hcn⟩
theorem Inv.mark {φ:Phi} {st:St} {W:World} (h:Inv P G base φ st W) (l:Nat):Inv P G base φ ⟨st.heap,st.next,l⟩ W:=⟨h.dom,h.wf,h.srt,h.obj,h.inj,h.low⟩
def resF (A:Act) (x:ResultVar):Sem Value:=
 match x with
 | .tmp t=>pure (A.tmps.getD t undef)
 | .cell a t=>do loadVar t (←asAddr (A.tmps.getD a undef))
theorem resB_ok {φ:Phi} {st:St} {W:World} (hi:Inv P G base φ st W) {m:Nat} {ts:Ts} {A:Act} (hr:RelT G φ m ts A): ∀{rs:List ResultVar} {l:List Value},resB P st.heap ts rs=some l→
  ∃L,RelL G φ l L∧(rs.mapM (resF A)).run P W= .ok L W:=by
 intro rs
 induction rs with
 |nil=>intro l h;simp only [resB] at h;cases h;exact ⟨[],.nil,rfl⟩
 |cons x rs ih=>
  intro l h
  cases x with
  |tmp t=>
   simp only [resB] at h
   split at h
   ·rename_i r hr'
    cases h
    obtain ⟨L,hL,hrun⟩:=ih hr'
    refine ⟨_,.cons (hr.2.2 t) hL,?_⟩
    have h1:(resF A (.tmp t)).run P W= .ok (A.tmps.getD t undef) W:=rfl
    simp only [List.mapM_cons,Sem.run_bind,Sem.run_pure,Result.andThen_ok,h1,hrun]
   ·cases h
  |cell a t=>
   simp only [resB] at h
   split at h
   ·rename_i v r hv hr'
    cases h
    obtain ⟨L,hL,hrun⟩:=ih hr'
    obtain ⟨V,hV,ad,hA,hload⟩:=loadB_ok hi hv (hr.2.2 a)
    refine ⟨_,.cons hV hL,?_⟩
    have h1:(resF A (.cell a t)).run P W= .ok V W:=by simp [resF,hA,asAddr,hload]
    simp only [List.mapM_cons,Sem.run_bind,Sem.run_pure,Result.andThen_ok,h1,hrun]
   ·cases h
theorem results_ok {φ:Phi} {st:St} {W:World} (hi:Inv P G base φ st W) {m:Nat} {ts:Ts} {A:Act} (hr:RelT G φ m ts A) {fn:Func} {l:List Value} (h:resB P st.heap ts fn.results.toList=some l):
  ∃V,Rel G φ (retB l) V∧(results fn A.tmps).run P W= .ok V W:=by
 obtain ⟨L,hL,hrun⟩:=resB_ok hi hr h
 have e:(results fn A.tmps).run P W= .ok (if h:L.toArray.size=1 then L.toArray[0] else .tuple L.toArray) W:=by
  unfold results
  rw [Array.mapM_eq_mapM_toList]
  change Sem.run P (do
   let vs ←List.toArray<$>List.mapM (resF A) fn.results.toList
   pure (if h:vs.size=1 then vs[0] else .tuple vs)) W=_
  simp only [Sem.run_bind,Sem.run_map,hrun,Result.andThen_ok]
  rfl
 rw [e]
 match l,hL with
 |[],hL=>rw [hL.nil_inv];exact ⟨_,Rel.tupleL (l:=[]) (L:=[]) .nil,rfl⟩
 |[v],hL=>
  obtain ⟨V,L',rfl,hV,hL'⟩:=hL.cons_inv
  rw [hL'.nil_inv]
  exact ⟨V,hV,rfl⟩
 |v::w::l,hL=>
  have hl: ¬(L.toArray.size=1):=by
   have:=hL.1
   simp at this ⊢
   omega
  rw [dif_neg hl]
  exact ⟨_,Rel.tupleL hL,rfl⟩
theorem evEnter_sound (_hT:Stays base T) (hN:NoNum P) {rec:Rec} (hrec:RecSound P G base T rec) {g:FuncId} {args:List Value} {st:St} {v:Value} {st':St} {φ:Phi} {W:World} {Args:Array Value}
  (h:evEnter P G rec g args st=some (v,st')) (hi:Inv P G base φ st W) (hb:base≤W.heap.size) (hTW:T W) (hf:FreshU φ st) (ha:RelL G φ args Args.toList):
  (callFunc g Args).run P W= .ok (.enter g Args) W∧Calls P g Args W fun e W'=> ∃V,e= .returned V∧ ∃φ',Post P G base φ st W st' φ' W'∧Rel G φ' v V:=by
 unfold evEnter at h
 split at h
 ·cases h
 ·rename_i fn hfn
  split at h
  ·cases h
  ·rename_i body hbody
   split at h
   ·rename_i hc
    rw [Bool.and_eq_true] at hc
    have hc1:=Nat.le_of_ble_eq_true hc.1
    have hc2:=Nat.le_of_ble_eq_true hc.2
    refine ⟨?_,?_⟩
    ·have hn:=hN g fn hfn
     have hnb:fn.body.isNone=false:=by rw [hbody];rfl
     have hn': ¬fn.name= "runtime.NumGoroutine" :=by simpa using hn
     simp [callFunc,hfn,hn',hbody]
    ·have hlen:Args.size=args.length:=by rw [ha.1];simp
     have hrt:RelT G φ fn.ntmps (ofArgs args) {tmps:=Args++Array.replicate (fn.ntmps - Args.size) undef,defers:=[]}:=by
      refine ⟨by simp;omega,hc2,fun t=> ?_⟩
      rw [get_ofArgs args (by omega)]
      show Rel G φ _ ((Args++Array.replicate (fn.ntmps - Args.size) undef).getD t undef)
      by_cases ht:t<args.length
      ·have h1:=ha.2 t ht
       have h2:(Args++Array.replicate (fn.ntmps - Args.size) undef).getD t undef=Args.toList.getD t undef:=by
        simp [Array.getD_eq_getD_getElem?,Array.getElem?_append,hlen,ht,List.getD]
       rw [h2]
       exact h1
      ·have h1:args.getD t undef=undef:=by simp [List.getD,List.getElem?_eq_none (Nat.le_of_not_lt ht)]
       have h2:(Args++Array.replicate (fn.ntmps - Args.size) undef).getD t undef=undef:=by
        simp only [Array.getD_eq_getD_getElem?,Array.getElem?_append,hlen,if_neg ht,Array.getElem?_replicate]
        split<;>rfl
       rw [h1,h2]
       exact rel_undef
     generalize hres:rec fn.ntmps body (ofArgs args) ⟨st.heap,st.next,st.next⟩=res at h
     have fin: ∀(ex:Ex) (ts1:Ts) (st1:St),res=some (ex,ts1,st1)→(ex= .normal∨ex= .ret)→(match resB P st1.heap ts1 fn.results.toList with
       |some l=>match pf G 6 (retB l)&&Nat.ble st.next st1.low with
        |true=>some (retB l,(⟨cutB st1.heap st.next,st1.next,Nat.min st.low st1.low⟩:St))
        |false=>some (retB l,⟨st1.heap,st1.next,Nat.min st.low st1.low⟩)
       |none=>none)=some (v,st')→Calls P g Args W fun e W'=> ∃V,e= .returned V∧ ∃φ',Post P G base φ st W st' φ' W'∧Rel G φ' v V:=by
      intro ex ts1 st1 hr1 hex h
      rw [hr1] at hres
      have hwp:=hrec _ _ _ _ _ _ _ φ W _ hres (hi.mark _) hb hTW hf hrt
      refine calls_of_wp hfn hbody (Code.wp_mono ?_ hwp)
      rintro e A' W' ⟨he,φ',hp,hrt',hd⟩
      split at h
      ·rename_i l hl
       obtain ⟨V,hV,hrun⟩:=results_ok hp.inv hrt' hl
       have hp':=low_post hp
       have key: ∃V,(results fn A'.tmps).run P W'= .ok V W'∧ ∃φ'',Post P G base φ st W st' φ'' W'∧Rel G φ'' v V:=by
        split at h
        ·rename_i hq
         cases h
         exact ⟨V,hrun,φ',cut_post hp',hV⟩
        ·cases h
         exact ⟨V,hrun,φ',hp',hV⟩
       obtain ⟨V,hrun,φ'',hp'',hV⟩:=key
       rcases hex with rfl|rfl<;>cases e<;>first|exact he.elim|exact ⟨hd,V,hrun,V,rfl,φ'',hp'',hV⟩
      ·cases h
     unfold evRet at h
     split at h
     ·exact fin _ _ _ rfl (.inl rfl) h
     ·exact fin _ _ _ rfl (.inr rfl) h
     ·cases h
   ·cases h
end
end
section
open Go Go.RowKit
section
variable {P:Program} {G base:Nat} {T:World→Prop}
def DrawnSound (P:Program) (G base:Nat) (T:World→Prop) (callf:CallF):Prop:=
 ∀(m:Nat) (ops:Array Oper) (ts:Ts) (st:St) (ts':Ts) (st':St) (φ:Phi) (W:World) (A:Act) (id:Nat),constsB G ops=true→regionB ops=true→evDrawn P G callf m ops ops.toList 0 [] ts st=some (ts',st')→
  Inv P G base φ st W→base≤W.heap.size→T W→FreshU φ st→RelT G φ m ts A→(Code.region id ops true).wp P (After P G base m φ st W A .normal ts' st') A W
theorem callF_sound (hT:Stays base T) (hN:NoNum P) {orc:Orc} (ho:OrcSound P G base T orc) {rec:Rec} (hrec:RecSound P G base T rec):CallSound P G base T (evCallF P G orc rec):=by
 intro g args st v st' φ W Args h hi hb hTW hf ha
 unfold evCallF at h
 split at h
 ·rename_i v' hv
  cases h
  rcases ho g args st v φ W Args hv hi hb hTW ha with ⟨V,W',h1,h2,h3⟩|⟨f,As,h1,h2⟩
  ·exact .inl ⟨V,W',h1,φ,below_post hi h3,h2⟩
  ·refine .inr ⟨f,As,h1,Calls.mono h2 ?_⟩
   rintro e W' ⟨V,he,hV,hB⟩
   exact ⟨V,he,φ,below_post hi hB,hV⟩
 ·obtain ⟨h1,h2⟩:=evEnter_sound hT hN hrec h hi hb hTW hf ha
  exact .inr ⟨g,Args,h1,h2⟩
theorem range_zero (n:Nat):List.range n=List.range' 0 n:=List.range_eq_range'
theorem seq_next (hT:Stays base T) {rec:Rec} {m:Nat} {st:St} {ex:Ex} {ts':Ts} {st':St} {φ:Phi} {W:World} {A:Act} (hi:Inv P G base φ st W) (hb:base≤W.heap.size) (hTW:T W) (hf:FreshU φ st) (hrec:RecSound P G base T rec):
  ∀(b:Code) (r:ResC),evSeq rec m b r=some (ex,ts',st')→(∃ex1 ts1 st1,r=some (ex1,ts1,st1)∧ ∀e A1 W1,After P G base m φ st W A ex1 ts1 st1 e A1 W1→
   match e with
   | .normal=>b.wp P (After P G base m φ st W A ex ts' st') A1 W1
   |e=>After P G base m φ st W A ex ts' st' e A1 W1):=by
 intro b r h
 unfold evSeq at h
 split at h
 ·rename_i ts1 st1
  refine ⟨.normal,ts1,st1,rfl,?_⟩
  rintro e A1 W1 ⟨hx,φ1,hp,hr1,hd1⟩
  cases e<;>first|exact hx.elim|skip
  have hw:=hrec _ _ _ _ _ _ _ φ1 W1 A1 h hp.inv (Nat.le_trans hb hp.size) (hT W W1 (hp.below hi hb) hTW) (hf.post hp) hr1
  refine Code.wp_mono ?_ hw
  rintro e A2 W2 ⟨hx2,φ2,hp2,hr2,hd2⟩
  exact ⟨hx2,φ2,hp.trans' hf hp2,hr2,hd2.trans hd1⟩
 ·rename_i hne
  refine ⟨ex,ts',st',h,?_⟩
  intro e A1 W1 ha
  cases e with
  |normal=>
   have hx:=ha.1
   cases ex with
   |normal=>exact absurd h (hne _ _)
   |_=>exact hx.elim
  |_=>exact ha
theorem codeD_sound (hT:Stays base T) (hN:NoNum P) {orc:Orc} (ho:OrcSound P G base T orc) {rec:Rec} (hrec:RecSound P G base T rec) (hd:DrawnSound P G base T (evCallF P G orc rec))
  (hloop: ∀(m:Nat) (b:Code) (ts:Ts) (st:St) (ex:Ex) (ts':Ts) (st':St) (φ:Phi) (W:World) (A:Act),codeD (.loop b) P G orc rec m ts st=some (ex,ts',st')→Inv P G base φ st W→base≤W.heap.size→T W→FreshU φ st→RelT G φ m ts A→
   (Code.loop b).wp P (After P G base m φ st W A ex ts' st') A W):
  RecSound P G base T fun m c ts st=>codeD c P G orc rec m ts st:=by
 intro m c ts st ex ts' st' φ W A h hi hb hTW hf hr
 have hcs:=callF_sound hT hN ho hrec
 have next:=seq_next hT (m:=m) (A:=A) hi hb hTW hf hrec (ex:=ex) (ts':=ts') (st':=st')
 cases c with
 |skip=>
  have h:some (Ex.normal,ts,st)=some (ex,ts',st'):=h
  cases h
  exact wp_skip ⟨trivial,φ,Post.refl hi,hr,rfl⟩
 |label l=>
  have h:some (Ex.normal,ts,st)=some (ex,ts',st'):=h
  cases h
  exact wp_label ⟨trivial,φ,Post.refl hi,hr,rfl⟩
 |exit id=>
  have h:some (Ex.exit id,ts,st)=some (ex,ts',st'):=h
  cases h
  exact wp_exit ⟨rfl,φ,Post.refl hi,hr,rfl⟩
 |ret=>
  have h:some (Ex.ret,ts,st)=some (ex,ts',st'):=h
  cases h
  exact wp_ret ⟨trivial,φ,Post.refl hi,hr,rfl⟩
 |seq a b=>
  have h:evSeq rec m b (rec m a ts st)=some (ex,ts',st'):=h
  obtain ⟨ex1,ts1,st1,hr1,hn⟩:=next b _ h
  refine wp_seq (Code.wp_mono ?_ (hrec _ _ _ _ _ _ _ φ W A hr1 hi hb hTW hf hr))
  intro e A1 W1 ha
  have:=hn e A1 W1 ha
  cases e<;>exact this
 |cond x a b=>
  have h:evCond rec m a b (ρ ts x) ts st=some (ex,ts',st'):=h
  have hx: ∀t,ρ ts x= .bool t→A.eval x= .bool t:=by
   intro t ht
   cases x with
   |tmp k=>have:=hr.2.2 k;change ts.get k= .bool t at ht;rw [ht] at this;exact this.bool
   |const v=>exact ht
   |global g=>cases ht
   |func f=>cases ht
  unfold evCond at h
  split at h
  ·rename_i e;exact wp_cond_true (hx _ e) (hrec _ _ _ _ _ _ _ φ W A h hi hb hTW hf hr)
  ·rename_i e;exact wp_cond_false (hx _ e) (hrec _ _ _ _ _ _ _ φ W A h hi hb hTW hf hr)
  ·cases h
 |block id b=>
  have h:evBlock id (rec m b ts st)=some (ex,ts',st'):=h
  unfold evBlock at h
  split at h
  ·rename_i k ts1 st1 he
   have hw:=hrec _ _ _ _ _ _ _ φ W A he hi hb hTW hf hr
   refine wp_block (Code.wp_mono ?_ hw)
   rintro e A1 W1 ⟨hx,hrest⟩
   cases e<;>first|exact hx.elim|skip
   rename_i j
   have hx:k=j:=hx
   subst hx
   split at h
   ·rename_i hk
    have hk:=Nat.eq_of_beq_eq_true hk
    cases h
    simp only [Exit.inBlock,hk,if_true]
    exact ⟨trivial,hrest⟩
   ·rename_i hk
    have hk:k≠id:=Nat.ne_of_beq_eq_false hk
    cases h
    simp only [Exit.inBlock,hk,if_false]
    exact ⟨rfl,hrest⟩
  ·rename_i hne
   have hw:=hrec _ _ _ _ _ _ _ φ W A h hi hb hTW hf hr
   refine wp_block (Code.wp_mono ?_ hw)
   intro e A1 W1 ha
   cases e with
   |exit j=>
    have hx:=ha.1
    cases ex with
    |exit k=>exact absurd h (hne _ _ _)
    |_=>exact hx.elim
   |_=>exact ha
 |loop b=>exact hloop m b ts st ex ts' st' φ W A h hi hb hTW hf hr
 |scope b=>
  have h:rec m b ts st=some (ex,ts',st'):=h
  refine wp_scope_straight (Code.wp_mono ?_ (hrec _ _ _ _ _ _ _ φ W A h hi hb hTW hf hr))
  intro e A1 W1 ha
  cases e with
  |goto l=>have:=ha.1;cases ex<;>exact this.elim
  |_=>exact ha
 |region id ops draw=>
  have h:evRegion P G orc rec m ops draw ts st=some (ex,ts',st'):=h
  have hc:constsB G ops=true:=by
   cases hc:constsB G ops
   ·unfold evRegion at h;rw [hc] at h;cases h
   ·rfl
  unfold evRegion at h
  rw [hc] at h
  cases draw with
  |false=>
   simp only at h
   cases he:evOps P G (evCallF P G orc rec) m ops ops.toList ts st with
   |none=>rw [he] at h;cases h
   |some r=>
    obtain ⟨ts1,st1⟩:=r
    rw [he] at h
    cases h
    refine wp_region ?_
    rw [range_zero]
    have hlen:ops.size=ops.toList.length:=by simp
    rw [hlen]
    exact evOps_sound hT hcs hc hi hb hf hTW (fun φ' A' W' hp hr' hd'=>⟨trivial,φ',hp,hr',hd'⟩) ops.toList 0 ts st φ W A (by simp) he (Post.refl hi) hr rfl
  |true=>
   simp only at h
   cases hreg:regionB ops with
   |false=>rw [hreg] at h;cases h
   |true=>
    rw [hreg] at h
    simp only at h
    cases he:evDrawn P G (evCallF P G orc rec) m ops ops.toList 0 [] ts st with
    |none=>rw [he] at h;cases h
    |some r=>
     obtain ⟨ts1,st1⟩:=r
     rw [he] at h
     cases h
     exact hd m ops ts st _ _ φ W A id hc hreg he hi hb hTW hf hr
 |_=>cases h
theorem least {p:Nat→Prop} (h: ∃n,p n): ∃n,p n∧ ∀k,k<n→ ¬p k:=by
 obtain ⟨n,hn⟩:=h
 induction n using Nat.strongRecOn with
 |_ n ih=>
  by_cases hk: ∃k,k<n∧p k
  ·obtain ⟨k,hlt,hpk⟩:=hk
   exact ih k hlt hpk
  ·exact ⟨n,hn,fun k hlt hpk=>hk ⟨k,hlt,hpk⟩⟩
open Classical in
noncomputable def leastN (p:Nat→Prop):Nat:=if h: ∃n,p n then (least h).choose else 0
theorem leastN_le {p:Nat→Prop} {n:Nat} (h:p n):leastN p≤n:=by
 have hex: ∃n,p n:=⟨n,h⟩
 unfold leastN
 rw [dif_pos hex]
 have:=(least hex).choose_spec
 rcases Nat.lt_or_ge n (least hex).choose with hlt|hge
 ·exact absurd h (this.2 n hlt)
 ·exact hge
theorem leastN_spec {p:Nat→Prop} (h: ∃n,p n):p (leastN p):=by
 unfold leastN
 rw [dif_pos h]
 exact (least h).choose_spec.1
theorem ec_succ (orc:Orc) (n:Nat) (m:Nat) (c:Code) (ts:Ts) (st:St):ec P G orc (n+1) m c ts st=codeD c P G orc (ec P G orc n) m ts st:=rfl
theorem loop_sound (hT:Stays base T) {orc:Orc} {n:Nat} (hall: ∀k,k≤n→RecSound P G base T (ec P G orc k)) (m:Nat) (b:Code) (ts:Ts) (st:St) (ex:Ex) (ts':Ts) (st':St) (φ:Phi) (W:World) (A:Act)
  (h:codeD (.loop b) P G orc (ec P G orc n) m ts st=some (ex,ts',st')) (hi:Inv P G base φ st W) (hb:base≤W.heap.size) (hTW:T W) (hf:FreshU φ st) (hr:RelT G φ m ts A):
  (Code.loop b).wp P (After P G base m φ st W A ex ts' st') A W:=by
 let R:Act→World→Nat→Prop:=fun a w k=>k≤n+1∧ ∃ts1 st1 φ1,ec P G orc k m (.loop b) ts1 st1=some (ex,ts',st')∧Post P G base φ st W st1 φ1 w∧RelT G φ1 m ts1 a∧a.defers=A.defers
 refine wp_loop (fun a w=> ∃k,R a w k) (fun a w=>leastN (R a w)) ⟨n+1,Nat.le_refl _,ts,st,φ,h,Post.refl hi,hr,rfl⟩ ?_
 intro a w hex
 obtain ⟨hk,ts1,st1,φ1,he,hp,hr1,hd1⟩:=leastN_spec hex
 generalize hkk:leastN (R a w)=k at hk he
 cases k with
 |zero=>cases he
 |succ k=>
  have he:evSeq (ec P G orc k) m (.loop b) (ec P G orc k m b ts1 st1)=some (ex,ts',st'):=he
  have hrec:=hall k (by omega)
  have hbw:base≤w.heap.size:=Nat.le_trans hb hp.size
  have hTw:T w:=hT W w (hp.below hi hb) hTW
  have hfw:=hf.post hp
  unfold evSeq at he
  split at he
  ·rename_i ts2 st2 hb2
   refine Code.wp_mono ?_ (hrec _ _ _ _ _ _ _ φ1 w a hb2 hp.inv hbw hTw hfw hr1)
   rintro e a2 w2 ⟨hx,φ2,hp2,hr2,hd2⟩
   cases e<;>first|exact hx.elim|skip
   have hR:R a2 w2 k:=⟨by omega,ts2,st2,φ2,he,hp.trans' hf hp2,hr2,hd2.trans hd1⟩
   refine ⟨⟨k,hR⟩,?_⟩
   have:=leastN_le hR
   show leastN (R a2 w2)<k+1
   omega
  ·rename_i hne
   refine Code.wp_mono ?_ (hrec _ _ _ _ _ _ _ φ1 w a he hp.inv hbw hTw hfw hr1)
   rintro e a2 w2 ⟨hx,φ2,hp2,hr2,hd2⟩
   have ha:After P G base m φ st W A ex ts' st' e a2 w2:=⟨hx,φ2,hp.trans' hf hp2,hr2,hd2.trans hd1⟩
   cases e with
   |normal=>
    cases ex with
    |normal=>exact absurd he (hne _ _)
    |_=>exact hx.elim
   |_=>exact ha
theorem ec_sound (hT:Stays base T) (hN:NoNum P) {orc:Orc} (ho:OrcSound P G base T orc) (hd: ∀rec,RecSound P G base T rec→DrawnSound P G base T (evCallF P G orc rec)) (n:Nat):RecSound P G base T (ec P G orc n):=by
 induction n using Nat.strongRecOn with
 |_ n ih=>
  cases n with
  |zero=>intro m c ts st ex ts' st' φ W A h;cases h
  |succ n=>
   have hn:=ih n (Nat.lt_succ_self n)
   exact codeD_sound hT hN ho hn (hd _ hn) (loop_sound hT fun k hk=>ih k (by omega))
end
end
section
open Go Go.RowKit
section
variable {P:Program} {G base:Nat} {T:World→Prop}
theorem cellsAt_congr {h1 h2:Hp} {a:Addr} (n:Nat) (e:look h2 a.block=look h1 a.block):cellsAt h2 a n=cellsAt h1 a n:=by
 unfold cellsAt;rw [e]
theorem loadB_congr {h1 h2:Hp} {t:TypeId} {v:Value} (e:look h2 (blockOf v)=look h1 (blockOf v)):loadB P h2 t v=loadB P h1 t v:=by
 unfold loadB
 cases v with
 |pointer a=>
  cases a with
  |none=>rfl
  |some a=>
   have e':look h2 a.block=look h1 a.block:=e
   simp only [cellsAt_congr _ e']
 |_=>rfl
theorem kind_rd {ts:Ts} {o:Oper} {w:Bool} {b:Nat} (hk:kindOf ts o.op w= .rd b):(∃t a,o.op= .load t a∧b=blockOf (ρ ts a))∨(∃src dst x a n c,o.op= .convert src dst x∧ρ ts x= .slice (some a) n c∧b=a.block):=by
 obtain ⟨d,op,ty,pos,after,guard⟩:=o
 cases op<;>simp only [kindOf] at hk<;>first|(cases w<;>simp at hk;done)|skip
 case load t a=>cases hk;exact .inl ⟨t,a,rfl,rfl⟩
 case convert src dst x=>
  split at hk
  ·rename_i a n c hv
   cases hk
   exact .inr ⟨src,dst,x,a,n,c,rfl,hv,rfl⟩
  ·cases w<;>simp at hk
theorem rd_eval {callf:CallF} {ts:Ts} {o:Oper} {w:Bool} {b:Nat} (hk:kindOf ts o.op w= .rd b) {st st2 s:St} {v:Value} (h:evOp P G callf ts o st=some (v,s)) (e:look st2.heap b=look st.heap b):
  s=st∧evOp P G callf ts o st2=some (v,st2):=by
 rcases kind_rd hk with ⟨t,a,ho,rfl⟩|⟨src,dst,x,a,n,c,ho,hx,rfl⟩
 ·unfold evOp at h ⊢
  rw [ho] at h ⊢
  simp only [opD,hLoad,evLoad] at h ⊢
  rw [loadB_congr e]
  split at h
  ·cases h;exact ⟨rfl,rfl⟩
  ·cases h
 ·unfold evOp at h ⊢
  rw [ho] at h ⊢
  simp only [opD,hConvert,hx] at h ⊢
  have key: ∀st:St,evConvert P G src dst (.slice (some a) n c) st=(match P.underlying src,P.underlying dst with
   |some (.slice e),some .string=>match P.underlying e with|some (.int .u8)=>evToString a n st|_=>none
   |_,_=>none):=by
   intro st
   have hp:evPure P G [.slice (some a) n c] (convert src dst (.slice (some a) n c)) st=none:=by
    unfold evPure
    simp [pf]
   unfold evConvert
   split
   ·rename_i h;cases h
   ·rename_i e1 a1 n1 c1 h1 h2 h3;cases h3;rw [h1,h2];rfl
   ·rename_i h;cases h
   ·rename_i h;cases h
   ·rename_i h1 h2 h3 h4
    rw [hp]
    split
    ·rename_i e1 e2;exact absurd rfl (h2 _ _ _ _ e1 e2)
    ·rfl
  rw [key] at h ⊢
  have hc: ∀k,cellsAt st2.heap a k=cellsAt st.heap a k:=fun k=>cellsAt_congr k e
  split at h
  ·split at h
   ·unfold evToString at h ⊢
    rw [hc]
    split at h
    ·split at h
     ·cases h;exact ⟨rfl,rfl⟩
     ·cases h
    ·cases h
   ·cases h
  ·cases h
theorem kind_wr {ts:Ts} {o:Oper} {w:Bool} {b:Nat} (hk:kindOf ts o.op w= .wr b): ∃t a x,o.op= .store t a x∧b=blockOf (ρ ts a):=by
 obtain ⟨d,op,ty,pos,after,guard⟩:=o
 cases op<;>simp only [kindOf] at hk<;>first|(cases w<;>simp at hk;done)|skip
 case store t a x=>cases hk;exact ⟨t,a,x,rfl,rfl⟩
 case convert src dst x=>
  split at hk
  ·cases hk
  ·cases w<;>simp at hk
theorem wr_look {callf:CallF} {ts:Ts} {o:Oper} {w:Bool} {b:Nat} (hk:kindOf ts o.op w= .wr b) {st s:St} {v:Value} (h:evOp P G callf ts o st=some (v,s)) (c:Nat) (hc:c≠b):look s.heap c=look st.heap c:=by
 obtain ⟨t,a,x,ho,rfl⟩:=kind_wr hk
 unfold evOp at h
 rw [ho] at h
 simp only [opD,hStore,evStore] at h
 split at h
 ·rename_i a0 n e1 e2
  split at h
  ·split at h
   ·rename_i st1 hw
    cases h
    unfold writeB at hw
    split at hw
    ·split at hw
     ·cases hw
      show look (putB st.heap a0.block _) c=_
      rw [look_putB,if_neg]
      intro e
      rw [e1] at hc
      exact hc e.symm
     ·cases hw
    ·cases hw
   ·cases h
  ·cases h
 ·cases h
theorem kind_quiet {ts:Ts} {o:Oper} {w:Bool} (hk:kindOf ts o.op w= .quiet):w=false:=by
 obtain ⟨d,op,ty,pos,after,guard⟩:=o
 cases w
 ·rfl
 ·cases op<;>simp only [kindOf] at hk<;>first|cases hk;done|skip
  case convert src dst x=>split at hk<;>cases hk
theorem kind_not_calm {ts:Ts} {o:Op} {w:Bool}:kindOf ts o w≠ .calm:=by
 cases o<;>simp only [kindOf]<;>first|(cases w<;>simp;done)|skip
 all_goals (split<;>first|(simp;done)|(cases w<;>simp;done))
theorem masksB_acc: ∀(l:List Oper) (acc:List Nat),∃r,masksB l acc=acc++r∧r.length=l.length
 |[],acc=>⟨[],by simp [masksB],rfl⟩
 |o::l,acc=>by
  obtain ⟨r,h1,h2⟩:=masksB_acc l (acc++[maskB acc o])
  exact ⟨maskB acc o::r,by simp [masksB,h1],by simp [h2]⟩
theorem masksB_get: ∀(l:List Oper) (acc:List Nat) (i:Nat) (o:Oper),l[i]? =some o→(masksB l acc)[acc.length+i]? =some (maskB ((masksB l acc).take (acc.length+i)) o)
 |[],acc,i,o,h=>by simp at h
 |p::l,acc,i,o,h=>by
  cases i with
  |zero=>
   simp at h
   subst h
   obtain ⟨r,h1,_⟩:=masksB_acc l (acc++[maskB acc p])
   have e:masksB (p::l) acc=acc++([maskB acc p]++r):=by simp [masksB,h1]
   rw [e]
   simp
  |succ i=>
   have:=masksB_get l (acc++[maskB acc p]) i o (by simpa using h)
   simp only [List.length_append,List.length_cons,List.length_nil] at this
   rw [show acc.length+(i+1)=acc.length+(0+1)+i by omega]
   exact this
theorem maskB_bit (l:List Nat) (o:Oper) (j:Nat) (h:(maskB l o).testBit j=true): ∃e∈o.after,Region.binds .any e=true∧(j=e.on∨(l.getD e.on 0).testBit j=true):=by
 have key: ∀(es:List Edge) (s:Nat),(es.foldl (fun s e=>match Region.binds .any e with|true=>s|||2^e.on|||l.getD e.on 0|false=>s) s).testBit j=true→s.testBit j=true∨ ∃e∈es,Region.binds .any e=true∧(j=e.on∨(l.getD e.on 0).testBit j=true):=by
  intro es
  induction es with
  |nil=>intro s h;exact .inl h
  |cons e es ih=>
   intro s h
   simp only [List.foldl_cons] at h
   rcases ih _ h with h1|⟨e',he',h2⟩
   ·cases hb:Region.binds .any e with
    |false=>rw [hb] at h1;exact .inl h1
    |true=>
     rw [hb] at h1
     simp only [Nat.testBit_or,Bool.or_eq_true] at h1
     rcases h1 with (h1|h1)|h1
     ·exact .inl h1
     ·refine .inr ⟨e,by simp,hb,.inl ?_⟩
      rw [Nat.testBit_two_pow] at h1
      simpa using (of_decide_eq_true h1).symm
     ·exact .inr ⟨e,by simp,hb,.inr h1⟩
   ·exact .inr ⟨e',by simp [he'],h2⟩
 unfold maskB at h
 rcases key o.after.toList 0 h with h1|⟨e,he,h2⟩
 ·simp at h1
 ·exact ⟨e,by simpa using he,h2⟩
theorem anc_ok {ops:Array Oper} {p:Nat→Prop} (hlt: ∀(i:Nat) (o:Oper),ops[i]? =some o→ ∀e∈o.after,Region.binds .any e=true→e.on<i)
  (hcl: ∀(i:Nat) (o:Oper),ops[i]? =some o→p i→ ∀e∈o.after,Region.binds .any e=true→p e.on):
  ∀(i:Nat) (o:Oper),ops[i]? =some o→(∀e∈o.after,Region.binds .any e=true→p e.on)→ ∀j,ancB ops i j=true→p j∧j<i:=by
 intro i
 induction i using Nat.strongRecOn with
 |_ i ih=>
  intro o ho hpre j hj
  have hget:=masksB_get ops.toList [] i o (by simpa using ho)
  simp only [List.length_nil,Nat.zero_add] at hget
  unfold ancB at hj
  have e1:(masksB ops.toList []).getD i 0=maskB ((masksB ops.toList []).take i) o:=by simp [List.getD,hget]
  rw [e1] at hj
  obtain ⟨e,he,hb,h⟩:=maskB_bit _ _ _ hj
  have hlte:=hlt i o ho e he hb
  rcases h with rfl|h
  ·exact ⟨hpre e he hb,hlte⟩
  ·have e2:((masksB ops.toList []).take i).getD e.on 0=(masksB ops.toList []).getD e.on 0:=by
    simp [List.getD,hlte]
   rw [e2] at h
   have hsz:e.on<ops.size:=by
    have:=(Array.getElem?_eq_some_iff.1 ho).1
    omega
   have ho':ops[e.on]? =some ops[e.on]:=Array.getElem?_eq_getElem hsz
   obtain ⟨h1,h2⟩:=ih e.on hlte _ ho' (hcl _ _ ho' (hpre e he hb)) j h
   exact ⟨h1,by omega⟩
structure StepR (P:Program) (G:Nat) (callf:CallF) (m:Nat) (ops:Array Oper) (tsF:Nat→Ts) (stF:Nat→St) (vF:Nat→Value) (kF:Nat→Kind) (j:Nat) (o:Oper):Prop where
 ts:tsF (j+1)=putT m (tsF j) o.dst (vF j)
 how:(wantB ops (tsF j) o=false∧vF j=undef∧stF (j+1)=stF j∧kF j= .calm)∨
  (wantB ops (tsF j) o=true∧calmT (tsF j) o.op=true∧(∃s,evOp P G callf (tsF j) o (stF j)=some (vF j,s))∧stF (j+1)=stF j∧kF j= .calm)∨
  (wantB ops (tsF j) o=true∧ ∃s,evOp P G callf (tsF j) o ⟨(stF j).heap,(stF j).next,(stF j).next⟩=some (vF j,s)∧kF j=kindOf (tsF j) o.op (!Nat.ble (stF j).next s.low)∧
   stF (j+1)=⟨s.heap,s.next,Nat.min (stF j).low s.low⟩∧(stF j).next≤s.next)
def pairB (ops:Array Oper) (kF:Nat→Kind) (k j:Nat):Prop:=Kind.free (kF k) (kF j)=true∨ancB ops j k=true
theorem freeB_ok {ops:Array Oper} {i:Nat} {k:Kind}: ∀{ks:List (Nat×Kind)},freeB ops i k ks=true→ ∀p∈ks,Kind.free p.2 k=true∨ancB ops i p.1=true
 |[],_,p,hp=>by cases hp
 |(j,c)::l,h,p,hp=>by
  simp only [freeB,Bool.and_eq_true,Bool.or_eq_true] at h
  rcases List.mem_cons.1 hp with rfl|hp
  ·exact h.1
  ·exact freeB_ok h.2 p hp
theorem free_calm_right (c:Kind):Kind.free c .calm=true:=by cases c<;>rfl
theorem free_calm_left (c:Kind):Kind.free .calm c=true:=by cases c<;>rfl
theorem drawn_run {callf:CallF} {m:Nat} {ops:Array Oper} {ts':Ts} {st':St}: ∀(l:List Oper) (i:Nat) (ks:List (Nat×Kind)) (ts:Ts) (st:St),ops.toList.drop i=l→evDrawn P G callf m ops l i ks ts st=some (ts',st')→
  ∃(tsF:Nat→Ts) (stF:Nat→St) (vF:Nat→Value) (kF:Nat→Kind),tsF i=ts∧stF i=st∧tsF (i+l.length)=ts'∧stF (i+l.length)=st'∧
   ∀j o,i≤j→ops[j]? =some o→StepR P G callf m ops tsF stF vF kF j o∧(∀p∈ks,Kind.free p.2 (kF j)=true∨ancB ops j p.1=true)∧ ∀k,i≤k→k<j→pairB ops kF k j:=by
 intro l
 induction l with
 |nil=>
  intro i ks ts st hd h
  have h:some (ts,st)=some (ts',st'):=h
  cases h
  refine ⟨fun _=>ts',fun _=>st',fun _=>undef,fun _=> .calm,rfl,rfl,rfl,rfl,fun j o hij ho=> ?_⟩
  have h1:j<ops.size:=(Array.getElem?_eq_some_iff.1 ho).1
  have h2:ops.toList.length≤i:=by
   rcases Nat.lt_or_ge i ops.toList.length with h|h
   ·rw [List.drop_eq_getElem_cons h] at hd;cases hd
   ·exact h
  simp at h2
  omega
 |cons o l ih=>
  intro i ks ts st hd h
  have hget:ops[i]? =some o:=by
   have h1:(ops.toList.drop i)[0]? =some o:=by rw [hd];rfl
   rw [List.getElem?_drop] at h1
   simpa using h1
  have hd':ops.toList.drop (i+1)=l:=by
   have:(ops.toList.drop i).drop 1=l:=by rw [hd];rfl
   rwa [List.drop_drop] at this
  have glue: ∀(v:Value) (kd:Kind) (st1:St) (ks1:List (Nat×Kind)),evDrawn P G callf m ops l (i+1) ks1 (putT m ts o.dst v) st1=some (ts',st')→(∀p∈ks,p∈ks1)→(kd= .calm∨(i,kd)∈ks1)→(∀p∈ks,Kind.free p.2 kd=true∨ancB ops i p.1=true)→
    ((wantB ops ts o=false∧v=undef∧st1=st∧kd= .calm)∨(wantB ops ts o=true∧calmT ts o.op=true∧(∃s,evOp P G callf ts o st=some (v,s))∧st1=st∧kd= .calm)∨
     (wantB ops ts o=true∧ ∃s,evOp P G callf ts o ⟨st.heap,st.next,st.next⟩=some (v,s)∧kd=kindOf ts o.op (!Nat.ble st.next s.low)∧st1=⟨s.heap,s.next,Nat.min st.low s.low⟩∧st.next≤s.next))→
    ∃(tsF:Nat→Ts) (stF:Nat→St) (vF:Nat→Value) (kF:Nat→Kind),tsF i=ts∧stF i=st∧tsF (i+(o::l).length)=ts'∧stF (i+(o::l).length)=st'∧
     ∀j o,i≤j→ops[j]? =some o→StepR P G callf m ops tsF stF vF kF j o∧(∀p∈ks,Kind.free p.2 (kF j)=true∨ancB ops j p.1=true)∧ ∀k,i≤k→k<j→pairB ops kF k j:=by
   intro v kd st1 ks1 he hks hkd hfree how
   obtain ⟨tsF,stF,vF,kF,h1,h2,h3,h4,h5⟩:=ih (i+1) ks1 _ _ hd' he
   refine ⟨fun j=>if j=i then ts else tsF j,fun j=>if j=i then st else stF j,fun j=>if j=i then v else vF j,fun j=>if j=i then kd else kF j,by simp,by simp,?_,?_,?_⟩
   ·simp only [List.length_cons]
    rw [if_neg (by omega),show i+(l.length+1)=i+1+l.length by omega]
    exact h3
   ·simp only [List.length_cons]
    rw [if_neg (by omega),show i+(l.length+1)=i+1+l.length by omega]
    exact h4
   ·intro j o' hij ho'
    by_cases hj:j=i
    ·subst hj
     rw [hget] at ho'
     cases ho'
     refine ⟨⟨?_,?_⟩,?_,fun k h1 h2=>by omega⟩
     ·simp only [if_true]
      rw [if_neg (by omega)]
      exact h1
     ·simp only [if_true]
      rw [if_neg (by omega),h2]
      exact how
     ·simpa using hfree
    ·obtain ⟨hs,hp,hk⟩:=h5 j o' (by omega) ho'
     refine ⟨⟨?_,?_⟩,?_,?_⟩
     ·simp only [if_neg hj]
      rw [if_neg (by omega)]
      exact hs.ts
     ·simp only [if_neg hj]
      rw [if_neg (by omega)]
      exact hs.how
     ·intro p hp'
      simp only [if_neg hj]
      exact hp p (hks p hp')
     ·intro k hik hkj
      unfold pairB
      simp only [if_neg hj]
      by_cases hki:k=i
      ·subst hki
       simp only [if_true]
       rcases hkd with rfl|hm
       ·exact .inl (free_calm_left _)
       ·exact hp _ hm
      ·rw [if_neg hki]
       exact hk k (by omega) hkj
  simp only [evDrawn] at h
  split at h
  ·rename_i hw
   split at h
   ·rename_i hc
    split at h
    ·rename_i v s he
     exact glue v .calm st ks h (fun p hp=>hp) (.inl rfl) (fun p _=> .inl (free_calm_right _)) (.inr (.inl ⟨hw,hc,⟨s,he⟩,rfl,rfl⟩))
    ·cases h
   ·rename_i hc
    split at h
    ·rename_i v s he
     split at h
     ·rename_i hf
      rw [Bool.and_eq_true] at hf
      exact glue v _ _ _ h (fun p hp=>List.mem_cons_of_mem _ hp) (.inr List.mem_cons_self) (freeB_ok hf.1) (.inr (.inr ⟨hw,s,he,rfl,rfl,Nat.le_of_ble_eq_true hf.2⟩))
     ·cases h
    ·cases h
  ·rename_i hw
   exact glue undef .calm st ks h (fun p hp=>hp) (.inl rfl) (fun p _=> .inl (free_calm_right _)) (.inl ⟨hw,rfl,rfl,rfl⟩)
end
end
section
open Go Go.RowKit
section
variable {P:Program} {G base:Nat} {T:World→Prop}
theorem wp_ends {o:Oper} {A:Act} {W:World} {K:Act→World→Prop} (h:o.wp P A W K fun _ _ _=>False): ∃a w,K a w:=by
 unfold Oper.wp Oper.upon at h
 split at h
 ·exact ⟨_,_,h⟩
 ·exact ⟨_,_,h⟩
 ·exact ⟨_,_,h⟩
 ·obtain ⟨e,w',fr,hR,_⟩:=h []
  cases e with
  |returned v=>exact ⟨_,_,hR⟩
  |panicked c=>exact hR.elim
  |outgrown=>obtain ⟨_,_,hf⟩:=hR;exact hf.elim
 ·obtain ⟨v,w',hR,_⟩:=h default []
  exact ⟨_,_,hR⟩
 ·exact h.elim
 ·exact h.elim
theorem Inv.heap_eq {φ:Phi} {st:St} {W:World} (h:Inv P G base φ st W) (l:Nat):Inv P G base φ ⟨st.heap,st.next,l⟩ W:=h.mark l
theorem step_sound {callf:CallF} (hcs:CallSound P G base T callf) {m:Nat} {ops:Array Oper} {tsF:Nat→Ts} {stF:Nat→St} {vF:Nat→Value} {kF:Nat→Kind} {j:Nat} {o:Oper}
  (hs:StepR P G callf m ops tsF stF vF kF j o) {φ:Phi} {W:World} {A:Act} (hi:Inv P G base φ (stF j) W) (hb:base≤W.heap.size) (hTW:T W) (hf:FreshU φ (stF j)) (hx: ∀x∈o.op.operands,Rel G φ (ρ (tsF j) x) (A.eval x))
  (hw:wantB ops (tsF j) o=true) {K:Act→World→Prop} {Q:Exit→Act→World→Prop} (k: ∀φ' V W',Post P G base φ (stF j) W (stF (j+1)) φ' W'→Rel G φ' (vF j) V→
   (kF j= .quiet→ ∀b,b<(stF j).next→look (stF (j+1)).heap b=look (stF j).heap b)→(stF j).next≤(stF (j+1)).next→K (A.put o.dst V) W'):o.wp P A W K Q:=by
 rcases hs.how with ⟨h1,_⟩|⟨_,hc,⟨s,he⟩,hst,hk⟩|⟨_,s,he,hk,hst,hn⟩
 ·rw [hw] at h1;cases h1
 ·obtain ⟨_,V,hV,hrun⟩:=calmT_sound hi.above hc he hx
  refine wp_value (hrun W) (k φ V W ?_ hV (fun h=>by rw [hk] at h;cases h) ?_)
  ·rw [hst];exact Post.refl hi
  ·rw [hst];exact Nat.le_refl _
 ·refine op_sound (hi.mark _) hb hcs hTW he (fun b hb=>hf b hb) hx fun φ' V W' hp hv=> ?_
  refine k φ' V W' ?_ hv ?_ ?_
  ·rw [hst];exact low_post hp
  ·intro hq b hb'
   rw [hst]
   have hlow:(stF j).next≤s.low:=by
    rw [hq] at hk
    have hw:=kind_quiet hk.symm
    have:Nat.ble (stF j).next s.low=true:=by simpa using hw
    exact Nat.le_of_ble_eq_true this
   exact hp.same b hb' (Nat.lt_of_lt_of_le hb' hlow)
  ·rw [hst];exact hn
theorem lex_facts (hT:Stays base T) {callf:CallF} (hcs:CallSound P G base T callf) {m:Nat} {ops:Array Oper} (hc:constsB G ops=true) {tsF:Nat→Ts} {stF:Nat→St} {vF:Nat→Value} {kF:Nat→Kind}
  (hs: ∀j o,ops[j]? =some o→StepR P G callf m ops tsF stF vF kF j o) {φ:Phi} {W:World} {A:Act} (hi:Inv P G base φ (stF 0) W) (hb:base≤W.heap.size) (hTW:T W) (hf:FreshU φ (stF 0)) (hr:RelT G φ m (tsF 0) A):
  ∀j,j≤ops.size→(∃φ' W' A',Inv P G base φ' (stF j) W'∧base≤W'.heap.size∧T W'∧FreshU φ' (stF j)∧RelT G φ' m (tsF j) A')∧
   ∀i,i<j→(kF i= .quiet→ ∀b,b<(stF i).next→look (stF (i+1)).heap b=look (stF i).heap b)∧(stF i).next≤(stF (i+1)).next:=by
 intro j
 induction j with
 |zero=>intro _;exact ⟨⟨φ,W,A,hi,hb,hTW,hf,hr⟩,fun i h=>by omega⟩
 |succ j ih=>
  intro hj
  obtain ⟨⟨φ',W',A',hi',hb',hT',hf',hr'⟩,hfacts⟩:=ih (by omega)
  have ho:ops[j]? =some ops[j]:=Array.getElem?_eq_getElem (by omega)
  have hst:=hs j _ ho
  have hmem:ops[j]∈ops.toList:=by simp
  have fin:(∃φ'' W'' A'',Inv P G base φ'' (stF (j+1)) W''∧base≤W''.heap.size∧T W''∧FreshU φ'' (stF (j+1))∧RelT G φ'' m (tsF (j+1)) A'')∧
    (kF j= .quiet→ ∀b,b<(stF j).next→look (stF (j+1)).heap b=look (stF j).heap b)∧(stF j).next≤(stF (j+1)).next:=by
   by_cases hw:wantB ops (tsF j) ops[j]=true
   ·obtain ⟨_,_,h⟩:=wp_ends (step_sound (A:=A') hcs hst hi' hb' hT' hf' (fun x hx=>operand_rel hr' (consts_ok hc hmem hx)) hw
     (K:=fun _ _=>(∃φ'' W'' A'',Inv P G base φ'' (stF (j+1)) W''∧base≤W''.heap.size∧T W''∧FreshU φ'' (stF (j+1))∧RelT G φ'' m (tsF (j+1)) A'')∧
      (kF j= .quiet→ ∀b,b<(stF j).next→look (stF (j+1)).heap b=look (stF j).heap b)∧(stF j).next≤(stF (j+1)).next)
     (fun φ'' V W'' hp hv hq hn=>⟨⟨φ'',W'',_,hp.inv,Nat.le_trans hb' hp.size,hT _ _ (hp.below hi' hb') hT',hf'.post hp,by rw [hst.ts];exact (hr'.mono hp.le).put hv _⟩,hq,hn⟩))
    exact h
   ·rcases hst.how with ⟨_,hv,he,hk⟩|⟨h1,_⟩|⟨h1,_⟩
    ·rw [he]
     exact ⟨⟨φ',W',A'.put ops[j].dst undef,hi',hb',hT',hf',by rw [hst.ts,hv];exact hr'.put rel_undef _⟩,⟨fun h=>(by rw [hk] at h;cases h),Nat.le_refl _⟩⟩
    ·exact absurd h1 hw
    ·exact absurd h1 hw
  refine ⟨fin.1,fun i hij=> ?_⟩
  by_cases hi2:i=j
  ·subst hi2;exact fin.2
  ·exact hfacts i (by omega)
end
end
section
open Go Go.RowKit
section
variable {P:Program} {G base:Nat} {T:World→Prop}
theorem low_weaken {φ φ':Phi} {st st':St} {W W':World} {l:Nat} (hp:Post P G base φ st W st' φ' W') (hl:l≤st'.low):Post P G base φ st W ⟨st'.heap,st'.next,l⟩ φ' W':=by
 refine ⟨hp.le,hp.new,?_,hp.inv.mark l,hp.next,Nat.le_trans hl hp.low,fun b hb hbl=>hp.same b hb (Nat.lt_of_lt_of_le hbl hl),fun r hr hall=>hp.frame r hr fun b κ hb hn=>Nat.lt_of_lt_of_le (hall b κ hb hn) hl,hp.size,hp.os,hp.tape,hp.output⟩
 intro b r κ h1 h2
 rcases hp.newr b r κ h1 h2 with h|⟨c,k,hc,hcl,hcn⟩
 ·exact .inl h
 ·exact .inr ⟨c,k,hc,Nat.le_trans hl hcl,hcn⟩
theorem nodupB_ok: ∀{l:List Nat},nodupB l=true→l.Pairwise (· ≠ ·)
 |[],_=> .nil
 |x::l,h=>by
  simp only [nodupB,Bool.and_eq_true,Bool.not_eq_true'] at h
  refine List.pairwise_cons.2 ⟨fun y hy e=> ?_,nodupB_ok h.2⟩
  have:l.any (Nat.beq x)=true:=List.any_eq_true.2 ⟨y,hy,beq_yes e⟩
  rw [this] at h
  exact absurd h.1 (by simp)
structure RegOk (ops:Array Oper):Prop where
 dst: ∀(i j:Nat) (o p:Oper) (d:Tmp),ops[i]? =some o→ops[j]? =some p→o.dst=some d→p.dst=some d→i=j
 on: ∀(i:Nat) (o:Oper),ops[i]? =some o→ ∀e∈o.after,Region.binds .any e=true→e.on<i
 sees: ∀(i j:Nat) (o p:Oper) (d:Tmp),ops[i]? =some o→ops[j]? =some p→p.dst=some d→d∈o.looksAt ops→i≠j→ancB ops i j=true∨ancB ops j i=true
theorem regionB_ok {ops:Array Oper} (h:regionB ops=true):RegOk ops:=by
 unfold regionB at h
 rw [Bool.and_eq_true] at h
 obtain ⟨h1,h2⟩:=h
 have hall: ∀i,i<ops.size→_:=fun i hi=>List.all_eq_true.1 h2 i (List.mem_range.2 hi)
 have lt: ∀{i:Nat} {o:Oper},ops[i]? =some o→i<ops.size:=fun h=>(Array.getElem?_eq_some_iff.1 h).1
 refine ⟨?_,?_,?_⟩
 ·intro i j o p d ho hp hod hpd
  have hpw:=List.pairwise_filterMap.1 (nodupB_ok h1)
  have hpw:=List.pairwise_iff_getElem.1 hpw
  have key: ∀(i j:Nat) (o p:Oper),ops[i]? =some o→ops[j]? =some p→o.dst=some d→p.dst=some d→ ¬i<j:=by
   intro i j o p ho hp hod hpd hij
   have hi:=lt ho
   have hj:=lt hp
   have e1:ops.toList[i]'(by simpa using hi)=o:=by
    have:=Array.getElem?_eq_getElem hi
    rw [ho] at this
    simpa using (Option.some.inj this).symm
   have e2:ops.toList[j]'(by simpa using hj)=p:=by
    have:=Array.getElem?_eq_getElem hj
    rw [hp] at this
    simpa using (Option.some.inj this).symm
   have:=hpw i j (by simpa using hi) (by simpa using hj) hij
   rw [e1,e2] at this
   exact this d hod d hpd rfl
  rcases Nat.lt_trichotomy i j with h|h|h
  ·exact absurd h (key i j o p ho hp hod hpd)
  ·exact h
  ·exact absurd h (key j i p o hp ho hpd hod)
 ·intro i o ho e he hb
  have:=hall i (lt ho)
  rw [ho] at this
  simp only [Bool.and_eq_true] at this
  have h3:=Array.all_eq_true_iff_forall_mem.1 this.1.1 e he
  rw [hb] at h3
  simp only [Bool.not_true,Bool.false_or] at h3
  exact blt_ok h3
 ·intro i j o p d ho hp hpd hd hne
  have:=hall i (lt ho)
  rw [ho] at this
  simp only [Bool.and_eq_true] at this
  have h3:=List.all_eq_true.1 this.2 j (List.mem_range.2 (lt hp))
  rw [hp] at h3
  simp only [hpd,Bool.or_eq_true,Bool.not_eq_true'] at h3
  rcases h3 with ((h3|h3)|h3)|h3
  ·have:(o.looksAt ops).any (Nat.beq d)=true:=List.any_eq_true.2 ⟨d,hd,beq_yes rfl⟩
   rw [this] at h3
   cases h3
  ·exact absurd (Nat.eq_of_beq_eq_true h3) hne
  ·exact .inl h3
  ·exact .inr h3
def Firm:Kind→Prop
 | .quiet| .wr _| .any=>True
 |_=>False
theorem filter_lt {p q:Nat→Bool} {i:Nat}: ∀{l:List Nat},i∈l→p i=true→q i=false→(∀j,q j=true→p j=true)→(l.filter q).length<(l.filter p).length
 |x::l,hi,hp,hq,hpq=>by
  have hle:(l.filter q).length≤(l.filter p).length:=by
   clear hi
   induction l with
   |nil=>exact Nat.le_refl _
   |cons y l ih=>
    simp only [List.filter_cons]
    cases hqy:q y
    ·cases p y<;>simp<;>omega
    ·simp [hpq y hqy];exact ih
  rcases List.mem_cons.1 hi with rfl|hi
  ·simp only [List.filter_cons,hp,hq]
   simp
   omega
  ·have:=filter_lt hi hp hq hpq
   simp only [List.filter_cons]
   cases hqx:q x
   ·cases p x<;>simp<;>omega
   ·simp [hpq x hqx];exact this
theorem rd_live {callf:CallF} {ts:Ts} {o:Oper} {w:Bool} {b:Nat} (hk:kindOf ts o.op w= .rd b) {st s:St} {v:Value} (h:evOp P G callf ts o st=some (v,s)): ∃q,look st.heap b=some q:=by
 cases hl:look st.heap b with
 |some q=>exact ⟨q,rfl⟩
 |none=>
  exfalso
  obtain ⟨_,h2⟩:=rd_eval (st2:=⟨[],st.next,st.low⟩) hk h (by rw [hl];rfl)
  rcases kind_rd hk with ⟨t,a,ho,rfl⟩|⟨src,dst,x,a,n,c,ho,hx,rfl⟩
  ·unfold evOp at h2
   rw [ho] at h2
   simp only [opD,hLoad,evLoad,loadB] at h2
   have hc: ∀(a:Addr) (n:Nat),cellsAt [] a n=none:=by
    intro a n
    unfold cellsAt
    split
    ·rfl
    ·rfl
   simp only [hc] at h2
   split at h2
   ·rename_i h3
    split at h3
    ·split at h3<;>cases h3
    ·cases h3
   ·cases h2
  ·have hc: ∀(a:Addr) (n:Nat),cellsAt [] a n=none:=by
    intro a n
    unfold cellsAt
    split
    ·rfl
    ·rfl
   have hp:evPure P G [.slice (some a) n c] (convert src dst (.slice (some a) n c)) ⟨[],st.next,st.low⟩=none:=by
    unfold evPure
    simp [pf]
   unfold evOp at h2
   rw [ho] at h2
   simp only [opD,hConvert,hx] at h2
   unfold evConvert at h2
   split at h2
   ·rename_i e;cases e
   ·split at h2
    ·unfold evToString at h2
     rw [hc] at h2
     cases h2
    ·cases h2
   ·rename_i e;cases e
   ·rename_i e;cases e
   ·rw [hp] at h2;cases h2
end
end
section
open Go Go.RowKit
section
variable {P:Program} {G base:Nat} {T:World→Prop}
theorem firm_not {k:Kind} (h: ¬Firm k):k= .calm∨ ∃b,k= .rd b:=by
 cases k with
 |calm=>exact .inl rfl
 |rd b=>exact .inr ⟨b,rfl⟩
 |_=>exact absurd trivial h
theorem firm_pair {k l:Kind} (h:Firm k) (h':Firm l):Kind.free k l=false:=by
 cases k<;>first|exact h.elim|skip
 all_goals cases l<;>first|exact h'.elim|rfl
theorem rd_pair {k:Kind} {b:Nat} (h:Firm k) (hf:Kind.free k (.rd b)=true∨Kind.free (.rd b) k=true):k= .quiet∨ ∃c,k= .wr c∧b≠c:=by
 cases k with
 |calm=>exact h.elim
 |rd b=>exact h.elim
 |quiet=>exact .inl rfl
 |any=>rcases hf with h|h<;>cases h
 |wr c=>
  refine .inr ⟨c,rfl,?_⟩
  rintro rfl
  rcases hf with h|h
  ·simp only [Kind.free,beq_yes rfl] at h;cases h
  ·simp only [Kind.free,beq_yes rfl] at h;cases h
structure Lex (P:Program) (G:Nat) (callf:CallF) (m:Nat) (ops:Array Oper) (tsF:Nat→Ts) (stF:Nat→St) (vF:Nat→Value) (kF:Nat→Kind):Prop where
 step: ∀j o,ops[j]? =some o→StepR P G callf m ops tsF stF vF kF j o
 pair: ∀j o,ops[j]? =some o→ ∀k,k<j→pairB ops kF k j
 quiet: ∀i,i<ops.size→kF i= .quiet→ ∀b,b<(stF i).next→look (stF (i+1)).heap b=look (stF i).heap b
 mono: ∀i,i<ops.size→(stF i).next≤(stF (i+1)).next
 wf: ∀i,i≤ops.size→ ∀b q,look (stF i).heap b=some q→G≤b∧b<(stF i).next
 low: ∀i,i≤ops.size→G≤(stF i).next
section
variable {callf:CallF} {m:Nat} {ops:Array Oper} {tsF:Nat→Ts} {stF:Nat→St} {vF:Nat→Value} {kF:Nat→Kind}
theorem Lex.calm (L:Lex P G callf m ops tsF stF vF kF) {i:Nat} (hi:i<ops.size) (hk: ¬Firm (kF i)):
  (stF (i+1)).heap=(stF i).heap∧(stF (i+1)).next=(stF i).next∧(stF (i+1)).low≤(stF i).low:=by
 have hs:=L.step i _ (Array.getElem?_eq_getElem hi)
 rcases hs.how with ⟨_,_,h,_⟩|⟨_,_,_,h,_⟩|⟨_,s,he,hk',hst,_⟩
 ·rw [h];exact ⟨rfl,rfl,Nat.le_refl _⟩
 ·rw [h];exact ⟨rfl,rfl,Nat.le_refl _⟩
 ·rcases firm_not hk with h|⟨b,h⟩
  ·rw [h] at hk';exact absurd hk'.symm kind_not_calm
  ·rw [h] at hk'
   obtain ⟨h1,_⟩:=rd_eval (st2:=⟨(stF i).heap,(stF i).next,(stF i).next⟩) hk'.symm he rfl
   rw [hst,h1]
   exact ⟨rfl,rfl,Nat.min_le_left _ _⟩
theorem Lex.lowM (L:Lex P G callf m ops tsF stF vF kF) {i:Nat} (hi:i<ops.size):(stF (i+1)).low≤(stF i).low:=by
 have hs:=L.step i _ (Array.getElem?_eq_getElem hi)
 rcases hs.how with ⟨_,_,h,_⟩|⟨_,_,_,h,_⟩|⟨_,s,_,_,hst,_⟩
 ·rw [h];exact Nat.le_refl _
 ·rw [h];exact Nat.le_refl _
 ·rw [hst];exact Nat.min_le_left _ _
theorem Lex.range (L:Lex P G callf m ops tsF stF vF kF) {i:Nat}: ∀{j:Nat},i≤j→j≤ops.size→(∀k,i≤k→k<j→ ¬Firm (kF k))→
  (stF j).heap=(stF i).heap∧(stF j).next=(stF i).next∧(stF j).low≤(stF i).low:=by
 intro j
 induction j with
 |zero=>intro h _ _;rw [show i=0 by omega];exact ⟨rfl,rfl,Nat.le_refl _⟩
 |succ j ih=>
  intro h hj hk
  by_cases he:i=j+1
  ·rw [he];exact ⟨rfl,rfl,Nat.le_refl _⟩
  ·obtain ⟨a,b,c⟩:=ih (by omega) (by omega) fun k h1 h2=>hk k h1 (by omega)
   obtain ⟨d,e,f⟩:=L.calm (i:=j) (by omega) (hk j (by omega) (by omega))
   exact ⟨d.trans a,e.trans b,Nat.le_trans f c⟩
theorem Lex.next (L:Lex P G callf m ops tsF stF vF kF) {i:Nat}: ∀{j:Nat},i≤j→j≤ops.size→(stF i).next≤(stF j).next:=by
 intro j
 induction j with
 |zero=>intro h _;rw [show i=0 by omega];exact Nat.le_refl _
 |succ j ih=>
  intro h hj
  by_cases he:i=j+1
  ·rw [he];exact Nat.le_refl _
  ·exact Nat.le_trans (ih (by omega) (by omega)) (L.mono j (by omega))
theorem Lex.same (L:Lex P G callf m ops tsF stF vF kF) {i b:Nat} (hb:b<(stF i).next): ∀{j:Nat},i≤j→j≤ops.size→
  (∀k,i≤k→k<j→Firm (kF k)→kF k= .quiet∨ ∃c,kF k= .wr c∧b≠c)→look (stF j).heap b=look (stF i).heap b:=by
 intro j
 induction j with
 |zero=>intro h _ _;rw [show i=0 by omega]
 |succ j ih=>
  intro h hj hk
  by_cases he:i=j+1
  ·rw [he]
  ·have h1:=ih (by omega) (by omega) fun k h1 h2=>hk k h1 (by omega)
   have hjs:j<ops.size:=by omega
   refine Eq.trans ?_ h1
   by_cases hf:Firm (kF j)
   ·rcases hk j (by omega) (by omega) hf with hq|⟨c,hw,hne⟩
    ·exact L.quiet j hjs hq b (Nat.lt_of_lt_of_le hb (L.next (by omega) (by omega)))
    ·have hs:=L.step j _ (Array.getElem?_eq_getElem hjs)
     rcases hs.how with ⟨_,_,h,_⟩|⟨_,_,_,h,_⟩|⟨_,s,he,hk',hst,_⟩
     ·rw [h]
     ·rw [h]
     ·rw [hw] at hk'
      rw [hst]
      exact wr_look hk'.symm he b hne
   ·rw [(L.calm hjs hf).1]
theorem Lex.dst (L:Lex P G callf m ops tsF stF vF kF) (R:RegOk ops) (hm:m≤4000) {k:Nat} {o:Oper} {t:Tmp} (ho:ops[k]? =some o) (hd:o.dst=some t) (ht:t<m):
  ∀{j:Nat},k<j→j≤ops.size→(tsF j).get t=vF k:=by
 intro j
 induction j with
 |zero=>intro h _;omega
 |succ j ih=>
  intro h hj
  have hs:=L.step j _ (Array.getElem?_eq_getElem (show j<ops.size by omega))
  rw [hs.ts,get_putT hm]
  by_cases he:k=j
  ·subst he
   have e:ops[k]'(by omega)=o:=by
    have:=Array.getElem?_eq_getElem (xs:=ops) (i:=k) (by omega)
    rw [ho] at this
    exact (Option.some.inj this).symm
   rw [e,if_pos ⟨hd,ht⟩]
  ·rw [if_neg]
   ·exact ih (by omega) (by omega)
   ·rintro ⟨h1,_⟩
    exact he (R.dst k j o _ t ho (Array.getElem?_eq_getElem (by omega)) hd h1)
theorem Lex.old (L:Lex P G callf m ops tsF stF vF kF) (hm:m≤4000) {t:Tmp}: ∀{j:Nat},j≤ops.size→(∀k o,k<j→ops[k]? =some o→o.dst=some t→ ¬t<m)→(tsF j).get t=(tsF 0).get t:=by
 intro j
 induction j with
 |zero=>intro _ _;rfl
 |succ j ih=>
  intro hj hk
  have hs:=L.step j _ (Array.getElem?_eq_getElem (show j<ops.size by omega))
  rw [hs.ts,get_putT hm,if_neg]
  ·exact ih (by omega) fun k o h=>hk k o (by omega)
  ·rintro ⟨h1,h2⟩
   exact hk j _ (by omega) (Array.getElem?_eq_getElem (by omega)) h1 h2
theorem ready_mem {listed:Array Bool} {i:Nat} (hsz:listed.size=ops.size) (h:i∈Region.ready .any ops listed):
  ∃o,ops[i]? =some o∧listed.getD i false=false∧ ∀e∈o.after,Region.binds .any e=true→listed.getD e.on false=true:=by
 unfold Region.ready at h
 rw [List.mem_filter,List.mem_range] at h
 obtain ⟨hi,h⟩:=h
 rw [Bool.and_eq_true] at h
 refine ⟨ops[i],Array.getElem?_eq_getElem hi,?_,?_⟩
 ·have h1:=h.1
  have hi':i<listed.size:=by omega
  simp only [Array.getD_eq_getD_getElem?,Array.getElem?_eq_getElem hi',Option.getD_some,Bool.not_eq_true'] at h1 ⊢
  exact h1
 ·intro e he hb
  have h2:=h.2
  rw [Array.getElem?_eq_getElem hi] at h2
  simp only [Option.map_some,Option.getD_some] at h2
  have h3:=Array.all_eq_true_iff_forall_mem.1 h2 e he
  rw [hb] at h3
  simpa using h3
theorem ready_nil {listed:Array Bool} (R:RegOk ops) (hsz:listed.size=ops.size) (h:Region.ready .any ops listed=[]): ∀i,i<ops.size→listed.getD i false=true:=by
 intro i
 induction i using Nat.strongRecOn with
 |_ i ih=>
  intro hi
  cases e:listed.getD i false with
  |true=>rfl
  |false=>
   have hm:i∈Region.ready .any ops listed:=by
    unfold Region.ready
    rw [List.mem_filter,List.mem_range]
    refine ⟨hi,?_⟩
    have hi':i<listed.size:=by omega
    have e1:listed.getD i true=false:=by
     simp only [Array.getD_eq_getD_getElem?,Array.getElem?_eq_getElem hi',Option.getD_some] at e ⊢
     exact e
    rw [e1,Array.getElem?_eq_getElem hi]
    simp only [Bool.not_false,Bool.true_and,Option.map_some,Option.getD_some]
    refine Array.all_eq_true_iff_forall_mem.2 fun x hx=> ?_
    cases hb:Region.binds .any x with
    |false=>rfl
    |true=>
     have hlt:=R.on i _ (Array.getElem?_eq_getElem hi) x hx hb
     rw [ih _ hlt (by omega)]
     rfl
   rw [h] at hm
   cases hm
theorem ready_full {listed:Array Bool} (hsz:listed.size=ops.size) (h: ∀i,i<ops.size→listed.getD i false=true):Region.ready .any ops listed=[]:=by
 unfold Region.ready
 rw [List.filter_eq_nil_iff]
 intro i hi
 rw [List.mem_range] at hi
 have:=h i hi
 have hi':i<listed.size:=by omega
 have e1:listed.getD i true=true:=by
  simp only [Array.getD_eq_getD_getElem?,Array.getElem?_eq_getElem hi',Option.getD_some] at this ⊢
  exact this
 rw [e1]
 simp
structure Mid (P:Program) (G base m:Nat) (ops:Array Oper) (tsF:Nat→Ts) (stF:Nat→St) (vF:Nat→Value) (kF:Nat→Kind) (φ:Phi) (W:World) (A:Act) (f:Nat) (ψ:Phi) (listed:Array Bool) (a:Act) (w:World):Prop where
 size:listed.size=ops.size
 le:f≤ops.size
 closed: ∀i o,ops[i]? =some o→listed.getD i false=true→ ∀e∈o.after,Region.binds .any e=true→listed.getD e.on false=true
 firm: ∀j,j<ops.size→Firm (kF j)→(listed.getD j false=true↔j<f)
 post:Post P G base φ (stF 0) W (stF f) ψ w
 tmps:a.tmps.size=m
 defers:a.defers=A.defers
 done: ∀j o t,ops[j]? =some o→o.dst=some t→t<m→listed.getD j false=true→Rel G ψ (vF j) (a.tmps.getD t undef)
 rest: ∀t,(∀j o,ops[j]? =some o→o.dst=some t→listed.getD j false=true→ ¬t<m)→Rel G ψ ((tsF 0).get t) (a.tmps.getD t undef)
theorem getD_set {listed:Array Bool} {i:Nat} (hi:i<listed.size) (j:Nat):(listed.setIfInBounds i true).getD j false=if i=j then true else listed.getD j false:=by
 simp only [Array.getD_eq_getD_getElem?]
 by_cases e:i=j
 ·subst e;simp [hi]
 ·rw [Array.getElem?_setIfInBounds_ne e,if_neg e]
theorem Mid.after {φ:Phi} {W:World} {A:Act} {f:Nat} {ψ:Phi} {listed:Array Bool} {a:Act} {w:World} (M:Mid P G base m ops tsF stF vF kF φ W A f ψ listed a w) (R:RegOk ops) {i:Nat} {o:Oper} (ho:ops[i]? =some o)
  (hed: ∀e∈o.after,Region.binds .any e=true→listed.getD e.on false=true) (_hnl:listed.getD i false=false) {f':Nat} {ψ':Phi} {V:Value} {w':World} (hle:ψ.le ψ') (hf':f'≤ops.size)
  (hfirm: ∀j,j<ops.size→Firm (kF j)→((i=j∨listed.getD j false=true)↔j<f')) (hp:Post P G base φ (stF 0) W (stF f') ψ' w') (hv:Rel G ψ' (vF i) V):
  Mid P G base m ops tsF stF vF kF φ W A f' ψ' (listed.setIfInBounds i true) (a.put o.dst V) w':=by
 have his:i<listed.size:=by rw [M.size];exact (Array.getElem?_eq_some_iff.1 ho).1
 have hset:=fun j=>getD_set his j
 refine ⟨by simpa using M.size,hf',?_,?_,hp,?_,(Act.put_def _ _ _).trans M.defers,?_,?_⟩
 ·intro j p hpj hl e he hb
  rw [hset] at hl ⊢
  have:listed.getD e.on false=true:=by
   by_cases hij:i=j
   ·subst hij;rw [ho] at hpj;cases hpj;exact hed e he hb
   ·rw [if_neg hij] at hl;exact M.closed j p hpj hl e he hb
  rw [this]
  split<;>rfl
 ·intro j hj hk
  rw [hset,←hfirm j hj hk]
  by_cases hij:i=j
  ·rw [if_pos hij];exact ⟨fun _=> .inl hij,fun _=>rfl⟩
  ·rw [if_neg hij]
   exact ⟨.inr,fun h=>h.resolve_left hij⟩
 ·rw [←M.tmps];unfold Act.put;cases o.dst<;>simp
 ·intro j p t hpj hd ht hl
  rw [getD_put,M.tmps]
  by_cases hij:i=j
  ·subst hij
   rw [ho] at hpj
   cases hpj
   rw [if_pos ⟨hd,ht⟩]
   exact hv
  ·rw [hset,if_neg hij] at hl
   rw [if_neg]
   ·exact (M.done j p t hpj hd ht hl).mono hle
   ·rintro ⟨h1,_⟩
    exact hij (R.dst i j o p t ho hpj h1 hd)
 ·intro t hn
  rw [getD_put,M.tmps,if_neg]
  ·refine (M.rest t fun j p hpj hd hl=>hn j p hpj hd ?_).mono hle
   rw [hset,hl]
   split<;>rfl
  ·rintro ⟨h1,h2⟩
   exact hn i o ho h1 (by rw [hset,if_pos rfl]) h2
theorem Mid.fin {φ:Phi} {W:World} {A:Act} {f:Nat} {ψ:Phi} {listed:Array Bool} {a:Act} {w:World} (M:Mid P G base m ops tsF stF vF kF φ W A f ψ listed a w) (L:Lex P G callf m ops tsF stF vF kF) (R:RegOk ops) (hm:m≤4000)
  (hall: ∀i,i<ops.size→listed.getD i false=true):After P G base m φ (stF 0) W A .normal (tsF ops.size) (stF ops.size) .normal a w:=by
 have hno: ∀k,f≤k→k<ops.size→ ¬Firm (kF k):=fun k h1 h2 hk=>by
  have:=(M.firm k h2 hk).1 (hall k h2)
  omega
 obtain ⟨h1,h2,h3⟩:=L.range M.le (Nat.le_refl _) hno
 have hp:=low_weaken M.post h3
 have e:(⟨(stF f).heap,(stF f).next,(stF ops.size).low⟩:St)=stF ops.size:=by rw [←h1,←h2]
 rw [e] at hp
 refine ⟨trivial,ψ,hp,⟨M.tmps,hm,fun t=> ?_⟩,M.defers⟩
 by_cases hex:t<m∧ ∃(j:Nat) (p:Oper),ops[j]? =some p∧p.dst=some t
 ·obtain ⟨ht,j,p,hpj,hd⟩:=hex
  have hj:=(Array.getElem?_eq_some_iff.1 hpj).1
  rw [L.dst R hm hpj hd ht hj (Nat.le_refl _)]
  exact M.done j p t hpj hd ht (hall j hj)
 ·have hno: ∀(k:Nat) (o:Oper),ops[k]? =some o→o.dst=some t→ ¬t<m:=fun k o h1 h2 h3=>hex ⟨h3,k,o,h1,h2⟩
  rw [L.old hm (Nat.le_refl _) fun k o _ h1 h2=>hno k o h1 h2]
  exact M.rest t fun j o h1 h2 _=>hno j o h1 h2
theorem Mid.step (hT:Stays base T) (hcs:CallSound P G base T callf) (hc:constsB G ops=true) {φ:Phi} {W:World} {A:Act} (hi:Inv P G base φ (stF 0) W) (hb:base≤W.heap.size) (hTW:T W) (hf:FreshU φ (stF 0))
  {f:Nat} {ψ:Phi} {listed:Array Bool} {a:Act} {w:World} (M:Mid P G base m ops tsF stF vF kF φ W A f ψ listed a w) (L:Lex P G callf m ops tsF stF vF kF) (R:RegOk ops) (hm:m≤4000) {i:Nat} (hr:i∈Region.ready .any ops listed)
  {Q:Exit→Act→World→Prop} {K:Act→World→Prop} (k: ∀f' ψ' a' w',Mid P G base m ops tsF stF vF kF φ W A f' ψ' (listed.setIfInBounds i true) a' w'→K a' w'):wpOp P ops Q i K a w:=by
 obtain ⟨o,ho,hnl,hed⟩:=ready_mem M.size hr
 have hin:i<ops.size:=(Array.getElem?_eq_some_iff.1 ho).1
 have hmem:o∈ops.toList:=by
  have:=Array.mem_of_getElem? ho
  simpa using this
 have hs:=L.step i o ho
 have hanc: ∀j,ancB ops i j=true→listed.getD j false=true∧j<i:=anc_ok (p:=fun j=>listed.getD j false=true) R.on (fun j p hp hl=>M.closed j p hp hl) i o ho hed
 have hback: ∀(j:Nat) (p:Oper),ops[j]? =some p→ancB ops j i=true→listed.getD j false=false∧i<j:=by
  intro j p hp ha
  have h1:=(anc_ok (p:=fun _=>True) R.on (fun _ _ _ _ _ _ _=>trivial) j p hp (fun _ _ _=>trivial) i ha).2
  refine ⟨?_,h1⟩
  cases hl:listed.getD j false with
  |false=>rfl
  |true=>
   have:=(anc_ok (p:=fun j=>listed.getD j false=true) R.on (fun j p hp hl=>M.closed j p hp hl) j p hp (M.closed j p hp hl) i ha).1
   rw [hnl] at this
   cases this
 have hsees: ∀t,t∈o.looksAt ops→Rel G ψ ((tsF i).get t) (a.tmps.getD t undef):=by
  intro t ht
  by_cases hex:t<m∧ ∃(j:Nat) (p:Oper),ops[j]? =some p∧p.dst=some t
  ·obtain ⟨htm,j,p,hp,hd⟩:=hex
   have hj:j<ops.size:=(Array.getElem?_eq_some_iff.1 hp).1
   have hlate:i≤j→listed.getD j false=false→Rel G ψ ((tsF i).get t) (a.tmps.getD t undef):=by
    intro hij hjl
    rw [L.old hm (Nat.le_of_lt hin) fun k q hk hq hqd _=>by have:=R.dst k j q p t hq hp hqd hd;omega]
    refine M.rest t fun k q hq hqd hl _=> ?_
    have:=R.dst k j q p t hq hp hqd hd
    subst this
    rw [hjl] at hl
    cases hl
   by_cases hij:i=j
   ·subst hij;exact hlate (Nat.le_refl _) hnl
   ·rcases R.sees i j o p t ho hp hd ht hij with h|h
    ·obtain ⟨hl,hlt⟩:=hanc j h
     rw [L.dst R hm hp hd htm hlt (Nat.le_of_lt hin)]
     exact M.done j p t hp hd htm hl
    ·obtain ⟨hl,hlt⟩:=hback j p hp h
     exact hlate (Nat.le_of_lt hlt) hl
  ·have hno: ∀(k:Nat) (o:Oper),ops[k]? =some o→o.dst=some t→ ¬t<m:=fun k o h1 h2 h3=>hex ⟨h3,k,o,h1,h2⟩
   rw [L.old hm (Nat.le_of_lt hin) fun k o _ h1 h2=>hno k o h1 h2]
   exact M.rest t fun j o h1 h2 _=>hno j o h1 h2
 have hw:Region.wanted o (yielded ops a.tmps)=wantB ops (tsF i) o:=want_ok (φ:=ψ) fun j w d hg hd=>hsees d (by
  unfold Oper.looksAt
  rw [hg]
  simp only [hd]
  simp)
 have hx: ∀x∈o.op.operands,Rel G ψ (ρ (tsF i) x) (a.eval x):=by
  intro x hxm
  have hxc:=consts_ok hc hmem hxm
  cases x with
  |tmp t=>
   refine hsees t ?_
   unfold Oper.looksAt
   refine List.mem_append_left _ (List.mem_filterMap.2 ⟨.tmp t,by simpa using hxm,rfl⟩)
  |const v=>exact .free (d:=6) hxc
  |global g=>exact free_ptr (blt_ok hxc)
  |func f=>exact .free (d:=1) rfl
 have hbw:base≤w.heap.size:=Nat.le_trans hb M.post.size
 have hTw:T w:=hT W w (M.post.below hi hb) hTW
 have hfw:=hf.post M.post
 have hstay: ¬Firm (kF i)→ ∀j,j<ops.size→Firm (kF j)→((i=j∨listed.getD j false=true)↔j<f):=by
  intro hk j hj hkj
  rw [←M.firm j hj hkj]
  constructor
  ·rintro (rfl|h)
   ·exact absurd hkj hk
   ·exact h
  ·exact .inr
 unfold wpOp
 simp only [ho]
 rw [hw]
 by_cases hwant:wantB ops (tsF i) o=true
 ·rw [if_pos hwant]
  refine .inl ?_
  by_cases hk:Firm (kF i)
  · -- all that is firm ahead of it has been carried out,and nothing that is firm behind it
   have hahead: ∀j,j<i→Firm (kF j)→listed.getD j false=true:=by
    intro j hj hkj
    rcases L.pair i o ho j hj with h|h
    ·rw [firm_pair hkj hk] at h;cases h
    ·exact (hanc j h).1
   have hbehind: ∀j,i<j→j<ops.size→Firm (kF j)→listed.getD j false=false:=by
    intro j hj hjs hkj
    have hp:ops[j]? =some ops[j]:=Array.getElem?_eq_getElem hjs
    rcases L.pair j _ hp i hj with h|h
    ·rw [firm_pair hk hkj] at h;cases h
    ·exact (hback j _ hp h).1
   have hfi:f≤i:=by
    rcases Nat.lt_or_ge i f with h|h
    ·have:=(M.firm i hin hk).2 h
     rw [hnl] at this
     cases this
    ·exact h
   have hno: ∀k,f≤k→k<i→ ¬Firm (kF k):=fun k h1 h2 hkk=>by
    have:=(M.firm k (by omega) hkk).1 (hahead k h2 hkk)
    omega
   obtain ⟨h1,h2,h3⟩:=L.range hfi (Nat.le_of_lt hin) hno
   have hp:=low_weaken M.post h3
   have e:(⟨(stF f).heap,(stF f).next,(stF i).low⟩:St)=stF i:=by rw [←h1,←h2]
   rw [e] at hp
   refine step_sound hcs hs hp.inv hbw hTw (hf.post hp) hx hwant fun φ' V W' hp' hv _ _=> ?_
   refine k (i+1) φ' _ W' (M.after R ho hed hnl hp'.le (by omega) ?_ (hp.trans' hf hp') hv)
   intro j hj hkj
   rcases Nat.lt_trichotomy j i with h|h|h
   ·exact ⟨fun _=>by omega,fun _=> .inr (hahead j h hkj)⟩
   ·exact ⟨fun _=>by omega,fun _=> .inl h.symm⟩
   ·refine ⟨?_,fun _=>by omega⟩
    rintro (h'|h')
    ·omega
    ·rw [hbehind j h hj hkj] at h';cases h'
  ·rcases hs.how with ⟨h1,_⟩|⟨_,hcalm,⟨s,he⟩,hst,hkc⟩|⟨_,s,he,hk',hst,hn⟩
   ·rw [hwant] at h1;cases h1
   ·obtain ⟨_,V,hV,hrun⟩:=calmT_sound M.post.inv.above hcalm he hx
    exact wp_value (hrun w) (k f ψ _ w (M.after R ho hed hnl .rfl M.le (hstay hk) M.post hV))
   ·rcases firm_not hk with h|⟨b,h⟩
    ·rw [h] at hk';exact absurd hk'.symm kind_not_calm
    ·rw [h] at hk'
     have hbn:b<(stF f).next:=by
      have hG:G≤(stF f).next:=L.low f M.le
      rcases kind_rd hk'.symm with ⟨t,x,hop,hbx⟩|⟨src,dst,x,ad,n,c,hop,hxv,hbx⟩
      ·have hrel:=hx x (by rw [hop];simp [Op.operands])
       rw [hbx]
       cases hv:ρ (tsF i) x with
       |pointer ad=>
        cases ad with
        |none=>
         obtain ⟨q,hq⟩:=rd_live hk'.symm he
         have:=(L.wf i (Nat.le_of_lt hin) b q hq).1
         rw [hbx,hv] at this
         have h0:blockOf (.pointer none)=0:=rfl
         rw [h0] at this ⊢
         have:=L.low f M.le
         unfold evOp at he
         rw [hop] at he
         simp only [opD,hLoad,evLoad,hv,loadB] at he
         cases he
        |some ad=>
         rw [hv] at hrel
         rcases hrel.ptr_inv with ⟨hlt,_⟩|⟨r,κ,_,hr',_⟩
         ·exact Nat.lt_of_lt_of_le hlt hG
         ·show ad.block<_
          rcases Nat.lt_or_ge ad.block (stF f).next with h'|h'
          ·exact h'
          ·rw [hfw _ h'] at hr';cases hr'
       |_=>
        unfold evOp at he
        rw [hop] at he
        simp only [opD,hLoad,evLoad,hv,loadB] at he
        cases he
      ·have hrel:=hx x (by rw [hop];simp [Op.operands])
       rw [hxv] at hrel
       obtain ⟨r,κ,_,hr',_⟩:=hrel.slice_inv
       rw [hbx]
       rcases Nat.lt_or_ge ad.block (stF f).next with h'|h'
       ·exact h'
       ·rw [hfw _ h'] at hr';cases hr'
     have hsame:look (stF f).heap b=look (stF i).heap b:=by
      rcases Nat.lt_or_ge i f with hif|hfi
      ·obtain ⟨q,hq⟩:=rd_live hk'.symm he
       refine L.same (L.wf i (Nat.le_of_lt hin) b q hq).2 (Nat.le_of_lt hif) M.le fun j h1 h2 hkj=> ?_
       have hjs:j<ops.size:=Nat.lt_of_lt_of_le h2 M.le
       have hlj:=(M.firm j hjs hkj).2 h2
       have hij:i≠j:=by rintro rfl;exact hk hkj
       have hp:ops[j]? =some ops[j]:=Array.getElem?_eq_getElem hjs
       rcases L.pair j _ hp i (by omega) with h'|h'
       ·rw [h] at h';exact rd_pair hkj (.inr h')
       ·have:=(hback j _ hp h').1
        rw [hlj] at this
        cases this
      ·refine (L.same hbn hfi (Nat.le_of_lt hin) fun j h1 h2 hkj=> ?_).symm
       have hjs:j<ops.size:=by omega
       rcases L.pair i o ho j h2 with h'|h'
       ·rw [h] at h';exact rd_pair hkj (.inl h')
       ·have:=(M.firm j hjs hkj).1 (hanc j h').1
        omega
     obtain ⟨_,he2⟩:=rd_eval (st2:=stF f) hk'.symm he hsame
     refine op_sound M.post.inv hbw hcs hTw he2 (fun b hb=>hfw b hb) hx fun φ' V W' hp' hv=> ?_
     exact k f φ' _ W' (M.after R ho hed hnl hp'.le M.le (hstay hk) (M.post.trans' hf hp') hv)
 ·rw [if_neg hwant]
  rcases hs.how with ⟨_,hv,_,hkc⟩|⟨h1,_⟩|⟨h1,_⟩
  ·have hk: ¬Firm (kF i):=by rw [hkc];exact fun h=>h
   exact k f ψ _ w (M.after R ho hed hnl .rfl M.le (hstay hk) M.post (by rw [hv];exact rel_undef))
  ·exact absurd h1 hwant
  ·exact absurd h1 hwant
end
theorem drawn_sound (hT:Stays base T) (hM:P.follows .mixedOrders=true) {callf:CallF} (hcs:CallSound P G base T callf):DrawnSound P G base T callf:=by
 intro m ops ts st ts' st' φ W A id hc hreg he hi hb hTW hf hr
 have R:=regionB_ok hreg
 obtain ⟨tsF,stF,vF,kF,h0t,h0s,hnt,hns,hall⟩:=drawn_run ops.toList 0 [] ts st rfl he
 have hlen:0+ops.toList.length=ops.size:=by simp
 rw [hlen] at hnt hns
 subst h0t h0s hnt hns
 have hstep: ∀j o,ops[j]? =some o→StepR P G callf m ops tsF stF vF kF j o:=fun j o ho=>(hall j o (Nat.zero_le _) ho).1
 have facts:=lex_facts hT hcs hc hstep hi hb hTW hf hr
 have L:Lex P G callf m ops tsF stF vF kF:=⟨hstep,fun j o ho k hk=>(hall j o (Nat.zero_le _) ho).2.2 k (Nat.zero_le _) hk,
  fun i hi' hq=>((facts (i+1) hi').2 i (Nat.lt_succ_self i)).1 hq,fun i hi'=>((facts (i+1) hi').2 i (Nat.lt_succ_self i)).2,
  fun i hi' b q hq=>by obtain ⟨⟨φ',W',A',h1,_⟩,_⟩:=facts i hi';exact h1.wf b q hq,
  fun i hi'=>by obtain ⟨⟨φ',W',A',h1,_⟩,_⟩:=facts i hi';exact h1.low⟩
 have hm:=hr.2.1
 refine wp_region_any hM ?_
 have main: ∀(fuel f:Nat) (ψ:Phi) (listed:Array Bool) (a:Act) (w:World),Mid P G base m ops tsF stF vF kF φ W A f ψ listed a w→((List.range ops.size).filter fun j=> !listed.getD j false).length≤fuel→
   wpAny P .any ops (After P G base m φ (stF 0) W A .normal (tsF ops.size) (stF ops.size)) fuel listed a w:=by
  intro fuel
  induction fuel with
  |zero=>
   intro f ψ listed a w M hcnt
   have hfull: ∀i,i<ops.size→listed.getD i false=true:=by
    intro i hi'
    cases e:listed.getD i false with
    |true=>rfl
    |false=>
     have:i∈(List.range ops.size).filter fun j=> !listed.getD j false:=List.mem_filter.2 ⟨List.mem_range.2 hi',by rw [e];rfl⟩
     rw [List.eq_nil_of_length_eq_zero (Nat.le_zero.1 hcnt)] at this
     cases this
   exact ⟨ready_full M.size hfull,M.fin L R hm hfull⟩
  |succ fuel ih=>
   intro f ψ listed a w M hcnt
   refine ⟨fun hr=>M.fin L R hm (ready_nil R M.size hr),fun i hri=> ?_⟩
   refine M.step hT hcs hc hi hb hTW hf L R hm hri fun f' ψ' a' w' M'=>ih f' ψ' _ a' w' M' ?_
   obtain ⟨o,ho,hnl,_⟩:=ready_mem M.size hri
   have hin:i<ops.size:=(Array.getElem?_eq_some_iff.1 ho).1
   have his:i<listed.size:=by rw [M.size];exact hin
   have:=filter_lt (p:=fun j=> !listed.getD j false) (q:=fun j=> !(listed.setIfInBounds i true).getD j false) (i:=i) (l:=List.range ops.size) (List.mem_range.2 hin) (by simp [hnl]) (by rw [getD_set his];simp)
    (fun j hj=>by rw [getD_set his] at hj;split at hj<;>simp_all)
   omega
 refine main ops.size 0 φ _ A _ ⟨by simp,Nat.zero_le _,?_,?_,below_post hi ((Below.refl _ W).drew),hr.1,rfl,?_,?_⟩ ?_
 ·intro i o _ hl;simp [Array.getD_eq_getD_getElem?,Array.getElem?_replicate] at hl;split at hl<;>simp at hl
 ·intro j hj _
  constructor
  ·intro hl;simp [Array.getD_eq_getD_getElem?,Array.getElem?_replicate] at hl;split at hl<;>simp at hl
  ·intro h;omega
 ·intro j o t _ _ _ hl;simp [Array.getD_eq_getD_getElem?,Array.getElem?_replicate] at hl;split at hl<;>simp at hl
 ·intro t _;exact hr.2.2 t
 ·have:=List.length_filter_le (fun j=> !(Array.replicate ops.size false).getD j false) (List.range ops.size)
  rw [List.length_range] at this
  exact this
end
end
section
open Go Go.RowKit
section
variable {P:Program} {G base:Nat} {T:World→Prop}
theorem ec_all (hT:Stays base T) (hN:NoNum P) (hM:P.follows .mixedOrders=true) {orc:Orc} (ho:OrcSound P G base T orc) (n:Nat):RecSound P G base T (ec P G orc n):=
 ec_sound hT hN ho (fun _ hrec=>drawn_sound hT hM (callF_sound hT hN ho hrec)) n
theorem runF_sound (hT:Stays base T) (hN:NoNum P) (hM:P.follows .mixedOrders=true) {orc:Orc} (ho:OrcSound P G base T orc) {n:Nat} {f:FuncId} {args:List Value} {v:Value}
  (h:runF P G orc n f args=some v) (ha:args.all (pf G 6)=true) (hv:pf G 6 v=true) (W:World) (hb:W.heap.size=base) (hTW:T W):
  Calls P f args.toArray W fun e w'=>e= .returned v∧Below W.heap.size W w':=by
 unfold runF at h
 split at h
 ·rename_i v' st' he
  cases h
  have hi:Inv P G base (fun _=>none) ⟨[],G,G⟩ W:=⟨fun _ _ _ h=>(by cases h),fun _ _ h=>(by cases h),List.Pairwise.nil,fun _ _ _ _ h=>(by cases h),fun _ _ _ _ _ _ _ h=>(by cases h),Nat.le_refl _⟩
  obtain ⟨_,hc⟩:=evEnter_sound hT hN (ec_all hT hN hM ho n) (Args:=args.toArray) he hi (by omega) hTW (fun _ _=>rfl) (RelL.of_free ha)
  refine Calls.mono hc ?_
  rintro e w' ⟨V,rfl,φ',hp,hr⟩
  have hV:=hr.eq_of_pf hp.inv.above 6 hv
  subst hV
  have:=hp.below hi (by omega)
  rw [hb]
  exact ⟨rfl,this⟩
 ·cases h
def noArg (v:Value):List Value→Option Value
 |[]=>some v
 |_=>none
noncomputable def orcAdd (orc:Orc) (f:FuncId) (v:Value):Orc:=fun g args h=>br (Nat.beq g f) (noArg v args) (orc g args h)
theorem OrcSound.add {orc:Orc} (ho:OrcSound P G base T orc) {f:FuncId} {v:Value} (hv:pf G 6 v=true) (hcf: ∀W,(callFunc f #[]).run P W= .ok (.enter f #[]) W)
  (hc: ∀W,base≤W.heap.size→T W→Calls P f #[] W fun e w'=>e= .returned v∧Below W.heap.size W w'):OrcSound P G base T (orcAdd orc f v):=by
 intro g args st u φ W Args h hi hb hTW ha
 unfold orcAdd at h
 by_cases e:g=f
 ·subst e
  rw [beq_yes rfl] at h
  have h:noArg v args=some u:=h
  cases args with
  |nil=>
   cases h
   have e0:Args= #[]:=by
    have:=ha.nil_inv
    apply Array.ext'
    simpa using this
   subst e0
   refine .inr ⟨g,#[],hcf W,Calls.mono (hc W hb hTW) ?_⟩
   rintro e w' ⟨rfl,hB⟩
   exact ⟨v,rfl,.free hv,hB⟩
  |cons _ _=>cases h
 ·rw [beq_no e] at h
  exact ho g args st u φ W Args h hi hb hTW ha
end
end
section
open Go Go.RowKit
section
variable {P:Program} {G base:Nat} {T:World→Prop}
abbrev OrcH:=List Value→Hp→Option Value
noncomputable def orcWith (orc:Orc) (f:FuncId) (k:OrcH):Orc:=fun g args h=>br (Nat.beq g f) (k args h) (orc g args h)
def orcNone:Orc:=fun _ _ _=>none
def OrcFn (P:Program) (G base:Nat) (T:World→Prop) (f:FuncId) (k:OrcH):Prop:=
 ∀(args:List Value) (st:St) (v:Value) (φ:Phi) (W:World) (Args:Array Value),k args st.heap=some v→Inv P G base φ st W→base≤W.heap.size→T W→RelL G φ args Args.toList→
  CallR P f Args W fun V W'=>Rel G φ v V∧Below W.heap.size W W'
theorem orcNone_sound:OrcSound P G base T orcNone:=fun _ _ _ _ _ _ _ h=>by cases h
theorem OrcSound.with {orc:Orc} (ho:OrcSound P G base T orc) {f:FuncId} {k:OrcH} (hk:OrcFn P G base T f k):OrcSound P G base T (orcWith orc f k):=by
 intro g args st v φ W Args h hi hb hTW ha
 unfold orcWith at h
 by_cases e:g=f
 ·subst e
  rw [beq_yes rfl] at h
  exact hk args st v φ W Args h hi hb hTW ha
 ·rw [beq_no e] at h
  exact ho g args st v φ W Args h hi hb hTW ha
theorem args1 {φ:Phi} {a:Value} {Args:Array Value} (h:RelL G φ [a] Args.toList): ∃A,Args= #[A]∧Rel G φ a A:=by
 obtain ⟨A,L,e,h1,h2⟩:=h.cons_inv
 rw [h2.nil_inv] at e
 exact ⟨A,Array.ext' (by simpa using e),h1⟩
theorem args2 {φ:Phi} {a b:Value} {Args:Array Value} (h:RelL G φ [a,b] Args.toList): ∃A B,Args= #[A,B]∧Rel G φ a A∧Rel G φ b B:=by
 obtain ⟨A,L,e,h1,h2⟩:=h.cons_inv
 obtain ⟨B,M,e',h3,h4⟩:=h2.cons_inv
 rw [e',h4.nil_inv] at e
 exact ⟨A,B,Array.ext' (by simpa using e),h1,h3⟩
theorem args0 {φ:Phi} {Args:Array Value} (h:RelL G φ [] Args.toList):Args= #[]:=Array.ext' (by simpa using h.nil_inv)
def idxB:List UInt8→Nat→Nat→Int
 |[],_,_=> -1
 |c::l,x,i=>match Nat.beq c.toNat x with|true=>i|false=>idxB l x (i+1)
def cntB:List UInt8→Nat→Nat→Nat
 |[],_,n=>n
 |c::l,x,n=>match Nat.beq c.toNat x with|true=>cntB l x (n+1)|false=>cntB l x n
def prefB:List UInt8→List UInt8→Bool
 |[],_=>true
 |_::_,[]=>false
 |a::l,b::m=>match Nat.beq a.toNat b.toNat with|true=>prefB l m|false=>false
def idxS:List UInt8→List UInt8→Nat→Int
 |[],t,i=>match t with|[]=>i|_::_=> -1
 |c::l,t,i=>match prefB t (c::l) with|true=>i|false=>idxS l t (i+1)
def digs:Nat→Nat→List UInt8→Option (List UInt8)
 |0,_,_=>none
 |f+1,n,acc=>match Nat.ble n 9 with|true=>some (UInt8.ofNat (48+n)::acc)|false=>digs f (n/10) (UInt8.ofNat (48+n % 10)::acc)
def joinB:List (List UInt8)→List UInt8→List UInt8
 |[],_=>[]
 |[x],_=>x
 |x::y::l,p=>x++(p++joinB (y::l) p)
def ctzB:Nat→Nat→Nat→Nat
 |0,_,i=>i
 |f+1,x,i=>match Nat.beq (x % 2) 1 with|true=>i|false=>ctzB f (x/2) (i+1)
def lenB:Nat→Nat→Nat→Nat
 |0,_,i=>i
 |f+1,x,i=>match Nat.beq x 0 with|true=>i|false=>lenB f (x/2) (i+1)
theorem idxB_ok (x:UInt8): ∀(l:List UInt8) (i:Nat),idxB l x.toNat i=if Lib.indexByte l x= -1 then -1 else Lib.indexByte l x+i
 |[],i=>rfl
 |c::l,i=>by
  unfold idxB Lib.indexByte
  have hg:=Lib.indexByte_ge l x
  by_cases e:c=x
  ·subst e
   rw [beq_yes rfl]
   simp
  ·have hn:c.toNat≠x.toNat:=fun h=>e (UInt8.toNat_inj.1 h)
   rw [beq_no hn,idxB_ok x l (i+1)]
   have e':(c==x)=false:=by simpa using e
   simp only [e',Bool.false_eq_true,if_false]
   by_cases h1:Lib.indexByte l x= -1
   ·simp [h1]
   ·have h2:(Lib.indexByte l x== -1)=false:=by simpa using h1
    simp only [h2,if_neg h1,Bool.false_eq_true,if_false]
    rw [if_neg (by omega)]
    push_cast
    omega
theorem idxB_zero (x:UInt8) (l:List UInt8):idxB l x.toNat 0=Lib.indexByte l x:=by
 rw [idxB_ok];split
 ·rename_i h;exact h.symm
 ·simp
theorem cntB_ok (x:UInt8): ∀(l:List UInt8) (n:Nat),cntB l x.toNat n=n+Lib.countByte l x
 |[],n=>rfl
 |c::l,n=>by
  unfold cntB Lib.countByte
  rw [List.count_cons]
  by_cases e:c=x
  ·subst e
   rw [beq_yes rfl]
   simp only [beq_self_eq_true,if_true]
   rw [cntB_ok c l (n+1)]
   show _=n+(l.count c+1)
   unfold Lib.countByte
   omega
  ·have hn:c.toNat≠x.toNat:=fun h=>e (UInt8.toNat_inj.1 h)
   rw [beq_no hn]
   have e':(c==x)=false:=by simpa using e
   simp only [e',Bool.false_eq_true,if_false,Nat.add_zero]
   exact cntB_ok x l n
theorem prefB_ok: ∀(t l:List UInt8),prefB t l=t.isPrefixOf l
 |[],_=>by simp [prefB]
 |_::_,[]=>by simp [prefB]
 |a::t,b::l=>by
  unfold prefB
  by_cases e:a=b
  ·subst e
   rw [beq_yes rfl]
   simp only [List.isPrefixOf,beq_self_eq_true,Bool.true_and]
   exact prefB_ok t l
  ·have hn:a.toNat≠b.toNat:=fun h=>e (UInt8.toNat_inj.1 h)
   rw [beq_no hn]
   have e':(a==b)=false:=by simpa using e
   simp [List.isPrefixOf,e']
theorem idxS_ok (t:List UInt8): ∀(l:List UInt8) (i:Nat),idxS l t i=if Lib.index l t= -1 then -1 else Lib.index l t+i
 |[],i=>by
  unfold idxS Lib.index
  cases t<;>simp
 |c::l,i=>by
  unfold idxS Lib.index
  have hg:=Lib.index_ge l t
  rw [prefB_ok]
  cases h:t.isPrefixOf (c::l) with
  |true=>simp
  |false=>
   simp only [Bool.false_eq_true,if_false]
   rw [idxS_ok t l (i+1)]
   by_cases h1:Lib.index l t= -1
   ·simp [h1]
   ·have h2:(Lib.index l t== -1)=false:=by simpa using h1
    simp only [h2,if_neg h1,Bool.false_eq_true,if_false]
    rw [if_neg (by omega)]
    push_cast
    omega
theorem idxS_zero (t l:List UInt8):idxS l t 0=Lib.index l t:=by
 rw [idxS_ok];split
 ·rename_i h;exact h.symm
 ·simp
theorem digs_ok: ∀(f n:Nat) (acc r:List UInt8),digs f n acc=some r→r=Lib.decDigits n++acc
 |0,_,_,_,h=>by cases h
 |f+1,n,acc,r,h=>by
  unfold digs at h
  rw [Lib.decDigits]
  by_cases e:n≤9
  ·rw [Nat.ble_eq_true_of_le e] at h
   cases h
   rw [dif_pos (by omega)]
   rfl
  ·have e':Nat.ble n 9=false:=by
    cases h1:Nat.ble n 9
    ·rfl
    ·exact absurd (Nat.le_of_ble_eq_true h1) e
   rw [e'] at h
   rw [dif_neg (by omega),digs_ok f _ _ _ h]
   simp
theorem joinB_ok: ∀(l:List (List UInt8)) (p:List UInt8),joinB l p=Lib.join l p
 |[],_=>rfl
 |[x],p=>by simp [joinB,Lib.join,List.intercalate]
 |x::y::l,p=>by
  unfold joinB
  rw [joinB_ok (y::l) p]
  simp [Lib.join,List.intercalate]
theorem ctzB_ok: ∀(f x i:Nat),ctzB f x i=i+Lib.ctzFrom f x
 |0,_,_=>rfl
 |f+1,x,i=>by
  unfold ctzB Lib.ctzFrom
  by_cases e:x % 2=1
  ·rw [beq_yes e,if_pos e];rfl
  ·rw [beq_no e,if_neg e];show ctzB f (x/2) (i+1)=_;rw [ctzB_ok f];omega
theorem lenB_ok: ∀(f x i:Nat),lenB f x i=i+Lib.bitLenAux f x
 |0,_,_=>rfl
 |f+1,x,i=>by
  unfold lenB Lib.bitLenAux
  by_cases e:x=0
  ·rw [beq_yes e,if_pos e];rfl
  ·rw [beq_no e,if_neg e];show lenB f (x/2) (i+1)=_;rw [lenB_ok f];omega
end
end
noncomputable section
open Go Go.RowKit Go.Proofs
section
variable {P:Program} {G base:Nat} {T:World→Prop}
def oNoEscape:OrcH:=fun args _=>match args with|[x]=>some x|_=>none
def oIndexByte:OrcH:=fun args _=>match args with
 |[.string s,.int .u8 (.ofNat n)]=>(match Nat.blt n 256 with|true=>some (.int .i64 (idxB s.data.toList n 0))|false=>none)
 |_=>none
def oCount:OrcH:=fun args _=>match args with
 |[.string s,.int .u8 (.ofNat n)]=>(match Nat.blt n 256 with|true=>some (.int .i64 (.ofNat (cntB s.data.toList n 0)))|false=>none)
 |_=>none
def oIndex:OrcH:=fun args _=>match args with
 |[.string s,.string t]=>(match Nat.blt s.size 4294967281 with|true=>some (.int .i64 (idxS s.data.toList t.data.toList 0))|false=>none)
 |_=>none
def oLen:OrcH:=fun args _=>match args with
 |[.int .u64 (.ofNat n)]=>(match Nat.blt n 18446744073709551616 with|true=>some (.int .i64 (.ofNat (lenB 64 n 0)))|false=>none)
 |_=>none
def oCtz:OrcH:=fun args _=>match args with
 |[.int .u64 (.ofNat n)]=>(match Nat.blt n 18446744073709551616 with|true=>some (.int .i64 (.ofNat (match Nat.beq n 0 with|true=>64|false=>ctzB 64 n 0)))|false=>none)
 |_=>none
def oItoa:OrcH:=fun args _=>match args with
 |[.int .i64 (.ofNat n)]=>(match Nat.blt n 9223372036854775808,digs 20 n [] with|true,some l=>some (.string ⟨l.toArray⟩)|_,_=>none)
 |_=>none
def oTz:OrcH:=fun args _=>match args with
 |[.int .u64 (.ofNat n)]=>(match Nat.beq n 16 with|true=>some (.int .i64 4)|false=>(match Nat.beq n 8 with|true=>some (.int .i64 3)|false=>none))
 |_=>none
def oReplace:OrcH:=fun args _=>match args with
 |[.string s,.string o,.string n]=>(match Nat.blt s.size 4294967281&&Nat.blt 0 o.size&&Nat.ble (s.size+Lib.countB s o*n.size) 1000000 with|true=>some (.string ⟨(Lib.replaceAll s.data.toList o.data.toList n.data.toList).toArray⟩)|false=>none)
 |_=>none
def strsB:List Value→Option (List ByteArray)
 |[]=>some []
 | .string s::l=>(match strsB l with|some m=>some (s::m)|none=>none)
 |_=>none
def oJoin:OrcH:=fun args h=>match args with
 |[.slice (some a) n c,.string sep]=>(match cellsAt h a n with
  |some cs=>(match strsB cs,Nat.ble n (c/2)&&Nat.ble n 1000000 with
   |some xs,true=>(match Nat.ble (joinB (xs.map (·.data.toList)) sep.data.toList).length 1000000 with|true=>some (.string ⟨(joinB (xs.map (·.data.toList)) sep.data.toList).toArray⟩)|false=>none)
   |_,_=>none)
  |none=>none)
 |_=>none
theorem value_callR {f:FuncId} {Args:Array Value} {W:World} {V v:Value} {φ:Phi} (h:(callFunc f Args).run P W= .ok (.value V) W) (hr:Rel G φ v V):
  CallR P f Args W fun V W'=>Rel G φ v V∧Below W.heap.size W W':= .inl ⟨V,W,h,hr,Below.refl _ _⟩
theorem calls_callR {f:FuncId} {Args:Array Value} {W:World} {V v:Value} {φ:Phi} (he:Enters P f) (h:Calls P f Args W fun e W'=>e= .returned V∧Below W.heap.size W W') (hr:Rel G φ v V):
  CallR P f Args W fun V W'=>Rel G φ v V∧Below W.heap.size W W':= .inr ⟨f,Args,he Args W,h.mono fun _ _ h=>⟨V,h.1,hr,h.2⟩⟩
theorem oNoEscape_ok {f:FuncId} {fn:Func} (hf:P.funcs[f]? =some fn) (hname:(fn.name== "runtime.NumGoroutine")=false) (hb:fn.body.isNone=true) (hn:Extern.findNext fn=none) (he:Extern.find fn=some Extern.AbiNoEscape.same):OrcFn P G base T f oNoEscape:=by
 intro args st v φ W Args h hi hbs hTW ha
 match args,h with
 |[x],h=>
  cases h
  obtain ⟨X,rfl,hx⟩:=args1 ha
  refine value_callR (V:=X) ?_ hx
  rw [run_callFunc_extern hf hname hb hn he,Lib.run_noEscape]
  rfl
theorem u8_nat {n:Nat} (h:n<256):((Int.ofNat n).toNat.toUInt8).toNat=n:=by
 show (UInt8.ofNat n).toNat=n
 simp;omega
theorem oIndexByte_ok {f:FuncId} {fn:Func} (hf:P.funcs[f]? =some fn) (hname:(fn.name== "runtime.NumGoroutine")=false) (hb:fn.body.isNone=true) (hn:Extern.findNext fn=none) (he:Extern.find fn=some Extern.BytealgIndexByte.indexByte):OrcFn P G base T f oIndexByte:=by
 intro args st v φ W Args h hi hbs hTW ha
 unfold oIndexByte at h
 split at h
 ·rename_i s n
  split at h
  ·rename_i hlt
   cases h
   obtain ⟨A,B,rfl,h1,h2⟩:=args2 ha
   cases h1.string
   cases h2.int
   have hlt:=blt_ok hlt
   refine value_callR (V:= .int .i64 (Lib.indexByte s.data.toList (Int.ofNat n).toNat.toUInt8)) ?_ ?_
   ·rw [run_callFunc_extern hf hname hb hn he,Lib.run_indexByteString]
    rfl
   ·have e:=idxB_zero (Int.ofNat n).toNat.toUInt8 s.data.toList
    rw [u8_nat hlt] at e
    rw [e]
    exact .free (d:=0) rfl
  ·cases h
 ·cases h
theorem oCount_ok {f:FuncId} {fn:Func} (hf:P.funcs[f]? =some fn) (hname:(fn.name== "runtime.NumGoroutine")=false) (hb:fn.body.isNone=true) (hn:Extern.findNext fn=none) (he:Extern.find fn=some Extern.BytealgCount.count):OrcFn P G base T f oCount:=by
 intro args st v φ W Args h hi hbs hTW ha
 unfold oCount at h
 split at h
 ·rename_i s n
  split at h
  ·rename_i hlt
   cases h
   obtain ⟨A,B,rfl,h1,h2⟩:=args2 ha
   cases h1.string
   cases h2.int
   have hlt:=blt_ok hlt
   refine value_callR (V:= .int .i64 (Lib.countByte s.data.toList (Int.ofNat n).toNat.toUInt8)) ?_ ?_
   ·rw [run_callFunc_extern hf hname hb hn he,Lib.run_countString]
    rfl
   ·have e:=cntB_ok (Int.ofNat n).toNat.toUInt8 s.data.toList 0
    rw [u8_nat hlt,Nat.zero_add] at e
    rw [e]
    exact .free (d:=0) rfl
  ·cases h
 ·cases h
theorem oIndex_ok {f:FuncId} (he:Enters P f) (hc: ∀(s t:ByteArray) (W:World),T W→s.size<4294967281→Calls P f #[.string s,.string t] W fun e w'=>e= .returned (.int .i64 (Lib.index s.data.toList t.data.toList))∧w'=W):OrcFn P G base T f oIndex:=by
 intro args st v φ W Args h hi hbs hTW ha
 unfold oIndex at h
 split at h
 ·rename_i s t
  split at h
  ·rename_i hlt
   cases h
   obtain ⟨A,B,rfl,h1,h2⟩:=args2 ha
   cases h1.string
   cases h2.string
   refine calls_callR he ((hc s t W hTW (blt_ok hlt)).mono fun _ _ h=>⟨h.1,h.2▸Below.refl _ _⟩) ?_
   rw [idxS_zero]
   exact .free (d:=0) rfl
  ·cases h
 ·cases h
theorem oLen_ok {f:FuncId} (he:Enters P f) (hc: ∀(x:Int) (W:World),0≤x→x≤18446744073709551615→Calls P f #[.int .u64 x] W fun e w'=>e= .returned (.int .i64 (Lib.bitLen x.toNat))∧w'=W):OrcFn P G base T f oLen:=by
 intro args st v φ W Args h hi hbs hTW ha
 unfold oLen at h
 split at h
 ·rename_i n
  split at h
  ·rename_i hlt
   cases h
   obtain ⟨A,rfl,h1⟩:=args1 ha
   cases h1.int
   have hlt:=blt_ok hlt
   refine calls_callR he ((hc (Int.ofNat n) W (Int.natCast_nonneg n) (by show (n:Int)≤_;omega)).mono fun _ _ h=>⟨h.1,h.2▸Below.refl _ _⟩) ?_
   rw [lenB_ok,Nat.zero_add]
   exact .free (d:=0) rfl
  ·cases h
 ·cases h
theorem oCtz_ok {f:FuncId} (he:Enters P f) (hc: ∀(x:Nat) (W:World),T W→x<18446744073709551616→Calls P f #[.int .u64 x] W fun e w'=>e= .returned (.int .i64 (Lib.ctz 64 x))∧w'=W):OrcFn P G base T f oCtz:=by
 intro args st v φ W Args h hi hbs hTW ha
 unfold oCtz at h
 split at h
 ·rename_i n
  split at h
  ·rename_i hlt
   cases h
   obtain ⟨A,rfl,h1⟩:=args1 ha
   cases h1.int
   refine calls_callR he ((hc n W hTW (blt_ok hlt)).mono fun _ _ h=>⟨h.1,h.2▸Below.refl _ _⟩) ?_
   have e:(match Nat.beq n 0 with|true=>64|false=>ctzB 64 n 0)=Lib.ctz 64 n:=by
    unfold Lib.ctz
    by_cases e:n=0
    ·rw [beq_yes e,if_pos e]
    ·rw [beq_no e,if_neg e]
     show ctzB 64 n 0=_
     rw [ctzB_ok,Nat.zero_add]
   rw [e]
   exact .free (d:=0) rfl
  ·cases h
 ·cases h
theorem oItoa_ok {f:FuncId} (he:Enters P f) (hc: ∀(n:Int) (W:World),T W→ -9223372036854775808≤n→n≤9223372036854775807→Calls P f #[.int .i64 n] W fun e w'=>e= .returned (.string ⟨(Lib.itoa n).toArray⟩)∧Below W.heap.size W w'):OrcFn P G base T f oItoa:=by
 intro args st v φ W Args h hi hbs hTW ha
 unfold oItoa at h
 split at h
 ·rename_i n
  split at h
  ·rename_i l hlt hd
   cases h
   obtain ⟨A,rfl,h1⟩:=args1 ha
   cases h1.int
   have hlt:=blt_ok hlt
   refine calls_callR he ((hc (Int.ofNat n) W hTW (by show _≤(n:Int);omega) (by show (n:Int)≤_;omega))) ?_
   ·have e:=digs_ok 20 n [] l hd
    rw [List.append_nil] at e
    have e':Lib.itoa (Int.ofNat n)=l:=by
     unfold Lib.itoa
     rw [if_neg (by show ¬(n:Int)<0;omega),e]
     rfl
    rw [e']
    exact .free (d:=0) rfl
  ·cases h
 ·cases h
theorem oTz_ok {f:FuncId} (he:Enters P f) (h8: ∀W,T W→Calls P f #[.int .u64 8] W fun e w'=>e= .returned (.int .i64 3)∧w'=W) (h16: ∀W,T W→Calls P f #[.int .u64 16] W fun e w'=>e= .returned (.int .i64 4)∧w'=W):OrcFn P G base T f oTz:=by
 intro args st v φ W Args h hi hbs hTW ha
 unfold oTz at h
 split at h
 ·rename_i n
  obtain ⟨A,rfl,h1⟩:=args1 ha
  cases h1.int
  by_cases e:n=16
  ·subst e
   cases h
   exact calls_callR he ((h16 W hTW).mono fun _ _ h=>⟨h.1,h.2▸Below.refl _ _⟩) (.free (d:=0) rfl)
  ·rw [beq_no e] at h
   by_cases e:n=8
   ·subst e
    cases h
    exact calls_callR he ((h8 W hTW).mono fun _ _ h=>⟨h.1,h.2▸Below.refl _ _⟩) (.free (d:=0) rfl)
   ·rw [beq_no e] at h
    cases h
 ·cases h
theorem args3 {φ:Phi} {a b c:Value} {Args:Array Value} (h:RelL G φ [a,b,c] Args.toList): ∃A B C,Args= #[A,B,C]∧Rel G φ a A∧Rel G φ b B∧Rel G φ c C:=by
 obtain ⟨A,L,e,h1,h2⟩:=h.cons_inv
 obtain ⟨B,M,e',h3,h4⟩:=h2.cons_inv
 obtain ⟨C,K,e'',h5,h6⟩:=h4.cons_inv
 rw [e',e'',h6.nil_inv] at e
 exact ⟨A,B,C,Array.ext' (by simpa using e),h1,h3,h5⟩
theorem oReplace_ok {f:FuncId} (he:Enters P f) (hc: ∀(s o n:ByteArray) (W:World),T W→s.size<4294967281→1≤o.size→s.size+Lib.countB s o*n.size≤140737488355328→
   Calls P f #[.string s,.string o,.string n] W fun e w'=>e= .returned (.string ⟨(Lib.replaceAll s.data.toList o.data.toList n.data.toList).toArray⟩)∧Below W.heap.size W w'):OrcFn P G base T f oReplace:=by
 intro args st v φ W Args h hi hbs hTW ha
 unfold oReplace at h
 split at h
 ·rename_i s o n
  split at h
  ·rename_i hle
   cases h
   rw [Bool.and_eq_true,Bool.and_eq_true] at hle
   obtain ⟨A,B,C,rfl,h1,h2,h3⟩:=args3 ha
   cases h1.string
   cases h2.string
   cases h3.string
   have h4:=Nat.le_of_ble_eq_true hle.2
   exact calls_callR he (hc s o n W hTW (blt_ok hle.1.1) (blt_ok hle.1.2) (by omega)) (.free (d:=0) rfl)
  ·cases h
 ·cases h
theorem strsB_ok: ∀{l:List Value} {m:List ByteArray},strsB l=some m→l=m.map .string
 |[],m,h=>by cases h;rfl
 | .string s::l,m,h=>by
  unfold strsB at h
  split at h
  ·rename_i m' hm
   cases h
   rw [strsB_ok hm]
   rfl
  ·cases h
 | .bool _::_,_,h=>by cases h
 | .int _ _::_,_,h=>by cases h
 | .float _ _::_,_,h=>by cases h
 | .complex _ _ _::_,_,h=>by cases h
 | .pointer _::_,_,h=>by cases h
 | .slice _ _ _::_,_,h=>by cases h
 | .map _::_,_,h=>by cases h
 | .chan _::_,_,h=>by cases h
 | .func _ _ _::_,_,h=>by cases h
 | .nilFunc::_,_,h=>by cases h
 | .iface _ _::_,_,h=>by cases h
 | .nilIface::_,_,h=>by cases h
 | .agg _::_,_,h=>by cases h
 | .tuple _::_,_,h=>by cases h
theorem oJoin_ok {f:FuncId} (he:Enters P f) (hc: ∀(bk o c:Nat) (xs:List ByteArray) (sep:ByteArray) (w:World),(∀(j:Nat) x,xs[j]? =some x→w.cell? ⟨bk,o+j,none⟩=some (.string x))→bk<w.heap.size→xs.length≤140737488355328→xs.length≤c→
   (Lib.join (xs.map (·.data.toList)) sep.data.toList).length≤140737488355328→Calls P f #[.slice (some ⟨bk,o,none⟩) xs.length c,.string sep] w fun e w'=>e= .returned (.string ⟨(Lib.join (xs.map (·.data.toList)) sep.data.toList).toArray⟩)∧Below w.heap.size w w'):OrcFn P G base T f oJoin:=by
 intro args st v φ W Args h hi hbs hTW ha
 unfold oJoin at h
 split at h
 ·rename_i a n c sep
  split at h
  ·rename_i cs hcs
   split at h
   ·rename_i xs hxs hle
    rw [Bool.and_eq_true] at hle
    have hle1:=Nat.le_of_ble_eq_true hle.1
    have hle2:=Nat.le_of_ble_eq_true hle.2
    split at h
    ·rename_i hlen
     cases h
     have hlen:=Nat.le_of_ble_eq_true hlen
     obtain ⟨A,B,rfl,h1,h2⟩:=args2 ha
     cases h2.string
     obtain ⟨r,κ,hsp,hr,hA⟩:=h1.slice_inv
     obtain ⟨L,hL,hLn,_,hcell⟩:=cellsAt_ok hi hcs hr
     have hx:=strsB_ok hxs
     have hLe:L=xs.map .string:=by
      refine hL.eq_of_pf hi.above (d:=0) ?_|>.trans hx
      rw [hx]
      simp [pf]
     have hn:xs.length=n:=by rw [←hLn,hLe];simp
     have hcells: ∀(j:Nat) x,xs[j]? =some x→W.cell? ⟨r,a.off+j,none⟩=some (.string x):=by
      intro j x hj
      have:=hcell j (.string x) (by rw [hLe];simp [hj])
      rwa [addr_add] at this
     rw [joinB_ok] at hlen ⊢
     rcases hA with ⟨c',hc',rfl⟩|⟨c',hc',rfl⟩
     ·subst hn
      exact calls_callR he (hc r a.off c' xs sep W hcells (hi.dom _ _ _ hr).2.2 (by omega) (by omega) (by omega)) (.free (d:=0) rfl)
     ·subst hn
      exact calls_callR he (hc r a.off (c'+κ) xs sep W hcells (hi.dom _ _ _ hr).2.2 (by omega) (by omega) (by omega)) (.free (d:=0) rfl)
    ·cases h
   ·cases h
  ·cases h
 ·cases h
theorem oFn_ok {f:FuncId} {k:OrcH} (he:Enters P f) (h: ∀args hp v,k args hp=some v→args.all (pf G 6)=true∧pf G 6 v=true∧ ∀W,base≤W.heap.size→T W→Calls P f args.toArray W fun e w'=>e= .returned v∧Below W.heap.size W w'):OrcFn P G base T f k:=by
 intro args st v φ W Args hk hi hbs hTW ha
 obtain ⟨h1,h2,h3⟩:=h args st.heap v hk
 have e:=ha.eq_of_pf hi.above h1
 have e':Args=args.toArray:=Array.ext' (by simpa using e)
 subst e'
 exact calls_callR he (h3 W hbs hTW) (.free h2)
def eqL (l:List UInt8):List UInt8→Bool:=
 List.rec (motive:=fun _=>List UInt8→Bool) (fun m=>List.rec (motive:=fun _=>Bool) true (fun _ _ _=>false) m)
  (fun x _ ih m=>List.rec (motive:=fun _=>Bool) false (fun y m _=>Bool.rec (motive:=fun _=>Bool) false (ih m) (Nat.beq x.toNat y.toNat)) m) l
theorem eqL_ok: ∀{l m:List UInt8},eqL l m=true→l=m
 |[],[],_=>rfl
 |[],_::_,h=>by cases h
 |_::_,[],h=>by cases h
 |x::l,y::m,h=>by
  have e:eqL (x::l) (y::m)=Bool.rec (motive:=fun _=>Bool) false (eqL l m) (Nat.beq x.toNat y.toNat):=rfl
  rw [e] at h
  by_cases hx:x.toNat=y.toNat
  ·rw [beq_yes hx] at h
   rw [UInt8.toNat_inj.1 hx,eqL_ok h]
  ·rw [beq_no hx] at h;cases h
abbrev Memo:=List (List UInt8×Value)
def memoL (t:Memo) (s:List UInt8):Option Value:=
 List.rec (motive:=fun _=>Option Value) none (fun x _ ih=>Bool.rec (motive:=fun _=>Option Value) ih (some x.2) (eqL x.1 s)) t
theorem memoL_ok: ∀{t:Memo} {s:List UInt8} {v:Value},memoL t s=some v→(s,v)∈t
 |[],_,_,h=>by cases h
 |x::t,s,v,h=>by
  have e:memoL (x::t) s=Bool.rec (motive:=fun _=>Option Value) (memoL t s) (some x.2) (eqL x.1 s):=rfl
  rw [e] at h
  cases hx:eqL x.1 s with
  |true=>
   rw [hx] at h
   cases h
   rw [←eqL_ok hx]
   exact List.mem_cons_self
  |false=>rw [hx] at h;exact List.mem_cons_of_mem _ (memoL_ok h)
def oMemo (t:Memo):OrcH:=fun args _=>match args with
 |[.string s]=>memoL t s.data.toList
 |_=>none
theorem oMemo_ok {f:FuncId} {t:Memo} (he:Enters P f) (hp:t.all (fun x=>pf G 6 x.2)=true)
  (h: ∀x∈t,∀W,base≤W.heap.size→T W→Calls P f #[.string ⟨x.1.toArray⟩] W fun e w'=>e= .returned x.2∧Below W.heap.size W w'):OrcFn P G base T f (oMemo t):=by
 refine oFn_ok he fun args hpv v hk=> ?_
 unfold oMemo at hk
 split at hk
 ·rename_i s
  have hm:=memoL_ok hk
  refine ⟨rfl,List.all_eq_true.1 hp _ hm,fun W hb hT=> ?_⟩
  have:=h _ hm W hb hT
  simpa using this
 ·cases hk
theorem map_eq {α β:Type} {f g:α→β}: ∀{l:List α},l.map f=l.map g→ ∀x∈l,f x=g x
 |[],_,_,h=>by cases h
 |y::l,e,x,h=>by
  rw [List.map_cons,List.map_cons] at e
  rcases List.mem_cons.1 h with rfl|h
  ·exact (List.cons.inj e).1
  ·exact map_eq (List.cons.inj e).2 x h
end
end
noncomputable section
open Go Go.RowKit Go.Proofs
inductive R where|no|yes (v:Value) (st:St)
inductive RT where|no|yes (ts:Ts) (st:St)
inductive RC where|no|nrm (ts:Ts) (st:St)|ex (id:Nat) (ts:Ts) (st:St)|rt (ts:Ts) (st:St)
def ofRes (r:Res):R:=Option.rec (motive:=fun _=>R) .no (fun x=> .yes x.1 x.2) r
inductive VI where|i (k:IntKind) (n:Nat)|o
inductive VB where|t|f|o
inductive VP where|p (b o:Nat)|o
inductive VT where|t (l:List Value)|o
def vI:Value→VI:= @Value.rec (fun _=>VI) (fun _=>Unit) (fun _=>Unit) (fun _=> .o) (fun k n=>Int.rec (motive:=fun _=>VI) (fun n=> .i k n) (fun _=> .o) n) (fun _ _=> .o) (fun _ _ _=> .o) (fun _=> .o) (fun _=> .o) (fun _ _ _=> .o) (fun _=> .o) (fun _=> .o)
 (fun _ _ _ _ _=> .o) .o (fun _ _ _=> .o) .o (fun _ _=> .o) (fun _ _=> .o) (fun _ _=>()) () (fun _ _ _ _=>())
def vB:Value→VB:= @Value.rec (fun _=>VB) (fun _=>Unit) (fun _=>Unit) (fun b=>Bool.rec (motive:=fun _=>VB) .f .t b) (fun _ _=> .o) (fun _ _=> .o) (fun _ _ _=> .o) (fun _=> .o) (fun _=> .o) (fun _ _ _=> .o) (fun _=> .o) (fun _=> .o)
 (fun _ _ _ _ _=> .o) .o (fun _ _ _=> .o) .o (fun _ _=> .o) (fun _ _=> .o) (fun _ _=>()) () (fun _ _ _ _=>())
def vPa (a:Addr):VP:=Addr.rec (motive:=fun _=>VP) (fun b o s=>Option.rec (motive:=fun _=>VP) (.p b o) (fun _=> .o) s) a
def vP:Value→VP:= @Value.rec (fun _=>VP) (fun _=>Unit) (fun _=>Unit) (fun _=> .o) (fun _ _=> .o) (fun _ _=> .o) (fun _ _ _=> .o) (fun _=> .o) (fun a=>Option.rec (motive:=fun _=>VP) .o vPa a) (fun _ _ _=> .o) (fun _=> .o) (fun _=> .o)
 (fun _ _ _ _ _=> .o) .o (fun _ _ _=> .o) .o (fun _ _=> .o) (fun _ _=> .o) (fun _ _=>()) () (fun _ _ _ _=>())
def vT:Value→VT:= @Value.rec (fun _=>VT) (fun _=>Unit) (fun _=>Unit) (fun _=> .o) (fun _ _=> .o) (fun _ _=> .o) (fun _ _ _=> .o) (fun _=> .o) (fun _=> .o) (fun _ _ _=> .o) (fun _=> .o) (fun _=> .o)
 (fun _ _ _ _ _=> .o) .o (fun _ _ _=> .o) .o (fun _ _=> .o) (fun vs _=>Array.rec (motive:=fun _=>VT) (fun l=> .t l) vs) (fun _ _=>()) () (fun _ _ _ _=>())
def vOne:Value→Bool:= @Value.rec (fun _=>Bool) (fun _=>Unit) (fun _=>Unit) (fun _=>true) (fun _ _=>true) (fun _ _=>true) (fun _ _ _=>true) (fun _=>true) (fun _=>true) (fun _ _ _=>true) (fun _=>true) (fun _=>true)
 (fun _ _ _ _ _=>true) true (fun _ _ _=>true) true (fun _ _=>false) (fun _ _=>false) (fun _ _=>()) () (fun _ _ _ _=>())
def kNo (k:IntKind):Nat:=IntKind.rec (motive:=fun _=>Nat) 0 1 2 3 4 5 6 7 k
def kMax (k:IntKind):Nat:=IntKind.rec (motive:=fun _=>Nat) 127 32767 2147483647 9223372036854775807 255 65535 4294967295 18446744073709551615 k
def sameK (k l:IntKind):Bool:=Nat.beq (kNo k) (kNo l)
def okN (k:IntKind) (n:Nat):Option Value:=br (Nat.ble n (kMax k)) (some (.int k (.ofNat n))) none
def inK (k:IntKind) (m n:Nat) (o:Option Value):Option Value:=br (Nat.ble m (kMax k)) (br (Nat.ble n (kMax k)) o none) none
def kBits (k:IntKind):Nat:=IntKind.rec (motive:=fun _=>Nat) 8 16 32 64 8 16 32 64 k
abbrev NB:=Bool→IntKind→Nat→Nat→Option Value
def natBin:BinOp→NB:=
 @BinOp.rec (fun _=>NB) (fun s k m n=>br s (okN k (Nat.add m n)) none) (fun s k m n=>br s (br (Nat.ble n m) (okN k (Nat.sub m n)) none) none) (fun s k m n=>br s (okN k (Nat.mul m n)) none)
  (fun s k m n=>br s (br (Nat.beq n 0) none (okN k (Nat.div m n))) none) (fun s k m n=>br s (br (Nat.beq n 0) none (okN k (Nat.mod m n))) none)
  (fun s k m n=>br s (inK k m n (okN k (Nat.land m n))) none) (fun s k m n=>br s (inK k m n (okN k (Nat.lor m n))) none) (fun s k m n=>br s (inK k m n (okN k (Nat.xor m n))) none)
  (fun _ k m n=>br (Nat.ble n (kBits k)) (okN k (Nat.mul m (Nat.pow 2 n))) none) (fun _ k m n=>br (Nat.ble n (kBits k)) (some (.int k (.ofNat (Nat.div m (Nat.pow 2 n))))) none) (fun _ _ _ _=>none)
  (fun s _ m n=>br s (some (.bool (Nat.beq m n))) none) (fun s _ m n=>br s (some (.bool (br (Nat.beq m n) false true))) none) (fun s _ m n=>br s (some (.bool (Nat.blt m n))) none) (fun s _ m n=>br s (some (.bool (Nat.ble m n))) none)
  (fun s _ m n=>br s (some (.bool (Nat.blt n m))) none) (fun s _ m n=>br s (some (.bool (Nat.ble n m))) none)
def ovR (o:Option Value) (st:St) (fb:R):R:=Option.rec (motive:=fun _=>R) fb (fun v=> .yes v st) o
def binR1 (op:BinOp) (k:IntKind) (m:Nat) (b:VI) (st:St) (fb:R):R:=VI.rec (motive:=fun _=>R) (fun l n=>ovR (natBin op (sameK k l) k m n) st fb) fb b
def binR (op:BinOp) (a b:Value) (st:St) (fb:R):R:=VI.rec (motive:=fun _=>R) (fun k m=>binR1 op k m (vI b) st fb) fb (vI a)
def pathB (f:Nat):Nat→List Bool:=
 Nat.rec (motive:=fun _=>Nat→List Bool) (fun _=>[]) (fun _ ih k=>Bool.rec (motive:=fun _=>List Bool) (Bool.rec (motive:=fun _=>List Bool) (false::ih (Nat.sub (Nat.div k 2) 1)) (true::ih (Nat.div k 2)) (Nat.beq (Nat.mod k 2) 1)) [] (Nat.beq k 0)) f
def path (k:Nat):List Bool:=pathB (Nat.add k 2) k
def Tr.getP (t:Tr):List Bool→Value:=
 Tr.rec (motive:=fun _=>List Bool→Value) (fun _=>undef) (fun _ v _ gl gr p=>List.rec (motive:=fun _=>Value) v (fun b q _=>Bool.rec (motive:=fun _=>Value) (gr q) (gl q) b) p) t
def putE (v:Value) (p:List Bool):Tr:=List.rec (motive:=fun _=>Tr) (.n .e v .e) (fun b _ ih=>Bool.rec (motive:=fun _=>Tr) (.n .e undef ih) (.n ih undef .e) b) p
def Tr.putP (v:Value) (t:Tr):List Bool→Tr:=
 Tr.rec (motive:=fun _=>List Bool→Tr) (putE v) (fun l x r pl pr p=>List.rec (motive:=fun _=>Tr) (.n l v r) (fun b q _=>Bool.rec (motive:=fun _=>Tr) (.n l x (pr q)) (.n (pl q) x r) b) p) t
def ρF (ts:Ts):Operand→Value:= @Operand.rec (fun _=>Value) (fun t=>ts.getP (path t)) (fun v=>v) (fun g=> .pointer (some ⟨g,0,none⟩)) (fun f=> .func (.func f) #[] #[])
def putF (m:Nat) (ts:Ts) (d:Option Tmp) (v:Value):Ts:=Option.rec (motive:=fun _=>Ts) ts (fun d=>Bool.rec (motive:=fun _=>Ts) ts (ts.putP v (path d)) (Nat.blt d m)) d
def nthL (l:List Value):Nat→Option Value:=
 List.rec (motive:=fun _=>Nat→Option Value) (fun _=>none) (fun x _ ih n=>Nat.rec (motive:=fun _=>Option Value) (some x) (fun m _=>ih m) n) l
def consO (y:Value) (o:Option (List Value)):Option (List Value):=Option.rec (motive:=fun _=>Option (List Value)) none (fun l=>some (y::l)) o
def setL (x:Value) (l:List Value):Nat→Option (List Value):=
 List.rec (motive:=fun _=>Nat→Option (List Value)) (fun _=>none) (fun y l ih n=>Nat.rec (motive:=fun _=>Option (List Value)) (some (x::l)) (fun m _=>consO y (ih m)) n) l
abbrev FH:=Program→Nat→CallF→Ts→TypeId→St→R
def fMove (x:Operand):FH:=fun _ _ _ ts _ st=> .yes (ρF ts x) st
def pickR (c:VB) (a b:Value) (st:St):R:=VB.rec (motive:=fun _=>R) (.yes a st) (.yes b st) .no c
def fPick (c a b:Operand):FH:=fun _ _ _ ts _ st=>pickR (vB (ρF ts c)) (ρF ts a) (ρF ts b) st
def fBin (op:BinOp) (t:TypeId) (x y:Operand):FH:=fun P G callf ts ty st=>binR op (ρF ts x) (ρF ts y) st (ofRes (hBin op t x y P G callf ts ty st))
def vK:Option TypeDesc→Option IntKind:=fun d=>match d with|some (.int k)=>some k|_=>none
def convR1 (k:Option IntKind) (n:Nat) (st:St) (fb:R):R:=Option.rec (motive:=fun _=>R) fb (fun k=>ovR (okN k n) st fb) k
def convR (k:Option IntKind) (x:VI) (st:St) (fb:R):R:=VI.rec (motive:=fun _=>R) (fun _ n=>convR1 k n st fb) fb x
def someB (o:Option TypeDesc):Bool:=match o with|some _=>true|none=>false
def fConvert (src dst:TypeId) (x:Operand):FH:=fun P G callf ts ty st=>br (someB (P.underlying src)) (convR (vK (P.underlying dst)) (vI (ρF ts x)) st (ofRes (hConvert src dst x P G callf ts ty st))) (ofRes (hConvert src dst x P G callf ts ty st))
def notAgg (P:Program) (t:TypeId):Bool:=match isAggB P t with|some false=>true|_=>false
def loadO (ob:AObj) (o:Nat) (st:St) (fb:R):R:=AObj.rec (motive:=fun _=>R) (fun cs _ _ _=>ovR (nthL cs o) st fb) (fun _ _=>fb) ob
def loadR1 (b o:Nat) (st:St) (fb:R):R:=Option.rec (motive:=fun _=>R) fb (fun ob=>loadO ob o st fb) (look st.heap b)
def loadR (a:VP) (st:St) (fb:R):R:=VP.rec (motive:=fun _=>R) (fun b o=>loadR1 b o st fb) fb a
def fLoad (t:TypeId) (a:Operand):FH:=fun P G callf ts ty st=>br (notAgg P t) (loadR (vP (ρF ts a)) st (ofRes (hLoad t a P G callf ts ty st))) (ofRes (hLoad t a P G callf ts ty st))
def size1 (P:Program) (t:TypeId):Bool:=match sizeB P t with|some 1=>true|_=>false
def storeS (r:Option (List Value)) (b:Nat) (e:TypeId) (ext:Bool) (st:St) (fb:R):R:=Option.rec (motive:=fun _=>R) fb (fun cs=> .yes undef (st.set b (.row cs e ext false))) r
def storeO (ob:AObj) (b o:Nat) (x:Value) (st:St) (fb:R):R:=AObj.rec (motive:=fun _=>R) (fun cs e ext fz=>br fz fb (storeS (setL x cs o) b e ext st fb)) (fun _ _=>fb) ob
def storeR1 (b o:Nat) (x:Value) (st:St) (fb:R):R:=Option.rec (motive:=fun _=>R) fb (fun ob=>storeO ob b o x st fb) (look st.heap b)
def storeR (a:VP) (x:Value) (st:St) (fb:R):R:=VP.rec (motive:=fun _=>R) (fun b o=>br (vOne x) (storeR1 b o x st fb) fb) fb a
def fStore (t:TypeId) (a x:Operand):FH:=fun P G callf ts ty st=>br (size1 P t) (storeR (vP (ρF ts a)) (ρF ts x) st (ofRes (hStore t a x P G callf ts ty st))) (ofRes (hStore t a x P G callf ts ty st))
def offB (P:Program) (s:TypeId) (f:Nat):Option Nat:=
 match P.underlying s with
 |some (.struct fs)=>(match fs[f]? with
  |some f=>(match sizeB P f.type with|some (_+1)=>some f.offset|_=>none)
  |none=>none)
 |_=>none
def faR1 (b o:Nat) (d:Option Nat) (st:St):R:=Option.rec (motive:=fun _=>R) .no (fun d=> .yes (.pointer (some ⟨b,Nat.add o d,none⟩)) st) d
def faR (a:VP) (d:Option Nat) (st:St):R:=VP.rec (motive:=fun _=>R) (fun b o=>faR1 b o d st) .no a
def fFieldAddr (s:TypeId) (x:Operand) (f:Nat):FH:=fun P _ _ ts _ st=>faR (vP (ρF ts x)) (offB P s f) st
def extR (t:VT) (i:Nat) (st:St):R:=VT.rec (motive:=fun _=>R) (fun l=>ovR (nthL l i) st .no) .no t
def fExtract (t:Operand) (i:Nat):FH:=fun _ _ _ ts _ st=>extR (vT (ρF ts t)) i st
inductive VS where|s (l:List UInt8)|o
def vS:Value→VS:= @Value.rec (fun _=>VS) (fun _=>Unit) (fun _=>Unit) (fun _=> .o) (fun _ _=> .o) (fun _ _=> .o) (fun _ _ _=> .o) (fun s=> .s s.data.toList) (fun _=> .o) (fun _ _ _=> .o) (fun _=> .o) (fun _=> .o)
 (fun _ _ _ _ _=> .o) .o (fun _ _ _=> .o) .o (fun _ _=> .o) (fun _ _=> .o) (fun _ _=>()) () (fun _ _ _ _=>())
def dropL (l:List UInt8):Nat→List UInt8:=
 List.rec (motive:=fun _=>Nat→List UInt8) (fun _=>[]) (fun x t ih n=>Nat.rec (motive:=fun _=>List UInt8) (x::t) (fun m _=>ih m) n) l
def takeL (l:List UInt8):Nat→List UInt8:=
 List.rec (motive:=fun _=>Nat→List UInt8) (fun _=>[]) (fun x _ ih n=>Nat.rec (motive:=fun _=>List UInt8) [] (fun m _=>x::ih m) n) l
def nthB (l:List UInt8):Nat→Option UInt8:=
 List.rec (motive:=fun _=>Nat→Option UInt8) (fun _=>none) (fun x _ ih n=>Nat.rec (motive:=fun _=>Option UInt8) (some x) (fun m _=>ih m) n) l
def lenL (l:List UInt8):Nat→Nat:=List.rec (motive:=fun _=>Nat→Nat) (fun n=>n) (fun _ _ ih n=>ih (Nat.add n 1)) l
def isStrT (P:Program) (t:TypeId):Bool:=match P.underlying t with|some .string=>true|_=>false
def strV (l:List UInt8):Value:= .string ⟨⟨l⟩⟩
def sliS2 (l:List UInt8) (h:Nat) (st:St) (a:Option Nat):R:=Option.rec (motive:=fun _=>R) .no (fun a=> .yes (strV (takeL (dropL l a) (Nat.sub h a))) st) a
def sliS1 (l:List UInt8) (lo:Option Value) (st:St) (h:Option Nat):R:=Option.rec (motive:=fun _=>R) .no (fun h=>sliS2 l h st (boundB lo 0 h)) h
def sliS (lo hi:Option Value) (st:St) (fb:R) (x:VS):R:=VS.rec (motive:=fun _=>R) (fun l=>sliS1 l lo st (boundB hi (lenL l 0) (lenL l 0))) fb x
def fSlice (t:TypeId) (x:Operand) (lo hi mx:Option Operand):FH:=fun P G callf ts ty st=>
 br (isStrT P t) (Option.rec (motive:=fun _=>R) (sliS (lo.map (ρF ts)) (hi.map (ρF ts)) st .no (vS (ρF ts x))) (fun _=> .no) mx) (ofRes (hSlice t x lo hi mx P G callf ts ty st))
def idxS2 (b:Option UInt8) (st:St):R:=Option.rec (motive:=fun _=>R) .no (fun b=> .yes (.int .u8 (.ofNat b.toNat)) st) b
def idxS1 (x:VS) (n:Nat) (st:St) (fb:R):R:=VS.rec (motive:=fun _=>R) (fun l=>idxS2 (nthB l n) st) fb x
def idxS0 (x:VS) (i:VI) (st:St) (fb:R):R:=VI.rec (motive:=fun _=>R) (fun _ n=>idxS1 x n st fb) fb i
def fIndex (t:TypeId) (x ix:Operand):FH:=fun P G callf ts ty st=>br (isStrT P t) (idxS0 (vS (ρF ts x)) (vI (ρF ts ix)) st (ofRes (hIndex t x ix P G callf ts ty st))) (ofRes (hIndex t x ix P G callf ts ty st))
def nxtB (b:Option UInt8) (s:ByteArray) (pos:Nat) (k:Nat) (st:St) (fb:R):R:=
 Option.rec (motive:=fun _=>R) fb (fun b=>br (Nat.blt b.toNat 128) (.yes (.tuple #[.bool true,.int .i64 (.ofNat pos),.int .i32 (.ofNat b.toNat)]) (st.set k (.iter s (Nat.add pos 1)))) fb) b
def nxtO (ob:AObj) (k:Nat) (st:St) (fb:R):R:=AObj.rec (motive:=fun _=>R) (fun _ _ _ _=>fb) (fun s pos=>nxtB (nthB s.data.toList pos) s pos k st fb) ob
def nxt1 (k o:Nat) (st:St) (fb:R):R:=br (Nat.beq o 0) (Option.rec (motive:=fun _=>R) fb (fun ob=>nxtO ob k st fb) (look st.heap k)) fb
def nxt0 (p:VP) (st:St) (fb:R):R:=VP.rec (motive:=fun _=>R) (fun k o=>nxt1 k o st fb) fb p
def fNext (it:Operand) (s:Bool):FH:=fun P G callf ts ty st=>br s (nxt0 (vP (ρF ts it)) st (ofRes (hNext it s P G callf ts ty st))) .no
def calleeF (c:Callee):Option FuncId:=match c with| .value (.func g)=>some g|_=>none
def argsF (ts:Ts) (l:List Operand):List Value:=List.rec (motive:=fun _=>List Value) [] (fun x _ ih=>ρF ts x::ih) l
def fCall (c:Call):FH:=fun P G callf ts ty st=>Option.rec (motive:=fun _=>R) (ofRes (hCall c P G callf ts ty st)) (fun g=>ofRes (callf g (argsF ts c.args.toList) st)) (calleeF c.callee)
def slowH (h:H):FH:=fun P G callf ts ty st=>ofRes (h P G callf ts ty st)
def opF:Op→FH:= @Op.rec (fun _=>FH) fMove fMove fPick (fun e=>slowH (hAlloc e)) (fun e x=>slowH (hBox e x)) (fun t p=>slowH (hBuild t p)) (fun t n p=>slowH (hBuildSlice t n p)) (fun _ _ _ _=>slowH hNone) fLoad fStore (fun _=>slowH hNone) (fun _=>slowH hNone)
 (fun x=>slowH (hNil x)) (fun op t x y _=>fBin op t x y) (fun op _ x=>slowH (hUn op x)) fConvert (fun _ _=>slowH hNone) (fun t x=>slowH (hIface t x)) (fun f a c=>slowH (hFunc f a c)) (fun _ _=>slowH hNone) (fun _ _=>slowH hNone) (fun t l c=>slowH (hMakeSlice t l c))
 fSlice fFieldAddr (fun t x f=>slowH (hField t x f)) (fun t x i=>slowH (hIndexAddr t x i)) fIndex (fun _ _ _ _=>slowH hNone) (fun _ _ _ _=>slowH hNone) (fun _ _ _=>slowH hNone) (fun _ _ _ _=>slowH hNone)
 (fun t x=>slowH (hRange t x)) fNext (fun _=>slowH hNone) (fun x _ t ok=>slowH (hAssert x t ok)) fExtract fCall (fun _=>slowH hNone) (fun _=>slowH hNone) (fun _=>slowH hNone) (fun _ _=>slowH hNone) (fun _ _ _=>slowH hNone) (fun _ _=>slowH hNone)
abbrev KF:=Ts→St→RT
def runK (P:Program) (G:Nat) (callf:CallF) (m:Nat) (o:Oper) (ih:KF) (ts:Ts) (st:St):RT:=
 R.rec (motive:=fun _=>RT) .no (fun v st=>ih (putF m ts o.dst v) st) (opF o.op P G callf ts o.type st)
def wantP (ops:Array Oper) (ts:Ts) (g:Nat×Bool):Bool:=match yieldB ops ts g.1,g.2 with
  |some true,true|some false,false=>true
  |_,_=>false
def guardK (ops:Array Oper) (ts:Ts) (g:Option (Nat×Bool)) (a b:RT):RT:=Option.rec (motive:=fun _=>RT) a (fun g=>br (wantP ops ts g) a b) g
def opsF (P:Program) (G:Nat) (callf:CallF) (m:Nat) (ops:Array Oper) (l:List Oper):KF:=
 List.rec (motive:=fun _=>KF) (fun ts st=> .yes ts st)
  (fun o _ ih ts st=>guardK ops ts o.guard (runK P G callf m o ih ts st) (ih (putF m ts o.dst undef) st)) l
abbrev KD:=Nat→List (Nat×Kind)→Ts→St→RT
def calmK (P:Program) (G:Nat) (callf:CallF) (m:Nat) (o:Oper) (ih:KD) (i:Nat) (ks:List (Nat×Kind)) (ts:Ts) (st:St):RT:=
 R.rec (motive:=fun _=>RT) .no (fun v _=>ih (Nat.add i 1) ks (putF m ts o.dst v) st) (opF o.op P G callf ts o.type st)
def firmK (ops:Array Oper) (m:Nat) (o:Oper) (ih:KD) (i:Nat) (ks:List (Nat×Kind)) (ts:Ts) (st:St) (r:R):RT:=
 R.rec (motive:=fun _=>RT) .no (fun v st'=>br (freeB ops i (kindOf ts o.op (!Nat.ble st.next st'.low)) ks&&Nat.ble st.next st'.next)
  (ih (Nat.add i 1) ((i,kindOf ts o.op (!Nat.ble st.next st'.low))::ks) (putF m ts o.dst v) ⟨st'.heap,st'.next,Nat.min st.low st'.low⟩) .no) r
def drawK (P:Program) (G:Nat) (callf:CallF) (m:Nat) (ops:Array Oper) (o:Oper) (ih:KD) (i:Nat) (ks:List (Nat×Kind)) (ts:Ts) (st:St):RT:=
 br (calmB o.op) (calmK P G callf m o ih i ks ts st) (br (calmT ts o.op) (calmK P G callf m o ih i ks ts st)
  (firmK ops m o ih i ks ts st (opF o.op P G callf ts o.type ⟨st.heap,st.next,st.next⟩)))
def drawnF (P:Program) (G:Nat) (callf:CallF) (m:Nat) (ops:Array Oper) (l:List Oper):KD:=
 List.rec (motive:=fun _=>KD) (fun _ _ ts st=> .yes ts st)
  (fun o _ ih i ks ts st=>guardK ops ts o.guard (drawK P G callf m ops o ih i ks ts st) (ih (Nat.add i 1) ks (putF m ts o.dst undef) st)) l
abbrev RecF:=Nat→Code→Ts→St→RC
def vFree:Value→Bool:= @Value.rec (fun _=>Bool) (fun _=>Unit) (fun _=>Unit) (fun _=>true) (fun _ _=>true) (fun _ _=>true) (fun _ _ _=>true) (fun _=>true) (fun a=>Option.rec (motive:=fun _=>Bool) true (fun _=>false) a) (fun _ _ _=>false) (fun _=>false) (fun _=>false)
 (fun _ _ _ _ _=>false) true (fun _ _ _=>false) true (fun _ _=>false) (fun _ _=>false) (fun _ _=>()) () (fun _ _ _ _=>())
def resF' (P:Program) (h:Hp) (ts:Ts) (l:List ResultVar):Option (List Value):=
 List.rec (motive:=fun _=>Option (List Value)) (some []) (fun x _ ih=>ResultVar.rec (motive:=fun _=>Option (List Value)) (fun t=>consO (ts.getP (path t)) ih) (fun a t=>Option.rec (motive:=fun _=>Option (List Value)) none (fun v=>consO v ih) (loadB P h t (ts.get a))) x) l
def cutR (v:Value) (st st':St) (b:Bool):Res:=br b (some (v,⟨cutB st'.heap st.next,st'.next,Nat.min st.low st'.low⟩)) (some (v,⟨st'.heap,st'.next,Nat.min st.low st'.low⟩))
def freeV (G d:Nat) (v:Value):Bool:=br (vFree v) true (pf G d v)
def retV (G:Nat) (st st':St) (v:Value):Res:=cutR v st st' (br (Nat.ble st.next st'.low) (freeV G 6 v) false)
def retL (G:Nat) (st st':St) (l:List Value):Res:=
 List.rec (motive:=fun _=>Res) (cutR (.tuple #[]) st st' (Nat.ble st.next st'.low))
  (fun v r _=>List.rec (motive:=fun _=>Res) (retV G st st' v) (fun _ _ _=>cutR (.tuple ⟨v::r⟩) st st' (br (Nat.ble st.next st'.low) (List.rec (motive:=fun _=>Bool) true (fun x _ ih=>br (freeV G 5 x) ih false) (v::r)) false)) r) l
def retS (P:Program) (G:Nat) (rs:List ResultVar) (st:St) (ts':Ts) (st':St):Res:=Option.rec (motive:=fun _=>Res) none (retL G st st') (resF' P st'.heap ts' rs)
def retF (P:Program) (G:Nat) (rs:List ResultVar) (st:St) (r:RC):Res:=
 RC.rec (motive:=fun _=>Res) none (retS P G rs st) (fun _ _ _=>none) (retS P G rs st) r
def lenV (l:List Value):Nat→Nat:=List.rec (motive:=fun _=>Nat→Nat) (fun n=>n) (fun _ _ ih n=>ih (Nat.add n 1)) l
def ofArgsF (l:List Value):Nat→Tr→Tr:=List.rec (motive:=fun _=>Nat→Tr→Tr) (fun _ t=>t) (fun v _ ih k t=>ih (Nat.add k 1) (t.putP v (path k))) l
def enter2 (P:Program) (G:Nat) (rec:RecF) (args:List Value) (st:St) (fn:Func) (body:Code):Res:=
 br (Nat.ble (lenV args 0) fn.ntmps) (br (Nat.ble fn.ntmps 4000) (retF P G fn.results.toList st (rec fn.ntmps body (ofArgsF args 0 .e) ⟨st.heap,st.next,st.next⟩)) none) none
def enter1 (P:Program) (G:Nat) (rec:RecF) (args:List Value) (st:St) (fn:Func):Res:=Option.rec (motive:=fun _=>Res) none (enter2 P G rec args st fn) fn.body
def enterF (P:Program) (G:Nat) (rec:RecF) (g:FuncId) (args:List Value) (st:St):Res:=Option.rec (motive:=fun _=>Res) none (enter1 P G rec args st) P.funcs[g]?
def callFF (P:Program) (G:Nat) (orc:Orc) (rec:RecF):CallF:=fun g args st=>
 Option.rec (motive:=fun _=>Res) (enterF P G rec g args st) (fun v=>some (v,st)) (orc g args st.heap)
def ofRT (r:RT):RC:=RT.rec (motive:=fun _=>RC) .no (fun ts st=> .nrm ts st) r
abbrev FC:=Program→Nat→Orc→RecF→Nat→Ts→St→RC
def seqF (rec:RecF) (m:Nat) (b:Code) (r:RC):RC:=RC.rec (motive:=fun _=>RC) .no (fun ts st=>rec m b ts st) (fun id ts st=> .ex id ts st) (fun ts st=> .rt ts st) r
def condF (rec:RecF) (m:Nat) (a b:Code) (ts:Ts) (st:St) (v:VB):RC:=VB.rec (motive:=fun _=>RC) (rec m a ts st) (rec m b ts st) .no v
def blockF (id:Nat) (r:RC):RC:=RC.rec (motive:=fun _=>RC) .no (fun ts st=> .nrm ts st) (fun k ts st=>br (Nat.beq k id) (.nrm ts st) (.ex k ts st)) (fun ts st=> .rt ts st) r
def rgF (ops:Array Oper) (draw:Bool):FC:=fun P G orc rec m ts st=>
 br (constsB G ops) (br draw (br (regionB ops) (ofRT (drawnF P G (callFF P G orc rec) m ops ops.toList 0 [] ts st)) .no) (ofRT (opsF P G (callFF P G orc rec) m ops ops.toList ts st))) .no
def noneF:FC:=fun _ _ _ _ _ _ _=> .no
def skipF:FC:=fun _ _ _ _ _ ts st=> .nrm ts st
def codeF:Code→FC:= @Code.rec (fun _=>FC) skipF (fun _ ops draw=>rgF ops draw) (fun a b _ _=>fun _ _ _ rec m ts st=>seqF rec m b (rec m a ts st)) (fun x a b _ _=>fun _ _ _ rec m ts st=>condF rec m a b ts st (vB (ρF ts x)))
 (fun id b _=>fun _ _ _ rec m ts st=>blockF id (rec m b ts st)) (fun b _=>fun _ _ _ rec m ts st=>seqF rec m (.loop b) (rec m b ts st)) (fun _ _ _ _ _ _=>noneF) (fun id=>fun _ _ _ _ _ ts st=> .ex id ts st)
 (fun b _=>fun _ _ _ rec m ts st=>rec m b ts st) (fun _=>skipF) (fun _=>noneF) (fun _ _ _ _ _ ts st=> .rt ts st) (fun _=>noneF)
def ecF (P:Program) (G:Nat) (orc:Orc) (n:Nat):RecF:=
 Nat.rec (motive:=fun _=>RecF) (fun _ _ _ _=> .no) (fun _ ih m c ts st=>codeF c P G orc ih m ts st) n
def fst? (r:Res):Option Value:=Option.rec (motive:=fun _=>Option Value) none (fun x=>some x.1) r
def runG (P:Program) (G:Nat) (orc:Orc) (n:Nat) (f:FuncId) (args:List Value):Option Value:=fst? (enterF P G (ecF P G orc n) f args ⟨[],G,G⟩)
def memN (l:List Nat) (g:Nat):Bool:=List.rec (motive:=fun _=>Bool) false (fun x _ ih=>br (Nat.beq g x) true ih) l
def orcIn (l:List Nat) (orc:Orc):Orc:=fun g args h=>br (memN l g) (orc g args h) none
end
noncomputable section
open Go Go.RowKit Go.Proofs
section
variable {P:Program} {G:Nat}
def RLe (r:R) (s:Res):Prop:= ∀v st,r= .yes v st→s=some (v,st)
def RTLe (r:RT) (s:ResT):Prop:= ∀ts st,r= .yes ts st→s=some (ts,st)
def ResLe (r s:Res):Prop:= ∀v st,r=some (v,st)→s=some (v,st)
def RCLe (r:RC) (s:ResC):Prop:=
 (∀ts st,r= .nrm ts st→s=some (.normal,ts,st))∧(∀i ts st,r= .ex i ts st→s=some (.exit i,ts,st))∧(∀ts st,r= .rt ts st→s=some (.ret,ts,st))
def CallLe (f g:CallF):Prop:= ∀a b c,ResLe (f a b c) (g a b c)
theorem ofRes_le {r s:Res} (h:ResLe r s):RLe (ofRes r) s:=by
 intro v st e
 cases r with
 |none=>cases e
 |some x=>exact h v st (by cases x;cases e;rfl)
theorem RLe.no {s:Res}:RLe .no s:=fun _ _ h=>by cases h
theorem RLe.yes {v:Value} {st:St} {s:Res} (h:s=some (v,st)):RLe (.yes v st) s:=fun _ _ e=>by cases e;exact h
theorem ResLe.rfl {r:Res}:ResLe r r:=fun _ _ h=>h
theorem ovR_le {o:Option Value} {st:St} {fb:R} {s:Res} (h: ∀v,o=some v→s=some (v,st)) (hf:RLe fb s):RLe (ovR o st fb) s:=by
 cases o with
 |none=>exact hf
 |some v=>exact .yes (h v rfl)
theorem vI_i {v:Value} {k:IntKind} {n:Nat} (h:vI v= .i k n):v= .int k (.ofNat n):=by
 cases v with
 |int k' m=>cases m with
  |ofNat m=>cases h;rfl
  |negSucc m=>cases h
 |_=>cases h
theorem vB_t {v:Value} (h:vB v= .t):v= .bool true:=by
 cases v with
 |bool b=>cases b;cases h;rfl
 |_=>cases h
theorem vB_f {v:Value} (h:vB v= .f):v= .bool false:=by
 cases v with
 |bool b=>cases b;rfl;cases h
 |_=>cases h
theorem vP_p {v:Value} {b o:Nat} (h:vP v= .p b o):v= .pointer (some ⟨b,o,none⟩):=by
 cases v with
 |pointer a=>
  cases a with
  |none=>cases h
  |some a=>
   obtain ⟨b',o',s⟩:=a
   cases s with
   |none=>cases h;rfl
   |some s=>cases h
 |_=>cases h
theorem vT_t {v:Value} {l:List Value} (h:vT v= .t l):v= .tuple ⟨l⟩:=by
 cases v with
 |tuple vs=>cases vs;cases h;rfl
 |_=>cases h
theorem vS_s {v:Value} {l:List UInt8} (h:vS v= .s l):v= .string ⟨⟨l⟩⟩:=by
 cases v with
 |string s=>obtain ⟨⟨m⟩⟩:=s;cases h;rfl
 |_=>cases h
theorem vOne_ok {v:Value} (h:vOne v=true):one v=true∧v.cells= #[v]:=by
 cases v<;>first|cases h;done|exact ⟨rfl,rfl⟩
theorem vFree_ok {v:Value} (d:Nat) (h:vFree v=true):pf G d v=true:=by
 cases v with
 |pointer a=>cases a with
  |none=>cases d<;>rfl
  |some a=>cases h
 |bool b=>cases d<;>rfl
 |int k n=>cases d<;>rfl
 |float k n=>cases d<;>rfl
 |complex k n m=>cases d<;>rfl
 |string s=>cases d<;>rfl
 |nilFunc=>cases d<;>rfl
 |nilIface=>cases d<;>rfl
 |_=>cases h
theorem path_succ (f k:Nat):pathB (f+1) k=if k=0 then [] else if k % 2=1 then true::pathB f (k/2) else false::pathB f (k/2 - 1):=by
 have e:pathB (f+1) k=Bool.rec (motive:=fun _=>List Bool) (Bool.rec (motive:=fun _=>List Bool) (false::pathB f (k/2 - 1)) (true::pathB f (k/2)) (Nat.beq (k % 2) 1)) [] (Nat.beq k 0):=rfl
 rw [e]
 by_cases h:k=0
 ·rw [beq_yes h,if_pos h]
 ·rw [beq_no h,if_neg h]
  by_cases h2:k % 2=1
  ·rw [beq_yes h2,if_pos h2]
  ·rw [beq_no h2,if_neg h2]
theorem getP_ok: ∀(t:Tr) (f k:Nat),k+2≤2^f→t.getP (pathB f k)=t.get k
 | .e,f,k,h=>rfl
 | .n l v r,0,k,h=>by omega
 | .n l v r,f+1,k,h=>by
  rw [path_succ,Tr.get_n]
  by_cases h0:k=0
  ·rw [if_pos h0,if_pos h0];rfl
  ·rw [if_neg h0,if_neg h0]
   by_cases h1:k % 2=1
   ·rw [if_pos h1,if_pos h1]
    exact getP_ok l f (k/2) (by rw [Nat.pow_succ] at h;omega)
   ·rw [if_neg h1,if_neg h1]
    exact getP_ok r f (k/2 - 1) (by rw [Nat.pow_succ] at h;omega)
theorem two_pow_ge (k:Nat):k+2≤2^(k+2):=Nat.le_of_lt Nat.lt_two_pow_self
theorem get_path (t:Tr) (k:Nat):t.getP (path k)=t.get k:=getP_ok t (k+2) k (two_pow_ge k)
theorem ρF_eq (ts:Ts) (x:Operand):ρF ts x=ρ ts x:=by
 cases x with
 |tmp t=>exact get_path ts t
 |_=>rfl
theorem putP_ok: ∀(f g:Nat) (t:Tr) (k:Nat) (v:Value),k+2≤2^f→k+2≤2^g→t.putP v (pathB g k)=Tr.put f t k v
 |0,_,_,k,_,h,_=>by omega
 |_,0,_,k,_,_,h=>by omega
 |f+1,g+1,t,k,v,hf,hg=>by
  rw [path_succ,Tr.put_succ]
  rw [Nat.pow_succ] at hf hg
  have ihl:=fun (t:Tr) (h:k % 2=1)=>putP_ok f g t (k/2) v (by omega) (by omega)
  have ihr:=fun (t:Tr) (h0: ¬k=0) (h: ¬k % 2=1)=>putP_ok f g t (k/2 - 1) v (by omega) (by omega)
  cases t with
  |e=>
   by_cases h0:k=0
   ·rw [if_pos h0,if_pos h0];rfl
   ·rw [if_neg h0,if_neg h0]
    by_cases h1:k % 2=1
    ·rw [if_pos h1,if_pos h1]
     show Tr.n (putE v (pathB g (k/2))) undef .e=_
     rw [←ihl Tr.e.left h1];rfl
    ·rw [if_neg h1,if_neg h1]
     show Tr.n .e undef (putE v (pathB g (k/2 - 1)))=_
     rw [←ihr Tr.e.right h0 h1];rfl
  |n l x r=>
   by_cases h0:k=0
   ·rw [if_pos h0,if_pos h0];rfl
   ·rw [if_neg h0,if_neg h0]
    by_cases h1:k % 2=1
    ·rw [if_pos h1,if_pos h1]
     show Tr.n (l.putP v (pathB g (k/2))) x r=_
     rw [ihl l h1];rfl
    ·rw [if_neg h1,if_neg h1]
     show Tr.n l x (r.putP v (pathB g (k/2 - 1)))=_
     rw [ihr r h0 h1];rfl
theorem put_path (t:Tr) (k:Nat) (v:Value) (h:k<4000):t.putP v (path k)=Tr.put 12 t k v:=putP_ok 12 (k+2) t k v (by omega) (two_pow_ge k)
theorem putF_eq {m:Nat} (hm:m≤4000) (ts:Ts) (d:Option Tmp) (v:Value):putF m ts d v=putT m ts d v:=by
 cases d with
 |none=>rfl
 |some d=>
  have e1:putF m ts (some d) v=Bool.rec (motive:=fun _=>Ts) ts (ts.putP v (path d)) (Nat.blt d m):=rfl
  have e2:putT m ts (some d) v=br (Nat.blt d m) (ts.put 12 d v) ts:=rfl
  rw [e1,e2]
  cases h:Nat.blt d m with
  |false=>rfl
  |true=>exact put_path ts d v (by have:=blt_ok h;omega)
theorem argsF_eq (ts:Ts): ∀(l:List Operand),argsF ts l=l.map (ρ ts)
 |[]=>rfl
 |x::l=>by
  show ρF ts x::argsF ts l=_
  rw [ρF_eq,argsF_eq ts l,List.map_cons]
theorem ofArgsF_eq: ∀(l:List Value) (k:Nat) (t:Tr),k+l.length≤4000→
  ofArgsF l k t=List.rec (motive:=fun _=>Nat→Tr→Tr) (fun _ t=>t) (fun v _ ih k t=>ih (Nat.add k 1) (t.put 12 k v)) l k t
 |[],_,_,_=>rfl
 |v::l,k,t,h=>by
  show ofArgsF l (k+1) (t.putP v (path k))=_
  simp only [List.length_cons] at h
  rw [put_path t k v (by omega),ofArgsF_eq l (k+1) _ (by omega)]
theorem lenV_eq: ∀(l:List Value) (n:Nat),lenV l n=l.length+n
 |[],n=>by show n=0+n;omega
 |_::l,n=>by show lenV l (n+1)=_;rw [lenV_eq l];simp only [List.length_cons];omega
theorem lenL_eq: ∀(l:List UInt8) (n:Nat),lenL l n=l.length+n
 |[],n=>by show n=0+n;omega
 |_::l,n=>by show lenL l (n+1)=_;rw [lenL_eq l];simp only [List.length_cons];omega
theorem nthL_eq: ∀(l:List Value) (n:Nat),nthL l n=l[n]?
 |[],_=>rfl
 |_::_,0=>rfl
 |_::l,n+1=>nthL_eq l n
theorem nthB_eq: ∀(l:List UInt8) (n:Nat),nthB l n=l[n]?
 |[],_=>rfl
 |_::_,0=>rfl
 |_::l,n+1=>nthB_eq l n
theorem dropL_eq: ∀(l:List UInt8) (n:Nat),dropL l n=l.drop n
 |[],n=>by cases n<;>rfl
 |_::_,0=>rfl
 |_::l,n+1=>dropL_eq l n
theorem takeL_eq: ∀(l:List UInt8) (n:Nat),takeL l n=l.take n
 |[],n=>by cases n<;>rfl
 |_::_,0=>rfl
 |x::l,n+1=>by show x::takeL l n=_;rw [takeL_eq l n,List.take_succ_cons]
theorem setL_eq (x:Value): ∀{l:List Value} {n:Nat} {m:List Value},setL x l n=some m→n<l.length∧m=splice l n [x]
 |[],n,m,h=>by cases h
 |y::l,0,m,h=>by cases h;exact ⟨by simp,by cases l<;>rfl⟩
 |y::l,n+1,m,h=>by
  have h:consO y (setL x l n)=some m:=h
  cases e:setL x l n with
  |none=>rw [e] at h;cases h
  |some q=>
   rw [e] at h
   cases h
   obtain ⟨h1,h2⟩:=setL_eq x e
   exact ⟨by simpa using h1,by rw [h2];rfl⟩
end
end
noncomputable section
open Go Go.RowKit Go.Proofs
section
variable {P:Program} {G:Nat}
theorem wrap_ok {k:IntKind} {n:Nat} (h:n≤kMax k):k.wrap (n:Int)=n:=by
 cases k<;>simp only [kMax] at h<;>simp only [IntKind.wrap,IntKind.bits,IntKind.signed]<;>(try simp)<;>omega
theorem okN_ok {k:IntKind} {n:Nat} {v:Value} (h:okN k n=some v):n≤kMax k∧v= .int k (.ofNat n):=by
 unfold okN at h
 cases e:Nat.ble n (kMax k) with
 |false=>rw [e] at h;cases h
 |true=>rw [e] at h;cases h;exact ⟨Nat.le_of_ble_eq_true e,rfl⟩
theorem br_some {b:Bool} {o:Option Value} {v:Value} (h:br b o none=some v):b=true∧o=some v:=by
 cases b with
 |false=>cases h
 |true=>exact ⟨rfl,h⟩
theorem sameK_ok {k l:IntKind} (h:sameK k l=true):k=l:=by cases k<;>cases l<;>first|rfl|cases h
theorem kMax_lt (k:IntKind):kMax k<2^k.bits:=by cases k<;>decide
theorem kBits_eq (k:IntKind):kBits k=k.bits:=by cases k<;>rfl
theorem bv_of (k:IntKind) {m:Nat} (h:m≤kMax k):(BitVec.ofInt k.bits (m:Int)).toNat=m:=by
 have:=kMax_lt k
 rw [BitVec.ofInt_natCast,BitVec.toNat_ofNat]
 exact Nat.mod_eq_of_lt (by omega)
theorem ble_dec (m n:Nat):Nat.ble m n=decide (m≤n):=by
 by_cases h:m≤n
 ·rw [Nat.ble_eq_true_of_le h];simp [h]
 ·cases e:Nat.ble m n with
  |false=>simp [h]
  |true=>exact absurd (Nat.le_of_ble_eq_true e) h
theorem blt_dec (m n:Nat):Nat.blt m n=decide (m<n):=ble_dec (m+1) n
theorem bin_eq {op:BinOp} {k:IntKind} {a b:Int} {t:TypeId} {x y:Operand} {s:Sem Value} {v:Value} (e:binOp op t (.int k a) (.int k b)=s) (h:pureRun P s=some v):
  pureRun P (do eqGuard op t x y (.int k a) (.int k b);binOp op t (.int k a) (.int k b))=some v:=by
 rw [e]
 cases op<;>exact h
theorem natBin_ok {op:BinOp} {k l:IntKind} {m n:Nat} {t:TypeId} {x y:Operand} {v:Value} (h:natBin op (sameK k l) k m n=some v):
  pureRun P (do eqGuard op t x y (.int k (.ofNat m)) (.int l (.ofNat n));binOp op t (.int k (.ofNat m)) (.int l (.ofNat n)))=some v∧pf G 6 v=true:=by
 cases op with
 |shl=>
  obtain ⟨h1,h2⟩:=br_some h
  have hb:=Nat.le_of_ble_eq_true h1
  obtain ⟨h3,rfl⟩:=okN_ok h2
  rw [kBits_eq] at hb
  refine ⟨?_,rfl⟩
  show pureRun P (Op.shift .shl k (.ofNat m) l (.ofNat n))=_
  unfold Op.shift
  rw [if_neg (by show ¬((n:Int)<0);omega)]
  have e:min (Int.toNat (.ofNat n)) k.bits=n:=Nat.min_eq_left hb
  simp only [e]
  have e2:(Int.ofNat m)*2^n=((m*2^n:Nat):Int):=by simp
  rw [e2]
  exact congrArg (fun z=>some (Value.int k z)) (wrap_ok h3)
 |shr=>
  obtain ⟨h1,h2⟩:=br_some h
  have hb:=Nat.le_of_ble_eq_true h1
  cases h2
  rw [kBits_eq] at hb
  refine ⟨?_,rfl⟩
  show pureRun P (Op.shift .shr k (.ofNat m) l (.ofNat n))=_
  unfold Op.shift
  rw [if_neg (by show ¬((n:Int)<0);omega)]
  have e:min (Int.toNat (.ofNat n)) k.bits=n:=Nat.min_eq_left hb
  simp only [e]
  have e2:(Int.ofNat m).fdiv (2^n)=((m/2^n:Nat):Int):=by
   rw [Int.fdiv_eq_ediv_of_nonneg _ (Int.le_of_lt (Int.pow_pos (by decide)))]
   show (m:Int)/2^n=_
   simp
  exact congrArg (fun z=>some (Value.int k z)) e2
 |andNot=>cases h
 |add=>
  obtain ⟨hk,h2⟩:=br_some h
  cases sameK_ok hk
  obtain ⟨h3,rfl⟩:=okN_ok h2
  exact ⟨bin_eq (s:=Op.intArith .add k (.ofNat m) (.ofNat n)) (by simp [binOp]) (congrArg (fun z=>some (Value.int k z)) (wrap_ok h3)),rfl⟩
 |sub=>
  obtain ⟨hk,h2⟩:=br_some h
  cases sameK_ok hk
  obtain ⟨h4,h2⟩:=br_some h2
  obtain ⟨h3,rfl⟩:=okN_ok h2
  have h4:=Nat.le_of_ble_eq_true h4
  have e:(Int.ofNat m - Int.ofNat n)=((m - n:Nat):Int):=by show (m:Int) - (n:Int)=_;omega
  exact ⟨bin_eq (s:=Op.intArith .sub k (.ofNat m) (.ofNat n)) (by simp [binOp]) (congrArg (fun z=>some (Value.int k z)) ((congrArg k.wrap e).trans (wrap_ok h3))),rfl⟩
 |mul=>
  obtain ⟨hk,h2⟩:=br_some h
  cases sameK_ok hk
  obtain ⟨h3,rfl⟩:=okN_ok h2
  exact ⟨bin_eq (s:=Op.intArith .mul k (.ofNat m) (.ofNat n)) (by simp [binOp]) (congrArg (fun z=>some (Value.int k z)) (wrap_ok h3)),rfl⟩
 |quo=>
  obtain ⟨hk,h2⟩:=br_some h
  cases sameK_ok hk
  by_cases h0:n=0
  ·rw [beq_yes h0] at h2;cases h2
  ·rw [beq_no h0] at h2
   obtain ⟨h3,rfl⟩:=okN_ok h2
   refine ⟨bin_eq (s:=Op.intDiv .quo k (.ofNat m) (.ofNat n)) (by simp [binOp]) ?_,rfl⟩
   unfold Op.intDiv
   rw [if_neg (by show ¬((n:Int)=0);omega)]
   exact congrArg (fun z=>some (Value.int k z)) (wrap_ok h3)
 |rem=>
  obtain ⟨hk,h2⟩:=br_some h
  cases sameK_ok hk
  by_cases h0:n=0
  ·rw [beq_yes h0] at h2;cases h2
  ·rw [beq_no h0] at h2
   obtain ⟨h3,rfl⟩:=okN_ok h2
   refine ⟨bin_eq (s:=Op.intDiv .rem k (.ofNat m) (.ofNat n)) (by simp [binOp]) ?_,rfl⟩
   unfold Op.intDiv
   rw [if_neg (by show ¬((n:Int)=0);omega)]
   rfl
 |and=>
  obtain ⟨hk,h2⟩:=br_some h
  cases sameK_ok hk
  obtain ⟨a1,h2⟩:=br_some h2
  obtain ⟨a2,h2⟩:=br_some h2
  obtain ⟨h3,rfl⟩:=okN_ok h2
  refine ⟨bin_eq (s:=Op.intBits .and k (.ofNat m) (.ofNat n)) (by simp [binOp]) ?_,rfl⟩
  refine congrArg (fun z=>some (Value.int k z)) (Eq.trans (congrArg (fun z:Nat=>k.wrap (z:Int)) ?_) (wrap_ok h3))
  show (BitVec.ofInt k.bits (m:Int)&&&BitVec.ofInt k.bits (n:Int)).toNat=m&&&n
  rw [BitVec.toNat_and,bv_of k (Nat.le_of_ble_eq_true a1),bv_of k (Nat.le_of_ble_eq_true a2)]
 |or=>
  obtain ⟨hk,h2⟩:=br_some h
  cases sameK_ok hk
  obtain ⟨a1,h2⟩:=br_some h2
  obtain ⟨a2,h2⟩:=br_some h2
  obtain ⟨h3,rfl⟩:=okN_ok h2
  refine ⟨bin_eq (s:=Op.intBits .or k (.ofNat m) (.ofNat n)) (by simp [binOp]) ?_,rfl⟩
  refine congrArg (fun z=>some (Value.int k z)) (Eq.trans (congrArg (fun z:Nat=>k.wrap (z:Int)) ?_) (wrap_ok h3))
  show (BitVec.ofInt k.bits (m:Int)|||BitVec.ofInt k.bits (n:Int)).toNat=m|||n
  rw [BitVec.toNat_or,bv_of k (Nat.le_of_ble_eq_true a1),bv_of k (Nat.le_of_ble_eq_true a2)]
 |xor=>
  obtain ⟨hk,h2⟩:=br_some h
  cases sameK_ok hk
  obtain ⟨a1,h2⟩:=br_some h2
  obtain ⟨a2,h2⟩:=br_some h2
  obtain ⟨h3,rfl⟩:=okN_ok h2
  refine ⟨bin_eq (s:=Op.intBits .xor k (.ofNat m) (.ofNat n)) (by simp [binOp]) ?_,rfl⟩
  refine congrArg (fun z=>some (Value.int k z)) (Eq.trans (congrArg (fun z:Nat=>k.wrap (z:Int)) ?_) (wrap_ok h3))
  show (BitVec.ofInt k.bits (m:Int)^^^BitVec.ofInt k.bits (n:Int)).toNat=m^^^n
  rw [BitVec.toNat_xor,bv_of k (Nat.le_of_ble_eq_true a1),bv_of k (Nat.le_of_ble_eq_true a2)]
 |eql=>
  obtain ⟨hk,h2⟩:=br_some h
  cases sameK_ok hk
  cases h2
  refine ⟨bin_eq (s:=Op.intCmp .eql (.ofNat m) (.ofNat n)) (by simp [binOp]) (congrArg (fun z=>some (Value.bool z)) ?_),rfl⟩
  by_cases e:m=n
  ·subst e;rw [beq_yes rfl];simp
  ·rw [beq_no e];show ((m:Int)==(n:Int))=false;simp;omega
 |neq=>
  obtain ⟨hk,h2⟩:=br_some h
  cases sameK_ok hk
  cases h2
  refine ⟨bin_eq (s:=Op.intCmp .neq (.ofNat m) (.ofNat n)) (by simp [binOp]) (congrArg (fun z=>some (Value.bool z)) ?_),rfl⟩
  by_cases e:m=n
  ·subst e;rw [beq_yes rfl];simp
  ·rw [beq_no e];show ((m:Int) !=(n:Int))=true;simp;omega
 |lss=>
  obtain ⟨hk,h2⟩:=br_some h
  cases sameK_ok hk
  cases h2
  refine ⟨bin_eq (s:=Op.intCmp .lss (.ofNat m) (.ofNat n)) (by simp [binOp]) (congrArg (fun z=>some (Value.bool z)) ?_),rfl⟩
  rw [blt_dec];show decide ((m:Int)<(n:Int))=_;simp
 |leq=>
  obtain ⟨hk,h2⟩:=br_some h
  cases sameK_ok hk
  cases h2
  refine ⟨bin_eq (s:=Op.intCmp .leq (.ofNat m) (.ofNat n)) (by simp [binOp]) (congrArg (fun z=>some (Value.bool z)) ?_),rfl⟩
  rw [ble_dec];show decide ((m:Int)≤(n:Int))=_;simp
 |gtr=>
  obtain ⟨hk,h2⟩:=br_some h
  cases sameK_ok hk
  cases h2
  refine ⟨bin_eq (s:=Op.intCmp .gtr (.ofNat m) (.ofNat n)) (by simp [binOp]) (congrArg (fun z=>some (Value.bool z)) ?_),rfl⟩
  rw [blt_dec];show decide ((n:Int)<(m:Int))=_;simp
 |geq=>
  obtain ⟨hk,h2⟩:=br_some h
  cases sameK_ok hk
  cases h2
  refine ⟨bin_eq (s:=Op.intCmp .geq (.ofNat m) (.ofNat n)) (by simp [binOp]) (congrArg (fun z=>some (Value.bool z)) ?_),rfl⟩
  rw [ble_dec];show decide ((n:Int)≤(m:Int))=_;simp
end
end
noncomputable section
open Go Go.RowKit Go.Proofs
section
variable {P:Program} {G:Nat}
theorem pureRun_bind {α β:Type} (s:Sem α) (f:α→Sem β):pureRun P (s>>=f)=(pureRun P s).bind fun a=>pureRun P (f a):=by
 show pureRun P (s.bind f)=_
 induction s with
 |pure x=>rfl
 |program k ih=>exact ih P
 |_=>rfl
theorem pureRun_underlying {t:TypeId} {d:TypeDesc} (h:P.underlying t=some d):pureRun P (underlying t)=some d:=by
 unfold underlying
 rw [pureRun_bind]
 show pureRun P (match P.underlying t with|some d=>pure d|none=>stuck "no such type")=_
 rw [h];rfl
theorem evBin_int {op:BinOp} {k l:IntKind} {m n:Nat} {t:TypeId} {x y:Operand} {v:Value} {st:St} (h:natBin op (sameK k l) k m n=some v):evBin P G op t x y (.int k (.ofNat m)) (.int l (.ofNat n)) st=some (v,st):=by
 obtain ⟨h1,h2⟩:=natBin_ok (P:=P) (G:=G) (t:=t) (x:=x) (y:=y) h
 unfold evBin
 rw [show (pf G 6 (.int k (.ofNat m))&&pf G 6 (.int l (.ofNat n)))=true from rfl]
 simp only [h1,h2]
theorem binR_le {op:BinOp} {t:TypeId} {x y:Operand} {a b:Value} {st:St} {fb:R} (hf:RLe fb (evBin P G op t x y a b st)):RLe (binR op a b st fb) (evBin P G op t x y a b st):=by
 unfold binR
 cases ha:vI a with
 |o=>exact hf
 |i k m=>
  show RLe (binR1 op k m (vI b) st fb) _
  unfold binR1
  cases hb:vI b with
  |o=>exact hf
  |i l n=>
   refine ovR_le (fun v hv=> ?_) hf
   rw [vI_i ha,vI_i hb]
   exact evBin_int hv
theorem conv_int {src dst:TypeId} {d:TypeDesc} {k l:IntKind} {n:Nat} {v:Value} {st:St} (hs:P.underlying src=some d) (hd:P.underlying dst=some (.int k)) (h:okN k n=some v):
  evConvert P G src dst (.int l (.ofNat n)) st=some (v,st):=by
 obtain ⟨h1,rfl⟩:=okN_ok h
 have e:evConvert P G src dst (.int l (.ofNat n)) st=evPure P G [.int l (.ofNat n)] (convert src dst (.int l (.ofNat n))) st:=by
  unfold evConvert
  rw [hd]
  split<;>first|rfl|(rename_i h _;cases h)|(rename_i h;cases h)|skip
  all_goals rename_i h1 h2 h3;first|cases h3|cases h2
 rw [e]
 unfold evPure
 rw [show ([Value.int l (.ofNat n)].all (pf G 6))=true from rfl]
 have e2:pureRun P (convert src dst (.int l (.ofNat n)))=some (.int k (.ofNat n)):=by
  unfold convert
  rw [pureRun_bind,pureRun_underlying hs]
  show pureRun P (underlying dst>>=_)=_
  rw [pureRun_bind,pureRun_underlying hd]
  show some (Value.int k (k.wrap (n:Int)))=_
  rw [wrap_ok h1];rfl
 simp only [e2]
 rfl
theorem vK_ok {o:Option TypeDesc} {k:IntKind} (h:vK o=some k):o=some (.int k):=by
 unfold vK at h
 split at h
 ·cases h;rfl
 ·cases h
theorem someB_ok {o:Option TypeDesc} (h:someB o=true): ∃d,o=some d:=by
 cases o with
 |none=>cases h
 |some d=>exact ⟨d,rfl⟩
theorem convR_le {src dst:TypeId} {a:Value} {st:St} {fb:R} (hs:someB (P.underlying src)=true) (hf:RLe fb (evConvert P G src dst a st)):RLe (convR (vK (P.underlying dst)) (vI a) st fb) (evConvert P G src dst a st):=by
 obtain ⟨d,hd⟩:=someB_ok hs
 unfold convR
 cases ha:vI a with
 |o=>exact hf
 |i l n=>
  show RLe (convR1 _ n st fb) _
  unfold convR1
  cases hk:vK (P.underlying dst) with
  |none=>exact hf
  |some k=>
   refine ovR_le (fun v hv=> ?_) hf
   rw [vI_i ha]
   exact conv_int hd (vK_ok hk) hv
theorem br_le {b:Bool} {x y:R} {s:Res} (hx:b=true→RLe x s) (hy:RLe y s):RLe (br b x y) s:=by
 cases b with
 |true=>exact hx rfl
 |false=>exact hy
theorem notAgg_ok {t:TypeId} (h:notAgg P t=true):isAggB P t=some false:=by
 unfold notAgg at h
 split at h
 ·assumption
 ·cases h
theorem slc_one {cs:List Value} {o:Nat} {v:Value} (h:cs[o]? =some v):slc cs o 1=some [v]:=by
 obtain ⟨hlt,rfl⟩:=List.getElem?_eq_some_iff.1 h
 unfold slc
 rw [Nat.ble_eq_true_of_le (by omega),List.drop_eq_getElem_cons hlt]
 rfl
theorem loadR_le {t:TypeId} {a:Value} {st:St} {fb:R} (hn:notAgg P t=true) (hf:RLe fb (evLoad P t a st)):RLe (loadR (vP a) st fb) (evLoad P t a st):=by
 unfold loadR
 cases ha:vP a with
 |o=>exact hf
 |p b o=>
  show RLe (loadR1 b o st fb) _
  unfold loadR1
  cases hl:look st.heap b with
  |none=>exact hf
  |some ob=>
   show RLe (loadO ob o st fb) _
   cases ob with
   |iter s pos=>exact hf
   |row cs e ext fz=>
    refine ovR_le (fun v hv=> ?_) hf
    rw [nthL_eq] at hv
    rw [vP_p ha]
    unfold evLoad loadB
    rw [notAgg_ok hn]
    have e:cellsAt st.heap ⟨b,o,none⟩ 1=some [v]:=by
     unfold cellsAt
     show (match look st.heap b with|some (.row cs _ _ _)=>slc cs o 1|_=>none)=_
     rw [hl]
     exact slc_one hv
    simp only [e]
theorem size1_ok {t:TypeId} (h:size1 P t=true):sizeB P t=some 1:=by
 unfold size1 at h
 split at h
 ·assumption
 ·cases h
theorem storeR_le {t:TypeId} {a x:Value} {st:St} {fb:R} (hn:size1 P t=true) (hf:RLe fb (evStore P t a x st)):RLe (storeR (vP a) x st fb) (evStore P t a x st):=by
 unfold storeR
 cases ha:vP a with
 |o=>exact hf
 |p b o=>
  refine br_le (fun hx=> ?_) hf
  obtain ⟨hx1,hx2⟩:=vOne_ok hx
  unfold storeR1
  cases hl:look st.heap b with
  |none=>exact hf
  |some ob=>
   show RLe (storeO ob b o x st fb) _
   cases ob with
   |iter s pos=>exact hf
   |row cs e ext fz=>
    cases fz with
    |true=>exact hf
    |false=>
     show RLe (storeS (setL x cs o) b e ext st fb) _
     unfold storeS
     cases hs:setL x cs o with
     |none=>exact hf
     |some m=>
      obtain ⟨h1,rfl⟩:=setL_eq x hs
      refine .yes ?_
      rw [vP_p ha]
      unfold evStore
      rw [size1_ok hn,hx2]
      have e2:writeB st ⟨b,o,none⟩ [x]=some (st.set b (.row (splice cs o [x]) e ext false)):=by
       have h3:(Nat.ble (o+[x].length) cs.length&&[x].all one)=true:=by
        rw [show o+[x].length=o+1 from rfl,Nat.ble_eq_true_of_le (by omega)]
        simp [hx1]
       unfold writeB
       simp only [hl,h3]
      show (match Nat.beq 1 1 with|true=>(match writeB st ⟨b,o,none⟩ [x] with|some st=>some (undef,st)|none=>none)|false=>none)=_
      rw [e2]
end
end
noncomputable section
open Go Go.RowKit Go.Proofs
section
variable {P:Program} {G:Nat}
theorem offB_ok {s:TypeId} {f d:Nat} (h:offB P s f=some d): ∃fs fl n,P.underlying s=some (.struct fs)∧fs[f]? =some fl∧sizeB P fl.type=some (n+1)∧d=fl.offset:=by
 unfold offB at h
 split at h
 ·rename_i fs hu
  split at h
  ·rename_i fl hf
   split at h
   ·rename_i n hs
    cases h
    exact ⟨fs,fl,n,hu,hf,hs,rfl⟩
   ·cases h
  ·cases h
 ·cases h
theorem faR_le {s:TypeId} {a:Value} {f:Nat} {st:St}:RLe (faR (vP a) (offB P s f) st) (evFieldAddr P s a f st):=by
 unfold faR
 cases ha:vP a with
 |o=>exact .no
 |p b o=>
  show RLe (faR1 b o _ st) _
  unfold faR1
  cases hd:offB P s f with
  |none=>exact .no
  |some d=>
   obtain ⟨fs,fl,n,h1,h2,h3,rfl⟩:=offB_ok hd
   refine .yes ?_
   rw [vP_p ha]
   unfold evFieldAddr
   simp only [h1,h2,h3]
   rfl
theorem extR_le {a:Value} {i:Nat} {st:St}:RLe (extR (vT a) i st) (evExtract a i st):=by
 unfold extR
 cases ha:vT a with
 |o=>exact .no
 |t l=>
  refine ovR_le (fun v hv=> ?_) .no
  rw [nthL_eq] at hv
  rw [vT_t ha]
  unfold evExtract
  simp only [hv]
theorem pickR_le {c a b:Value} {st:St}:RLe (pickR (vB c) a b st) (evPick c a b st):=by
 unfold pickR
 cases hc:vB c with
 |o=>exact .no
 |t=>exact .yes (by rw [vB_t hc];rfl)
 |f=>exact .yes (by rw [vB_f hc];rfl)
theorem isStrT_ok {t:TypeId} (h:isStrT P t=true):P.underlying t=some .string:=by
 unfold isStrT at h
 split at h
 ·assumption
 ·cases h
theorem extract_list (l:List UInt8) (a h:Nat):(⟨⟨l⟩⟩:ByteArray).extract a h=⟨⟨(l.drop a).take (h - a)⟩⟩:=by
 apply ByteArray.ext
 apply Array.ext'
 simp
theorem sliS_le {t:TypeId} {a:Value} {lo hi:Option Value} {st:St} (ht:isStrT P t=true):RLe (sliS lo hi st .no (vS a)) (evSlice P G t a lo hi none st):=by
 unfold sliS
 cases ha:vS a with
 |o=>exact .no
 |s l=>
  show RLe (sliS1 l lo st (boundB hi (lenL l 0) (lenL l 0))) _
  unfold sliS1
  rw [lenL_eq,Nat.add_zero]
  cases hh:boundB hi l.length l.length with
  |none=>exact .no
  |some h=>
   show RLe (sliS2 l h st (boundB lo 0 h)) _
   unfold sliS2
   cases hl:boundB lo 0 h with
   |none=>exact .no
   |some k=>
    refine .yes ?_
    rw [vS_s ha]
    unfold evSlice
    simp only [isStrT_ok ht]
    unfold evSliceStr
    have e:(⟨⟨l⟩⟩:ByteArray).size=l.length:=rfl
    rw [e]
    simp only [hh,hl]
    rw [extract_list,takeL_eq,dropL_eq]
    rfl
theorem idxS0_le {t:TypeId} {a i:Value} {st:St} {fb:R} (ht:isStrT P t=true) (hf:RLe fb (evIndex P t a i st)):RLe (idxS0 (vS a) (vI i) st fb) (evIndex P t a i st):=by
 unfold idxS0
 cases hi:vI i with
 |o=>exact hf
 |i k n=>
  show RLe (idxS1 (vS a) n st fb) _
  unfold idxS1
  cases ha:vS a with
  |o=>exact hf
  |s l=>
   show RLe (idxS2 (nthB l n) st) _
   unfold idxS2
   cases hb:nthB l n with
   |none=>exact .no
   |some b=>
    refine .yes ?_
    rw [nthB_eq] at hb
    rw [vS_s ha,vI_i hi]
    unfold evIndex
    simp only [isStrT_ok ht,natOf,hb]
    rfl
theorem nxt0_le {a:Value} {st:St} {fb:R} (hf:RLe fb (evNext a st)):RLe (nxt0 (vP a) st fb) (evNext a st):=by
 unfold nxt0
 cases ha:vP a with
 |o=>exact hf
 |p k o=>
  show RLe (nxt1 k o st fb) _
  unfold nxt1
  refine br_le (fun h0=> ?_) hf
  have h0:=Nat.eq_of_beq_eq_true h0
  subst h0
  cases hl:look st.heap k with
  |none=>exact hf
  |some ob=>
   show RLe (nxtO ob k st fb) _
   cases ob with
   |row _ _ _ _=>exact hf
   |iter s pos=>
    show RLe (nxtB (nthB s.data.toList pos) s pos k st fb) _
    unfold nxtB
    cases hb:nthB s.data.toList pos with
    |none=>exact hf
    |some b=>
     refine br_le (fun hlt=> ?_) hf
     have hlt:=blt_ok hlt
     rw [nthB_eq] at hb
     obtain ⟨h1,h2⟩:=List.getElem?_eq_some_iff.1 hb
     have hs:pos<s.size:=h1
     refine .yes ?_
     rw [vP_p ha]
     have hd:=decode_ascii s pos hs (by show (s.data.toList[pos]).toNat<128;rw [h2];exact hlt)
     have hv:(s[pos]'hs).toNat=b.toNat:=by show (s.data.toList[pos]).toNat=_;rw [h2]
     rw [hv] at hd
     have hbl:Nat.blt pos s.size=true:=Nat.ble_eq_true_of_le hs
     unfold evNext
     simp only [hl,hbl,hd]
     rfl
theorem evCall_le {f g:CallF} (hc:CallLe f g) (ts:Ts) (c:Call) (ty:TypeId) (st:St):ResLe (evCall P G f ts c ty st) (evCall P G g ts c ty st):=by
 unfold evCall
 split
 ·split
  ·exact hc _ _ _
  ·exact ResLe.rfl
 ·split
  ·split
   ·exact hc _ _ _
   ·exact ResLe.rfl
  ·exact ResLe.rfl
 ·exact ResLe.rfl
theorem calleeF_ok {c:Callee} {g:FuncId} (h:calleeF c=some g):c= .value (.func g):=by
 unfold calleeF at h
 split at h
 ·cases h;rfl
 ·cases h
theorem fCall_le {f g:CallF} (hc:CallLe f g) (ts:Ts) (c:Call) (ty:TypeId) (st:St):RLe (fCall c P G f ts ty st) (hCall c P G g ts ty st):=by
 unfold fCall hCall
 cases he:calleeF c.callee with
 |none=>exact ofRes_le (evCall_le hc ts c ty st)
 |some k=>
  have e:evCall P G g ts c ty st=g k (argsF ts c.args.toList) st:=by
   unfold evCall
   rw [calleeF_ok he]
   show g k ((#[]:Array Value).toList++c.args.toList.map (ρ ts)++(#[]:Array Value).toList) st=_
   rw [argsF_eq]
   simp
  rw [e]
  exact ofRes_le (hc _ _ _)
theorem opF_le {f g:CallF} (hc:CallLe f g) (op:Op) (ts:Ts) (ty:TypeId) (st:St):RLe (opF op P G f ts ty st) (opD op P G g ts ty st):=by
 cases op with
 |move x=>exact .yes (by show some (ρ ts x,st)=_;rw [ρF_eq])
 |assign x=>exact .yes (by show some (ρ ts x,st)=_;rw [ρF_eq])
 |pick c a b=>
  show RLe (pickR (vB (ρF ts c)) (ρF ts a) (ρF ts b) st) (evPick (ρ ts c) (ρ ts a) (ρ ts b) st)
  rw [ρF_eq,ρF_eq,ρF_eq];exact pickR_le
 |binOp op t x y yT=>
  show RLe (binR op (ρF ts x) (ρF ts y) st (ofRes (hBin op t x y P G f ts ty st))) (evBin P G op t x y (ρ ts x) (ρ ts y) st)
  rw [ρF_eq,ρF_eq];exact binR_le (ofRes_le ResLe.rfl)
 |convert s d x=>
  show RLe (br _ (convR (vK (P.underlying d)) (vI (ρF ts x)) st (ofRes (hConvert s d x P G f ts ty st))) (ofRes (hConvert s d x P G f ts ty st))) (evConvert P G s d (ρ ts x) st)
  rw [ρF_eq];exact br_le (fun h=>convR_le h (ofRes_le ResLe.rfl)) (ofRes_le ResLe.rfl)
 |load t a=>
  show RLe (br _ (loadR (vP (ρF ts a)) st (ofRes (hLoad t a P G f ts ty st))) (ofRes (hLoad t a P G f ts ty st))) (evLoad P t (ρ ts a) st)
  rw [ρF_eq];exact br_le (fun h=>loadR_le h (ofRes_le ResLe.rfl)) (ofRes_le ResLe.rfl)
 |store t a x=>
  show RLe (br _ (storeR (vP (ρF ts a)) (ρF ts x) st (ofRes (hStore t a x P G f ts ty st))) (ofRes (hStore t a x P G f ts ty st))) (evStore P t (ρ ts a) (ρ ts x) st)
  rw [ρF_eq,ρF_eq];exact br_le (fun h=>storeR_le h (ofRes_le ResLe.rfl)) (ofRes_le ResLe.rfl)
 |fieldAddr s x i=>
  show RLe (faR (vP (ρF ts x)) (offB P s i) st) (evFieldAddr P s (ρ ts x) i st)
  rw [ρF_eq];exact faR_le
 |extract t i=>
  show RLe (extR (vT (ρF ts t)) i st) (evExtract (ρ ts t) i st)
  rw [ρF_eq];exact extR_le
 |slice t x lo hi mx=>
  show RLe (br _ (Option.rec (motive:=fun _=>R) (sliS (lo.map (ρF ts)) (hi.map (ρF ts)) st .no (vS (ρF ts x))) (fun _=> .no) mx) (ofRes (hSlice t x lo hi mx P G f ts ty st))) (evSlice P G t (ρ ts x) (lo.map (ρ ts)) (hi.map (ρ ts)) (mx.map (ρ ts)) st)
  rw [ρF_eq,show ρF ts=ρ ts from funext (ρF_eq ts)]
  refine br_le (fun h=> ?_) (ofRes_le ResLe.rfl)
  cases mx with
  |none=>exact sliS_le h
  |some m=>exact .no
 |index t x i=>
  show RLe (br _ (idxS0 (vS (ρF ts x)) (vI (ρF ts i)) st (ofRes (hIndex t x i P G f ts ty st))) (ofRes (hIndex t x i P G f ts ty st))) (evIndex P t (ρ ts x) (ρ ts i) st)
  rw [ρF_eq,ρF_eq];exact br_le (fun h=>idxS0_le h (ofRes_le ResLe.rfl)) (ofRes_le ResLe.rfl)
 |next it s=>
  show RLe (br s (nxt0 (vP (ρF ts it)) st (ofRes (hNext it s P G f ts ty st))) .no) (hNext it s P G g ts ty st)
  rw [ρF_eq]
  refine br_le (fun h=> ?_) .no
  subst h
  exact nxt0_le (ofRes_le ResLe.rfl)
 |call c=>exact fCall_le hc ts c ty st
 |box e x=>exact ofRes_le (r:=evBox e (ρ ts x) st) ResLe.rfl
 |makeFunc a b c=>exact ofRes_le (r:=hFunc a b c P G f ts ty st) ResLe.rfl
 |_=>first|exact ofRes_le (r:=none) (s:=none) ResLe.rfl|exact ofRes_le ResLe.rfl
end
end
noncomputable section
open Go Go.RowKit Go.Proofs
section
variable {P:Program} {G:Nat}
theorem wantB_some (ops:Array Oper) (ts:Ts) (o:Oper) (g:Nat×Bool) (h:o.guard=some g):wantB ops ts o=wantP ops ts g:=by
 unfold wantB wantP
 rw [h]
 cases g;rfl
theorem guardK_le {ops:Array Oper} {ts:Ts} {o:Oper} {a b:RT} {s:ResT} (ha:wantB ops ts o=true→RTLe a s) (hb:wantB ops ts o=false→RTLe b s):RTLe (guardK ops ts o.guard a b) s:=by
 unfold guardK
 cases hg:o.guard with
 |none=>exact ha (by unfold wantB;rw [hg])
 |some g=>
  show RTLe (br (wantP ops ts g) a b) s
  cases hw:wantP ops ts g with
  |true=>exact ha ((wantB_some ops ts o g hg).trans hw)
  |false=>exact hb ((wantB_some ops ts o g hg).trans hw)
theorem opsF_le {f g:CallF} (hc:CallLe f g) {m:Nat} (hm:m≤4000) (ops:Array Oper): ∀(l:List Oper) (ts:Ts) (st:St),RTLe (opsF P G f m ops l ts st) (evOps P G g m ops l ts st)
 |[],ts,st=>fun _ _ h=>by cases h;rfl
 |o::l,ts,st=>by
  rw [evOps_cons]
  show RTLe (guardK ops ts o.guard (runK P G f m o (opsF P G f m ops l) ts st) (opsF P G f m ops l (putF m ts o.dst undef) st)) _
  refine guardK_le (fun hw=> ?_) (fun hw=> ?_)
  ·rw [if_pos hw]
   unfold runK
   have h:=opF_le (P:=P) (G:=G) hc o.op ts o.type st
   cases hr:opF o.op P G f ts o.type st with
   |no=>exact fun _ _ h=>by cases h
   |yes v st'=>
    have e:=h v st' hr
    have e':evOp P G g ts o st=some (v,st'):=e
    rw [e']
    show RTLe (opsF P G f m ops l (putF m ts o.dst v) st') _
    rw [putF_eq hm]
    exact opsF_le hc hm ops l _ _
  ·rw [if_neg (by rw [hw];exact Bool.false_ne_true)]
   rw [putF_eq hm]
   exact opsF_le hc hm ops l _ _
theorem calmT_of {ts:Ts} {o:Op} (h:calmB o=true):calmT ts o=true:=by
 cases o<;>first|exact h|cases h
theorem drawnF_le {f g:CallF} (hc:CallLe f g) {m:Nat} (hm:m≤4000) (ops:Array Oper): ∀(l:List Oper) (i:Nat) (ks:List (Nat×Kind)) (ts:Ts) (st:St),
  RTLe (drawnF P G f m ops l i ks ts st) (evDrawn P G g m ops l i ks ts st)
 |[],i,ks,ts,st=>fun _ _ h=>by cases h;rfl
 |o::l,i,ks,ts,st=>by
  show RTLe (guardK ops ts o.guard (drawK P G f m ops o (drawnF P G f m ops l) i ks ts st) (drawnF P G f m ops l (i+1) ks (putF m ts o.dst undef) st)) _
  simp only [evDrawn]
  refine guardK_le (fun hw=> ?_) (fun hw=> ?_)
  ·rw [hw]
   have calm:calmT ts o.op=true→RTLe (calmK P G f m o (drawnF P G f m ops l) i ks ts st) (match calmT ts o.op with
     |true=>(match evOp P G g ts o st with|some (v,_)=>evDrawn P G g m ops l (i+1) ks (putT m ts o.dst v) st|none=>none)
     |false=>(match evOp P G g ts o ⟨st.heap,st.next,st.next⟩ with
      |some (v,st')=>(match freeB ops i (kindOf ts o.op (!Nat.ble st.next st'.low)) ks&&Nat.ble st.next st'.next with
       |true=>evDrawn P G g m ops l (i+1) ((i,kindOf ts o.op (!Nat.ble st.next st'.low))::ks) (putT m ts o.dst v) ⟨st'.heap,st'.next,Nat.min st.low st'.low⟩
       |false=>none)
      |none=>none)):=by
    intro ht
    rw [ht]
    unfold calmK
    have h:=opF_le (P:=P) (G:=G) hc o.op ts o.type st
    cases hr:opF o.op P G f ts o.type st with
    |no=>exact fun _ _ h=>by cases h
    |yes v st'=>
     have e':evOp P G g ts o st=some (v,st'):=h v st' hr
     simp only [e']
     show RTLe (drawnF P G f m ops l (i+1) ks (putF m ts o.dst v) st) _
     rw [putF_eq hm]
     exact drawnF_le hc hm ops l _ _ _ _
   unfold drawK
   cases hb:calmB o.op with
   |true=>exact calm (calmT_of hb)
   |false=>
    show RTLe (br (calmT ts o.op) _ _) _
    cases ht:calmT ts o.op with
    |true=>have:=calm ht;rw [ht] at this;exact this
    |false=>
     show RTLe (firmK ops m o (drawnF P G f m ops l) i ks ts st (opF o.op P G f ts o.type ⟨st.heap,st.next,st.next⟩)) _
     have h:=opF_le (P:=P) (G:=G) hc o.op ts o.type ⟨st.heap,st.next,st.next⟩
     cases hr:opF o.op P G f ts o.type ⟨st.heap,st.next,st.next⟩ with
     |no=>exact fun _ _ h=>by cases h
     |yes v st'=>
      have e':evOp P G g ts o ⟨st.heap,st.next,st.next⟩=some (v,st'):=h v st' hr
      simp only [e']
      show RTLe (br (freeB ops i (kindOf ts o.op (!Nat.ble st.next st'.low)) ks&&Nat.ble st.next st'.next) (drawnF P G f m ops l (i+1) ((i,kindOf ts o.op (!Nat.ble st.next st'.low))::ks) (putF m ts o.dst v) ⟨st'.heap,st'.next,Nat.min st.low st'.low⟩) .no) _
      cases hfr:freeB ops i (kindOf ts o.op (!Nat.ble st.next st'.low)) ks&&Nat.ble st.next st'.next with
      |false=>exact fun _ _ h=>by cases h
      |true=>
       rw [putF_eq hm]
       exact drawnF_le hc hm ops l _ _ _ _
  ·rw [hw,putF_eq hm]
   exact drawnF_le hc hm ops l _ _ _ _
theorem consO_some {v:Value} {o:Option (List Value)} {l:List Value} (h:consO v o=some l): ∃r,o=some r∧l=v::r:=by
 cases o with
 |none=>cases h
 |some r=>cases h;exact ⟨r,rfl,rfl⟩
theorem resF_ok {h:Hp} {ts:Ts}: ∀{rs:List ResultVar} {l:List Value},resF' P h ts rs=some l→resB P h ts rs=some l
 |[],l,e=>e
 | .tmp t::rs,l,e=>by
  have e:consO (ts.getP (path t)) (resF' P h ts rs)=some l:=e
  obtain ⟨r,h1,rfl⟩:=consO_some e
  unfold resB
  rw [resF_ok h1,get_path]
 | .cell a t::rs,l,e=>by
  have e:Option.rec (motive:=fun _=>Option (List Value)) none (fun v=>consO v (resF' P h ts rs)) (loadB P h t (ts.get a))=some l:=e
  unfold resB
  cases hl:loadB P h t (ts.get a) with
  |none=>rw [hl] at e;cases e
  |some v=>
   rw [hl] at e
   obtain ⟨r,h1,rfl⟩:=consO_some e
   rw [resF_ok h1]
theorem freeV_ok {d:Nat} {v:Value}:freeV G d v=pf G d v:=by
 unfold freeV
 cases h:vFree v with
 |true=>exact (vFree_ok d h).symm
 |false=>rfl
theorem all_free (l:List Value):List.rec (motive:=fun _=>Bool) true (fun x _ ih=>br (freeV G 5 x) ih false) l=l.all (pf G 5):=by
 induction l with
 |nil=>rfl
 |cons x l ih=>
  show br (freeV G 5 x) _ false=_
  rw [freeV_ok,List.all_cons,ih]
  cases pf G 5 x<;>rfl
theorem cutR_eq {v:Value} {st st':St} {b c:Bool} (h:b=(c&&Nat.ble st.next st'.low)):cutR v st st' b=
  (match c&&Nat.ble st.next st'.low with|true=>some (v,(⟨cutB st'.heap st.next,st'.next,Nat.min st.low st'.low⟩:St))|false=>some (v,⟨st'.heap,st'.next,Nat.min st.low st'.low⟩)):=by
 rw [←h]
 cases b<;>rfl
theorem br_and (a b:Bool):br a b false=(b&&a):=by cases a<;>cases b<;>rfl
theorem retL_eq (st st':St) (l:List Value):retL G st st' l=(match pf G 6 (retB l)&&Nat.ble st.next st'.low with
  |true=>some (retB l,(⟨cutB st'.heap st.next,st'.next,Nat.min st.low st'.low⟩:St))|false=>some (retB l,⟨st'.heap,st'.next,Nat.min st.low st'.low⟩)):=by
 match l with
 |[]=>exact cutR_eq (c:=pf G 6 (.tuple #[])) (by rw [show pf G 6 (.tuple #[])=true from rfl,Bool.true_and])
 |[v]=>exact cutR_eq (c:=pf G 6 v) (by rw [br_and,freeV_ok])
 |v::w::r=>
  refine cutR_eq (c:=pf G 6 (.tuple ⟨v::w::r⟩)) ?_
  rw [br_and]
  exact congrArg (· &&Nat.ble st.next st'.low) (all_free (G:=G) (v::w::r))
theorem retS_le {rs:List ResultVar} {st st':St} {ts':Ts}:ResLe (retS P G rs st ts' st') (match resB P st'.heap ts' rs with
  |some l=>(match pf G 6 (retB l)&&Nat.ble st.next st'.low with
   |true=>some (retB l,(⟨cutB st'.heap st.next,st'.next,Nat.min st.low st'.low⟩:St))|false=>some (retB l,⟨st'.heap,st'.next,Nat.min st.low st'.low⟩))
  |none=>none):=by
 unfold retS
 cases h:resF' P st'.heap ts' rs with
 |none=>exact fun _ _ h=>by cases h
 |some l=>
  rw [resF_ok h]
  show ResLe (retL G st st' l) _
  rw [retL_eq]
  exact ResLe.rfl
theorem retF_le {rs:List ResultVar} {st:St} {r:RC} {s:ResC} (h:RCLe r s):ResLe (retF P G rs st r) (evRet P G rs st s):=by
 unfold retF evRet
 cases r with
 |no=>exact fun _ _ h=>by cases h
 |nrm ts' st'=>rw [h.1 ts' st' rfl];exact retS_le
 |ex i ts' st'=>exact fun _ _ h=>by cases h
 |rt ts' st'=>rw [h.2.2 ts' st' rfl];exact retS_le
def RecLe (f:RecF) (g:Rec):Prop:= ∀m c ts st,m≤4000→RCLe (f m c ts st) (g m c ts st)
theorem enterF_le {f:RecF} {g:Rec} (h:RecLe f g) (k:FuncId) (args:List Value) (st:St):ResLe (enterF P G f k args st) (evEnter P G g k args st):=by
 unfold enterF evEnter
 cases hf:P.funcs[k]? with
 |none=>exact fun _ _ h=>by cases h
 |some fn=>
  show ResLe (enter1 P G f args st fn) _
  unfold enter1
  cases hb:fn.body with
  |none=>exact fun _ _ h=>by cases h
  |some body=>
   show ResLe (enter2 P G f args st fn body) _
   unfold enter2
   rw [lenV_eq,Nat.add_zero]
   cases h1:Nat.ble args.length fn.ntmps with
   |false=>exact fun _ _ h=>by cases h
   |true=>
    cases h2:Nat.ble fn.ntmps 4000 with
    |false=>exact fun _ _ h=>by cases h
    |true=>
     have a1:=Nat.le_of_ble_eq_true h1
     have a2:=Nat.le_of_ble_eq_true h2
     show ResLe (retF P G fn.results.toList st (f fn.ntmps body (ofArgsF args 0 .e) ⟨st.heap,st.next,st.next⟩)) _
     rw [ofArgsF_eq args 0 .e (by omega)]
     have e:=retF_le (P:=P) (G:=G) (rs:=fn.results.toList) (st:=st) (h fn.ntmps body (ofArgs args) ⟨st.heap,st.next,st.next⟩ a2)
     simp only [hb,h1,h2,Bool.and_self]
     exact e
theorem callFF_le {orc:Orc} {f:RecF} {g:Rec} (h:RecLe f g):CallLe (callFF P G orc f) (evCallF P G orc g):=by
 intro k args st
 unfold callFF evCallF
 cases orc k args st.heap with
 |none=>exact enterF_le h k args st
 |some v=>exact ResLe.rfl
theorem RCLe.no {s:ResC}:RCLe .no s:=⟨fun _ _ h=>(by cases h),fun _ _ _ h=>(by cases h),fun _ _ h=>(by cases h)⟩
theorem ofRT_le {r:RT} {s:ResT} {x:ResC} (h:RTLe r s) (hx: ∀ts st,s=some (ts,st)→x=some (.normal,ts,st)):RCLe (ofRT r) x:=by
 cases r with
 |no=>exact .no
 |yes ts st=>
  rw [hx ts st (h ts st rfl)]
  exact ⟨fun _ _ h=>(by cases h;rfl),fun _ _ _ h=>(by cases h),fun _ _ h=>(by cases h)⟩
theorem seqF_le {f:RecF} {g:Rec} (h:RecLe f g) {m:Nat} (hm:m≤4000) {b:Code} {r:RC} {s:ResC} (hr:RCLe r s):RCLe (seqF f m b r) (evSeq g m b s):=by
 cases r with
 |no=>exact .no
 |nrm ts st=>rw [hr.1 ts st rfl];exact h _ _ _ _ hm
 |ex i ts st=>rw [hr.2.1 i ts st rfl];exact ⟨fun _ _ h=>(by cases h),fun _ _ _ h=>(by cases h;rfl),fun _ _ h=>(by cases h)⟩
 |rt ts st=>rw [hr.2.2 ts st rfl];exact ⟨fun _ _ h=>(by cases h),fun _ _ _ h=>(by cases h),fun _ _ h=>(by cases h;rfl)⟩
theorem blockF_le {id:Nat} {r:RC} {s:ResC} (hr:RCLe r s):RCLe (blockF id r) (evBlock id s):=by
 cases r with
 |no=>exact .no
 |nrm ts st=>rw [hr.1 ts st rfl];exact ⟨fun _ _ h=>(by cases h;rfl),fun _ _ _ h=>(by cases h),fun _ _ h=>(by cases h)⟩
 |ex i ts st=>
  rw [hr.2.1 i ts st rfl]
  show RCLe (br (Nat.beq i id) (.nrm ts st) (.ex i ts st)) (match Nat.beq i id with|true=>some (.normal,ts,st)|false=>some (.exit i,ts,st))
  cases Nat.beq i id
  ·exact ⟨fun _ _ h=>(by cases h),fun _ _ _ h=>(by cases h;rfl),fun _ _ h=>(by cases h)⟩
  ·exact ⟨fun _ _ h=>(by cases h;rfl),fun _ _ _ h=>(by cases h),fun _ _ h=>(by cases h)⟩
 |rt ts st=>rw [hr.2.2 ts st rfl];exact ⟨fun _ _ h=>(by cases h),fun _ _ _ h=>(by cases h),fun _ _ h=>(by cases h;rfl)⟩
theorem condF_le {f:RecF} {g:Rec} (h:RecLe f g) {m:Nat} (hm:m≤4000) {a b:Code} {ts:Ts} {st:St} {v:Value}:RCLe (condF f m a b ts st (vB v)) (evCond g m a b v ts st):=by
 unfold condF
 cases hv:vB v with
 |o=>exact .no
 |t=>rw [vB_t hv];exact h _ _ _ _ hm
 |f=>rw [vB_f hv];exact h _ _ _ _ hm
theorem rgF_le {orc:Orc} {f:RecF} {g:Rec} (h:RecLe f g) {m:Nat} (hm:m≤4000) (ops:Array Oper) (draw:Bool) (ts:Ts) (st:St):RCLe (rgF ops draw P G orc f m ts st) (evRegion P G orc g m ops draw ts st):=by
 unfold rgF evRegion
 cases constsB G ops with
 |false=>exact .no
 |true=>
  cases draw with
  |false=>exact ofRT_le (opsF_le (callFF_le (orc:=orc) h) hm ops ops.toList ts st) fun ts st e=>by simp only [e]
  |true=>
   show RCLe (br (regionB ops) (ofRT (drawnF P G (callFF P G orc f) m ops ops.toList 0 [] ts st)) .no) (match regionB ops with
    |true=>(match evDrawn P G (evCallF P G orc g) m ops ops.toList 0 [] ts st with|some (ts,st)=>some (.normal,ts,st)|none=>none)
    |false=>none)
   cases regionB ops with
   |false=>exact .no
   |true=>exact ofRT_le (drawnF_le (callFF_le (orc:=orc) h) hm ops ops.toList 0 [] ts st) fun ts st e=>by simp only [e]
theorem codeF_le {orc:Orc} {f:RecF} {g:Rec} (h:RecLe f g) {m:Nat} (hm:m≤4000) (c:Code) (ts:Ts) (st:St):RCLe (codeF c P G orc f m ts st) (codeD c P G orc g m ts st):=by
 cases c with
 |skip=>exact ⟨fun _ _ h=>(by cases h;rfl),fun _ _ _ h=>(by cases h),fun _ _ h=>(by cases h)⟩
 |region id ops draw=>exact rgF_le h hm ops draw ts st
 |seq a b=>exact seqF_le h hm (h _ _ _ _ hm)
 |cond x a b=>
  show RCLe (condF f m a b ts st (vB (ρF ts x))) (evCond g m a b (ρ ts x) ts st)
  rw [ρF_eq];exact condF_le h hm
 |block id b=>exact blockF_le (h _ _ _ _ hm)
 |loop b=>exact seqF_le h hm (h _ _ _ _ hm)
 |rangeFunc a b c d=>exact .no
 |exit id=>exact ⟨fun _ _ h=>(by cases h),fun _ _ _ h=>(by cases h;rfl),fun _ _ h=>(by cases h)⟩
 |scope b=>exact h _ _ _ _ hm
 |label l=>exact ⟨fun _ _ h=>(by cases h;rfl),fun _ _ _ h=>(by cases h),fun _ _ h=>(by cases h)⟩
 |goto l=>exact .no
 |ret=>exact ⟨fun _ _ h=>(by cases h),fun _ _ _ h=>(by cases h),fun _ _ h=>(by cases h;rfl)⟩
 |refuse w=>exact .no
theorem ecF_le (orc:Orc): ∀n,RecLe (ecF P G orc n) (ec P G orc n)
 |0=>fun _ _ _ _ _=> .no
 |n+1=>fun m c ts st hm=>by
  rw [ec_succ]
  exact codeF_le (ecF_le orc n) hm c ts st
theorem runG_ok {orc:Orc} {n:Nat} {f:FuncId} {args:List Value} {v:Value} (h:runG P G orc n f args=some v):runF P G orc n f args=some v:=by
 unfold runG at h
 cases he:enterF P G (ecF P G orc n) f args ⟨[],G,G⟩ with
 |none=>rw [he] at h;cases h
 |some x=>
  rw [he] at h
  obtain ⟨u,st⟩:=x
  have h:some u=some v:=h
  obtain rfl:u=v:=Option.some.inj h
  unfold runF
  rw [enterF_le (ecF_le orc n) f args _ u st he]
theorem orcIn_ok {base:Nat} {T:World→Prop} {orc:Orc} (l:List Nat) (h:OrcSound P G base T orc):OrcSound P G base T (orcIn l orc):=by
 intro g args st v φ W Args e
 unfold orcIn at e
 cases hm:memN l g with
 |true=>rw [hm] at e;exact h g args st v φ W Args e
 |false=>rw [hm] at e;cases e
end
end
end Go.Proofs.YtmjappnpedjlnaaGreatDoor.Ev
