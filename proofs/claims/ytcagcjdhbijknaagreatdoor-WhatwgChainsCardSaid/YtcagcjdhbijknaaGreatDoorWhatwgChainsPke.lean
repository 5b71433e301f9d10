/-
  What the law WhatwgChains leans on, and its walk (30 of 33).
-/
import Derived.Laws.OwnMore
import Derived.Test.YtcagcjdhbijknaaGreatDoorWhatwgChainsPkd
namespace Go.Proofs.YtcagcjdhbijknaaGreatDoor
set_option maxRecDepth 100000
set_option maxHeartbeats 16000000
section
open Go.RowKit
def zoY (ps:List (List UInt8)):Bool:=ps.all (fun p=>decide (p.length≤1000))&&decide (ps.length≤8)
theorem z2L {ps:List (List UInt8)} {k:Nat} (hk:k<ps.length) (h:1000<(ps.getD k []).length):zoY ps=false:=by
 unfold zoY
 rw [Bool.and_eq_false_iff]
 refine .inl ?_
 rw [List.all_eq_false]
 refine ⟨ps[k],List.getElem_mem hk,?_⟩
 simp only [List.getD,List.getElem?_eq_getElem hk,Option.getD_some] at h
 simp;omega
theorem z1Q {ps:List (List UInt8)} {N:Nat} (hN:ps.length=N) (h: ∀j,j<N→(ps.getD j []).length≤1000):zoY ps=decide ((N:Int)≤8):=by
 unfold zoY
 have h1:ps.all (fun p=>decide (p.length≤1000))=true:=by
  rw [List.all_eq_true]
  intro p hp
  obtain ⟨j,hj,rfl⟩:=List.getElem_of_mem hp
  have:=h j (by omega)
  simp only [List.getD,List.getElem?_eq_getElem hj,Option.getD_some] at this
  simpa using this
 rw [h1,Bool.true_and,hN]
 simp;omega
theorem zxW (v:Value) (ps:List (List UInt8)) (w:World) (h:PV w v ps) (hl:ps.length≤8796093022208):Calls Tryz.prog 5 #[v] w (zeF w (zoY ps)):=by
 obtain ⟨a,c,rfl,hrow⟩:=h.len
 obtain ⟨N,hN⟩: ∃N,ps.length=N:=⟨_,rfl⟩
 rw [hN] at hrow hl ⊢
 have HROW:=Lib.hid hrow
 have HN:=Lib.hid hN
 clear hrow hN h
 go_enter Tryz.func5,Tryz.ntmps5
 go_wp2
 go_loopw [7] (fun i wr=> ∃k:Nat,k≤N∧i= .int .i64 k∧w=wr∧Hid (∀j,j<k→(ps.getD j []).length≤1000)) (fun i wr=>N - (intOf i).toNat)
 case atStart=>exact ⟨0,Nat.zero_le _,rfl,rfl,fun j hj=>by omega⟩
 case round=>
  obtain ⟨k,hkN,rfl,rfl,HS⟩:=hrel
  by_cases hlt:k<N
  ·obtain ⟨g,rfl,hcell⟩:=HROW.out _ (Below.refl _ _) k hlt
   obtain ⟨q,hq⟩: ∃q,ps.getD k []=q:=⟨_,rfl⟩
   have hz:=zaA q
   by_cases hbig:1000<q.length
   ·have HRES:=Lib.hid (z2L (ps:=ps) (k:=k) (by rw [HN.out];exact hlt) (by rw [hq];exact hbig))
    rw [hq] at hcell
    clear hq HS
    go_wp2
    go_ret
    rw [HRES.out]
    exact ⟨rfl,Below.refl _ _⟩
   ·have HS2:Hid (∀j,j<k+1→(ps.getD j []).length≤1000):=fun j hj=>by
     by_cases e:j=k
     ·rw [e,hq];omega
     ·exact HS.out j (by omega)
    rw [hq] at hcell
    clear hq HS
    go_wp2
    go_roundw
    case rel=>exact ⟨k+1,by omega,by go_num,by first|trivial|rfl,HS2⟩
    case measure=>simp [intOf];omega
  ·have hkk:k=N:=by omega
   subst hkk
   have HRES:=Lib.hid (z1Q HN.out HS.out)
   clear HS
   go_wp2
   go_ret
   rw [HRES.out]
   exact ⟨rfl,Below.refl _ _⟩
theorem yeB {w:World} {a:Option Addr} {zs:List ByteArray} (h: ∀(j:Nat) (x:ByteArray),zs[j]? =some x→ ∃ad,a=some ad∧w.cell? (ad.add j)=some (.string x)):RowS w a (zs.map (fun z=>z.data.toList)):=by
 intro x hb j hj
 have hj':j<zs.length:=by simpa using hj
 obtain ⟨ad,ha,hc⟩:=h j zs[j] (List.getElem?_eq_getElem hj')
 have hlt:=World.block_lt_of_cell? w _ hc
 have hlt2:ad.block<w.heap.size:=by rw [znX] at hlt;exact hlt
 refine ⟨ad,ha,hlt2,?_⟩
 rw [hb.cell hlt,hc]
 simp [List.getD,List.getElem?_map,List.getElem?_eq_getElem hj']
theorem RowS.keep {w x:World} {a:Option Addr} {ps:List (List UInt8)} (h:RowS w a ps) (hb:Below w.heap.size w x):RowS x a ps:=by
 intro y hy j hj
 obtain ⟨ad,ha,hlt,hc⟩:=h x hb j hj
 have hlt2:ad.block<x.heap.size:=Nat.lt_of_lt_of_le hlt hb.size
 exact ⟨ad,ha,hlt2,by rw [hy.cell (by rw [znX];exact hlt2),hc]⟩
theorem RowS.none_len {w:World} {ps:List (List UInt8)} (h:RowS w none ps):ps=[]:=by
 cases ps with
 |nil=>rfl
 |cons p ps=>
  obtain ⟨ad,ha,_⟩:=h w (Below.refl _ _) 0 (by simp)
  simp at ha
theorem zvG (w:World) (t:List UInt8):zaM w.heap.size (w.alloc (.cells #[.string ⟨t.toArray⟩] 9)) (.slice (some ⟨w.heap.size,0,none⟩) 1 1) [t]:=by
 have h:=World.ownsRow_lit (base:=w.heap.size) (e:=9) (size:=1) w #[.string ⟨t.toArray⟩] 1 (Nat.le_refl _) (by decide) rfl
 unfold zaM
 simpa [zdZ,strC] using h
theorem zuZ (w:World) {ops:Array Oper} {rest:List Oper} {o:Oper} {a:Act} {Q:Exit→Act→World→Prop} (hgd:o.guard=none) (s x:Operand)
  (ho:o.op= .call {callee:= .builtin .append,args:= #[s,x],argTypes:= #[22,22]})
  (base:Nat) (v:Value) (ma:Option Addr) (mc:Nat) (out ps:List (List UInt8)) (hs:a.eval s=v) (hown:zaM base w v out) (hx:a.eval x= .slice ma ps.length mc) (hmc:ma=none→mc=0) (hp:RowS w ma ps)
  (hl:out.length+ps.length≤8796093022208) (hbase:base≤w.heap.size)
  (h: ∀v' w',zaM base w' v' (out++ps)→w.grownBy w' v.ownBlock→(v'.ownBlock=v.ownBlock∨ ∃k,v'.ownBlock=some k∧w.heap.size≤k)→wpList Tryz.prog ops Q rest (a.put o.dst v') w'):wpList Tryz.prog ops Q (o::rest) a w:=by
 obtain ⟨i0,hi,hz0,hz1,hz2⟩:=info_parts Tryz.infoStr
 unfold zaM at hown
 cases ma with
 |none=>
  obtain rfl:=hp.none_len
  obtain rfl:=hmc rfl
  refine wpList_append_own_none hgd s x 22 ho base 9 i0 1 Tryz.underlying22 hi v out.length (zdZ out) hs hown hx (h _ _ ?_ (zqS _ _) (.inl rfl))
  rw [List.append_nil];exact hown
 |some ad=>
  refine wpList_append_own_at w hgd s x 22 ho base 9 i0 (.string ⟨#[]⟩) 1 16 Tryz.underlying22 hi hz0 hz1 hz2 rfl (by decide) v out.length (zdZ out) hs hown ad ps.length mc (zdZ ps) hx (by simp [zdZ]) (fun j u hj=> ?_) (fun u hu=> ?_) (by show _≤9223372036854775807;omega) (by omega) hbase (fun v' w' h1 h2 _ h4=>h v' w' ?_ h2 ?_)
  ·have hjl:j<ps.length:=by
    have:=(List.getElem?_eq_some_iff.1 hj).1
    simpa [zdZ] using this
   obtain ⟨ad',ha,_,hc⟩:=hp w (Below.refl _ _) j hjl
   obtain rfl:=Option.some.inj ha
   rw [hc]
   simp [zdZ,strC,List.getElem?_eq_getElem hjl] at hj
   rw [←hj]
   simp [List.getD,List.getElem?_eq_getElem hjl]
  ·simp only [zdZ,List.mem_map] at hu
   obtain ⟨q,_,rfl⟩:=hu
   rfl
  ·unfold zaM
   rw [zvS,List.length_append];exact h1
  ·rcases h4 with q|q
   ·exact .inl q
   ·exact .inr ⟨_,q,Nat.le_refl _⟩
end
end Go.Proofs.YtcagcjdhbijknaaGreatDoor
