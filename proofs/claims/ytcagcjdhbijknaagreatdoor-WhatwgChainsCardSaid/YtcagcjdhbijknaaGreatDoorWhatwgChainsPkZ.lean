/-
  What the law WhatwgChains leans on, and its walk (25 of 33).
-/
import Derived.Maps.AppendAt
import Derived.Deep.RegionHeld3
import Derived.Test.YtcagcjdhbijknaaGreatDoorWhatwgChainsPkX
import Derived.Test.YtcagcjdhbijknaaGreatDoorWhatwgChainsPkL
import Derived.Test.YtcagcjdhbijknaaGreatDoorWhatwgChainsPkY
import Derived.Test.YtcagcjdhbijknaaGreatDoorWhatwgChainsPkQ
import Derived.Test.YtcagcjdhbijknaaGreatDoorWhatwgChainsPkP
namespace Go.Proofs.YtcagcjdhbijknaaGreatDoor
set_option maxRecDepth 100000
set_option maxHeartbeats 16000000
theorem tkZ {P : Program} {md : Region.Mode} {ops : Array Oper} {Q : Exit → Act → World → Prop} {S : World → Prop} (i : Nat) (s : Option Nat) {op : Op} {ty : TypeId} {pos : String} {af : _} {gd : _} {v : Value} {fuel : Nat} {listed : Array Bool} {a : Act} {w : World} (hi : ops[i]? = some ⟨s, op, ty, pos, af, gd⟩)
 (hy : YieldsIf P ops S ⟨s, op, ty, pos, af, gd⟩ v a) (hS : S w)
 (h : wpAnyH P md ops Q S fuel (listed.setIfInBounds i true) (a.put s v) w)
 (hs : Region.noSelect ops = true := by kernel_rfl) (hf : Region.free md ops listed i = true := by kernel_rfl) (hr : (Region.ready md ops listed).contains i = true := by kernel_rfl)
 (hQ : ∀ c a w, Q (.panic c) (a.put s v) w → Q (.panic c) a w := by exact fun _ _ _ h => h) : wpAnyH P md ops Q S (fuel + 1) listed a w :=
 wpAnyH_take hi hs hf hr hQ hy hS h
theorem tkZa {α : Type _} (l : List α) (i : Nat) (a : α) : l.toArray.setIfInBounds i a = (l.set i a).toArray := List.setIfInBounds_toArray ..
theorem tkZb {α : Type _} (x y : α) (l : List α) : (x :: l).set 0 y = y :: l := rfl
theorem tkZc {α : Type _} (x y : α) (l : List α) (n : Nat) : (x :: l).set (n + 1) y = x :: l.set n y := rfl
abbrev yiF := @Lib.hid
abbrev yiG := @beq_eq_false_iff_ne
abbrev yiH := @Nat.le_refl
abbrev yiI := @decide_eq_false
abbrev yiJ := @decide_eq_true
abbrev yiK := @Go.RowKit.Below.refl
abbrev yiL := @List.mem_singleton
abbrev yiM := @List.mem_cons_self
section
open Go.RowKit
def PV (w:World) (v:Value) (ps:List (List UInt8)):Prop:=(ps=[]∧v= .slice none 0 0)∨ ∃g c,v= .slice (some ⟨g,0,none⟩) ps.length c∧ps.length≤c∧Seen w g ps
theorem PV.keep {w w':World} {v:Value} {ps:List (List UInt8)} (h:PV w v ps) (hb:Below w.heap.size w w'):PV w' v ps:=by
 rcases h with h|⟨g,c,h1,h2,h3⟩
 ·exact .inl h
 ·exact .inr ⟨g,c,h1,h2,h3.keep hb⟩
theorem zaM.cases {B:Nat} {w:World} {v:Value} {ps:List (List UInt8)} (h:zaM B w v ps):(ps=[]∧v= .slice none 0 0)∨ ∃g c,v= .slice (some ⟨g,0,none⟩) ps.length c∧ps.length≤c∧B≤g∧Seen w g ps:=by
 unfold zaM at h
 rcases h.2 with ⟨h1,h2⟩|⟨g,c,cur,h1,h2,h3,h4,h5,h6,h7⟩
 ·exact .inl ⟨List.eq_nil_of_length_eq_zero h2,h1⟩
 ·refine .inr ⟨g,c,h1,h4,h2,zaO h3,fun j hj=> ?_⟩
  have hq:(zdZ ps)[j]? =some (.string ⟨(ps.getD j []).toArray⟩):=by
   simp [zdZ,strC,List.getD,List.getElem?_eq_getElem hj]
  have:=h.cells (g:=g) (by rw [h1];rfl) j _ hq
  have e:(⟨g,0,none⟩:Addr).add j=⟨g,j,none⟩:=by simp [Addr.add];intro h;omega
  rw [e] at this
  exact this
theorem zaM.pv {B:Nat} {w:World} {v:Value} {ps:List (List UInt8)} (h:zaM B w v ps):PV w v ps:=by
 rcases h.cases with h|⟨g,c,h1,h2,_,h4⟩
 ·exact .inl h
 ·exact .inr ⟨g,c,h1,h2,h4⟩
theorem z3Q (ps:List (List UInt8)):(ps.map fun p=>(⟨p.toArray⟩:ByteArray)).map Value.string=zdZ ps:=by simp [zdZ,strC]
theorem zhL (v:Value) (ps:List (List UInt8)) (w:World) (h:PV w v ps) (hl:ps.length≤1000000):
  Calls Tryz.prog 50 #[v] w fun e w'=> ∃v',e= .returned v'∧zaM w.heap.size w' v' ps∧Below w.heap.size w w':=by
 rcases h with ⟨rfl,rfl⟩|⟨g,c,rfl,_,hs⟩
 ·refine (Tryz.slices_Clone_string_nil 0 0 w).mono ?_
  rintro e w' ⟨rfl,rfl⟩
  exact ⟨_,rfl,zaM.nil _ _,yiK _ _⟩
 ·refine (Tryz.slices_Clone_string g 0 ps.length c (ps.map fun p=>⟨p.toArray⟩) w (by simp) (by omega) (fun j hj=> ?_)).mono ?_
  ·rw [List.length_map] at hj
   rw [Nat.zero_add,hs.2 j hj]
   simp [List.getD,List.getElem?_eq_getElem hj]
  ·rintro e w' ⟨v',rfl,hown,_,hb⟩
   refine ⟨v',rfl,?_,hb⟩
   have e:((ps.map fun p=>(⟨p.toArray⟩:ByteArray)).take ps.length).map Value.string=zdZ ps:=by
    rw [List.take_of_length_le (by simp),z3Q]
   rw [e] at hown
   exact hown
theorem zqB {B:Nat} {w:World} {g n c:Nat} {ps:List (List UInt8)} (h:zaM B w (.slice (some ⟨g,0,none⟩) n c) ps):zaM B w (.slice (some ⟨g,0,none⟩) (n - 1:Nat) c) ps.dropLast:=by
 unfold zaM at*
 rcases h.2 with ⟨h1,h2⟩|⟨g',c',cur,h1,h2,h3,h4,h5,h6,h7⟩
 ·cases h1
 ·simp only [Value.slice.injEq,Option.some.injEq,Addr.mk.injEq,and_true] at h1
  obtain ⟨rfl,rfl,rfl⟩:=h1
  have e:zdZ ps.dropLast=(zdZ ps).take (ps.length - 1):=by
   unfold zdZ;rw [List.dropLast_eq_take,List.map_take]
  refine ⟨by simp [zdZ],.inr ⟨g,c,cur,by simp,h2,h3,by simp;omega,h5,h6,?_⟩⟩
  rw [e,←h7,List.take_take,List.length_dropLast]
  congr 1
  omega
theorem zqW (B:Nat) (v:Value) (ps:List (List UInt8)) (w:World) (h:zaM B w v ps) (hl:ps.length≤10000000):
  Calls Tryz.prog 51 #[v] w fun e w'=> ∃v',e= .returned v'∧zaM B w v' ps.dropLast∧v'.ownBlock=v.ownBlock∧w=w':=by
 rcases h.cases with ⟨rfl,rfl⟩|⟨g,c,rfl,hc,_,_⟩
 ·have hs: ∀W,(Instr.slice 22 (.slice none 0 0) none (some (.int .i64 0)) none).run Tryz.prog W= .ok (.slice none 0 0) W:=fun W=>by
   rw [run_slice_h W 22 none 0 0 (by simp [Program.elem,Tryz.underlying22]) .i64 _ (by omega) (by omega)]
   rfl
  go_enter Tryz.func51,Tryz.ntmps51
  go_wp2
  go_ret
  exact ⟨_,rfl,zaM.nil _ _,rfl,rfl⟩
 ·have HP:=yiF (zqB h)
  clear h
  generalize ps.length=n at*
  have hs: ∀W (k:Nat),k≤c→(Instr.slice 22 (.slice (some ⟨g,0,none⟩) n c) none (some (.int .i64 (k:Int))) none).run Tryz.prog W= .ok (.slice (some ⟨g,0,none⟩) k c) W:=fun W k hk=>by
   rw [run_slice_h W 22 (some ⟨g,0,none⟩) n c (by simp [Program.elem,Tryz.underlying22]) .i64 _ (by omega) (by omega)]
   go_simp
  match n,hc,hl,HP with
  |0,hc,hl,HP=>
   have hs0:=fun W=>hs W 0 (by omega)
   clear hs
   go_enter Tryz.func51,Tryz.ntmps51
   go_wp2
   go_ret
   exact ⟨_,rfl,HP.out,rfl,rfl⟩
  |n+1,hc,hl,HP=>
   have hs0:=fun W=>hs W n (by omega)
   have HP2:Hid (zaM B w (.slice (some ⟨g,0,none⟩) n c) ps.dropLast):=HP.out
   clear hs HP
   by_cases h0:n=0
   ·subst h0
    go_enter Tryz.func51,Tryz.ntmps51
    go_wp2
    go_ret
    exact ⟨_,rfl,HP2.out,rfl,rfl⟩
   ·have hd:0<n:=by omega
    go_enter Tryz.func51,Tryz.ntmps51
    go_wp2
    go_ret
    exact ⟨_,rfl,HP2.out,rfl,rfl⟩
theorem z6W (s old:ByteArray):Lib.countB s old≤s.size+1:=by
 have:=Lib.count_le s.data.toList old.data.toList
 rw [zaH] at this
 exact this
theorem z0X (l:List UInt8) (w:World) (hl:l.length≤1000000000) (hmax:MaxVar w):
  Calls Tryz.prog 93 #[.string ⟨l.toArray⟩,.string ⟨#[37,50,101]⟩,.string ⟨#[46]⟩] w (RetStr w (Lib.replaceAll l [37,50,101] [46])):=by
 obtain ⟨m,hm⟩:=hmax
 have hz:=zaA l
 have h1:=z6W ⟨l.toArray⟩ ⟨#[37,50,101]⟩
 have h2:(ByteArray.mk #[46]).size=1:=rfl
 exact Tryz.strings_ReplaceAll ⟨l.toArray⟩ ⟨#[37,50,101]⟩ ⟨#[46]⟩ m w (by omega) hm (by decide) (by rw [h2];omega)
theorem zgM {P:Program} (w:World) {ops:Array Oper} {rest:List Oper} {o:Oper} {a:Act} {Q:Exit→Act→World→Prop} (hgd:o.guard=none) (s x:Operand) (t:TypeId)
  (ho:o.op= .call {callee:= .builtin .append,args:= #[s,x],argTypes:= #[t,t]})
  (base:Nat) (e:TypeId) (i:TypeInfo) (z:Value) (bytes:Nat) (ht:P.underlying t=some (.slice e)) (hi:P.info? e=some i) (hz:i.zero=some z)
  (hsize:i.size=1) (hby:i.bytes=bytes) (hzs:z.cells.size=1)
  (v:Value) (n:Nat) (xs:List Value) (hs:a.eval s=v) (hown:w.ownsRow base e 1 v n xs) (u:Value) (hx:a.eval x= .slice (some ⟨w.heap.size,0,none⟩) 1 1) (hu:u.oneCell'=true)
  (h63:n+1≤9223372036854775807) (hbytes:(n+1)*bytes≤140737488355328) (hbase:base≤w.heap.size)
  (h: ∀v' w',w'.ownsRow base e 1 v' (n+1) (xs++[u])→w.grownBy w' v.ownBlock→(v'.ownBlock=v.ownBlock∨ ∃k,v'.ownBlock=some k∧w.heap.size≤k)→wpList P ops Q rest (a.put o.dst v') w'):wpList P ops Q (o::rest) a (w.alloc (.cells #[u] e)):=by
 refine wpList_append_own_at (w.alloc (.cells #[u] e)) hgd s x t ho base e i z 1 bytes ht hi hz hsize hby hzs (by decide) v n xs hs (hown.alloc _) ⟨w.heap.size,0,none⟩ 1 1 [u] hx rfl (zsB w u e) ?_ h63 hbytes (by simp;omega) ?_
 ·intro y hy;simp at hy;subst hy;exact hu
 ·intro v' w1 hown' hg _ hat
  refine h v' w1 hown' ⟨hg.os,hg.tape,hg.output,Nat.le_trans (by simp) hg.size,fun k hk hne=> ?_⟩ ?_
  ·exact (hg.block k (by simp;omega) hne).trans (((yiK _ w).alloc (yiH _) _).block k hk)
  ·rcases hat with q|q
   ·exact .inl q
   ·exact .inr ⟨_,q,by simp⟩
structure Segs (base:Nat) (x:World) (v0:Value) (y:World) (v:Value) (out:List (List UInt8)):Prop where
 own:zaM base y v out
 grown:x.grownBy y v0.ownBlock
 at_:v.ownBlock=v0.ownBlock∨ ∃b,v.ownBlock=some b∧x.heap.size≤b
theorem Segs.keep {base:Nat} {x:World} {v0:Value} {y z:World} {v:Value} {out:List (List UInt8)} (h:Segs base x v0 y v out) (hb:Below y.heap.size y z):Segs base x v0 z v out:=
 ⟨h.own.below hb,⟨hb.os.trans h.grown.os,hb.tape.trans h.grown.tape,hb.output.trans h.grown.output,Nat.le_trans h.grown.size hb.size,fun k hk hne=>(hb.block k (Nat.lt_of_lt_of_le hk h.grown.size)).trans (h.grown.block k hk hne)⟩,h.at_⟩
theorem Segs.app {base:Nat} {x:World} {v0:Value} {y z:World} {v v':Value} {out:List (List UInt8)} {q:List UInt8} (h:Segs base x v0 y v out) (hown:z.ownsRow base 9 1 v' (out.length+1) (zdZ out++[.string ⟨q.toArray⟩])) (hg:y.grownBy z v.ownBlock) (hat:v'.ownBlock=v.ownBlock∨ ∃k,v'.ownBlock=some k∧y.heap.size≤k):Segs base x v0 z v' (out++[q]):=by
 refine ⟨zaM.snoc hown rfl,⟨hg.os.trans h.grown.os,hg.tape.trans h.grown.tape,hg.output.trans h.grown.output,Nat.le_trans h.grown.size hg.size,fun k hk hne=> ?_⟩,?_⟩
 ·refine (hg.block k (Nat.lt_of_lt_of_le hk h.grown.size) (fun e=> ?_)).trans (h.grown.block k hk hne)
  rcases h.at_ with q|⟨b,q,hb⟩
  ·exact hne (e.trans q)
  ·rw [q] at e;have:=Option.some.inj e;omega
 ·rcases hat with q|⟨k,q,hk⟩
  ·rcases h.at_ with r|r
   ·exact .inl (q.trans r)
   ·exact .inr (by rw [q];exact r)
  ·exact .inr ⟨k,q,Nat.le_trans h.grown.size hk⟩
theorem Segs.drop {base:Nat} {x:World} {v0:Value} {y:World} {v v':Value} {out:List (List UInt8)} (h:Segs base x v0 y v out) (hp:zaM base y v' out.dropLast) (hb:v'.ownBlock=v.ownBlock):Segs base x v0 y v' out.dropLast:=
 ⟨hp,h.grown,by rw [hb];exact h.at_⟩
theorem Segs.block {base:Nat} {x:World} {v0:Value} {y:World} {v:Value} {out:List (List UInt8)} (h:Segs base x v0 y v out) (hv: ∀b,v0.ownBlock=some b→base≤b) {k:Nat} (hk:k<base) (hx:base≤x.heap.size):y.heap[k]? =x.heap[k]? :=
 h.grown.block k (by omega) (fun e=>by have:=hv k e.symm;omega)
theorem zqO {B:Nat} {w w':World} {v:Value} {ps:List (List UInt8)} (h:zaM B w v ps) (he: ∀b,v.ownBlock=some b→w'.heap[b]? =w.heap[b]?):zaM B w' v ps:=by
 unfold zaM at*
 refine ⟨h.1,?_⟩
 rcases h.2 with q|⟨g,cap,cur,e,hb,hg,r⟩
 ·exact .inl q
 ·exact .inr ⟨g,cap,cur,e,hb,(he g (by rw [e];rfl)).trans hg,r⟩
theorem zbU {B C:Nat} {w:World} {v:Value} {ps:List (List UInt8)} (h:zaM B w v ps) (hC:C≤B):zaM C w v ps:=by
 unfold zaM at*
 refine ⟨h.1,?_⟩
 rcases h.2 with q|⟨g,cap,cur,e,hb,r⟩
 ·exact .inl q
 ·exact .inr ⟨g,cap,cur,e,Nat.le_trans hC hb,r⟩
theorem zmC {w y:World} (h:MaxVar w) (he:y.heap[0]? =w.heap[0]?):MaxVar y:=by
 obtain ⟨m,hm⟩:=h
 exact ⟨m,(World.cell?_of_block (a:=⟨0,0,none⟩) he).trans hm⟩
theorem znW {w:World} (h:MaxVar w):0<w.heap.size:=by
 obtain ⟨m,hm⟩:=h
 exact World.block_lt_of_cell? w _ hm
theorem zvX {w:World} {M:Nat} {l:List UInt8} (h:MaxVar w) (hm:MB w M l):0≠M:=fun e=>by
 obtain ⟨m,hm2⟩:=h
 subst e
 rw [hm.cell] at hm2
 cases hm2
theorem znP {w y:World} {M:Nat} {l:List UInt8} (h:MaxVar w) (hm:MB w M l) (ho:Only [M] w y):MaxVar y:=
 zmC h (ho.block _ (znW h) (by rw [yiL];exact zvX h hm))
theorem zsJ {p:UInt8→Bool} {l x:List UInt8} (h:x∈zcL p l):x.length≤l.length:=by
 have h2:=(zwZ p l).2.1
 have key: ∀(ps:List (List UInt8)),x∈ps→x.length≤ziK ps:=by
  intro ps
  induction ps with
  |nil=>intro h;cases h
  |cons y r ih=>
   intro h
   have e:ziK (y::r)=y.length+ziK r:=by simp [ziK]
   rcases List.mem_cons.1 h with q|q
   ·rw [q,e];omega
   ·have:=ih q;rw [e];omega
 have:=key _ h
 omega
theorem zzG (st:Int) (l:List UInt8):(encW st l).length≤12*l.length:=by
 have h1:=zmJ st (scal ⟨l.toArray⟩) (scal ⟨l.toArray⟩).length
 rw [List.take_length] at h1
 have h2:=zzI ⟨l.toArray⟩
 rw [zaA] at h2
 unfold encW
 omega
theorem ycX {from_ out:List (List UInt8)} {ps:List (List UInt8)} {k:Nat} {p:List UInt8} (hk:k<ps.length) (hp:ps.getD k []=p) (h:goW from_ ps=goW out (ps.drop k)):goW from_ ps=goW (zhJ (decide (k+1=ps.length)) out (encW 4 p)) (ps.drop (k+1)):=by
 have e:ps.drop k=p::ps.drop (k+1):=by
  rw [List.drop_eq_getElem_cons hk]
  congr 1
  rw [←hp]
  simp [List.getD,List.getElem?_eq_getElem hk]
 have e2:(ps.drop (k+1)).isEmpty=decide (k+1=ps.length):=by
  rw [Bool.eq_iff_iff,List.isEmpty_iff,List.drop_eq_nil_iff,decide_eq_true_eq]
  omega
 rw [h,e,goW,e2]
theorem z7J {b:Bool} {out:List (List UInt8)} {q:List UInt8} (h:ptsW q=0):zhJ b out q=out++[q]:=by unfold zhJ;rw [if_pos h]
theorem zzK {out:List (List UInt8)} {q:List UInt8} (h:ptsW q=1):zhJ true out q=out++[[]]:=by unfold zhJ;rw [if_neg (by omega),if_pos rfl,if_neg (by omega)]
theorem z8G {out:List (List UInt8)} {q:List UInt8} (h:ptsW q=1):zhJ false out q=out:=by unfold zhJ;rw [if_neg (by omega),if_neg (by decide),if_neg (by omega)]
theorem zmW {out:List (List UInt8)} {q:List UInt8} (h:ptsW q=2):zhJ true out q=out.dropLast++[[]]:=by unfold zhJ;rw [if_neg (by omega),if_pos rfl,if_pos h]
theorem zrR {out:List (List UInt8)} {q:List UInt8} (h:ptsW q=2):zhJ false out q=out.dropLast:=by unfold zhJ;rw [if_neg (by omega),if_neg (by decide),if_pos h]
theorem zyB {k n:Nat}:((k:Int)==(n:Int) - 1)=decide (k+1=n):=by
 rw [Bool.eq_iff_iff,beq_iff_eq,decide_eq_true_eq];omega
def yfZ (w:World) (M:Nat) (ps:List (List UInt8)) (left:List UInt8) (e:Ending) (w':World):Prop:= ∃v',e= .returned v'∧zaM w.heap.size w' v' ps∧MB w' M left∧Only [M] w w'
theorem zrE (M:Nat) (l:List UInt8) (fv:Value) (from_:List (List UInt8)) (w:World) (hl:l.length≤1000000) (hfl:from_.length≤1000000) (hm:MB w M l) (hf:PV w fv from_) (hmax:MaxVar w):
  Calls Tryz.prog 48 #[.pointer (some ⟨M,0,none⟩),fv] w (yfZ w M (zjC from_ (l.take (l.findIdx (hasB [63,35])))) (l.drop (l.findIdx (hasB [63,35])))):=by
 obtain ⟨i0,hi,hz0,hz1,hz2⟩:=info_parts Tryz.infoStr
 have hMw:=zaO hm
 have HCL:=yiF (zhL fv from_ w hf hfl)
 have HM:=yiF hm
 have HX:=yiF hmax
 have hptl:(l.take (l.findIdx (hasB [63,35]))).length≤l.length:=by rw [List.length_take];omega
 have HU:=yiF (fun W (h:MB W M l)=>ziD [63,35] (by decide) M l W h)
 generalize l.take (l.findIdx (hasB [63,35]))=part at*
 generalize l.drop (l.findIdx (hasB [63,35]))=left at*
 have HSP:=yiF (fun W=>zfA ⟨part.toArray⟩ ⟨#[47,92]⟩ W (by rw [zaA];omega))
 rw [zaB part,zaB [47,92]] at HSP
 have HPW:Hid (zjC from_ part=goW from_ (zcL (hasB [47,92]) part)):=rfl
 have hsl:=zcN (hasB [47,92]) part
 have HPL:=yiF (fun x (h:x∈zcL (hasB [47,92]) part)=>zsJ h)
 have hne:=zlL (hasB [47,92]) part
 generalize zcL (hasB [47,92]) part=ps at*
 clear hm hf hmax
 go_enter Tryz.func48,Tryz.ntmps48
 go_wp2_with fail
 refine HCL.out.mono ?_
 rintro e x1 ⟨v0,rfl,hp0,hb1⟩
 have HU1:=yiF (HU.out _ (HM.out.below hb1))
 go_wp2_with fail
 refine (zoL [63,35] _).mono ?_
 rintro e x2 ⟨rfl,rfl⟩
 go_wp2_with fail
 refine HU1.out.mono ?_
 rintro e x3 ⟨rfl,hm3,ho3⟩
 go_wp2_with fail
 refine (HSP.out _).mono ?_
 rintro e x4 ⟨vp,rfl,hpp,hb4⟩
 obtain ⟨N,hN⟩: ∃N,ps.length=N:=⟨_,rfl⟩
 have hNp:0<N:=by rw [←hN];exact List.length_pos_iff.2 hne
 obtain ⟨gp,cp,rfl,hgB,hgs⟩: ∃gp cp,vp= .slice (some ⟨gp,0,none⟩) N cp∧x3.heap.size≤gp∧Seen x4 gp ps:=by
  rcases zaM.cases hpp with ⟨e,_⟩|⟨g,c,h1,h2,h3,h4⟩
  ·exact absurd e hne
  ·exact ⟨g,c,by rw [h1,hN],h3,h4⟩
 have hv0: ∀b,v0.ownBlock=some b→w.heap.size≤b∧b<x1.heap.size:=fun b hb=>World.ownsRow.lt hp0 b hb
 have hO1:Only [M] w x3:=(Only.of_below (F:=[M]) hb1).trans ho3 (fun x hx=> .inl hx)
 have hO4:Only [M] w x4:=hO1.then_below hb4
 have hs13:=ho3.size
 have hp3:zaM w.heap.size x3 v0 from_:=zqO hp0 (fun b hb=>ho3.block b (hv0 b hb).2 (by have:=(hv0 b hb).1;simp;omega))
 have HS0:Hid (Segs w.heap.size x4 v0 x4 v0 from_):=⟨hp3.below hb4,⟨rfl,rfl,rfl,yiH _,fun _ _ _=>rfl⟩,.inl rfl⟩
 have hw4:w.heap.size≤x4.heap.size:=hO4.size
 have HROW:Hid (∀y v out,Segs w.heap.size x4 v0 y v out→ ∀j,j<N→y.cell? ⟨gp,j,none⟩=some (.string ⟨(ps.getD j []).toArray⟩)):=fun y v out h j hj=>by
  refine (World.cell?_of_block (a:=⟨gp,j,none⟩) (h.grown.block gp hgs.1 (fun e=> ?_))).trans (hgs.2 j (by omega))
  have:=(hv0 gp e.symm).2
  have:=hb1.size
  omega
 have HMAX:Hid (∀y v out,Segs w.heap.size x4 v0 y v out→MaxVar y):=fun y v out h=>by
  refine zmC HX.out ((h.block (fun b hb=>(hv0 b hb).1) (znW HX.out) hw4).trans (hO4.block _ (znW HX.out) ?_))
  rw [yiL]
  exact zvX HX.out HM.out
 have HEND:Hid (∀y v out,Segs w.heap.size x4 v0 y v out→MB y M left∧Only [M] w y):=fun y v out h=>
  ⟨(h.block (fun b hb=>(hv0 b hb).1) hMw hw4).trans (hm3.below hb4),h.grown.os.trans hO4.os,h.grown.tape.trans hO4.tape,h.grown.output.trans hO4.output,Nat.le_trans hw4 h.grown.size,fun b hb hn=>(h.block (fun b hb=>(hv0 b hb).1) hb hw4).trans (hO4.block b hb hn)⟩
 rw [hN] at hsl
 have HN:=yiF hN
 clear HX HM HCL HU HU1 HSP hp0 hb1 hm3 ho3 hpp hb4 hgB hgs hv0 hO1 hO4 hs13 hp3 hne hN
 go_wp2
 go_loopw [5,18] (fun v i wr=> ∃(k:Nat) (out:List (List UInt8)),k≤N∧i= .int .i64 k∧Hid (Segs w.heap.size x4 v0 wr v out)∧out.length≤from_.length+k∧Hid (goW from_ ps=goW out (ps.drop k))) (fun _ i _=>N - (intOf i).toNat)
 case atStart=>exact ⟨0,from_,Nat.zero_le _,rfl,HS0,yiH _,rfl⟩
 case round=>
  obtain ⟨k,out,hk,rfl,HSG,hol,HS⟩:=hrel
  by_cases hlt:k<N
  ·have hcell:=HROW.out _ _ _ HSG.out k hlt
   obtain ⟨p,hp⟩: ∃p,ps.getD k []=p:=⟨_,rfl⟩
   rw [hp] at hcell
   have HST:=yiF (ycX (by rw [HN.out];exact hlt) hp HS.out)
   have hpl:p.length≤part.length:=HPL.out p (by
    have hkl:k<ps.length:=by rw [HN.out];exact hlt
    rw [←hp];simp only [List.getD,List.getElem?_eq_getElem hkl,Option.getD_some];exact List.getElem_mem hkl)
   rw [HN.out] at HST
   have hql:=zzG 4 p
   have HEN:=yiF (fun W=>zhF 4 p W (by decide) (by omega))
   have hp2:=yeJ (encW 4 p)
   have hp1:=yeF (encW 4 p)
   have hple:=ydI (encW 4 p)
   have hbl:((k:Int)==(N:Int) - 1)=decide (k+1=N):=zyB
   clear hp HS
   generalize encW 4 p=q at*
   have HLO:=yiF (fun W=>zuK ⟨q.toArray⟩ W (by rw [zaA];omega))
   rw [zaB] at HLO
   have HRE:=yiF (fun W (h:MaxVar W)=>z0X (zaX q) W (by rw [ziF];omega) h)
   generalize Lib.replaceAll (zaX q) [37,50,101] [46]=t at*
   go_wp2_with fail
   refine (HEN.out _).mono ?_
   rintro e y1 ⟨rfl,hy1⟩
   have HSG1:=yiF (HSG.out.keep hy1)
   clear HEN hy1 HSG
   go_wp2_with fail
   refine (HLO.out _).mono ?_
   rintro e y2 ⟨rfl,hy2⟩
   have HSG2:=yiF (HSG1.out.keep hy2)
   clear HLO hy2 HSG1
   go_wp2_with fail
   refine (HRE.out _ (HMAX.out _ _ _ HSG2.out)).mono ?_
   rintro e y3 ⟨rfl,hy3⟩
   have HSG3:=yiF (HSG2.out.keep hy3)
   have hsz:w.heap.size≤y3.heap.size:=Nat.le_trans hw4 HSG3.out.grown.size
   have hown:=HSG3.out.own
   unfold zaM at hown
   clear HRE hy3 HSG2 hcell
   rcases (show ptsW q=2∨ptsW q=1∨ptsW q=0 by omega) with h2|h1|h0
   ·obtain rfl:=hp2.1 h2
    have e2:(([46,46]:List UInt8)==[46,46])=true:=rfl
    have HWL:=yiF (zqW w.heap.size _ out y3 HSG3.out.own (by omega))
    by_cases hla:k+1=N
    ·rw [yiJ hla] at hbl HST
     rw [zmW h2] at HST
     clear hp2 hp1 h2
     go_wp2_with fail
     refine HWL.out.mono ?_
     rintro e w' ⟨v2,rfl,hpd,hbd,rfl⟩
     have HSG4:=yiF (HSG3.out.drop hpd hbd)
     have hdl:out.dropLast.length≤out.length:=by rw [List.length_dropLast];omega
     unfold zaM at hpd
     go_wp2_with (first|(at_builtin;refine zgM _ rfl _ _ 22 rfl w.heap.size 9 i0 (.string ⟨#[]⟩) 16 Tryz.underlying22 hi hz0 hz1 hz2 rfl _ _ _ rfl hpd (.string ⟨#[]⟩) rfl rfl (by omega) (by omega) hsz ?_;intro v' w1 hown' hgr' hat')|go_in)
     go_roundw
     case rel=>exact ⟨k+1,out.dropLast++[[]],by omega,by go_num,HSG4.out.app hown' hgr' hat',by simp;omega,HST.out⟩
     case measure=>simp [intOf];omega
    ·rw [yiI hla] at hbl HST
     rw [zrR h2] at HST
     clear hp2 hp1 h2
     go_wp2_with fail
     refine HWL.out.mono ?_
     rintro e w' ⟨v2,rfl,hpd,hbd,rfl⟩
     have HSG4:=yiF (HSG3.out.drop hpd hbd)
     have hdl:out.dropLast.length≤out.length:=by rw [List.length_dropLast];omega
     go_wp2
     go_roundw
     case rel=>exact ⟨k+1,out.dropLast,by omega,by go_num,HSG4.out,by omega,HST.out⟩
     case measure=>simp [intOf];omega
   ·obtain rfl:=hp1.1 h1
    have e1:(([46]:List UInt8)==[46,46])=false:=rfl
    have e2:(([46]:List UInt8)==[46])=true:=rfl
    by_cases hla:k+1=N
    ·rw [yiJ hla] at hbl HST
     rw [zzK h1] at HST
     clear hp2 hp1 h1
     go_wp2_with (first|(at_builtin;refine zgM _ rfl _ _ 22 rfl w.heap.size 9 i0 (.string ⟨#[]⟩) 16 Tryz.underlying22 hi hz0 hz1 hz2 rfl _ _ _ rfl hown (.string ⟨#[]⟩) rfl rfl (by omega) (by omega) hsz ?_;intro v' w1 hown' hgr' hat')|go_in)
     go_roundw
     case rel=>exact ⟨k+1,out++[[]],by omega,by go_num,HSG3.out.app hown' hgr' hat',by simp;omega,HST.out⟩
     case measure=>simp [intOf];omega
    ·rw [yiI hla] at hbl HST
     rw [z8G h1] at HST
     clear hp2 hp1 h1
     go_wp2
     go_roundw
     case rel=>exact ⟨k+1,out,by omega,by go_num,HSG3.out,by omega,HST.out⟩
     case measure=>simp [intOf];omega
   ·have e1:(t==[46,46])=false:=by rw [yiG];intro g;have:=hp2.2 g;omega
    have e2:(t==[46])=false:=by rw [yiG];intro g;have:=hp1.2 g;omega
    rw [z7J h0] at HST
    clear hp2 hp1 h0
    go_wp2_with (first|(at_builtin;refine zgM _ rfl _ _ 22 rfl w.heap.size 9 i0 (.string ⟨#[]⟩) 16 Tryz.underlying22 hi hz0 hz1 hz2 rfl _ _ _ rfl hown (.string ⟨q.toArray⟩) rfl rfl (by omega) (by omega) hsz ?_;intro v' w1 hown' hgr' hat')|go_in)
    go_roundw
    case rel=>exact ⟨k+1,out++[q],by omega,by go_num,HSG3.out.app hown' hgr' hat',by simp;omega,HST.out⟩
    case measure=>simp [intOf];omega
  ·have hkN:k=N:=by omega
   have HF:Hid (goW from_ ps=out):=by show _=_;rw [HS.out,List.drop_eq_nil_of_le (by rw [HN.out];omega)];rfl
   clear HS
   go_wp2
   go_ret
   exact ⟨_,rfl,by rw [HPW.out,HF.out];exact HSG.out.own,HEND.out _ _ _ HSG.out⟩
theorem zaP {x:World} {g:Nat} {c0 c1 c2 c3 c4 c5 c6 c7 c8 c9:Value} {t:TypeId} (h:x.heap[g]? =some (.cells #[c0,c1,c2,c3,c4,c5,c6,c7,c8,c9] t (0,0))):x.cell? ⟨g,0,none⟩=some c0∧x.cell? ⟨g,1,none⟩=some c1∧x.cell? ⟨g,2,none⟩=some c2∧x.cell? ⟨g,3,none⟩=some c3∧x.cell? ⟨g,4,none⟩=some c4∧x.cell? ⟨g,5,none⟩=some c5∧x.cell? ⟨g,6,none⟩=some c6∧x.cell? ⟨g,7,none⟩=some c7∧x.cell? ⟨g,8,none⟩=some c8∧x.cell? ⟨g,9,none⟩=some c9∧ ∀i,x.frozen? ⟨g,i,none⟩=false:=by
 refine ⟨?_,?_,?_,?_,?_,?_,?_,?_,?_,?_,zeL h⟩<;>rw [cell_of_row x _ _ _ _ _ h]<;>rfl
theorem zeG {x:World} {g:Nat} {c0 c1 c2 c3 c4 c5 c6 c7 c8 c9:Value} {t:TypeId} (h:x.heap[g]? =some (.cells #[c0,c1,c2,c3,c4,c5,c6,c7,c8,c9] t)) (a0 a1 a2 a3 a4 a5 a6 a7 a8 a9:Value):((((((((((x.setCell ⟨g,0,none⟩ a0).setCell ⟨g,1,none⟩ a1).setCell ⟨g,2,none⟩ a2).setCell ⟨g,3,none⟩ a3).setCell ⟨g,4,none⟩ a4).setCell ⟨g,5,none⟩ a5).setCell ⟨g,6,none⟩ a6).setCell ⟨g,7,none⟩ a7).setCell ⟨g,8,none⟩ a8).setCell ⟨g,9,none⟩ a9).heap[g]? =some (.cells #[a0,a1,a2,a3,a4,a5,a6,a7,a8,a9] t):=by
 have:=zaF (zaF (zaF (zaF (zaF (zaF (zaF (zaF (zaF (zaF h 0 a0) 1 a1) 2 a2) 3 a3) 4 a4) 5 a5) 6 a6) 7 a7) 8 a8) 9 a9
 simpa using this
theorem zdW {w x:World} {g B:Nat} (h:Below B w x) (hg:B≤g) (a0 a1 a2 a3 a4 a5 a6 a7 a8 a9:Value):Below B w ((((((((((x.setCell ⟨g,0,none⟩ a0).setCell ⟨g,1,none⟩ a1).setCell ⟨g,2,none⟩ a2).setCell ⟨g,3,none⟩ a3).setCell ⟨g,4,none⟩ a4).setCell ⟨g,5,none⟩ a5).setCell ⟨g,6,none⟩ a6).setCell ⟨g,7,none⟩ a7).setCell ⟨g,8,none⟩ a8).setCell ⟨g,9,none⟩ a9):=
 (((((((((h.setCell (p:=⟨g,0,none⟩) hg _).setCell (p:=⟨g,1,none⟩) hg _).setCell (p:=⟨g,2,none⟩) hg _).setCell (p:=⟨g,3,none⟩) hg _).setCell (p:=⟨g,4,none⟩) hg _).setCell (p:=⟨g,5,none⟩) hg _).setCell (p:=⟨g,6,none⟩) hg _).setCell (p:=⟨g,7,none⟩) hg _).setCell (p:=⟨g,8,none⟩) hg _).setCell (p:=⟨g,9,none⟩) hg _
theorem zcK {w x:World} {g:Nat} {F:List Nat} (h:Only F w x) (hg:g∈F∨w.heap.size≤g) (a0 a1 a2 a3 a4 a5 a6 a7 a8 a9:Value):Only F w ((((((((((x.setCell ⟨g,0,none⟩ a0).setCell ⟨g,1,none⟩ a1).setCell ⟨g,2,none⟩ a2).setCell ⟨g,3,none⟩ a3).setCell ⟨g,4,none⟩ a4).setCell ⟨g,5,none⟩ a5).setCell ⟨g,6,none⟩ a6).setCell ⟨g,7,none⟩ a7).setCell ⟨g,8,none⟩ a8).setCell ⟨g,9,none⟩ a9):=
 (((((((((h.setCell (p:=⟨g,0,none⟩) hg _).setCell (p:=⟨g,1,none⟩) hg _).setCell (p:=⟨g,2,none⟩) hg _).setCell (p:=⟨g,3,none⟩) hg _).setCell (p:=⟨g,4,none⟩) hg _).setCell (p:=⟨g,5,none⟩) hg _).setCell (p:=⟨g,6,none⟩) hg _).setCell (p:=⟨g,7,none⟩) hg _).setCell (p:=⟨g,8,none⟩) hg _).setCell (p:=⟨g,9,none⟩) hg _
def zbH:Array Value:= #[.string ⟨#[]⟩,.string ⟨#[]⟩,.string ⟨#[]⟩,.nilIface,.int .i64 0,.slice none 0 0,.string ⟨#[]⟩,.bool false,.string ⟨#[]⟩,.bool false]
theorem zwG:zbX.cells (.slice none 0 0)=zbH:=rfl
def RetURL (w:World) (x:UZ×Int) (pv:Value) (e:Ending) (w':World):Prop:=e= .returned (.tuple #[.agg (x.1.cells pv),.int .i64 x.2])∧Below w.heap.size w w'
theorem who_at (a:List UInt8): ∃(z:Int) (m r:Nat),Lib.lastIndexByte ⟨a.toArray⟩ 64=z∧max z 0=(m:Int)∧z+1=(r:Int)∧ -1≤z∧m≤a.length∧r≤a.length∧ziZ a=encW 5 (Lib.cut (a.take m) [58]).1∧zjB a=encW 5 (Lib.cut (a.take m) [58]).2.1∧zcH a=a.drop r:=by
 rcases yeY a with ⟨h1,h2⟩|⟨i,hi,h1,h2⟩
 ·obtain ⟨e1,e2,e3⟩:=zvF a h2
  exact ⟨-1,0,0,h1,by omega,rfl,by omega,Nat.zero_le _,Nat.zero_le _,e1,e2,e3⟩
 ·obtain ⟨e1,e2,e3⟩:=ybZ a h2
  exact ⟨i,i,i+1,h1,by omega,by omega,by omega,by omega,by omega,e1,e2,e3⟩
theorem zvP (l:List UInt8):(Lib.cut l [58]).1.length≤l.length∧(Lib.cut l [58]).2.1.length≤l.length:=by
 rw [zzR]
 simp only [List.length_take,List.length_drop]
 omega
theorem z0D: ∀(l:List UInt8) (i:Bool),(hpW i l).1.length≤l.length∧(hpW i l).2.length≤l.length
 |[],i=>by simp [hpW]
 |c::r,i=>by
  rw [zhG]
  split
  ·simp
  ·have:=z0D r (if c=91 then true else if c=93 then false else i)
   simp only [List.length_cons]
   omega
theorem z9L (l:List UInt8):(if hd1 [58] (l.drop (zdJ zhZ false l))=true then (l.drop (zdJ zhZ false l)).drop 1 else l.drop (zdJ zhZ false l))=(hpW false l).2:=by
 have h1:=(zhE l false).2.1
 have h2:=(zhE l false).2.2
 generalize zdJ zhZ false l=n at*
 by_cases hn:n<l.length
 ·rw [zoB,if_pos]
  ·exact h1
  ·rw [List.head?_drop,yiJ (h2 hn)]
 ·have e:l.drop n=[]:=List.drop_eq_nil_of_le (by omega)
  rw [e] at h1 ⊢
  exact h1
theorem z7Q {l:List UInt8} (h:(zeM l).2≠0):(zeM l).1= .none:=z0A h
def RB (w:World) (R:Nat):Prop:= ∃c0 c1 c2 c3 c4 c5 c6 c7 c8 c9,w.heap[R]? =some (.cells #[c0,c1,c2,c3,c4,c5,c6,c7,c8,c9] 28)
theorem RB.below {w w':World} {R:Nat} (h:RB w R) (hb:Below w.heap.size w w'):RB w' R:=by
 obtain ⟨c0,c1,c2,c3,c4,c5,c6,c7,c8,c9,h⟩:=h
 exact ⟨c0,c1,c2,c3,c4,c5,c6,c7,c8,c9,(hb.block R (zaO h)).trans h⟩
theorem RB.lt {w:World} {R:Nat} (h:RB w R):R<w.heap.size:=by
 obtain ⟨c0,c1,c2,c3,c4,c5,c6,c7,c8,c9,h⟩:=h
 exact zaO h
theorem RB.only {w w':World} {R:Nat} {F:List Nat} (h:RB w R) (ho:Only F w w') (hR:R∉F):RB w' R:=by
 obtain ⟨c0,c1,c2,c3,c4,c5,c6,c7,c8,c9,h⟩:=h
 exact ⟨c0,c1,c2,c3,c4,c5,c6,c7,c8,c9,(ho.block R (zaO h) hR).trans h⟩
theorem UB.rb {w:World} {U:Nat} {u:UZ} {pv:Value} (h:UB w U u pv):RB w U:=⟨_,_,_,_,_,_,_,_,_,_,h⟩
theorem RB.new (w:World):RB (w.alloc (.cells zbH 28)) w.heap.size:=⟨_,_,_,_,_,_,_,_,_,_,heap_alloc_new w _⟩
theorem UB.who {w:World} {U:Nat} {u:UZ} {pv:Value} (h:UB w U u pv) (a:List UInt8):UB (w.setCell ⟨U,1,none⟩ (.string ⟨a.toArray⟩)) U {u with user:=a} pv:=zaF h 1 _
theorem UB.pwd {w:World} {U:Nat} {u:UZ} {pv:Value} (h:UB w U u pv) (a:List UInt8):UB (w.setCell ⟨U,2,none⟩ (.string ⟨a.toArray⟩)) U {u with pass:=a} pv:=zaF h 2 _
theorem UB.pth {w:World} {U:Nat} {u:UZ} {pv:Value} (h:UB w U u pv) (v:Value):UB (w.setCell ⟨U,5,none⟩ v) U u v:=zaF h 5 _
theorem RB.set {w:World} {R g i:Nat} (h:RB w R) (hne:R≠g) (v:Value):RB (w.setCell ⟨g,i,none⟩ v) R:=by
 obtain ⟨c0,c1,c2,c3,c4,c5,c6,c7,c8,c9,h⟩:=h
 exact ⟨c0,c1,c2,c3,c4,c5,c6,c7,c8,c9,(zaZ hne i v).trans h⟩
theorem UB.all {w:World} {U:Nat} {u:UZ} {pv:Value} (h:UB w U u pv):w.cell? ⟨U,0,none⟩=some (.string ⟨u.scheme.toArray⟩)∧w.cell? ⟨U,1,none⟩=some (.string ⟨u.user.toArray⟩)∧w.cell? ⟨U,2,none⟩=some (.string ⟨u.pass.toArray⟩)∧w.cell? ⟨U,3,none⟩=some u.host.val∧w.cell? ⟨U,4,none⟩=some (.int .i64 u.port)∧w.cell? ⟨U,5,none⟩=some pv∧w.cell? ⟨U,6,none⟩=some (.string ⟨u.query.toArray⟩)∧w.cell? ⟨U,7,none⟩=some (.bool u.hasQ)∧w.cell? ⟨U,8,none⟩=some (.string ⟨u.frag.toArray⟩)∧w.cell? ⟨U,9,none⟩=some (.bool u.hasF)∧ ∀i,w.frozen? ⟨U,i,none⟩=false:=zaP h
theorem UB.new (x:World) (u:UZ) (pv:Value):UB (x.alloc (.cells (u.cells pv) 28)) x.heap.size u pv:=heap_alloc_new x _
theorem zbQ (x:World) (cs:Array Value):Below x.heap.size x (x.alloc (.cells cs 28)):=(yiK _ x).alloc (yiH _) _
theorem zuA (a name:List UInt8) (w:World) (hl:a.length≤1000000) (hmax:MaxVar w):
  Calls Tryz.prog 46 #[.string ⟨a.toArray⟩,.string ⟨name.toArray⟩] w (RetURL w (zlR name a) (.slice none 0 0)):=by
 obtain ⟨z,m,r,hz,hzm,hzr,hz1,hm,hr,hu,hp,hb⟩:=who_at a
 have hs1:=zkE a m hm
 have hs2: ∀W,(Instr.slice 9 (.string ⟨a.toArray⟩) (some (.int .i64 (z+1))) none none).run Tryz.prog W= .ok (.string ⟨(a.drop r).toArray⟩) W:=by rw [hzr];exact zfD a r hr
 have hzs:(ByteArray.mk a.toArray).size=a.length:=zaA a
 have HLI:Hid (∀W,Calls Tryz.prog 86 #[.string ⟨a.toArray⟩,.int .u8 64] W fun e w'=>e= .returned (.int .i64 z)∧W=w'):=fun W=>(Tryz.strings_LastIndexByte ⟨a.toArray⟩ 64 (by omega) W).mono (fun e w' h=>⟨by rw [h.1,hz],h.2.symm⟩)
 have htl:(a.take m).length≤a.length:=by rw [List.length_take];omega
 have hc1:=(zvP (a.take m)).1
 have hc2:=(zvP (a.take m)).2
 have HCU:Hid (∀W,MaxVar W→Calls Tryz.prog 87 #[.string ⟨(a.take m).toArray⟩,.string ⟨#[58]⟩] W fun e w'=>e= .returned (.tuple #[.string ⟨(Lib.cut (a.take m) [58]).1.toArray⟩,.string ⟨(Lib.cut (a.take m) [58]).2.1.toArray⟩,.bool (Lib.cut (a.take m) [58]).2.2])∧Below W.heap.size W w'):=fun W hW=>by
  obtain ⟨mm,hmm⟩:=hW
  exact (Tryz.strings_Cut ⟨(a.take m).toArray⟩ ⟨#[58]⟩ mm W (by rw [zaA];omega) hmm).mono (fun e w' h=>⟨h.1,by obtain ⟨n,rfl⟩:=h.2;exact zaU (yiK _ _) n⟩)
 have HUS:=yiF (fun W=>zhF 5 (Lib.cut (a.take m) [58]).1 W (by decide) (by omega))
 have HPS:=yiF (fun W=>zhF 5 (Lib.cut (a.take m) [58]).2.1 W (by decide) (by omega))
 rw [←hu] at HUS
 rw [←hp] at HPS
 generalize Lib.cut (a.take m) [58]=cu at*
 generalize a.take m=ta at*
 have hbl:(a.drop r).length≤a.length:=by rw [List.length_drop];omega
 have HRC:Hid (zlR name a=if (zeM (hpW false (a.drop r)).1).2≠0 then (zbX,(zeM (hpW false (a.drop r)).1).2) else if (zhO name (hpW false (a.drop r)).2).2=false then (zbX,8) else ({zbX with scheme:=name,user:=ziZ a,pass:=zjB a,host:=(zeM (hpW false (a.drop r)).1).1,port:=(zhO name (hpW false (a.drop r)).2).1},0)):=by show _=_;rw [←hb];rfl
 have hh1:=(z0D (a.drop r) false).1
 have hh2:=(z0D (a.drop r) false).2
 have HMH:=yiF (fun M W (h:MB W M (a.drop r))=>z5M M (a.drop r) W h)
 have HSK:=yiF (fun M W (h:MB W M ((a.drop r).drop (zdJ zhZ false (a.drop r))))=>zhT M _ [58] W h)
 rw [z9L] at HSK
 generalize (a.drop r).drop (zdJ zhZ false (a.drop r))=l1 at*
 generalize hd1 [58] l1=kb at*
 generalize ziZ a=us at*
 generalize zjB a=pw at*
 generalize hpW false (a.drop r)=hp2 at*
 generalize a.drop r=bh at*
 have HHP:=yiF (fun W (h:MaxVar W)=>zrS ⟨hp2.1.toArray⟩ W (by rw [zaA];omega) h)
 rw [zaB] at HHP
 have hhe:=z7Q (l:=hp2.1)
 have HRP:=yiF (fun W=>ztV name hp2.2 W)
 have HX:=yiF hmax
 obtain ⟨x0,hx0⟩: ∃y,y=w.alloc (.cells zbH 28):=⟨_,rfl⟩
 have HB0:Hid (Below w.heap.size w x0):=by show Below _ _ _;rw [hx0];exact (yiK _ w).alloc (yiH _) _
 have HR0:Hid (RB x0 w.heap.size):=by show RB _ _;rw [hx0];exact RB.new w
 have HX0:=yiF (zaG hmax HB0.out)
 unfold zbH at hx0
 clear hmax hz hb hu hp hzr
 go_enter Tryz.func46,Tryz.ntmps46
 go_wp2_with fail
 rw [←hx0]
 clear hx0
 refine (HLI.out _).mono ?_
 rintro e w' ⟨rfl,rfl⟩
 go_wp2_with fail
 refine (HCU.out _ HX0.out).mono ?_
 rintro e x1 ⟨rfl,hb1⟩
 have HB1:=yiF (zaC HB0.out hb1)
 have HR1:=yiF (HR0.out.below hb1)
 clear hb1 HB0 HR0 HCU HLI HX0
 obtain ⟨x2,hx2⟩: ∃y,y=x1.alloc (.cells #[.string ⟨bh.toArray⟩] 53):=⟨_,rfl⟩
 have hb2:Below x1.heap.size x1 x2:=by rw [hx2];exact (yiK _ _).alloc (yiH _) _
 have HB2:=yiF (zaC HB1.out hb2)
 have HR2:=yiF (HR1.out.below hb2)
 have hM2:MB x2 x1.heap.size bh:=by rw [hx2];exact heap_alloc_new x1 _
 have HMH2:=yiF (HMH.out _ _ hM2)
 have hRM:w.heap.size≠x1.heap.size:=by have:=HR1.out.lt;omega
 have hwM:w.heap.size≤x1.heap.size:=HB1.out.size
 clear hb2 HB1 HR1 HMH hM2
 go_wp2_with fail
 rw [←hx2]
 clear hx2
 refine HMH2.out.mono ?_
 rintro e x3 ⟨rfl,hm3,ho3⟩
 have HB3:=yiF (HB2.out.trans (ho3.below HB2.out.size (fun x hx=>by rw [List.mem_singleton.1 hx];exact hwM)))
 have HR3:=yiF (HR2.out.only ho3 (by simp [hRM]))
 have HM3:=yiF hm3
 clear ho3 hm3 HMH2 HB2 HR2
 go_wp2_with fail
 refine (HHP.out _ (zaG HX.out HB3.out)).mono ?_
 rintro e x4 ⟨rfl,hb4⟩
 have HB4:=yiF (zaC HB3.out hb4)
 have HR4:=yiF (HR3.out.below hb4)
 have HM4:=yiF (HM3.out.below hb4)
 clear HB3 HR3 HM3 hb4 HHP HX
 have hok:=znB (l:=hp2.1)
 generalize zeM hp2.1=hz at*
 obtain ⟨h,he⟩:=hz
 simp only at hhe hok HRC ⊢
 by_cases h0:he=0
 ·obtain ⟨it,iv,hiv⟩:=HZ.iface (hok h0).ne
  rw [hiv]
  have HIV:=yiF hiv
  clear hiv hok
  have HRC2:=yiF (HRC.out.trans (if_neg (fun g=>g h0)))
  have hd0:(he !=(0:Int))=false:=by rw [h0];rfl
  clear hhe HRC h0
  have HSK4:=yiF (HSK.out _ _ HM4.out)
  go_wp2_with fail
  refine HSK4.out.mono ?_
  rintro e x5 ⟨rfl,hm5,ho5⟩
  have HB5:=yiF (HB4.out.trans (ho5.below HB4.out.size (fun x hx=>by rw [List.mem_singleton.1 hx];exact hwM)))
  have HR5:=yiF (HR4.out.only ho5 (by simp [hRM]))
  have c5:=hm5.cell
  clear ho5 hm5 HB4 HR4 HM4 HSK HSK4
  go_wp2_with fail
  refine (HRP.out _).mono ?_
  rintro e x6 ⟨rfl,hb6⟩
  have HB6:=yiF (zaC HB5.out hb6)
  have HR6:=yiF (HR5.out.below hb6)
  clear HB5 HR5 hb6 HRP c5
  generalize zhO name hp2.2=po at*
  obtain ⟨pn,pb⟩:=po
  simp only at HRC2 ⊢
  cases pb with
  |false=>
   have HRC3:=yiF (HRC2.out.trans (if_pos rfl))
   obtain ⟨c0,c1,c2,c3,c4,c5,c6,c7,c8,c9,hrow⟩:=HR6.out
   have HRW:=yiF hrow
   obtain ⟨k0,k1,k2,k3,k4,k5,k6,k7,k8,k9,kf⟩:=zaP hrow
   clear hrow HR6 HRC2 HUS HPS
   have HEND:=yiF (zeG HRW.out (.string ⟨#[]⟩) (.string ⟨#[]⟩) (.string ⟨#[]⟩) .nilIface (.int .i64 0) (.slice none 0 0) (.string ⟨#[]⟩) (.bool false) (.string ⟨#[]⟩) (.bool false))
   have HEB:=yiF (zdW HB6.out (yiH _) (.string ⟨#[]⟩) (.string ⟨#[]⟩) (.string ⟨#[]⟩) .nilIface (.int .i64 0) (.slice none 0 0) (.string ⟨#[]⟩) (.bool false) (.string ⟨#[]⟩) (.bool false))
   go_wp2
   obtain ⟨e0,e1,e2,e3,e4,e5,e6,e7,e8,e9,-⟩:=zaP HEND.out
   refine bodyPost_ret (v:= .tuple #[.agg zbH,.int .i64 8]) (by simp [results,Tryz.results46,go_sem,e0,e1,e2,e3,e4,e5,e6,e7,e8,e9,zbH]) rfl ?_
   rw [HRC3.out]
   exact ⟨rfl,HEB.out⟩
  |true=>
   have HRC3:=yiF (HRC2.out.trans (if_neg (by decide)))
   clear HRC2
   obtain ⟨x7,hx7⟩: ∃y,y=x6.alloc (.cells #[.string ⟨name.toArray⟩,.string ⟨#[]⟩,.string ⟨#[]⟩,(.iface it iv),.int .i64 pn,.slice none 0 0,.string ⟨#[]⟩,.bool false,.string ⟨#[]⟩,.bool false] 28):=⟨_,rfl⟩
   have hU7:UB x7 x6.heap.size {zbX with scheme:=name,host:=h,port:=pn} (.slice none 0 0):=by rw [hx7,←HIV.out];exact heap_alloc_new x6 _
   have hb7:Below x6.heap.size x6 x7:=by rw [hx7];exact zbQ x6 _
   have HB7:=yiF (zaC HB6.out hb7)
   have HR7:=yiF (HR6.out.below hb7)
   have HU7:=yiF hU7
   have hgw:w.heap.size≤x6.heap.size:=HB6.out.size
   have hgR:w.heap.size≠x6.heap.size:=by have:=HR6.out.lt;omega
   clear HB6 HR6 hb7 hU7
   go_wp2_with fail
   rw [←hx7]
   clear hx7
   generalize x6.heap.size=g at*
   refine (HUS.out _).mono ?_
   rintro e x8 ⟨rfl,hb8⟩
   have HB8:=yiF (zaC HB7.out hb8)
   have HR8:=yiF (HR7.out.below hb8)
   have HU8:=yiF (HU7.out.below hb8)
   obtain ⟨-,c1,-,-,-,-,-,-,-,-,f8⟩:=HU8.out.all
   have f81:=f8 1
   have HB9:=yiF (HB8.out.setCell (p:=⟨g,1,none⟩) hgw (.string ⟨us.toArray⟩))
   have HR9:=yiF (HR8.out.set (i:=1) hgR (.string ⟨us.toArray⟩))
   have HU9:=yiF (HU8.out.who us)
   clear hb8 HB7 HR7 HU7 HB8 HR8 HU8 HUS f8
   go_wp2_with fail
   clear c1 f81
   generalize x8.setCell ⟨g,1,none⟩ (.string ⟨us.toArray⟩)=x9 at*
   refine (HPS.out _).mono ?_
   rintro e y8 ⟨rfl,hb8⟩
   have HB8:=yiF (zaC HB9.out hb8)
   have HR8:=yiF (HR9.out.below hb8)
   have HU8:=yiF (HU9.out.below hb8)
   obtain ⟨-,-,c2,-,-,-,-,-,-,-,f8⟩:=HU8.out.all
   have f82:=f8 2
   have HBA:=yiF (HB8.out.setCell (p:=⟨g,2,none⟩) hgw (.string ⟨pw.toArray⟩))
   have HRA:=HR8.out.set (i:=2) hgR (.string ⟨pw.toArray⟩)
   have HUA:=HU8.out.pwd pw
   have HUL:(y8.setCell ⟨g,2,none⟩ (.string ⟨pw.toArray⟩)).heap[g]? =some (.cells #[.string ⟨name.toArray⟩,.string ⟨us.toArray⟩,.string ⟨pw.toArray⟩,(.iface it iv),.int .i64 pn,.slice none 0 0,.string ⟨#[]⟩,.bool false,.string ⟨#[]⟩,.bool false] 28):=by rw [←HIV.out];exact HUA
   obtain ⟨d0,d1,d2,d3,d4,d5,d6,d7,d8,d9,-⟩:=zaP HUL
   obtain ⟨c0,c1,c2',c3,c4,c5,c6,c7,c8,c9,hrow⟩:=HRA
   have HRW:=yiF hrow
   obtain ⟨k0,k1,k2,k3,k4,k5,k6,k7,k8,k9,kf⟩:=zaP hrow
   clear hrow hb8 HB9 HR9 HU9 HB8 HR8 HU8 HPS f8 HUA HUL
   have HEND:=yiF (zeG HRW.out (.string ⟨name.toArray⟩) (.string ⟨us.toArray⟩) (.string ⟨pw.toArray⟩) (.iface it iv) (.int .i64 pn) (.slice none 0 0) (.string ⟨#[]⟩) (.bool false) (.string ⟨#[]⟩) (.bool false))
   have HEB:=yiF (zdW HBA.out (yiH _) (.string ⟨name.toArray⟩) (.string ⟨us.toArray⟩) (.string ⟨pw.toArray⟩) (.iface it iv) (.int .i64 pn) (.slice none 0 0) (.string ⟨#[]⟩) (.bool false) (.string ⟨#[]⟩) (.bool false))
   go_wp2
   obtain ⟨e0,e1,e2,e3,e4,e5,e6,e7,e8,e9,-⟩:=zaP HEND.out
   refine bodyPost_ret (v:= .tuple #[.agg #[.string ⟨name.toArray⟩,.string ⟨us.toArray⟩,.string ⟨pw.toArray⟩,(.iface it iv),.int .i64 pn,.slice none 0 0,.string ⟨#[]⟩,.bool false,.string ⟨#[]⟩,.bool false],.int .i64 0]) (by simp [results,Tryz.results46,go_sem,e0,e1,e2,e3,e4,e5,e6,e7,e8,e9]) rfl ?_
   rw [HRC3.out]
   exact ⟨by rw [←HIV.out];rfl,HEB.out⟩
 ·have HRC2:=yiF (HRC.out.trans (if_pos h0))
  have hd0:(he !=(0:Int))=true:=by rw [bne_iff_ne];exact h0
  obtain rfl:h= .none:=hhe h0
  obtain ⟨c0,c1,c2,c3,c4,c5,c6,c7,c8,c9,hrow⟩:=HR4.out
  have HRW:=yiF hrow
  obtain ⟨k0,k1,k2,k3,k4,k5,k6,k7,k8,k9,kf⟩:=zaP hrow
  clear hrow HR4 HRC HUS HPS hhe h0 hok
  have HEND:=yiF (zeG HRW.out (.string ⟨#[]⟩) (.string ⟨#[]⟩) (.string ⟨#[]⟩) .nilIface (.int .i64 0) (.slice none 0 0) (.string ⟨#[]⟩) (.bool false) (.string ⟨#[]⟩) (.bool false))
  have HEB:=yiF (zdW HB4.out (yiH _) (.string ⟨#[]⟩) (.string ⟨#[]⟩) (.string ⟨#[]⟩) .nilIface (.int .i64 0) (.slice none 0 0) (.string ⟨#[]⟩) (.bool false) (.string ⟨#[]⟩) (.bool false))
  go_wp2
  obtain ⟨e0,e1,e2,e3,e4,e5,e6,e7,e8,e9,-⟩:=zaP HEND.out
  refine bodyPost_ret (v:= .tuple #[.agg zbH,.int .i64 he]) (by simp [results,Tryz.results46,go_sem,e0,e1,e2,e3,e4,e5,e6,e7,e8,e9,zbH]) rfl ?_
  rw [HRC2.out]
  exact ⟨rfl,HEB.out⟩
theorem ycD (l:List UInt8):(if hd1 [47,92] l=true then l.drop 1 else l)=offW l:=by
 match l with
 |[]=>rfl
 |c::r=>
  have e:hd1 [47,92] (c::r)=zcB c:=by
   have b: ∀d:UInt8,(d==c)=(c==d):=fun d=>by rw [Bool.eq_iff_iff,beq_iff_eq,beq_iff_eq];exact eq_comm
   have h47:=b 47
   have h92:=b 92
   show hasB [47,92] c=zcB c
   simp only [hasB,List.any_cons,List.any_nil,Bool.or_false,h47,h92,zcB]
  rw [e]
  rfl
theorem z5W (l:List UInt8):l.drop (l.findIdx (hasB [63,35]))=[]∨(l.drop (l.findIdx (hasB [63,35]))).head? =some 63∨(l.drop (l.findIdx (hasB [63,35]))).head? =some 35:=by
 by_cases h:l.findIdx (hasB [63,35])<l.length
 ·have h1:=List.findIdx_getElem (w:=h)
  rw [ztT,dif_pos h]
  have h2:l[l.findIdx (hasB [63,35])]=63∨l[l.findIdx (hasB [63,35])]=35:=by
   have:=h1
   simp only [hasB,List.any_cons,List.any_nil,Bool.or_false,Bool.or_eq_true,beq_iff_eq] at this
   rcases this with g|g
   ·exact .inl g.symm
   ·exact .inr g.symm
  rcases h2 with g|g
  ·exact .inr (.inl (by rw [g]))
  ·exact .inr (.inr (by rw [g]))
 ·exact .inl (List.drop_eq_nil_of_le (by omega))
theorem zlS (u:UZ) (from_:List (List UInt8)) (l:List UInt8):zcY u from_ l=finC {u with path:=zjC from_ (l.take (l.findIdx (hasB [63,35])))} (l.drop (l.findIdx (hasB [63,35]))):=by
 unfold zcY
 exact (zmX _ (z5W l)).symm
theorem zgS (u:UZ) (l:List UInt8):(finC u l).path=u.path:=by
 unfold finC;repeat' split
 all_goals rfl
theorem zaM.only {B:Nat} {F:List Nat} {w w':World} {v:Value} {ps:List (List UInt8)} (h:zaM B w v ps) (ho:Only F w w') (hF: ∀b∈F,b<B):zaM B w' v ps:=
 zqO h (fun b hb=>ho.block b (World.ownsRow.lt h b hb).2 (fun g=>by have:=hF b g;have:=(World.ownsRow.lt h b hb).1;omega))
def RetUP (w:World) (M:Nat) (x:UZ×Int) (e:Ending) (w':World):Prop:= ∃pv,e= .returned (.tuple #[.agg (x.1.cells pv),.int .i64 x.2])∧zaM w.heap.size w' pv x.1.path∧Only [M] w w'
theorem zgZ {w x y:World} {M G:Nat} (hb:Only [M] w x) (hG:w.heap.size≤G) (h:Only [M,G] x y):Only [M] w y:=
 hb.trans h (fun z hz=>by
  rcases List.mem_cons.1 hz with e|e
  ·exact .inl (by rw [e];exact yiM ..)
  ·rw [yiL] at e;exact .inr (by omega))
theorem zhD (u:UZ) (l:List UInt8):(finC u l).host=u.host:=by
 unfold finC;repeat' split
 all_goals rfl
theorem z1C {name a:List UInt8} (h:(zlR name a).2=0):(zlR name a).1.host≠ .none:=by
 unfold zlR at*
 split at h
 ·rename_i h1;exact absurd h h1
 ·rename_i h1
  rw [if_neg h1]
  split at h
  ·cases h
  ·rename_i h2
   rw [if_neg h2]
   exact (znB (Decidable.not_not.1 h1)).ne
theorem PV.shape {w:World} {v:Value} {ps:List (List UInt8)} (h:PV w v ps): ∃a n c,v= .slice a n c:=by
 rcases h with ⟨_,h⟩|⟨g,c,h,_⟩
 ·exact ⟨_,_,_,h⟩
 ·exact ⟨_,_,_,h⟩
theorem z9I {name a:List UInt8} (h:(zlR name a).2≠0):(zlR name a).1=zbX:=by
 unfold zlR at*
 split
 ·rfl
 ·rename_i h1
  rw [if_neg h1] at h
  split
  ·rfl
  ·rename_i h2
   rw [if_neg h2] at h
   exact absurd rfl h
theorem zwM (l:List UInt8):(offW l).length≤l.length:=by
 match l with
 |[]=>exact yiH _
 |c::r=>
  show (if zcB c=true then r else c::r).length≤(c::r).length
  split<;>simp
theorem zgE (M:Nat) (l name:List UInt8) (w:World) (hl:l.length≤100000) (hm:MB w M l) (hmax:MaxVar w) (hn:ownZ name=80∨ownZ name=443):
  Calls Tryz.prog 25 #[.pointer (some ⟨M,0,none⟩),.string ⟨name.toArray⟩] w (RetUP w M (zcU name l)):=by
 have HRES:=yiF (z1G name l hn)
 have HU1:=yiF (fun W (h:MB W M l)=>ziD [47,92,63,35] (by decide) M l W h)
 have hal:(l.take (l.findIdx (hasB [47,92,63,35]))).length≤l.length:=by rw [List.length_take];omega
 have hrl:(l.drop (l.findIdx (hasB [47,92,63,35]))).length≤l.length:=by rw [List.length_drop];omega
 generalize l.take (l.findIdx (hasB [47,92,63,35]))=a at*
 generalize l.drop (l.findIdx (hasB [47,92,63,35]))=rest at*
 have HRA:=yiF (fun W (h:MaxVar W)=>zuA a name W (by omega) h)
 have hRe:=z9I (name:=name) (a:=a)
 have hRh:=z1C (name:=name) (a:=a)
 generalize zlR name a=rc at*
 obtain ⟨u,er⟩:=rc
 simp only at HRES hRe hRh
 have HSK:=yiF (fun W (h:MB W M rest)=>zhT M rest [47,92] W h)
 rw [ycD] at HSK
 have hol:=zwM rest
 have HWF:=yiF (zlS u [] (offW rest))
 generalize hd1 [47,92] rest=kb at*
 generalize offW rest=t at*
 have HPA:=yiF (fun W (h:MB W M t) (hx:MaxVar W)=>zrE M t (.slice none 0 0) [] W (by omega) (by simp) h (.inl ⟨rfl,rfl⟩) hx)
 have hll:(t.drop (t.findIdx (hasB [63,35]))).length≤t.length:=by rw [List.length_drop];omega
 generalize zjC [] (t.take (t.findIdx (hasB [63,35])))=ps at*
 generalize t.drop (t.findIdx (hasB [63,35]))=left at*
 have HX:=yiF hmax
 have HM:=yiF hm
 have hMw:=zaO hm
 obtain ⟨x0,hx0⟩: ∃y,y=w.alloc (.cells zbH 28):=⟨_,rfl⟩
 have hb0:Below w.heap.size w x0:=by rw [hx0];exact zbQ w _
 have HR0:Hid (RB x0 w.heap.size):=by show RB _ _;rw [hx0];exact RB.new w
 have hM0:MB x0 M l:=hm.below hb0
 have HU:=yiF (HU1.out x0 hM0)
 have HO0:Hid (Only [M] w x0):=Only.of_below hb0
 unfold zbH at hx0
 clear hmax hm hn hb0 hM0 HU1
 go_enter Tryz.func25,Tryz.ntmps25
 go_wp2_with fail
 rw [←hx0]
 clear hx0
 refine (zoL [47,92,63,35] _).mono ?_
 rintro e x1 ⟨rfl,rfl⟩
 go_wp2_with fail
 refine HU.out.mono ?_
 rintro e x2 ⟨rfl,hm2,ho2⟩
 have hRM:w.heap.size≠M:=by omega
 have HR2:=yiF (HR0.out.only ho2 (by simp [hRM]))
 have HO2:=yiF (HO0.out.trans ho2 (fun x hx=> .inl hx))
 have HM2:=yiF hm2
 have HX2:=yiF (znP HX.out HM.out HO2.out)
 clear HU HR0 HO0 ho2 hm2
 go_wp2_with fail
 refine (HRA.out _ HX2.out).mono ?_
 rintro e x3 ⟨rfl,hb3⟩
 have HR3:=yiF (HR2.out.below hb3)
 have HO3:=yiF (HO2.out.then_below hb3)
 have HM3:=yiF (HM2.out.below hb3)
 clear HRA HR2 HO2 HM2 HX2 hb3
 have hw3:w.heap.size≤x3.heap.size:=HO3.out.size
 have hRg:w.heap.size≠x3.heap.size:=by have:=HR3.out.lt;omega
 have hMg:x3.heap.size≠M:=by have:=zaO HM3.out;omega
 by_cases h0:er=0
 ·have hd0:(er !=(0:Int))=false:=by rw [h0];rfl
  have HRES2:=yiF (HRES.out.trans (if_neg (fun k=>k h0)))
  obtain ⟨it,iv,hiv⟩:=HZ.iface (hRh h0)
  clear hRe hRh HRES h0
  obtain ⟨x4,hx4⟩: ∃y,y=x3.alloc (.cells (u.cells (.slice none 0 0)) 28):=⟨_,rfl⟩
  have HU4:Hid (UB x4 x3.heap.size u (.slice none 0 0)):=by show UB _ _ _ _;rw [hx4];exact UB.new x3 u _
  have hb4:Below x3.heap.size x3 x4:=by rw [hx4];exact zbQ x3 _
  have HR4:=yiF (HR3.out.below hb4)
  have HO4:=yiF (HO3.out.then_below hb4)
  have HM4:=yiF (HM3.out.below hb4)
  have hg4:x3.heap.size<x4.heap.size:=by have:=zaO HU4.out;exact this
  clear HR3 HO3 HM3 hb4
  simp only [UZ.cells] at hx4 ⊢
  rw [hiv] at hx4 ⊢
  have HIV:=yiF hiv
  clear hiv
  have HS4:=yiF (HSK.out _ HM4.out)
  go_wp2_with fail
  rw [←hx4]
  clear hx4
  generalize x3.heap.size=g at*
  refine HS4.out.mono ?_
  rintro e x5 ⟨rfl,hm5,ho5⟩
  have HR5:=yiF (HR4.out.only ho5 (by simp [hRM]))
  have HU5:=yiF (HU4.out.only ho5 (by simp [hMg]))
  have HO5:=yiF (HO4.out.trans ho5 (fun x hx=> .inl hx))
  have HP5:=yiF (HPA.out _ hm5 (znP HX.out HM.out HO5.out))
  have hg5:g<x5.heap.size:=zaO HU5.out
  clear HS4 HSK HPA HR4 HU4 HO4 HM4 hm5 ho5
  go_wp2_with fail
  refine HP5.out.mono ?_
  rintro e x6 ⟨pv,rfl,hp6,hm6,ho6⟩
  obtain ⟨sa,sn,sc,rfl⟩:=hp6.pv.shape
  have HR6:=yiF (HR5.out.only ho6 (by simp [hRM]))
  have HU6:=yiF (HU5.out.only ho6 (by simp [hMg]))
  have HO6:=yiF (HO5.out.trans ho6 (fun x hx=> .inl hx))
  have HP6:=yiF hp6
  have HM6:=yiF hm6
  clear HP5 HR5 HU5 HO5 hp6 hm6 ho6
  obtain ⟨-,-,-,-,-,c5,-,-,-,-,f6⟩:=HU6.out.all
  have f65:=f6 5
  have hset:Only [g] x6 (x6.setCell ⟨g,5,none⟩ (.slice sa sn sc)):=(Only.refl _ _).setCell (p:=⟨g,5,none⟩) (.inl (yiM ..)) _
  have HR7:=yiF (HR6.out.set (i:=5) hRg (.slice sa sn sc))
  have HU7:Hid (UB (x6.setCell ⟨g,5,none⟩ (.slice sa sn sc)) g {u with path:=ps} (.slice sa sn sc)):=HU6.out.pth (.slice sa sn sc)
  have HM7:Hid (MB (x6.setCell ⟨g,5,none⟩ (.slice sa sn sc)) M left):=HM6.out.only hset (by simp [Ne.symm hMg])
  have HO7:Hid (Only [M] w (x6.setCell ⟨g,5,none⟩ (.slice sa sn sc))):=HO6.out.setCell (p:=⟨g,5,none⟩) (.inr hw3) _
  have HP7:=yiF (HP6.out.only hset (fun b hb=>by rw [List.mem_singleton.1 hb];exact hg5))
  have HF7:=yiF (zfR M g left {u with path:=ps} (.slice sa sn sc) _ (by omega) HM7.out HU7.out)
  clear HR6 HU6 HO6 HP6 HM6 hset f6
  go_wp2_with fail
  clear c5 f65
  generalize x6.setCell ⟨g,5,none⟩ (.slice sa sn sc)=x7 at*
  refine HF7.out.mono ?_
  rintro e x8 ⟨rfl,hu8,ho8⟩
  have HR8:=HR7.out.only ho8 (by simp [hRM,hRg])
  have HO8:=yiF (zgZ HO7.out hw3 ho8)
  have HP8:=yiF (HP7.out.only ho8 (fun b hb=>by
   rcases List.mem_cons.1 hb with e|e
   ·rw [e];omega
   ·rw [yiL] at e;omega))
  have HVH:Hid ((finC {u with path:=ps} left).host.val= .iface it iv):=by show _=_;rw [zhD];exact HIV.out
  have HFP:Hid ((finC {u with path:=ps} left).path=ps):=zgS _ _
  have HWF2:Hid (zcY u [] t=finC {u with path:=ps} left):=HWF.out
  rw [HWF2.out] at HRES2
  clear HWF HWF2 HF7 HR7 HU7 HO7 HP7 HM7 ho8
  generalize finC {u with path:=ps} left=v at*
  obtain ⟨d0,d1,d2,d3,d4,d5,d6,d7,d8,d9,-⟩:=hu8.all
  rw [HVH.out] at d3
  obtain ⟨c0,c1,c2,c3,c4,c5,c6,c7,c8,c9,hrow⟩:=HR8
  have HRW:=yiF hrow
  obtain ⟨k0,k1,k2,k3,k4,k5,k6,k7,k8,k9,kf⟩:=zaP hrow
  clear hrow hu8
  have HEND:=yiF (zeG HRW.out (.string ⟨v.scheme.toArray⟩) (.string ⟨v.user.toArray⟩) (.string ⟨v.pass.toArray⟩) (.iface it iv) (.int .i64 v.port) (.slice sa sn sc) (.string ⟨v.query.toArray⟩) (.bool v.hasQ) (.string ⟨v.frag.toArray⟩) (.bool v.hasF))
  have HEO:=yiF (zcK (g:=w.heap.size) HO8.out (.inr (yiH _)) (.string ⟨v.scheme.toArray⟩) (.string ⟨v.user.toArray⟩) (.string ⟨v.pass.toArray⟩) (.iface it iv) (.int .i64 v.port) (.slice sa sn sc) (.string ⟨v.query.toArray⟩) (.bool v.hasQ) (.string ⟨v.frag.toArray⟩) (.bool v.hasF))
  have HEP:=yiF (HP8.out.only (zcK (g:=w.heap.size) (F:=[w.heap.size]) (Only.refl _ _) (.inl (yiM ..)) (.string ⟨v.scheme.toArray⟩) (.string ⟨v.user.toArray⟩) (.string ⟨v.pass.toArray⟩) (.iface it iv) (.int .i64 v.port) (.slice sa sn sc) (.string ⟨v.query.toArray⟩) (.bool v.hasQ) (.string ⟨v.frag.toArray⟩) (.bool v.hasF)) (fun b hb=>by rw [List.mem_singleton.1 hb];omega))
  go_wp2
  obtain ⟨e0,e1,e2,e3,e4,e5,e6,e7,e8,e9,-⟩:=zaP HEND.out
  refine bodyPost_ret (v:= .tuple #[.agg #[.string ⟨v.scheme.toArray⟩,.string ⟨v.user.toArray⟩,.string ⟨v.pass.toArray⟩,.iface it iv,.int .i64 v.port,(.slice sa sn sc),.string ⟨v.query.toArray⟩,.bool v.hasQ,.string ⟨v.frag.toArray⟩,.bool v.hasF],.int .i64 0]) (by simp [results,Tryz.results25,go_sem,e0,e1,e2,e3,e4,e5,e6,e7,e8,e9]) rfl ?_
  rw [HRES2.out]
  exact ⟨(.slice sa sn sc),by rw [←HVH.out];rfl,by rw [show (v,(0:Int)).1.path=ps from HFP.out];exact zbU HEP.out (by omega),HEO.out⟩
 ·have hd0:(er !=(0:Int))=true:=by rw [bne_iff_ne];exact h0
  have HRES2:=yiF (HRES.out.trans (if_pos h0))
  obtain rfl:=hRe h0
  obtain ⟨x4,hx4⟩: ∃y,y=x3.alloc (.cells zbH 28):=⟨_,rfl⟩
  have hb4:Below x3.heap.size x3 x4:=by rw [hx4];exact zbQ x3 _
  have HR4:=yiF (HR3.out.below hb4)
  have HO4:=yiF (HO3.out.then_below hb4)
  rw [zwG]
  unfold zbH at hx4 ⊢
  clear HR3 HO3 HM3 hb4 hRh
  obtain ⟨c0,c1,c2,c3,c4,c5,c6,c7,c8,c9,hrow⟩:=HR4.out
  have HRW:=yiF hrow
  obtain ⟨k0,k1,k2,k3,k4,k5,k6,k7,k8,k9,kf⟩:=zaP hrow
  clear hrow hRe h0 HR4
  have HEND:=yiF (zeG HRW.out (.string ⟨#[]⟩) (.string ⟨#[]⟩) (.string ⟨#[]⟩) .nilIface (.int .i64 0) (.slice none 0 0) (.string ⟨#[]⟩) (.bool false) (.string ⟨#[]⟩) (.bool false))
  have HEO:=yiF (zcK (g:=w.heap.size) HO4.out (.inr (yiH _)) (.string ⟨#[]⟩) (.string ⟨#[]⟩) (.string ⟨#[]⟩) .nilIface (.int .i64 0) (.slice none 0 0) (.string ⟨#[]⟩) (.bool false) (.string ⟨#[]⟩) (.bool false))
  rw [hx4] at k0 k1 k2 k3 k4 k5 k6 k7 k8 k9 kf HEND HEO
  clear hx4
  go_wp2
  obtain ⟨e0,e1,e2,e3,e4,e5,e6,e7,e8,e9,-⟩:=zaP HEND.out
  refine bodyPost_ret (v:= .tuple #[.agg zbH,.int .i64 er]) (by simp [results,Tryz.results25,go_sem,e0,e1,e2,e3,e4,e5,e6,e7,e8,e9,zbH]) rfl ?_
  rw [HRES2.out]
  exact ⟨.slice none 0 0,rfl,zaM.nil _ _,HEO.out⟩
theorem zoW {w x2:World} {b:UZ} {pv:Value} (h:x2=((w.alloc (.cells (b.cells pv) 28)).alloc (.cells zbH 28)).alloc (.cells ((zbE b).cells (.slice none 0 0)) 28)):
  UB x2 w.heap.size b pv∧RB x2 (w.heap.size+1)∧UB x2 (w.heap.size+2) (zbE b) (.slice none 0 0)∧Below w.heap.size w x2∧x2.heap.size=w.heap.size+3:=by
 have b0:=zbQ w (b.cells pv)
 have u0:=UB.new w b pv
 have s0:(w.alloc (.cells (b.cells pv) 28)).heap.size=w.heap.size+1:=by simp
 generalize w.alloc (.cells (b.cells pv) 28)=x0 at*
 have b1:=zbQ x0 zbH
 have r1:=RB.new x0
 have s1:(x0.alloc (.cells zbH 28)).heap.size=x0.heap.size+1:=by simp
 generalize x0.alloc (.cells zbH 28)=x1 at*
 have b2:=zbQ x1 ((zbE b).cells (.slice none 0 0))
 have u2:=UB.new x1 (zbE b) (.slice none 0 0)
 have s2:(x1.alloc (.cells ((zbE b).cells (.slice none 0 0)) 28)).heap.size=x1.heap.size+1:=by simp
 rw [←h] at b2 u2 s2
 rw [s0] at r1
 rw [s1,s0] at u2
 exact ⟨(u0.below b1).below b2,r1.below b2,u2,zaC (zaC b0 b1) b2,by omega⟩
def zrQ (w:World) (M:Nat) (x:UZ) (e:Ending) (w':World):Prop:= ∃pv,e= .returned (.agg (x.cells pv))∧zaM w.heap.size w' pv x.path∧Only [M] w w'
theorem UB.three {w:World} {U:Nat} {u:UZ} {pv:Value} (h:UB w U u pv) (v:Value) (q:List UInt8) (hq:Bool):UB (((w.setCell ⟨U,5,none⟩ v).setCell ⟨U,6,none⟩ (.string ⟨q.toArray⟩)).setCell ⟨U,7,none⟩ (.bool hq)) U {u with query:=q,hasQ:=hq} v:=zaF (zaF (zaF h 5 _) 6 _) 7 _
theorem zoT (M:Nat) (l:List UInt8) (b:UZ) (bpv:Value) (w:World) (hl:l.length≤100000) (_hpl:b.path.length≤1000000) (hbh:b.host≠ .none) (hm:MB w M l) (hpv:PV w bpv b.path) (hmax:MaxVar w):
  Calls Tryz.prog 26 #[.pointer (some ⟨M,0,none⟩),.agg (b.cells bpv),.bool true] w (zrQ w M (relC b true l)):=by
 have HRES:Hid (relC b true l=zcY (zbE b) [] l):=by show _=_;rfl
 have HW:=HRES.out.trans (zlS (zbE b) [] l)
 clear HRES
 have HRES:=yiF HW
 clear HW
 have hll:(l.drop (l.findIdx (hasB [63,35]))).length≤l.length:=by rw [List.length_drop];omega
 have HPA:=yiF (fun fv (from_:List (List UInt8)) W (h:MB W M l) (hf:PV W fv from_) (h2:from_.length≤1000000) (hx:MaxVar W)=>zrE M l fv from_ W (by omega) h2 h hf hx)
 generalize l.drop (l.findIdx (hasB [63,35]))=left at*
 have HPB:=yiF (fun W (h:MB W M l) (hx:MaxVar W)=>HPA.out (.slice none 0 0) [] W h (.inl ⟨rfl,rfl⟩) (by simp) hx)
 clear HPA
 generalize zjC [] (l.take (l.findIdx (hasB [63,35])))=ps at*
 obtain ⟨ba,bn,bc,rfl⟩:=hpv.shape
 obtain ⟨it,iv,hiv⟩:=HZ.iface hbh
 have HX:=yiF hmax
 have HM:=yiF hm
 have HPV:=yiF hpv
 have hMw:=zaO hm
 obtain ⟨x2,hx2⟩: ∃y,y=((w.alloc (.cells (b.cells (.slice ba bn bc)) 28)).alloc (.cells zbH 28)).alloc (.cells ((zbE b).cells (.slice none 0 0)) 28):=⟨_,rfl⟩
 obtain ⟨hk,hr,hu,hbw,hsz⟩:=zoW hx2
 have HK2:=yiF hk
 have HR2:=yiF hr
 have HU2:=yiF hu
 have HO2:Hid (Only [M] w x2):=Only.of_below hbw
 have HM2:=yiF (hm.below hbw)
 have HP2:=yiF (hpv.keep hbw)
 have HX2:=yiF (zaG hmax hbw)
 obtain ⟨-,-,-,-,-,b5,b6,b7,-,-,bf⟩:=hk.all
 have hc2:=HM2.out.cell
 have b3:=hk.all.2.2.2.1
 simp only [UZ.cells,zbE,zbX,zbH] at hx2
 rw [hiv] at hx2 b3
 have HIV:=yiF hiv
 clear hm hmax hpv hk hr hu hbw bf hbh
 go_enter Tryz.func26,Tryz.ntmps26
 simp only [UZ.cells]
 rw [hiv]
 clear hiv b3
 go_wp2_with fail
 rw [←hx2]
 clear hx2
 refine (HPB.out _ HM2.out HX2.out).mono ?_
 rintro e x6 ⟨pv,rfl,hp6,hm6,ho6⟩
 obtain ⟨sa,sn,sc,rfl⟩:=hp6.pv.shape
 have HR6:=yiF (HR2.out.only ho6 (by simp;omega))
 have HU6:=yiF (HU2.out.only ho6 (by simp;omega))
 have HO6:=yiF (HO2.out.trans ho6 (fun x hx=> .inl hx))
 have HP6:=yiF hp6
 have HM6:=yiF hm6
 clear HR2 HU2 HO2 HM2 HP2 HX2 HK2 hp6 hm6 ho6 b5 b6 b7 hc2
 obtain ⟨-,-,-,-,-,c5,-,-,-,-,f6⟩:=HU6.out.all
 have f65:=f6 5
 have hset:Only [w.heap.size+2] x6 (x6.setCell ⟨w.heap.size+2,5,none⟩ (.slice sa sn sc)):=(Only.refl _ _).setCell (p:=⟨w.heap.size+2,5,none⟩) (.inl (yiM ..)) _
 have HR7:=yiF (HR6.out.set (g:=w.heap.size+2) (i:=5) (by omega) (.slice sa sn sc))
 have HU7:Hid (UB (x6.setCell ⟨w.heap.size+2,5,none⟩ (.slice sa sn sc)) (w.heap.size+2) {zbE b with path:=ps} (.slice sa sn sc)):=HU6.out.pth (.slice sa sn sc)
 have HM7:Hid (MB (x6.setCell ⟨w.heap.size+2,5,none⟩ (.slice sa sn sc)) M left):=HM6.out.only hset (by simp;omega)
 have HO7:Hid (Only [M] w (x6.setCell ⟨w.heap.size+2,5,none⟩ (.slice sa sn sc))):=HO6.out.setCell (p:=⟨w.heap.size+2,5,none⟩) (.inr (by show w.heap.size≤w.heap.size+2;omega)) _
 have HP7:=yiF (HP6.out.only hset (fun b hb=>by rw [List.mem_singleton.1 hb];omega))
 have HF7:=yiF (zfR M (w.heap.size+2) left {zbE b with path:=ps} (.slice sa sn sc) _ (by omega) HM7.out HU7.out)
 clear HR6 HU6 HO6 HP6 HM6 hset f6
 go_wp2_with fail
 clear c5 f65
 generalize x6.setCell ⟨w.heap.size+2,5,none⟩ (.slice sa sn sc)=x7 at*
 refine HF7.out.mono ?_
 rintro e x8 ⟨rfl,hu8,ho8⟩
 have HR8:=HR7.out.only ho8 (by simp;omega)
 have HO8:=yiF (zgZ HO7.out (by omega) ho8)
 have HP8:=yiF (HP7.out.only ho8 (fun b hb=>by
  rcases List.mem_cons.1 hb with e|e
  ·rw [e];omega
  ·rw [yiL] at e;omega))
 have HFP:Hid ((finC ({zbE b with path:=ps}) left).path=ps):=zgS _ _
 have HVH:Hid ((finC ({zbE b with path:=ps}) left).host.val= .iface it iv):=by show _=_;rw [zhD];exact HIV.out
 clear HF7 HR7 HU7 HO7 HP7 HM7 ho8
 generalize finC ({zbE b with path:=ps}) left=v at*
 obtain ⟨d0,d1,d2,d3,d4,d5,d6,d7,d8,d9,-⟩:=hu8.all
 rw [HVH.out] at d3
 obtain ⟨c0,c1,c2,c3,c4,c5,c6,c7,c8,c9,hrow⟩:=HR8
 have HRW:=yiF hrow
 obtain ⟨k0,k1,k2,k3,k4,k5,k6,k7,k8,k9,kf⟩:=zaP hrow
 clear hrow hu8
 have HEND:=yiF (zeG HRW.out (.string ⟨v.scheme.toArray⟩) (.string ⟨v.user.toArray⟩) (.string ⟨v.pass.toArray⟩) (.iface it iv) (.int .i64 v.port) (.slice sa sn sc) (.string ⟨v.query.toArray⟩) (.bool v.hasQ) (.string ⟨v.frag.toArray⟩) (.bool v.hasF))
 have HEO:=yiF (zcK (g:=w.heap.size+1) HO8.out (.inr (Nat.le_succ _)) (.string ⟨v.scheme.toArray⟩) (.string ⟨v.user.toArray⟩) (.string ⟨v.pass.toArray⟩) (.iface it iv) (.int .i64 v.port) (.slice sa sn sc) (.string ⟨v.query.toArray⟩) (.bool v.hasQ) (.string ⟨v.frag.toArray⟩) (.bool v.hasF))
 have HEP:=yiF (HP8.out.only (zcK (g:=w.heap.size+1) (F:=[w.heap.size+1]) (Only.refl _ _) (.inl (yiM ..)) (.string ⟨v.scheme.toArray⟩) (.string ⟨v.user.toArray⟩) (.string ⟨v.pass.toArray⟩) (.iface it iv) (.int .i64 v.port) (.slice sa sn sc) (.string ⟨v.query.toArray⟩) (.bool v.hasQ) (.string ⟨v.frag.toArray⟩) (.bool v.hasF)) (fun b hb=>by rw [List.mem_singleton.1 hb];omega))
 go_wp2
 obtain ⟨e0,e1,e2,e3,e4,e5,e6,e7,e8,e9,-⟩:=zaP HEND.out
 refine bodyPost_ret (v:= .agg #[.string ⟨v.scheme.toArray⟩,.string ⟨v.user.toArray⟩,.string ⟨v.pass.toArray⟩,.iface it iv,.int .i64 v.port,.slice sa sn sc,.string ⟨v.query.toArray⟩,.bool v.hasQ,.string ⟨v.frag.toArray⟩,.bool v.hasF]) (by simp [results,Tryz.results26,go_sem,e0,e1,e2,e3,e4,e5,e6,e7,e8,e9]) rfl ?_
 rw [HRES.out]
 exact ⟨(.slice sa sn sc),by rw [←HVH.out];rfl,by rw [HFP.out];exact zbU HEP.out (by omega),HEO.out⟩
theorem zgN {c:UInt8} {n:Nat} (hn:n<256):(((c.toNat:Int))==(n:Int))=decide (c=UInt8.ofNat n):=by
 rw [Bool.eq_iff_iff,beq_iff_eq,decide_eq_true_eq,←UInt8.toNat_inj,UInt8.toNat_ofNat_of_lt' (by simpa using hn)]
 omega
theorem z4J {w:World} {g n c:Nat} {ps:List (List UInt8)} (hn:ps.length=n) (hc:n≤c) (h:Seen w g ps):PV w (.slice (some ⟨g,0,none⟩) (n - 1:Nat) c) ps.dropLast:=by
 refine .inr ⟨g,c,by rw [List.length_dropLast,hn],by rw [List.length_dropLast];omega,h.1,fun j hj=> ?_⟩
 rw [List.length_dropLast] at hj
 rw [h.2 j (by omega)]
 have hj2:j<ps.length:=by omega
 simp [List.getD,hj,List.getElem?_eq_getElem hj2]
theorem ztG (v:Value) (ps:List (List UInt8)) (w:World) (h:PV w v ps) (hl:ps.length≤10000000):
  Calls Tryz.prog 51 #[v] w fun e w'=> ∃v',e= .returned v'∧PV w v' ps.dropLast∧w=w':=by
 rcases h with ⟨rfl,rfl⟩|⟨g,c,rfl,hc,hs⟩
 ·have hs: ∀W,(Instr.slice 22 (.slice none 0 0) none (some (.int .i64 0)) none).run Tryz.prog W= .ok (.slice none 0 0) W:=fun W=>by
   rw [run_slice_h W 22 none 0 0 (by simp [Program.elem,Tryz.underlying22]) .i64 _ (by omega) (by omega)]
   rfl
  go_enter Tryz.func51,Tryz.ntmps51
  go_wp2
  go_ret
  exact ⟨_,rfl,.inl ⟨rfl,rfl⟩,rfl⟩
 ·obtain ⟨n,hn⟩: ∃n,ps.length=n:=⟨_,rfl⟩
  have HP:=yiF (z4J (c:=c) hn (by omega) hs)
  rw [hn] at hc hl ⊢
  clear hs hn
  have hs: ∀W (k:Nat),k≤c→(Instr.slice 22 (.slice (some ⟨g,0,none⟩) n c) none (some (.int .i64 (k:Int))) none).run Tryz.prog W= .ok (.slice (some ⟨g,0,none⟩) k c) W:=fun W k hk=>by
   rw [run_slice_h W 22 (some ⟨g,0,none⟩) n c (by simp [Program.elem,Tryz.underlying22]) .i64 _ (by omega) (by omega)]
   go_simp
  match n,hc,hl,HP with
  |0,hc,hl,HP=>
   have hs0:=fun W=>hs W 0 (by omega)
   clear hs
   go_enter Tryz.func51,Tryz.ntmps51
   go_wp2
   go_ret
   exact ⟨_,rfl,HP.out,rfl⟩
  |n+1,hc,hl,HP=>
   have hs0:=fun W=>hs W n (by omega)
   have HP2:Hid (PV w (.slice (some ⟨g,0,none⟩) n c) ps.dropLast):=HP.out
   clear hs HP
   by_cases h0:n=0
   ·subst h0
    go_enter Tryz.func51,Tryz.ntmps51
    go_wp2
    go_ret
    exact ⟨_,rfl,HP2.out,rfl⟩
   ·have hd:0<n:=by omega
    go_enter Tryz.func51,Tryz.ntmps51
    go_wp2
    go_ret
    exact ⟨_,rfl,HP2.out,rfl⟩
theorem zsG (M:Nat) (l:List UInt8) (b:UZ) (bpv:Value) (w:World) (hl:l.length≤100000) (hpl:b.path.length≤1000000) (hbh:b.host≠ .none) (hm:MB w M l) (hpv:PV w bpv b.path) (hmax:MaxVar w) (hne:l≠[]) (hd35:l.head? ≠some 35) (hd63:l.head? ≠some 63):
  Calls Tryz.prog 26 #[.pointer (some ⟨M,0,none⟩),.agg (b.cells bpv),.bool false] w (zrQ w M (relC b false l)):=by
 have HRES:Hid (relC b false l=zcY (zbE b) b.path.dropLast l):=by show _=_;unfold relC;rw [if_neg (by decide),if_neg (by rintro (g|g);exact hne g;exact hd35 g),if_neg hd63]
 have HW:=HRES.out.trans (zlS (zbE b) b.path.dropLast l)
 clear HRES
 have HRES:=yiF HW
 clear HW
 have hll:(l.drop (l.findIdx (hasB [63,35]))).length≤l.length:=by rw [List.length_drop];omega
 have HPA:=yiF (fun fv (from_:List (List UInt8)) W (h:MB W M l) (hf:PV W fv from_) (h2:from_.length≤1000000) (hx:MaxVar W)=>zrE M l fv from_ W (by omega) h2 h hf hx)
 generalize l.drop (l.findIdx (hasB [63,35]))=left at*
 have hdl:b.path.dropLast.length≤b.path.length:=by rw [List.length_dropLast];omega
 have HPB:=yiF (fun fv W (h:MB W M l) (hf:PV W fv b.path.dropLast) (hx:MaxVar W)=>HPA.out fv b.path.dropLast W h hf (by omega) hx)
 clear HPA
 generalize zjC b.path.dropLast (l.take (l.findIdx (hasB [63,35])))=ps at*
 obtain ⟨c,r,hlc⟩: ∃c r,l=c::r:=by
  match l,hne with
  |c::r,_=>exact ⟨c,r,rfl⟩
 have hz:(ByteArray.mk l.toArray).size=r.length+1:=by rw [hlc];simp [ByteArray.size]
 have h0:0<(ByteArray.mk l.toArray).size:=by rw [hz];omega
 have hb0:(ByteArray.mk l.toArray)[0]=c:=by subst hlc;rfl
 have hqe:l.isEmpty=false:=by rw [hlc];rfl
 have e35:((c.toNat:Int)==35)=decide (c=35):=zgN (c:=c) (n:=35) (by omega)
 have e63:((c.toNat:Int)==63)=decide (c=63):=zgN (c:=c) (n:=63) (by omega)
 have n35:c≠35:=fun g=>hd35 (by rw [hlc,g];rfl)
 have n63:c≠63:=fun g=>hd63 (by rw [hlc,g];rfl)
 rw [yiI n35] at e35
 rw [yiI n63] at e63
 clear hlc hne hd35 hd63 n35 n63
 obtain ⟨ba,bn,bc,rfl⟩:=hpv.shape
 obtain ⟨it,iv,hiv⟩:=HZ.iface hbh
 have HX:=yiF hmax
 have HM:=yiF hm
 have HPV:=yiF hpv
 have hMw:=zaO hm
 obtain ⟨x2,hx2⟩: ∃y,y=((w.alloc (.cells (b.cells (.slice ba bn bc)) 28)).alloc (.cells zbH 28)).alloc (.cells ((zbE b).cells (.slice none 0 0)) 28):=⟨_,rfl⟩
 obtain ⟨hk,hr,hu,hbw,hsz⟩:=zoW hx2
 have HK2:=yiF hk
 have HR2:=yiF hr
 have HU2:=yiF hu
 have HO2:Hid (Only [M] w x2):=Only.of_below hbw
 have HM2:=yiF (hm.below hbw)
 have HP2:=yiF (hpv.keep hbw)
 have HX2:=yiF (zaG hmax hbw)
 obtain ⟨-,-,-,-,-,b5,b6,b7,-,-,bf⟩:=hk.all
 have hc2:=HM2.out.cell
 have b3:=hk.all.2.2.2.1
 simp only [UZ.cells,zbE,zbX,zbH] at hx2
 rw [hiv] at hx2 b3
 have HIV:=yiF hiv
 clear hm hmax hpv hk hr hu hbw bf hbh
 go_enter Tryz.func26,Tryz.ntmps26
 simp only [UZ.cells]
 rw [hiv]
 clear hiv b3
 rw [hx2] at hc2 b5 b6 b7
 go_wp2_with fail
 rw [←hx2] at hc2 b5 b6 b7 ⊢
 clear hx2
 refine (ztG (.slice ba bn bc) b.path _ HP2.out (by omega)).mono ?_
 rintro e y ⟨v2,rfl,hp2,rfl⟩
 have HPD:=yiF hp2
 clear hp2
 go_wp2_with fail
 refine (HPB.out _ _ HM2.out HPD.out HX2.out).mono ?_
 rintro e x6 ⟨pv,rfl,hp6,hm6,ho6⟩
 obtain ⟨sa,sn,sc,rfl⟩:=hp6.pv.shape
 have HR6:=yiF (HR2.out.only ho6 (by simp;omega))
 have HU6:=yiF (HU2.out.only ho6 (by simp;omega))
 have HO6:=yiF (HO2.out.trans ho6 (fun x hx=> .inl hx))
 have HP6:=yiF hp6
 have HM6:=yiF hm6
 clear HR2 HU2 HO2 HM2 HP2 HX2 HK2 hp6 hm6 ho6 b5 b6 b7 hc2
 obtain ⟨-,-,-,-,-,c5,-,-,-,-,f6⟩:=HU6.out.all
 have f65:=f6 5
 have hset:Only [w.heap.size+2] x6 (x6.setCell ⟨w.heap.size+2,5,none⟩ (.slice sa sn sc)):=(Only.refl _ _).setCell (p:=⟨w.heap.size+2,5,none⟩) (.inl (yiM ..)) _
 have HR7:=yiF (HR6.out.set (g:=w.heap.size+2) (i:=5) (by omega) (.slice sa sn sc))
 have HU7:Hid (UB (x6.setCell ⟨w.heap.size+2,5,none⟩ (.slice sa sn sc)) (w.heap.size+2) {zbE b with path:=ps} (.slice sa sn sc)):=HU6.out.pth (.slice sa sn sc)
 have HM7:Hid (MB (x6.setCell ⟨w.heap.size+2,5,none⟩ (.slice sa sn sc)) M left):=HM6.out.only hset (by simp;omega)
 have HO7:Hid (Only [M] w (x6.setCell ⟨w.heap.size+2,5,none⟩ (.slice sa sn sc))):=HO6.out.setCell (p:=⟨w.heap.size+2,5,none⟩) (.inr (by show w.heap.size≤w.heap.size+2;omega)) _
 have HP7:=yiF (HP6.out.only hset (fun b hb=>by rw [List.mem_singleton.1 hb];omega))
 have HF7:=yiF (zfR M (w.heap.size+2) left {zbE b with path:=ps} (.slice sa sn sc) _ (by omega) HM7.out HU7.out)
 clear HR6 HU6 HO6 HP6 HM6 hset f6
 go_wp2_with fail
 clear c5 f65
 generalize x6.setCell ⟨w.heap.size+2,5,none⟩ (.slice sa sn sc)=x7 at*
 refine HF7.out.mono ?_
 rintro e x8 ⟨rfl,hu8,ho8⟩
 have HR8:=HR7.out.only ho8 (by simp;omega)
 have HO8:=yiF (zgZ HO7.out (by omega) ho8)
 have HP8:=yiF (HP7.out.only ho8 (fun b hb=>by
  rcases List.mem_cons.1 hb with e|e
  ·rw [e];omega
  ·rw [yiL] at e;omega))
 have HFP:Hid ((finC ({zbE b with path:=ps}) left).path=ps):=zgS _ _
 have HVH:Hid ((finC ({zbE b with path:=ps}) left).host.val= .iface it iv):=by show _=_;rw [zhD];exact HIV.out
 clear HF7 HR7 HU7 HO7 HP7 HM7 ho8
 generalize finC ({zbE b with path:=ps}) left=v at*
 obtain ⟨d0,d1,d2,d3,d4,d5,d6,d7,d8,d9,-⟩:=hu8.all
 rw [HVH.out] at d3
 obtain ⟨c0,c1,c2,c3,c4,c5,c6,c7,c8,c9,hrow⟩:=HR8
 have HRW:=yiF hrow
 obtain ⟨k0,k1,k2,k3,k4,k5,k6,k7,k8,k9,kf⟩:=zaP hrow
 clear hrow hu8
 have HEND:=yiF (zeG HRW.out (.string ⟨v.scheme.toArray⟩) (.string ⟨v.user.toArray⟩) (.string ⟨v.pass.toArray⟩) (.iface it iv) (.int .i64 v.port) (.slice sa sn sc) (.string ⟨v.query.toArray⟩) (.bool v.hasQ) (.string ⟨v.frag.toArray⟩) (.bool v.hasF))
 have HEO:=yiF (zcK (g:=w.heap.size+1) HO8.out (.inr (Nat.le_succ _)) (.string ⟨v.scheme.toArray⟩) (.string ⟨v.user.toArray⟩) (.string ⟨v.pass.toArray⟩) (.iface it iv) (.int .i64 v.port) (.slice sa sn sc) (.string ⟨v.query.toArray⟩) (.bool v.hasQ) (.string ⟨v.frag.toArray⟩) (.bool v.hasF))
 have HEP:=yiF (HP8.out.only (zcK (g:=w.heap.size+1) (F:=[w.heap.size+1]) (Only.refl _ _) (.inl (yiM ..)) (.string ⟨v.scheme.toArray⟩) (.string ⟨v.user.toArray⟩) (.string ⟨v.pass.toArray⟩) (.iface it iv) (.int .i64 v.port) (.slice sa sn sc) (.string ⟨v.query.toArray⟩) (.bool v.hasQ) (.string ⟨v.frag.toArray⟩) (.bool v.hasF)) (fun b hb=>by rw [List.mem_singleton.1 hb];omega))
 go_wp2
 obtain ⟨e0,e1,e2,e3,e4,e5,e6,e7,e8,e9,-⟩:=zaP HEND.out
 refine bodyPost_ret (v:= .agg #[.string ⟨v.scheme.toArray⟩,.string ⟨v.user.toArray⟩,.string ⟨v.pass.toArray⟩,.iface it iv,.int .i64 v.port,.slice sa sn sc,.string ⟨v.query.toArray⟩,.bool v.hasQ,.string ⟨v.frag.toArray⟩,.bool v.hasF]) (by simp [results,Tryz.results26,go_sem,e0,e1,e2,e3,e4,e5,e6,e7,e8,e9]) rfl ?_
 rw [HRES.out]
 exact ⟨(.slice sa sn sc),by rw [←HVH.out];rfl,by rw [HFP.out];exact zbU HEP.out (by omega),HEO.out⟩
theorem zpF (M:Nat) (l:List UInt8) (b:UZ) (bpv:Value) (w:World) (hl:l.length≤100000) (hpl:b.path.length≤1000000) (hbh:b.host≠ .none) (hm:MB w M l) (hpv:PV w bpv b.path) (hmax:MaxVar w) (hd63:l.head? =some 63):
  Calls Tryz.prog 26 #[.pointer (some ⟨M,0,none⟩),.agg (b.cells bpv),.bool false] w (zrQ w M (relC b false l)):=by
 have HRES:Hid (relC b false l=zdC {zbE b with path:=b.path} l):=by show _=_;unfold relC;rw [if_neg (by decide),if_neg (by rintro (g|g);rw [g] at hd63;cases hd63;rw [g] at hd63;cases hd63),if_pos hd63]
 have HW:=HRES.out.trans (zmX _ (.inr (.inl hd63))).symm
 clear HRES
 have HRES:=yiF HW
 clear HW
 have hne:l≠[]:=fun g=>by rw [g] at hd63;cases hd63
 obtain ⟨c,r,hlc⟩: ∃c r,l=c::r:=by
  match l,hne with
  |c::r,_=>exact ⟨c,r,rfl⟩
 have hz:(ByteArray.mk l.toArray).size=r.length+1:=by rw [hlc];simp [ByteArray.size]
 have h0:0<(ByteArray.mk l.toArray).size:=by rw [hz];omega
 have hb0:(ByteArray.mk l.toArray)[0]=c:=by subst hlc;rfl
 have hqe:l.isEmpty=false:=by rw [hlc];rfl
 have e35:((c.toNat:Int)==35)=decide (c=35):=zgN (c:=c) (n:=35) (by omega)
 have e63:((c.toNat:Int)==63)=decide (c=63):=zgN (c:=c) (n:=63) (by omega)
 have n63:c=63:=by rw [hlc] at hd63;simpa using hd63
 rw [yiI (show ¬c=35 by rw [n63];decide)] at e35
 rw [yiJ n63] at e63
 clear hlc hne hd63 n63
 obtain ⟨ba,bn,bc,rfl⟩:=hpv.shape
 obtain ⟨it,iv,hiv⟩:=HZ.iface hbh
 have HX:=yiF hmax
 have HM:=yiF hm
 have HPV:=yiF hpv
 have hMw:=zaO hm
 obtain ⟨x2,hx2⟩: ∃y,y=((w.alloc (.cells (b.cells (.slice ba bn bc)) 28)).alloc (.cells zbH 28)).alloc (.cells ((zbE b).cells (.slice none 0 0)) 28):=⟨_,rfl⟩
 obtain ⟨hk,hr,hu,hbw,hsz⟩:=zoW hx2
 have HK2:=yiF hk
 have HR2:=yiF hr
 have HU2:=yiF hu
 have HO2:Hid (Only [M] w x2):=Only.of_below hbw
 have HM2:=yiF (hm.below hbw)
 have HP2:=yiF (hpv.keep hbw)
 have HX2:=yiF (zaG hmax hbw)
 obtain ⟨-,-,-,-,-,b5,b6,b7,-,-,bf⟩:=hk.all
 have hc2:=HM2.out.cell
 have b3:=hk.all.2.2.2.1
 simp only [UZ.cells,zbE,zbX,zbH] at hx2
 rw [hiv] at hx2 b3
 have HIV:=yiF hiv
 clear hm hmax hpv hk hr hu hbw bf hbh
 go_enter Tryz.func26,Tryz.ntmps26
 simp only [UZ.cells]
 rw [hiv]
 clear hiv b3
 rw [hx2] at hc2 b5 b6 b7
 go_wp2_with fail
 rw [←hx2] at hc2 b5 b6 b7 ⊢
 clear hx2
 refine (zhL (.slice ba bn bc) b.path _ HP2.out hpl).mono ?_
 rintro e x6 ⟨pv,rfl,hp6,hb6⟩
 obtain ⟨sa,sn,sc,rfl⟩:=hp6.pv.shape
 have HM7:=yiF (HM2.out.below hb6)
 have HR6:=yiF (HR2.out.below hb6)
 have HU6:=yiF (HU2.out.below hb6)
 have HO6:=yiF (HO2.out.then_below hb6)
 have HP6:=yiF hp6
 clear HR2 HU2 HO2 HM2 HP2 HX2 HK2 hp6 hb6 b5 b6 b7 hc2
 obtain ⟨-,-,-,-,-,c5,-,-,-,-,f6⟩:=HU6.out.all
 have f65:=f6 5
 have hset:Only [w.heap.size+2] x6 (x6.setCell ⟨w.heap.size+2,5,none⟩ (.slice sa sn sc)):=(Only.refl _ _).setCell (p:=⟨w.heap.size+2,5,none⟩) (.inl (yiM ..)) _
 have HR7:=yiF (HR6.out.set (g:=w.heap.size+2) (i:=5) (by omega) (.slice sa sn sc))
 have HU7:Hid (UB (x6.setCell ⟨w.heap.size+2,5,none⟩ (.slice sa sn sc)) (w.heap.size+2) {zbE b with path:=b.path} (.slice sa sn sc)):=HU6.out.pth (.slice sa sn sc)
 have HM8:Hid (MB (x6.setCell ⟨w.heap.size+2,5,none⟩ (.slice sa sn sc)) M l):=HM7.out.only hset (by simp;omega)
 clear HM7
 have HM7:=yiF HM8.out
 clear HM8
 have HO7:Hid (Only [M] w (x6.setCell ⟨w.heap.size+2,5,none⟩ (.slice sa sn sc))):=HO6.out.setCell (p:=⟨w.heap.size+2,5,none⟩) (.inr (by show w.heap.size≤w.heap.size+2;omega)) _
 have HP7:=yiF (HP6.out.only hset (fun b hb=>by rw [List.mem_singleton.1 hb];omega))
 have HF7:=yiF (zfR M (w.heap.size+2) l {zbE b with path:=b.path} (.slice sa sn sc) _ (by omega) HM7.out HU7.out)
 clear HR6 HU6 HO6 HP6 hset f6
 go_wp2_with fail
 clear c5 f65
 generalize x6.setCell ⟨w.heap.size+2,5,none⟩ (.slice sa sn sc)=x7 at*
 refine HF7.out.mono ?_
 rintro e x8 ⟨rfl,hu8,ho8⟩
 have HR8:=HR7.out.only ho8 (by simp;omega)
 have HO8:=yiF (zgZ HO7.out (by omega) ho8)
 have HP8:=yiF (HP7.out.only ho8 (fun b hb=>by
  rcases List.mem_cons.1 hb with e|e
  ·rw [e];omega
  ·rw [yiL] at e;omega))
 have HFP:Hid ((finC ({zbE b with path:=b.path}) l).path=b.path):=zgS _ _
 have HVH:Hid ((finC ({zbE b with path:=b.path}) l).host.val= .iface it iv):=by show _=_;rw [zhD];exact HIV.out
 clear HF7 HR7 HU7 HO7 HP7 HM7 ho8
 generalize finC ({zbE b with path:=b.path}) l=v at*
 obtain ⟨d0,d1,d2,d3,d4,d5,d6,d7,d8,d9,-⟩:=hu8.all
 rw [HVH.out] at d3
 obtain ⟨c0,c1,c2,c3,c4,c5,c6,c7,c8,c9,hrow⟩:=HR8
 have HRW:=yiF hrow
 obtain ⟨k0,k1,k2,k3,k4,k5,k6,k7,k8,k9,kf⟩:=zaP hrow
 clear hrow hu8
 have HEND:=yiF (zeG HRW.out (.string ⟨v.scheme.toArray⟩) (.string ⟨v.user.toArray⟩) (.string ⟨v.pass.toArray⟩) (.iface it iv) (.int .i64 v.port) (.slice sa sn sc) (.string ⟨v.query.toArray⟩) (.bool v.hasQ) (.string ⟨v.frag.toArray⟩) (.bool v.hasF))
 have HEO:=yiF (zcK (g:=w.heap.size+1) HO8.out (.inr (Nat.le_succ _)) (.string ⟨v.scheme.toArray⟩) (.string ⟨v.user.toArray⟩) (.string ⟨v.pass.toArray⟩) (.iface it iv) (.int .i64 v.port) (.slice sa sn sc) (.string ⟨v.query.toArray⟩) (.bool v.hasQ) (.string ⟨v.frag.toArray⟩) (.bool v.hasF))
 have HEP:=yiF (HP8.out.only (zcK (g:=w.heap.size+1) (F:=[w.heap.size+1]) (Only.refl _ _) (.inl (yiM ..)) (.string ⟨v.scheme.toArray⟩) (.string ⟨v.user.toArray⟩) (.string ⟨v.pass.toArray⟩) (.iface it iv) (.int .i64 v.port) (.slice sa sn sc) (.string ⟨v.query.toArray⟩) (.bool v.hasQ) (.string ⟨v.frag.toArray⟩) (.bool v.hasF)) (fun b hb=>by rw [List.mem_singleton.1 hb];omega))
 go_wp2
 obtain ⟨e0,e1,e2,e3,e4,e5,e6,e7,e8,e9,-⟩:=zaP HEND.out
 refine bodyPost_ret (v:= .agg #[.string ⟨v.scheme.toArray⟩,.string ⟨v.user.toArray⟩,.string ⟨v.pass.toArray⟩,.iface it iv,.int .i64 v.port,.slice sa sn sc,.string ⟨v.query.toArray⟩,.bool v.hasQ,.string ⟨v.frag.toArray⟩,.bool v.hasF]) (by simp [results,Tryz.results26,go_sem,e0,e1,e2,e3,e4,e5,e6,e7,e8,e9]) rfl ?_
 rw [HRES.out]
 exact ⟨(.slice sa sn sc),by rw [←HVH.out];rfl,by rw [HFP.out];exact zbU HEP.out (by omega),HEO.out⟩
theorem zdR {x y:World} {K:Nat} {a b c:Value} (h:y.heap[K]? =x.heap[K]?) (hx:x.cell? ⟨K,5,none⟩=some a∧x.cell? ⟨K,6,none⟩=some b∧x.cell? ⟨K,7,none⟩=some c):y.cell? ⟨K,5,none⟩=some a∧y.cell? ⟨K,6,none⟩=some b∧y.cell? ⟨K,7,none⟩=some c:=
 ⟨(World.cell?_of_block (a:=⟨K,5,none⟩) h).trans hx.1,(World.cell?_of_block (a:=⟨K,6,none⟩) h).trans hx.2.1,(World.cell?_of_block (a:=⟨K,7,none⟩) h).trans hx.2.2⟩
theorem zrH (M:Nat) (l:List UInt8) (b:UZ) (bpv:Value) (w:World) (hl:l.length≤100000) (hpl:b.path.length≤1000000) (hbh:b.host≠ .none) (hm:MB w M l) (hpv:PV w bpv b.path) (hmax:MaxVar w) (hd35:l.head? =some 35):
  Calls Tryz.prog 26 #[.pointer (some ⟨M,0,none⟩),.agg (b.cells bpv),.bool false] w (zrQ w M (relC b false l)):=by
 have HRES:Hid (relC b false l=zdC {zbE b with path:=b.path,query:=b.query,hasQ:=b.hasQ} l):=by show _=_;unfold relC;rw [if_neg (by decide),if_pos (.inr hd35)]
 have HW:=HRES.out.trans (zmX _ (.inr (.inr hd35))).symm
 clear HRES
 have HRES:=yiF HW
 clear HW
 have hne:l≠[]:=fun g=>by rw [g] at hd35;cases hd35
 obtain ⟨c,r,hlc⟩: ∃c r,l=c::r:=by
  match l,hne with
  |c::r,_=>exact ⟨c,r,rfl⟩
 have hz:(ByteArray.mk l.toArray).size=r.length+1:=by rw [hlc];simp [ByteArray.size]
 have h0:0<(ByteArray.mk l.toArray).size:=by rw [hz];omega
 have hb0:(ByteArray.mk l.toArray)[0]=c:=by subst hlc;rfl
 have hqe:l.isEmpty=false:=by rw [hlc];rfl
 have e35:((c.toNat:Int)==35)=decide (c=35):=zgN (c:=c) (n:=35) (by omega)
 have e63:((c.toNat:Int)==63)=decide (c=63):=zgN (c:=c) (n:=63) (by omega)
 have n35:c=35:=by rw [hlc] at hd35;simpa using hd35
 rw [yiJ n35] at e35
 clear hlc hne hd35 n35 e63
 obtain ⟨ba,bn,bc,rfl⟩:=hpv.shape
 obtain ⟨it,iv,hiv⟩:=HZ.iface hbh
 have HX:=yiF hmax
 have HM:=yiF hm
 have HPV:=yiF hpv
 have hMw:=zaO hm
 obtain ⟨x2,hx2⟩: ∃y,y=((w.alloc (.cells (b.cells (.slice ba bn bc)) 28)).alloc (.cells zbH 28)).alloc (.cells ((zbE b).cells (.slice none 0 0)) 28):=⟨_,rfl⟩
 obtain ⟨hk,hr,hu,hbw,hsz⟩:=zoW hx2
 have HK2:=yiF hk
 have HR2:=yiF hr
 have HU2:=yiF hu
 have HO2:Hid (Only [M] w x2):=Only.of_below hbw
 have HM2:=yiF (hm.below hbw)
 have HP2:=yiF (hpv.keep hbw)
 have HX2:=yiF (zaG hmax hbw)
 obtain ⟨-,-,-,-,-,b5,b6,b7,-,-,bf⟩:=hk.all
 have hc2:=HM2.out.cell
 have b3:=hk.all.2.2.2.1
 simp only [UZ.cells,zbE,zbX,zbH] at hx2
 rw [hiv] at hx2 b3
 have HIV:=yiF hiv
 clear hm hmax hpv hk hr hu hbw bf hbh
 have hKs:w.heap.size<x2.heap.size:=by omega
 have HKK:Hid (∀x,Below x2.heap.size x2 x→(x.cell? ⟨w.heap.size,5,none⟩=some (.slice ba bn bc)∧x.cell? ⟨w.heap.size,6,none⟩=some (.string ⟨b.query.toArray⟩)∧x.cell? ⟨w.heap.size,7,none⟩=some (.bool b.hasQ))):=fun x hb=>zdR (hb.block _ hKs) ⟨b5,b6,b7⟩
 have HS1:Hid (∀x,Below x2.heap.size x2 x→ ∀v,((x.setCell ⟨w.heap.size+2,5,none⟩ v).cell? ⟨w.heap.size,5,none⟩=some (.slice ba bn bc)∧(x.setCell ⟨w.heap.size+2,5,none⟩ v).cell? ⟨w.heap.size,6,none⟩=some (.string ⟨b.query.toArray⟩)∧(x.setCell ⟨w.heap.size+2,5,none⟩ v).cell? ⟨w.heap.size,7,none⟩=some (.bool b.hasQ))∧(((x.setCell ⟨w.heap.size+2,5,none⟩ v).setCell ⟨w.heap.size+2,6,none⟩ (.string ⟨b.query.toArray⟩)).cell? ⟨w.heap.size,5,none⟩=some (.slice ba bn bc)∧((x.setCell ⟨w.heap.size+2,5,none⟩ v).setCell ⟨w.heap.size+2,6,none⟩ (.string ⟨b.query.toArray⟩)).cell? ⟨w.heap.size,6,none⟩=some (.string ⟨b.query.toArray⟩)∧((x.setCell ⟨w.heap.size+2,5,none⟩ v).setCell ⟨w.heap.size+2,6,none⟩ (.string ⟨b.query.toArray⟩)).cell? ⟨w.heap.size,7,none⟩=some (.bool b.hasQ))∧((((x.setCell ⟨w.heap.size+2,5,none⟩ v).setCell ⟨w.heap.size+2,6,none⟩ (.string ⟨b.query.toArray⟩)).setCell ⟨w.heap.size+2,7,none⟩ (.bool b.hasQ)).cell? ⟨w.heap.size,5,none⟩=some (.slice ba bn bc)∧(((x.setCell ⟨w.heap.size+2,5,none⟩ v).setCell ⟨w.heap.size+2,6,none⟩ (.string ⟨b.query.toArray⟩)).setCell ⟨w.heap.size+2,7,none⟩ (.bool b.hasQ)).cell? ⟨w.heap.size,6,none⟩=some (.string ⟨b.query.toArray⟩)∧(((x.setCell ⟨w.heap.size+2,5,none⟩ v).setCell ⟨w.heap.size+2,6,none⟩ (.string ⟨b.query.toArray⟩)).setCell ⟨w.heap.size+2,7,none⟩ (.bool b.hasQ)).cell? ⟨w.heap.size,7,none⟩=some (.bool b.hasQ))):=fun x hb v=>by
  have h:=zdR (hb.block _ hKs) ⟨b5,b6,b7⟩
  have k1:=zdR (y:=(x.setCell ⟨w.heap.size+2,5,none⟩ v)) (zaZ (by omega) _ _) h
  have k2:=zdR (y:=((x.setCell ⟨w.heap.size+2,5,none⟩ v).setCell ⟨w.heap.size+2,6,none⟩ (.string ⟨b.query.toArray⟩))) (zaZ (by omega) _ _) k1
  exact ⟨k1,k2,zdR (zaZ (by omega) _ _) k2⟩
 have HST:Hid (∀x,Below x2.heap.size x2 x→ ∀v,x.cell? ⟨w.heap.size+2,5,none⟩=some (.slice none 0 0)∧(x.setCell ⟨w.heap.size+2,5,none⟩ v).cell? ⟨w.heap.size+2,6,none⟩=some (.string ⟨#[]⟩)∧((x.setCell ⟨w.heap.size+2,5,none⟩ v).setCell ⟨w.heap.size+2,6,none⟩ (.string ⟨b.query.toArray⟩)).cell? ⟨w.heap.size+2,7,none⟩=some (.bool false)∧x.frozen? ⟨w.heap.size+2,5,none⟩=false∧(x.setCell ⟨w.heap.size+2,5,none⟩ v).frozen? ⟨w.heap.size+2,6,none⟩=false∧((x.setCell ⟨w.heap.size+2,5,none⟩ v).setCell ⟨w.heap.size+2,6,none⟩ (.string ⟨b.query.toArray⟩)).frozen? ⟨w.heap.size+2,7,none⟩=false):=fun x hb v=>by
  have h:=HU2.out.below hb
  obtain ⟨-,-,-,-,-,q5,-,-,-,-,qf⟩:=h.all
  refine ⟨q5,zaE (zaF h 5 v) 6,zaE (zaF (zaF h 5 v) 6 _) 7,qf 5,zaW (zaF h 5 v) 6,zaW (zaF (zaF h 5 v) 6 _) 7⟩
 have HCL:Hid (∀W,Below x2.heap.size x2 W→Calls Tryz.prog 50 #[(.slice ba bn bc)] W fun e w'=> ∃v',e= .returned v'∧zaM x2.heap.size w' v' b.path∧Below x2.heap.size x2 w'):=fun W hW=>(zhL (.slice ba bn bc) b.path W (HP2.out.keep hW) hpl).mono (fun e w' h=>by
  obtain ⟨v',h1,h2,h3⟩:=h
  exact ⟨v',h1,zbU h2 hW.size,zaC hW h3⟩)
 go_enter Tryz.func26,Tryz.ntmps26
 simp only [UZ.cells]
 rw [hiv]
 clear hiv b3
 rw [hx2] at hc2 b5 b6 b7
 go_wp2_with fail
 rw [←hx2] at hc2 b5 b6 b7 ⊢
 clear hx2
 refine wp_region_held_drew (S:=fun W=>W.cell? ⟨w.heap.size,5,none⟩=some (.slice ba bn bc)∧W.cell? ⟨w.heap.size,6,none⟩=some (.string ⟨b.query.toArray⟩)∧W.cell? ⟨w.heap.size,7,none⟩=some (.bool b.hasQ)) (by kernel_rfl) ?_ (fun hHeld=> ?_)
 ·exact ⟨b5,b6,b7⟩
 refine tkZ 0 (some 44) (v:= ?_) rfl (.inl ⟨by rfl,?_⟩) hHeld ?_;rotate_left;·intro w hSw;(try dsimp only at hSw);go_simp;try with_reducible rfl
 try simp only [Act.put,tkZa,tkZb,tkZc]
 refine tkZ 1 (some 45) (v:= ?_) rfl (.inl ⟨by rfl,?_⟩) hHeld ?_;rotate_left;·intro w hSw;(try dsimp only at hSw);go_simp;try with_reducible rfl
 try simp only [Act.put,tkZa,tkZb,tkZc]
 refine tkZ 3 (some 47) (v:= ?_) rfl (.inl ⟨by rfl,?_⟩) hHeld ?_;rotate_left;·intro w hSw;(try dsimp only at hSw);go_simp;try with_reducible rfl
 try simp only [Act.put,tkZa,tkZb,tkZc]
 refine tkZ 4 (some 48) (v:= ?_) rfl (.inl ⟨by rfl,?_⟩) hHeld ?_;rotate_left;·intro w hSw;(try dsimp only at hSw);go_simp;try with_reducible rfl
 try simp only [Act.put,tkZa,tkZb,tkZc]
 refine tkZ 5 (some 49) (v:= ?_) rfl (.inl ⟨by rfl,?_⟩) hHeld ?_;rotate_left;·intro w hSw;(try dsimp only at hSw);go_simp;try with_reducible rfl
 try simp only [Act.put,tkZa,tkZb,tkZc]
 refine tkZ 6 (some 50) (v:= ?_) rfl (.inl ⟨by rfl,?_⟩) hHeld ?_;rotate_left;·intro w hSw;(try dsimp only at hSw);go_simp;try with_reducible rfl
 try simp only [Act.put,tkZa,tkZb,tkZc]
 refine wpAnyH_ready (rs:=[2]) (by kernel_rfl) (by simp) ?_
 refine AllReadyH.cons (o:=⟨some 46,_,_,_,_,_⟩) rfl (fun K hK=> ?_) AllReadyH.nil
 go_simp
 go_at_call 50
 refine (HCL.out _ (zbB _)).mono ?_
 rintro e x6 ⟨pv,rfl,hp6,hb6⟩
 obtain ⟨sa,sn,sc,rfl⟩:=hp6.pv.shape
 obtain ⟨c5,c6,c7,f5,f6,f7⟩:=HST.out _ hb6 (.slice sa sn sc)
 (try go_wp2_with fail)
 refine hK.out _ _ ?_ (fun hHeld1=> ?_)
 ·exact (HKK.out _ hb6)
 clear hK K
 try simp only [Act.put,tkZa,tkZb,tkZc]
 refine tkZ 7 (some 51) (v:= ?_) rfl (.inl ⟨by rfl,?_⟩) hHeld1 ?_;rotate_left;·intro w hSw;(try dsimp only at hSw);go_simp;try with_reducible rfl
 try simp only [Act.put,tkZa,tkZb,tkZc]
 refine wpAnyH_ready (rs:=[8]) (by kernel_rfl) (by simp) ?_
 refine AllReadyH.cons (o:=⟨none,_,_,_,_,_⟩) rfl (fun K hK=> ?_) AllReadyH.nil
 go_simp
 refine hK.out _ _ ?_ (fun hHeld2=> ?_)
 ·exact (HS1.out _ hb6 (.slice sa sn sc)).1
 clear hK K
 try simp only [Act.put,tkZa,tkZb,tkZc]
 refine tkZ 9 (some 52) (v:= ?_) rfl (.inl ⟨by rfl,?_⟩) hHeld2 ?_;rotate_left;·intro w hSw;(try dsimp only at hSw);go_simp;try with_reducible rfl
 try simp only [Act.put,tkZa,tkZb,tkZc]
 refine wpAnyH_ready (rs:=[10]) (by kernel_rfl) (by simp) ?_
 refine AllReadyH.cons (o:=⟨none,_,_,_,_,_⟩) rfl (fun K hK=> ?_) AllReadyH.nil
 go_simp
 refine hK.out _ _ ?_ (fun hHeld3=> ?_)
 ·exact (HS1.out _ hb6 (.slice sa sn sc)).2.1
 clear hK K
 try simp only [Act.put,tkZa,tkZb,tkZc]
 refine tkZ 11 (some 53) (v:= ?_) rfl (.inl ⟨by rfl,?_⟩) hHeld3 ?_;rotate_left;·intro w hSw;(try dsimp only at hSw);go_simp;try with_reducible rfl
 try simp only [Act.put,tkZa,tkZb,tkZc]
 refine wpAnyH_ready (rs:=[12]) (by kernel_rfl) (by simp) ?_
 refine AllReadyH.cons (o:=⟨none,_,_,_,_,_⟩) rfl (fun K hK=> ?_) AllReadyH.nil
 go_simp
 refine hK.out _ _ ?_ (fun hHeld4=> ?_)
 ·exact (HS1.out _ hb6 (.slice sa sn sc)).2.2
 clear hK K
 try simp only [Act.put,tkZa,tkZb,tkZc]
 refine wpAnyH_done (by kernel_rfl) ?_ _
 have HR7:=yiF (((((HR2.out.below hb6).set (g:=w.heap.size+2) (i:=5) (by omega) (.slice sa sn sc))).set (g:=w.heap.size+2) (i:=6) (by omega) (.string ⟨b.query.toArray⟩)).set (g:=w.heap.size+2) (i:=7) (by omega) (.bool b.hasQ))
 have HU7:Hid (UB (((x6.setCell ⟨w.heap.size+2,5,none⟩ (.slice sa sn sc)).setCell ⟨w.heap.size+2,6,none⟩ (.string ⟨b.query.toArray⟩)).setCell ⟨w.heap.size+2,7,none⟩ (.bool b.hasQ)) (w.heap.size+2) {zbE b with path:=b.path,query:=b.query,hasQ:=b.hasQ} (.slice sa sn sc)):=(HU2.out.below hb6).three (.slice sa sn sc) b.query b.hasQ
 have hset:Only [w.heap.size+2] x6 (((x6.setCell ⟨w.heap.size+2,5,none⟩ (.slice sa sn sc)).setCell ⟨w.heap.size+2,6,none⟩ (.string ⟨b.query.toArray⟩)).setCell ⟨w.heap.size+2,7,none⟩ (.bool b.hasQ)):=(((Only.refl _ _).setCell (p:=⟨w.heap.size+2,5,none⟩) (.inl (yiM ..)) _).setCell (p:=⟨w.heap.size+2,6,none⟩) (.inl (yiM ..)) _).setCell (p:=⟨w.heap.size+2,7,none⟩) (.inl (yiM ..)) _
 have HM7:=yiF ((HM2.out.below hb6).only hset (by simp;omega))
 have HO7:=yiF ((HO2.out.then_below hb6).trans hset (fun x hx=>by rw [List.mem_singleton.1 hx];exact .inr (by omega)))
 have HP7:=yiF (hp6.only hset (fun b hb=>by rw [List.mem_singleton.1 hb];omega))
 have HF7:=yiF (zfR M (w.heap.size+2) l {zbE b with path:=b.path,query:=b.query,hasQ:=b.hasQ} (.slice sa sn sc) _ (by omega) HM7.out HU7.out)
 clear HR2 HU2 HO2 HM2 HP2 HX2 HK2 HKK HS1 HST HCL hp6 b5 b6 b7 hc2 c5 c6 c7 f5 f6 f7 hset
 generalize ((x6.setCell ⟨w.heap.size+2,5,none⟩ (.slice sa sn sc)).setCell ⟨w.heap.size+2,6,none⟩ (.string ⟨b.query.toArray⟩)).setCell ⟨w.heap.size+2,7,none⟩ (.bool b.hasQ)=x7 at*
 go_wp2_with fail
 refine HF7.out.mono ?_
 rintro e x8 ⟨rfl,hu8,ho8⟩
 have HR8:=HR7.out.only ho8 (by simp;omega)
 have HO8:=yiF (zgZ HO7.out (by omega) ho8)
 have HP8:=yiF (HP7.out.only ho8 (fun b hb=>by
  rcases List.mem_cons.1 hb with e|e
  ·rw [e];omega
  ·rw [yiL] at e;omega))
 have HFP:Hid ((finC ({zbE b with path:=b.path,query:=b.query,hasQ:=b.hasQ}) l).path=b.path):=zgS _ _
 have HVH:Hid ((finC ({zbE b with path:=b.path,query:=b.query,hasQ:=b.hasQ}) l).host.val= .iface it iv):=by show _=_;rw [zhD];exact HIV.out
 clear HF7 HR7 HU7 HO7 HP7 HM7 ho8
 generalize finC ({zbE b with path:=b.path,query:=b.query,hasQ:=b.hasQ}) l=v at*
 obtain ⟨d0,d1,d2,d3,d4,d5,d6,d7,d8,d9,-⟩:=hu8.all
 rw [HVH.out] at d3
 obtain ⟨c0,c1,c2,c3,c4,c5,c6,c7,c8,c9,hrow⟩:=HR8
 have HRW:=yiF hrow
 obtain ⟨k0,k1,k2,k3,k4,k5,k6,k7,k8,k9,kf⟩:=zaP hrow
 clear hrow hu8
 have HEND:=yiF (zeG HRW.out (.string ⟨v.scheme.toArray⟩) (.string ⟨v.user.toArray⟩) (.string ⟨v.pass.toArray⟩) (.iface it iv) (.int .i64 v.port) (.slice sa sn sc) (.string ⟨v.query.toArray⟩) (.bool v.hasQ) (.string ⟨v.frag.toArray⟩) (.bool v.hasF))
 have HEO:=yiF (zcK (g:=w.heap.size+1) HO8.out (.inr (Nat.le_succ _)) (.string ⟨v.scheme.toArray⟩) (.string ⟨v.user.toArray⟩) (.string ⟨v.pass.toArray⟩) (.iface it iv) (.int .i64 v.port) (.slice sa sn sc) (.string ⟨v.query.toArray⟩) (.bool v.hasQ) (.string ⟨v.frag.toArray⟩) (.bool v.hasF))
 have HEP:=yiF (HP8.out.only (zcK (g:=w.heap.size+1) (F:=[w.heap.size+1]) (Only.refl _ _) (.inl (yiM ..)) (.string ⟨v.scheme.toArray⟩) (.string ⟨v.user.toArray⟩) (.string ⟨v.pass.toArray⟩) (.iface it iv) (.int .i64 v.port) (.slice sa sn sc) (.string ⟨v.query.toArray⟩) (.bool v.hasQ) (.string ⟨v.frag.toArray⟩) (.bool v.hasF)) (fun b hb=>by rw [List.mem_singleton.1 hb];omega))
 go_wp2
 obtain ⟨e0,e1,e2,e3,e4,e5,e6,e7,e8,e9,-⟩:=zaP HEND.out
 refine bodyPost_ret (v:= .agg #[.string ⟨v.scheme.toArray⟩,.string ⟨v.user.toArray⟩,.string ⟨v.pass.toArray⟩,.iface it iv,.int .i64 v.port,.slice sa sn sc,.string ⟨v.query.toArray⟩,.bool v.hasQ,.string ⟨v.frag.toArray⟩,.bool v.hasF]) (by simp [results,Tryz.results26,go_sem,e0,e1,e2,e3,e4,e5,e6,e7,e8,e9]) rfl ?_
 rw [HRES.out]
 exact ⟨(.slice sa sn sc),by rw [←HVH.out];rfl,by rw [HFP.out];exact zbU HEP.out (by omega),HEO.out⟩
theorem zuY (M:Nat) (l:List UInt8) (b:UZ) (bpv:Value) (w:World) (hl:l.length≤100000) (hpl:b.path.length≤1000000) (hbh:b.host≠ .none) (hm:MB w M l) (hpv:PV w bpv b.path) (hmax:MaxVar w) (hn:l=[]):
  Calls Tryz.prog 26 #[.pointer (some ⟨M,0,none⟩),.agg (b.cells bpv),.bool false] w (zrQ w M (relC b false l)):=by
 have HRES:Hid (relC b false l=zdC {zbE b with path:=b.path,query:=b.query,hasQ:=b.hasQ} l):=by show _=_;unfold relC;rw [if_neg (by decide),if_pos (.inl hn)]
 have HW:=HRES.out.trans (zmX _ (.inl hn)).symm
 clear HRES
 have HRES:=yiF HW
 clear HW
 have hqe:l.isEmpty=true:=by rw [hn];rfl
 clear hn
 obtain ⟨ba,bn,bc,rfl⟩:=hpv.shape
 obtain ⟨it,iv,hiv⟩:=HZ.iface hbh
 have HX:=yiF hmax
 have HM:=yiF hm
 have HPV:=yiF hpv
 have hMw:=zaO hm
 obtain ⟨x2,hx2⟩: ∃y,y=((w.alloc (.cells (b.cells (.slice ba bn bc)) 28)).alloc (.cells zbH 28)).alloc (.cells ((zbE b).cells (.slice none 0 0)) 28):=⟨_,rfl⟩
 obtain ⟨hk,hr,hu,hbw,hsz⟩:=zoW hx2
 have HK2:=yiF hk
 have HR2:=yiF hr
 have HU2:=yiF hu
 have HO2:Hid (Only [M] w x2):=Only.of_below hbw
 have HM2:=yiF (hm.below hbw)
 have HP2:=yiF (hpv.keep hbw)
 have HX2:=yiF (zaG hmax hbw)
 obtain ⟨-,-,-,-,-,b5,b6,b7,-,-,bf⟩:=hk.all
 have hc2:=HM2.out.cell
 have b3:=hk.all.2.2.2.1
 simp only [UZ.cells,zbE,zbX,zbH] at hx2
 rw [hiv] at hx2 b3
 have HIV:=yiF hiv
 clear hm hmax hpv hk hr hu hbw bf hbh
 have hKs:w.heap.size<x2.heap.size:=by omega
 have HKK:Hid (∀x,Below x2.heap.size x2 x→(x.cell? ⟨w.heap.size,5,none⟩=some (.slice ba bn bc)∧x.cell? ⟨w.heap.size,6,none⟩=some (.string ⟨b.query.toArray⟩)∧x.cell? ⟨w.heap.size,7,none⟩=some (.bool b.hasQ))):=fun x hb=>zdR (hb.block _ hKs) ⟨b5,b6,b7⟩
 have HS1:Hid (∀x,Below x2.heap.size x2 x→ ∀v,((x.setCell ⟨w.heap.size+2,5,none⟩ v).cell? ⟨w.heap.size,5,none⟩=some (.slice ba bn bc)∧(x.setCell ⟨w.heap.size+2,5,none⟩ v).cell? ⟨w.heap.size,6,none⟩=some (.string ⟨b.query.toArray⟩)∧(x.setCell ⟨w.heap.size+2,5,none⟩ v).cell? ⟨w.heap.size,7,none⟩=some (.bool b.hasQ))∧(((x.setCell ⟨w.heap.size+2,5,none⟩ v).setCell ⟨w.heap.size+2,6,none⟩ (.string ⟨b.query.toArray⟩)).cell? ⟨w.heap.size,5,none⟩=some (.slice ba bn bc)∧((x.setCell ⟨w.heap.size+2,5,none⟩ v).setCell ⟨w.heap.size+2,6,none⟩ (.string ⟨b.query.toArray⟩)).cell? ⟨w.heap.size,6,none⟩=some (.string ⟨b.query.toArray⟩)∧((x.setCell ⟨w.heap.size+2,5,none⟩ v).setCell ⟨w.heap.size+2,6,none⟩ (.string ⟨b.query.toArray⟩)).cell? ⟨w.heap.size,7,none⟩=some (.bool b.hasQ))∧((((x.setCell ⟨w.heap.size+2,5,none⟩ v).setCell ⟨w.heap.size+2,6,none⟩ (.string ⟨b.query.toArray⟩)).setCell ⟨w.heap.size+2,7,none⟩ (.bool b.hasQ)).cell? ⟨w.heap.size,5,none⟩=some (.slice ba bn bc)∧(((x.setCell ⟨w.heap.size+2,5,none⟩ v).setCell ⟨w.heap.size+2,6,none⟩ (.string ⟨b.query.toArray⟩)).setCell ⟨w.heap.size+2,7,none⟩ (.bool b.hasQ)).cell? ⟨w.heap.size,6,none⟩=some (.string ⟨b.query.toArray⟩)∧(((x.setCell ⟨w.heap.size+2,5,none⟩ v).setCell ⟨w.heap.size+2,6,none⟩ (.string ⟨b.query.toArray⟩)).setCell ⟨w.heap.size+2,7,none⟩ (.bool b.hasQ)).cell? ⟨w.heap.size,7,none⟩=some (.bool b.hasQ))):=fun x hb v=>by
  have h:=zdR (hb.block _ hKs) ⟨b5,b6,b7⟩
  have k1:=zdR (y:=(x.setCell ⟨w.heap.size+2,5,none⟩ v)) (zaZ (by omega) _ _) h
  have k2:=zdR (y:=((x.setCell ⟨w.heap.size+2,5,none⟩ v).setCell ⟨w.heap.size+2,6,none⟩ (.string ⟨b.query.toArray⟩))) (zaZ (by omega) _ _) k1
  exact ⟨k1,k2,zdR (zaZ (by omega) _ _) k2⟩
 have HST:Hid (∀x,Below x2.heap.size x2 x→ ∀v,x.cell? ⟨w.heap.size+2,5,none⟩=some (.slice none 0 0)∧(x.setCell ⟨w.heap.size+2,5,none⟩ v).cell? ⟨w.heap.size+2,6,none⟩=some (.string ⟨#[]⟩)∧((x.setCell ⟨w.heap.size+2,5,none⟩ v).setCell ⟨w.heap.size+2,6,none⟩ (.string ⟨b.query.toArray⟩)).cell? ⟨w.heap.size+2,7,none⟩=some (.bool false)∧x.frozen? ⟨w.heap.size+2,5,none⟩=false∧(x.setCell ⟨w.heap.size+2,5,none⟩ v).frozen? ⟨w.heap.size+2,6,none⟩=false∧((x.setCell ⟨w.heap.size+2,5,none⟩ v).setCell ⟨w.heap.size+2,6,none⟩ (.string ⟨b.query.toArray⟩)).frozen? ⟨w.heap.size+2,7,none⟩=false):=fun x hb v=>by
  have h:=HU2.out.below hb
  obtain ⟨-,-,-,-,-,q5,-,-,-,-,qf⟩:=h.all
  refine ⟨q5,zaE (zaF h 5 v) 6,zaE (zaF (zaF h 5 v) 6 _) 7,qf 5,zaW (zaF h 5 v) 6,zaW (zaF (zaF h 5 v) 6 _) 7⟩
 have HCL:Hid (∀W,Below x2.heap.size x2 W→Calls Tryz.prog 50 #[(.slice ba bn bc)] W fun e w'=> ∃v',e= .returned v'∧zaM x2.heap.size w' v' b.path∧Below x2.heap.size x2 w'):=fun W hW=>(zhL (.slice ba bn bc) b.path W (HP2.out.keep hW) hpl).mono (fun e w' h=>by
  obtain ⟨v',h1,h2,h3⟩:=h
  exact ⟨v',h1,zbU h2 hW.size,zaC hW h3⟩)
 go_enter Tryz.func26,Tryz.ntmps26
 simp only [UZ.cells]
 rw [hiv]
 clear hiv b3
 rw [hx2] at hc2 b5 b6 b7
 go_wp2_with fail
 rw [←hx2] at hc2 b5 b6 b7 ⊢
 clear hx2
 refine wp_region_held_drew (S:=fun W=>W.cell? ⟨w.heap.size,5,none⟩=some (.slice ba bn bc)∧W.cell? ⟨w.heap.size,6,none⟩=some (.string ⟨b.query.toArray⟩)∧W.cell? ⟨w.heap.size,7,none⟩=some (.bool b.hasQ)) (by kernel_rfl) ?_ (fun hHeld=> ?_)
 ·exact ⟨b5,b6,b7⟩
 refine tkZ 0 (some 44) (v:= ?_) rfl (.inl ⟨by rfl,?_⟩) hHeld ?_;rotate_left;·intro w hSw;(try dsimp only at hSw);go_simp;try with_reducible rfl
 try simp only [Act.put,tkZa,tkZb,tkZc]
 refine tkZ 1 (some 45) (v:= ?_) rfl (.inl ⟨by rfl,?_⟩) hHeld ?_;rotate_left;·intro w hSw;(try dsimp only at hSw);go_simp;try with_reducible rfl
 try simp only [Act.put,tkZa,tkZb,tkZc]
 refine tkZ 3 (some 47) (v:= ?_) rfl (.inl ⟨by rfl,?_⟩) hHeld ?_;rotate_left;·intro w hSw;(try dsimp only at hSw);go_simp;try with_reducible rfl
 try simp only [Act.put,tkZa,tkZb,tkZc]
 refine tkZ 4 (some 48) (v:= ?_) rfl (.inl ⟨by rfl,?_⟩) hHeld ?_;rotate_left;·intro w hSw;(try dsimp only at hSw);go_simp;try with_reducible rfl
 try simp only [Act.put,tkZa,tkZb,tkZc]
 refine tkZ 5 (some 49) (v:= ?_) rfl (.inl ⟨by rfl,?_⟩) hHeld ?_;rotate_left;·intro w hSw;(try dsimp only at hSw);go_simp;try with_reducible rfl
 try simp only [Act.put,tkZa,tkZb,tkZc]
 refine tkZ 6 (some 50) (v:= ?_) rfl (.inl ⟨by rfl,?_⟩) hHeld ?_;rotate_left;·intro w hSw;(try dsimp only at hSw);go_simp;try with_reducible rfl
 try simp only [Act.put,tkZa,tkZb,tkZc]
 refine wpAnyH_ready (rs:=[2]) (by kernel_rfl) (by simp) ?_
 refine AllReadyH.cons (o:=⟨some 46,_,_,_,_,_⟩) rfl (fun K hK=> ?_) AllReadyH.nil
 go_simp
 go_at_call 50
 refine (HCL.out _ (zbB _)).mono ?_
 rintro e x6 ⟨pv,rfl,hp6,hb6⟩
 obtain ⟨sa,sn,sc,rfl⟩:=hp6.pv.shape
 obtain ⟨c5,c6,c7,f5,f6,f7⟩:=HST.out _ hb6 (.slice sa sn sc)
 (try go_wp2_with fail)
 refine hK.out _ _ ?_ (fun hHeld1=> ?_)
 ·exact (HKK.out _ hb6)
 clear hK K
 try simp only [Act.put,tkZa,tkZb,tkZc]
 refine tkZ 7 (some 51) (v:= ?_) rfl (.inl ⟨by rfl,?_⟩) hHeld1 ?_;rotate_left;·intro w hSw;(try dsimp only at hSw);go_simp;try with_reducible rfl
 try simp only [Act.put,tkZa,tkZb,tkZc]
 refine wpAnyH_ready (rs:=[8]) (by kernel_rfl) (by simp) ?_
 refine AllReadyH.cons (o:=⟨none,_,_,_,_,_⟩) rfl (fun K hK=> ?_) AllReadyH.nil
 go_simp
 refine hK.out _ _ ?_ (fun hHeld2=> ?_)
 ·exact (HS1.out _ hb6 (.slice sa sn sc)).1
 clear hK K
 try simp only [Act.put,tkZa,tkZb,tkZc]
 refine tkZ 9 (some 52) (v:= ?_) rfl (.inl ⟨by rfl,?_⟩) hHeld2 ?_;rotate_left;·intro w hSw;(try dsimp only at hSw);go_simp;try with_reducible rfl
 try simp only [Act.put,tkZa,tkZb,tkZc]
 refine wpAnyH_ready (rs:=[10]) (by kernel_rfl) (by simp) ?_
 refine AllReadyH.cons (o:=⟨none,_,_,_,_,_⟩) rfl (fun K hK=> ?_) AllReadyH.nil
 go_simp
 refine hK.out _ _ ?_ (fun hHeld3=> ?_)
 ·exact (HS1.out _ hb6 (.slice sa sn sc)).2.1
 clear hK K
 try simp only [Act.put,tkZa,tkZb,tkZc]
 refine tkZ 11 (some 53) (v:= ?_) rfl (.inl ⟨by rfl,?_⟩) hHeld3 ?_;rotate_left;·intro w hSw;(try dsimp only at hSw);go_simp;try with_reducible rfl
 try simp only [Act.put,tkZa,tkZb,tkZc]
 refine wpAnyH_ready (rs:=[12]) (by kernel_rfl) (by simp) ?_
 refine AllReadyH.cons (o:=⟨none,_,_,_,_,_⟩) rfl (fun K hK=> ?_) AllReadyH.nil
 go_simp
 refine hK.out _ _ ?_ (fun hHeld4=> ?_)
 ·exact (HS1.out _ hb6 (.slice sa sn sc)).2.2
 clear hK K
 try simp only [Act.put,tkZa,tkZb,tkZc]
 refine wpAnyH_done (by kernel_rfl) ?_ _
 have HR7:=yiF (((((HR2.out.below hb6).set (g:=w.heap.size+2) (i:=5) (by omega) (.slice sa sn sc))).set (g:=w.heap.size+2) (i:=6) (by omega) (.string ⟨b.query.toArray⟩)).set (g:=w.heap.size+2) (i:=7) (by omega) (.bool b.hasQ))
 have HU7:Hid (UB (((x6.setCell ⟨w.heap.size+2,5,none⟩ (.slice sa sn sc)).setCell ⟨w.heap.size+2,6,none⟩ (.string ⟨b.query.toArray⟩)).setCell ⟨w.heap.size+2,7,none⟩ (.bool b.hasQ)) (w.heap.size+2) {zbE b with path:=b.path,query:=b.query,hasQ:=b.hasQ} (.slice sa sn sc)):=(HU2.out.below hb6).three (.slice sa sn sc) b.query b.hasQ
 have hset:Only [w.heap.size+2] x6 (((x6.setCell ⟨w.heap.size+2,5,none⟩ (.slice sa sn sc)).setCell ⟨w.heap.size+2,6,none⟩ (.string ⟨b.query.toArray⟩)).setCell ⟨w.heap.size+2,7,none⟩ (.bool b.hasQ)):=(((Only.refl _ _).setCell (p:=⟨w.heap.size+2,5,none⟩) (.inl (yiM ..)) _).setCell (p:=⟨w.heap.size+2,6,none⟩) (.inl (yiM ..)) _).setCell (p:=⟨w.heap.size+2,7,none⟩) (.inl (yiM ..)) _
 have HM7:=yiF ((HM2.out.below hb6).only hset (by simp;omega))
 have HO7:=yiF ((HO2.out.then_below hb6).trans hset (fun x hx=>by rw [List.mem_singleton.1 hx];exact .inr (by omega)))
 have HP7:=yiF (hp6.only hset (fun b hb=>by rw [List.mem_singleton.1 hb];omega))
 have HF7:=yiF (zfR M (w.heap.size+2) l {zbE b with path:=b.path,query:=b.query,hasQ:=b.hasQ} (.slice sa sn sc) _ (by omega) HM7.out HU7.out)
 clear HR2 HU2 HO2 HM2 HP2 HX2 HK2 HKK HS1 HST HCL hp6 b5 b6 b7 hc2 c5 c6 c7 f5 f6 f7 hset
 generalize ((x6.setCell ⟨w.heap.size+2,5,none⟩ (.slice sa sn sc)).setCell ⟨w.heap.size+2,6,none⟩ (.string ⟨b.query.toArray⟩)).setCell ⟨w.heap.size+2,7,none⟩ (.bool b.hasQ)=x7 at*
 go_wp2_with fail
 refine HF7.out.mono ?_
 rintro e x8 ⟨rfl,hu8,ho8⟩
 have HR8:=HR7.out.only ho8 (by simp;omega)
 have HO8:=yiF (zgZ HO7.out (by omega) ho8)
 have HP8:=yiF (HP7.out.only ho8 (fun b hb=>by
  rcases List.mem_cons.1 hb with e|e
  ·rw [e];omega
  ·rw [yiL] at e;omega))
 have HFP:Hid ((finC ({zbE b with path:=b.path,query:=b.query,hasQ:=b.hasQ}) l).path=b.path):=zgS _ _
 have HVH:Hid ((finC ({zbE b with path:=b.path,query:=b.query,hasQ:=b.hasQ}) l).host.val= .iface it iv):=by show _=_;rw [zhD];exact HIV.out
 clear HF7 HR7 HU7 HO7 HP7 HM7 ho8
 generalize finC ({zbE b with path:=b.path,query:=b.query,hasQ:=b.hasQ}) l=v at*
 obtain ⟨d0,d1,d2,d3,d4,d5,d6,d7,d8,d9,-⟩:=hu8.all
 rw [HVH.out] at d3
 obtain ⟨c0,c1,c2,c3,c4,c5,c6,c7,c8,c9,hrow⟩:=HR8
 have HRW:=yiF hrow
 obtain ⟨k0,k1,k2,k3,k4,k5,k6,k7,k8,k9,kf⟩:=zaP hrow
 clear hrow hu8
 have HEND:=yiF (zeG HRW.out (.string ⟨v.scheme.toArray⟩) (.string ⟨v.user.toArray⟩) (.string ⟨v.pass.toArray⟩) (.iface it iv) (.int .i64 v.port) (.slice sa sn sc) (.string ⟨v.query.toArray⟩) (.bool v.hasQ) (.string ⟨v.frag.toArray⟩) (.bool v.hasF))
 have HEO:=yiF (zcK (g:=w.heap.size+1) HO8.out (.inr (Nat.le_succ _)) (.string ⟨v.scheme.toArray⟩) (.string ⟨v.user.toArray⟩) (.string ⟨v.pass.toArray⟩) (.iface it iv) (.int .i64 v.port) (.slice sa sn sc) (.string ⟨v.query.toArray⟩) (.bool v.hasQ) (.string ⟨v.frag.toArray⟩) (.bool v.hasF))
 have HEP:=yiF (HP8.out.only (zcK (g:=w.heap.size+1) (F:=[w.heap.size+1]) (Only.refl _ _) (.inl (yiM ..)) (.string ⟨v.scheme.toArray⟩) (.string ⟨v.user.toArray⟩) (.string ⟨v.pass.toArray⟩) (.iface it iv) (.int .i64 v.port) (.slice sa sn sc) (.string ⟨v.query.toArray⟩) (.bool v.hasQ) (.string ⟨v.frag.toArray⟩) (.bool v.hasF)) (fun b hb=>by rw [List.mem_singleton.1 hb];omega))
 go_wp2
 obtain ⟨e0,e1,e2,e3,e4,e5,e6,e7,e8,e9,-⟩:=zaP HEND.out
 refine bodyPost_ret (v:= .agg #[.string ⟨v.scheme.toArray⟩,.string ⟨v.user.toArray⟩,.string ⟨v.pass.toArray⟩,.iface it iv,.int .i64 v.port,.slice sa sn sc,.string ⟨v.query.toArray⟩,.bool v.hasQ,.string ⟨v.frag.toArray⟩,.bool v.hasF]) (by simp [results,Tryz.results26,go_sem,e0,e1,e2,e3,e4,e5,e6,e7,e8,e9]) rfl ?_
 rw [HRES.out]
 exact ⟨(.slice sa sn sc),by rw [←HVH.out];rfl,by rw [HFP.out];exact zbU HEP.out (by omega),HEO.out⟩
theorem ztL (M:Nat) (l:List UInt8) (b:UZ) (bpv:Value) (rooted:Bool) (w:World) (hl:l.length≤100000) (hpl:b.path.length≤1000000) (hbh:b.host≠ .none) (hm:MB w M l) (hpv:PV w bpv b.path) (hmax:MaxVar w):
  Calls Tryz.prog 26 #[.pointer (some ⟨M,0,none⟩),.agg (b.cells bpv),.bool rooted] w (zrQ w M (relC b rooted l)):=by
 cases rooted with
 |true=>exact zoT M l b bpv w hl hpl hbh hm hpv hmax
 |false=>
  by_cases h0:l=[]
  ·exact zuY M l b bpv w hl hpl hbh hm hpv hmax h0
  by_cases h35:l.head? =some 35
  ·exact zrH M l b bpv w hl hpl hbh hm hpv hmax h35
  by_cases h63:l.head? =some 63
  ·exact zpF M l b bpv w hl hpl hbh hm hpv hmax h63
  exact zsG M l b bpv w hl hpl hbh hm hpv hmax h0 h35 h63
def RetP (w:World) (x:UZ×Int) (e:Ending) (w':World):Prop:= ∃pv,e= .returned (.tuple #[.agg (x.1.cells pv),.int .i64 x.2])∧zaM w.heap.size w' pv x.1.path∧Below w.heap.size w w'
theorem HZ.shape (h:HZ):h.val= .nilIface∨ ∃t v,h.val= .iface t v:=by
 cases h with
 |none=>exact .inl rfl
 |name l=>exact .inr ⟨_,_,rfl⟩
 |addr a=>cases a<;>exact .inr ⟨_,_,rfl⟩
theorem z4U {n:List UInt8} (h:ownZ n≠0):ownZ n=80∨ownZ n=443:=by
 unfold ownZ at*
 split at h
 ·exact .inl (by rename_i g;rw [if_pos g])
 ·rename_i g
  rw [if_neg g] at*
  split at h
  ·rename_i g2;exact .inr (by rw [if_pos g2])
  ·exact absurd rfl h
theorem zqK {t:List UInt8} {b:Option UZ} (hb: ∀u,b=some u→u.scheme=zdV∨u.scheme=zcX) (h: ¬4096<t.length):zaQ t b=zxF (zcF (zaV t)) b:=by
 unfold zaQ
 rw [if_neg h,z9Q _ b hb]
theorem ziV {t:List UInt8} {b:Option UZ} (h:4096<t.length):zaQ t b=(zbX,3):=if_pos h
theorem zcW (t:List UInt8):(zcF (zaV t)).length≤t.length:=by
 have h1:=yaT (zaV t)
 have h2:=zdS t
 have h3:=(List.dropWhile_suffix (l:=t) zcA).length_le
 omega
theorem zsC {s:List UInt8} {b:Option UZ} (h:ownZ (zfZ s b)=0):zxF s b=(zbX,5):=if_pos h
theorem ybO {s:List UInt8} (h: ¬ownZ (zfZ s none)=0):zxF s none=zcU (zfZ s none) (zbW (zfV s)):=if_neg h
theorem zrD {s:List UInt8} {b:UZ} (h: ¬ownZ (zfZ s (some b))=0) (h2:b.scheme≠zfZ s (some b)∨1<zbM (zfV s)):zxF s (some b)=zcU (zfZ s (some b)) (zbW (zfV s)):=(if_neg h).trans (if_pos h2)
theorem zzZ {s:List UInt8} {b:UZ} (h: ¬ownZ (zfZ s (some b))=0) (h2: ¬(b.scheme≠zfZ s (some b)∨1<zbM (zfV s))):zxF s (some b)=(relC b (decide (zbM (zfV s)≠0)) (zbW (zfV s)),0):=(if_neg h).trans (if_neg h2)
theorem zuP {s n r:List UInt8} {b:Option UZ} (h:schW s=some (n,r)):zfZ s b=n∧zfV s=r:=by
 unfold zfZ zfV;rw [h];exact ⟨rfl,rfl⟩
theorem zsO {s:List UInt8} {b:UZ} (h:schW s=none):zfZ s (some b)=b.scheme∧zfZ s none=[]∧zfV s=s:=by
 unfold zfZ zfV;rw [h];exact ⟨rfl,rfl,rfl⟩
theorem zdT (l:List UInt8):(zbW l).length≤l.length:=(List.dropWhile_suffix (l:=l) zcB).length_le
theorem zxY (l:List UInt8):zbM l≤l.length:=zsF _ l ()
theorem zeP {s n r:List UInt8} (h:schW s=some (n,r)):r.length≤s.length:=by
 rw [zuI] at h
 split at h
 ·have:=(Prod.mk.inj (Option.some.inj h)).2
  rw [←this,List.length_drop];omega
 ·cases h
theorem yaF (s:List UInt8):(zfV s).length≤s.length:=by
 unfold zfV
 cases h:schW s with
 |none=>exact yiH _
 |some p=>
  obtain ⟨n,r⟩:=p
  exact zeP h
def ybI (t:List UInt8):Prop:=t.length≤4096→ ∀(b:UZ) (bpv:Value) (M:Nat) (W:World),b.host≠ .none→b.path.length≤1000000→MB W M (zbW (zfV (zcF (zaV t))))→PV W bpv b.path→MaxVar W→
 Calls Tryz.prog 26 #[.pointer (some ⟨M,0,none⟩),.agg (b.cells bpv),.bool (decide (zbM (zfV (zcF (zaV t)))≠0))] W (zrQ W M (relC b (decide (zbM (zfV (zcF (zaV t)))≠0)) (zbW (zfV (zcF (zaV t))))))
theorem z3X (t:List UInt8):ybI t:=fun h b bpv M W h1 h2 h3 h4 h5=>ztL M _ b bpv _ W (by have:=zdT (zfV (zcF (zaV t)));have:=yaF (zcF (zaV t));have:=zcW t;omega) h2 h1 h3 h4 h5
theorem zcI {w x:World} {pv:Value} {u:UZ} {B:Nat} (hb:Below w.heap.size w x) (hp:zaM B x pv u.path) (hB:w.heap.size<B) (c0 c1 c2 c3 c4 c5 c6 c7 c8 c9:Value):
  zaM w.heap.size ((((((((((x.setCell ⟨w.heap.size,0,none⟩ c0).setCell ⟨w.heap.size,1,none⟩ c1).setCell ⟨w.heap.size,2,none⟩ c2).setCell ⟨w.heap.size,3,none⟩ c3).setCell ⟨w.heap.size,4,none⟩ c4).setCell ⟨w.heap.size,5,none⟩ c5).setCell ⟨w.heap.size,6,none⟩ c6).setCell ⟨w.heap.size,7,none⟩ c7).setCell ⟨w.heap.size,8,none⟩ c8).setCell ⟨w.heap.size,9,none⟩ c9) pv u.path∧
  Below w.heap.size w ((((((((((x.setCell ⟨w.heap.size,0,none⟩ c0).setCell ⟨w.heap.size,1,none⟩ c1).setCell ⟨w.heap.size,2,none⟩ c2).setCell ⟨w.heap.size,3,none⟩ c3).setCell ⟨w.heap.size,4,none⟩ c4).setCell ⟨w.heap.size,5,none⟩ c5).setCell ⟨w.heap.size,6,none⟩ c6).setCell ⟨w.heap.size,7,none⟩ c7).setCell ⟨w.heap.size,8,none⟩ c8).setCell ⟨w.heap.size,9,none⟩ c9):=
 ⟨zbU (hp.only (zcK (g:=w.heap.size) (F:=[w.heap.size]) (Only.refl _ _) (.inl (yiM ..)) _ _ _ _ _ _ _ _ _ _) (fun b hb=>by rw [List.mem_singleton.1 hb];exact hB)) (Nat.le_of_lt hB),zdW hb (yiH _) _ _ _ _ _ _ _ _ _ _⟩
theorem zxC (t:List UInt8) (w:World) (hmax:MaxVar w) (hl:t.length≤1000000):
  Calls Tryz.prog 13 #[.string ⟨t.toArray⟩,.pointer none] w (RetP w (zaQ t none)):=by
 obtain ⟨x0,hx0⟩: ∃y,y=w.alloc (.cells zbH 28):=⟨_,rfl⟩
 have hb0:Below w.heap.size w x0:=by rw [hx0];exact zbQ w _
 have HR0:Hid (RB x0 w.heap.size):=by show RB _ _;rw [hx0];exact RB.new w
 have hz:=zaA t
 unfold zbH at hx0
 have HX:=yiF (fun x (h:Below w.heap.size w x)=>zaG hmax h)
 by_cases hbig:4096<t.length
 ·have HF:=yiF (ziV (b:=none) hbig)
  have hd:decide (4096<(t.length:Int))=true:=yiJ (by omega)
  have hbb:Below w.heap.size w (w.alloc (.cells zbH 28)):=zbQ w _
  unfold zbH at hbb
  clear HR0 hb0 hx0 HX
  go_enter Tryz.func13,Tryz.ntmps13
  go_wp2
  refine bodyPost_ret (v:= .tuple #[.agg zbH,.int .i64 3]) (by simp [results,Tryz.results13,go_sem,zbH]) rfl ?_
  rw [HF.out]
  exact ⟨.slice none 0 0,rfl,zaM.nil _ _,hbb⟩
 have hd:decide (4096<(t.length:Int))=false:=yiI (by omega)
 have HF:=yiF (zqK (b:=none) (fun u e=>by cases e) hbig)
 have h4:t.length≤4096:=by omega
 have hcl:=zcW t
 have htl:(zaV t).length≤t.length:=by
  have h2:=zdS t
  have h3:=(List.dropWhile_suffix (l:=t) zcA).length_le
  omega
 have HT:=yiF (fun W=>zzC ⟨t.toArray⟩ W (by rw [zaA];omega))
 rw [zaB] at HT
 have HD:=yiF (fun W=>zzQ ⟨(zaV t).toArray⟩ W (by rw [zaA];omega))
 rw [zaB] at HD
 generalize zcF (zaV t)=s at*
 generalize zaV t=t1 at*
 have HB0:=yiF hb0
 clear hmax hb0 hbig
 go_enter Tryz.func13,Tryz.ntmps13
 go_wp2_with fail
 rw [←hx0]
 clear hx0
 refine (HT.out _).mono ?_
 rintro e w' ⟨rfl,rfl⟩
 go_wp2_with fail
 refine (HD.out _).mono ?_
 rintro e x1 ⟨rfl,hb1⟩
 have HB1:=yiF (zaC HB0.out hb1)
 have HR1:=yiF (HR0.out.below hb1)
 clear hb1 HB0 HR0 HT HD hz hd
 obtain ⟨x2,hx2⟩: ∃y,y=x1.alloc (.cells #[.string ⟨s.toArray⟩] 53):=⟨_,rfl⟩
 have hb2:Below x1.heap.size x1 x2:=by rw [hx2];exact (yiK _ _).alloc (yiH _) _
 have HB2:=yiF (zaC HB1.out hb2)
 have HR2:=yiF (HR1.out.below hb2)
 have HM2:Hid (MB x2 x1.heap.size s):=by show MB _ _ _;rw [hx2];exact heap_alloc_new x1 _
 have HS2:=yiF (zqQ _ s x2 (by omega) HM2.out)
 have hRM:w.heap.size≠x1.heap.size:=by have:=HR1.out.lt;omega
 have hwM:w.heap.size<x1.heap.size:=HR1.out.lt
 clear HB1 HR1 hb2 HM2
 go_wp2_with fail
 rw [←hx2]
 clear hx2
 generalize x1.heap.size=M at*
 refine HS2.out.mono ?_
 rintro e x3 ⟨rfl,hm3,ho3⟩
 have hb3:Below w.heap.size x2 x3:=ho3.below HB2.out.size (fun x hx=>by rw [List.mem_singleton.1 hx];omega)
 have HB3:=yiF (HB2.out.trans hb3)
 have HR3:=yiF (HR2.out.only ho3 (by simp [hRM]))
 have hMx3:=zaO hm3
 clear HS2 ho3 HB2 HR2 hb3
 cases hsc:schW s with
 |none=>
  obtain ⟨-,hnm,hlf⟩:=zsO (b:=zbX) hsc
  have h0:ownZ (zfZ s none)=0:=by rw [hnm];decide
  rw [hsc] at hm3
  obtain ⟨nm,hnn⟩: ∃nm,nm=([]:List UInt8):=⟨_,rfl⟩
  rw [←hnn] at hnm
  clear hsc hlf
  simp only [Option.map,Option.getD,Option.isSome] at hm3 ⊢
  have HF2:=yiF (HF.out.trans (zsC h0))
  obtain ⟨c0,c1,c2,c3,c4,c5,c6,c7,c8,c9,hrow⟩:=HR3.out
  have HRW:=yiF hrow
  obtain ⟨k0,k1,k2,k3,k4,k5,k6,k7,k8,k9,kf⟩:=zaP hrow
  have HEND:=yiF (zeG HRW.out (.string ⟨#[]⟩) (.string ⟨#[]⟩) (.string ⟨#[]⟩) .nilIface (.int .i64 0) (.slice none 0 0) (.string ⟨#[]⟩) (.bool false) (.string ⟨#[]⟩) (.bool false))
  have HEB:=yiF (zdW HB3.out (yiH _) (.string ⟨#[]⟩) (.string ⟨#[]⟩) (.string ⟨#[]⟩) .nilIface (.int .i64 0) (.slice none 0 0) (.string ⟨#[]⟩) (.bool false) (.string ⟨#[]⟩) (.bool false))
  have HOW:=yiF (fun W=>zfT ([]:List UInt8) W)
  rw [show ownZ []=0 by decide] at HOW
  clear hrow HR3 hm3 h0 hnm hnn
  go_wp2_with fail
  refine (HOW.out _).mono ?_
  rintro e w' ⟨rfl,rfl⟩
  go_wp2
  obtain ⟨e0,e1,e2,e3,e4,e5,e6,e7,e8,e9,-⟩:=zaP HEND.out
  refine bodyPost_ret (v:= .tuple #[.agg zbH,.int .i64 5]) (by simp [results,Tryz.results13,go_sem,e0,e1,e2,e3,e4,e5,e6,e7,e8,e9,zbH]) rfl ?_
  rw [HF2.out]
  exact ⟨.slice none 0 0,rfl,zaM.nil _ _,HEB.out⟩
 |some p=>
  obtain ⟨nm,lf⟩:=p
  obtain ⟨hnm,hlf⟩:=zuP (b:=none) hsc
  have hsl:=zeP hsc
  rw [hsc] at hm3
  simp only [Option.map,Option.getD,Option.isSome] at hm3 ⊢
  by_cases h0:ownZ (zfZ s none)=0
  ·have HF2:=yiF (HF.out.trans (zsC h0))
   obtain ⟨c0,c1,c2,c3,c4,c5,c6,c7,c8,c9,hrow⟩:=HR3.out
   have HRW:=yiF hrow
   obtain ⟨k0,k1,k2,k3,k4,k5,k6,k7,k8,k9,kf⟩:=zaP hrow
   have HEND:=yiF (zeG HRW.out (.string ⟨#[]⟩) (.string ⟨#[]⟩) (.string ⟨#[]⟩) .nilIface (.int .i64 0) (.slice none 0 0) (.string ⟨#[]⟩) (.bool false) (.string ⟨#[]⟩) (.bool false))
   have HEB:=yiF (zdW HB3.out (yiH _) (.string ⟨#[]⟩) (.string ⟨#[]⟩) (.string ⟨#[]⟩) .nilIface (.int .i64 0) (.slice none 0 0) (.string ⟨#[]⟩) (.bool false) (.string ⟨#[]⟩) (.bool false))
   have HOW:=yiF (fun W=>zfT nm W)
   rw [hnm] at h0
   rw [h0] at HOW
   clear hrow HR3 hm3 h0 hnm
   go_wp2_with fail
   refine (HOW.out _).mono ?_
   rintro e w' ⟨rfl,rfl⟩
   go_wp2
   obtain ⟨e0,e1,e2,e3,e4,e5,e6,e7,e8,e9,-⟩:=zaP HEND.out
   refine bodyPost_ret (v:= .tuple #[.agg zbH,.int .i64 5]) (by simp [results,Tryz.results13,go_sem,e0,e1,e2,e3,e4,e5,e6,e7,e8,e9,zbH]) rfl ?_
   rw [HF2.out]
   exact ⟨.slice none 0 0,rfl,zaM.nil _ _,HEB.out⟩
  ·have HF2:=yiF (HF.out.trans (ybO h0))
   rw [hnm,hlf] at HF2
   have hon:=z4U (n:=nm) (by rw [←hnm];exact h0)
   have HOW:=yiF (fun W=>zfT nm W)
   have hne:(ownZ nm==(0:Int))=false:=by rw [yiG,←hnm];exact h0
   generalize hoz:ownZ nm=oz at*
   have HUN:=yiF (zhW M lf x3 hm3)
   go_wp2_with fail
   refine (HOW.out _).mono ?_
   rintro e w' ⟨rfl,rfl⟩
   go_wp2_with fail
   refine HUN.out.mono ?_
   rintro e xc ⟨rfl,hmc,hoc⟩
   have hbc:Below w.heap.size x3 xc:=hoc.below HB3.out.size (fun x hx=>by rw [List.mem_singleton.1 hx];omega)
   have HBC:=yiF (HB3.out.trans hbc)
   have HRC:=yiF (HR3.out.only hoc (by simp [hRM]))
   have HMC:=yiF hmc
   have hbl2:=zdT (lf)
   clear HUN HOW hoc hbc hmc hm3 HB3 HR3 hne
   generalize zbW lf=lb at*
   clear h0 hnm hlf hsc
   rw [←hoz] at hon
   go_wp2_with fail
   refine (zgE M lb nm _ (by omega) HMC.out (HX.out _ HBC.out) hon).mono ?_
   rintro e x5 ⟨pv,rfl,hp5,ho5⟩
   have hb5:Below w.heap.size xc x5:=ho5.below HBC.out.size (fun x hx=>by rw [List.mem_singleton.1 hx];omega)
   have HB5:=yiF (HBC.out.trans hb5)
   have HR5:=HRC.out.only ho5 (by simp [hRM])
   have HP5:=yiF hp5
   have hBs:w.heap.size<xc.heap.size:=HRC.out.lt
   clear ho5 hb5 hp5 HRC HMC HBC
   generalize zcU nm lb=rr at*
   obtain ⟨v,er⟩:=rr
   simp only [UZ.cells] at HP5 HF2 ⊢
   obtain ⟨sa,sn,sc,rfl⟩:=HP5.out.pv.shape
   obtain ⟨c0,c1,c2,c3,c4,c5,c6,c7,c8,c9,hrow⟩:=HR5
   have HRW:=yiF hrow
   obtain ⟨k0,k1,k2,k3,k4,k5,k6,k7,k8,k9,kf⟩:=zaP hrow
   clear hrow
   rcases v.host.shape with hv|⟨it,iv,hv⟩
   ·have HVH:=yiF hv
    rw [hv]
    clear hv
    have HEND:=yiF (zeG HRW.out (.string ⟨v.scheme.toArray⟩) (.string ⟨v.user.toArray⟩) (.string ⟨v.pass.toArray⟩) .nilIface (.int .i64 v.port) (.slice sa sn sc) (.string ⟨v.query.toArray⟩) (.bool v.hasQ) (.string ⟨v.frag.toArray⟩) (.bool v.hasF))
    have HEB:=yiF (zcI HB5.out HP5.out hBs (.string ⟨v.scheme.toArray⟩) (.string ⟨v.user.toArray⟩) (.string ⟨v.pass.toArray⟩) .nilIface (.int .i64 v.port) (.slice sa sn sc) (.string ⟨v.query.toArray⟩) (.bool v.hasQ) (.string ⟨v.frag.toArray⟩) (.bool v.hasF))
    go_wp2
    obtain ⟨e0,e1,e2,e3,e4,e5,e6,e7,e8,e9,-⟩:=zaP HEND.out
    refine bodyPost_ret (v:= .tuple #[.agg #[.string ⟨v.scheme.toArray⟩,.string ⟨v.user.toArray⟩,.string ⟨v.pass.toArray⟩,.nilIface,.int .i64 v.port,.slice sa sn sc,.string ⟨v.query.toArray⟩,.bool v.hasQ,.string ⟨v.frag.toArray⟩,.bool v.hasF],.int .i64 er]) (by simp [results,Tryz.results13,go_sem,e0,e1,e2,e3,e4,e5,e6,e7,e8,e9]) rfl ?_
    rw [HF2.out]
    exact ⟨_,by rw [←HVH.out];rfl,HEB.out⟩
   ·have HVH:=yiF hv
    rw [hv]
    clear hv
    have HEND:=yiF (zeG HRW.out (.string ⟨v.scheme.toArray⟩) (.string ⟨v.user.toArray⟩) (.string ⟨v.pass.toArray⟩) (.iface it iv) (.int .i64 v.port) (.slice sa sn sc) (.string ⟨v.query.toArray⟩) (.bool v.hasQ) (.string ⟨v.frag.toArray⟩) (.bool v.hasF))
    have HEB:=yiF (zcI HB5.out HP5.out hBs (.string ⟨v.scheme.toArray⟩) (.string ⟨v.user.toArray⟩) (.string ⟨v.pass.toArray⟩) (.iface it iv) (.int .i64 v.port) (.slice sa sn sc) (.string ⟨v.query.toArray⟩) (.bool v.hasQ) (.string ⟨v.frag.toArray⟩) (.bool v.hasF))
    go_wp2
    obtain ⟨e0,e1,e2,e3,e4,e5,e6,e7,e8,e9,-⟩:=zaP HEND.out
    refine bodyPost_ret (v:= .tuple #[.agg #[.string ⟨v.scheme.toArray⟩,.string ⟨v.user.toArray⟩,.string ⟨v.pass.toArray⟩,(.iface it iv),.int .i64 v.port,.slice sa sn sc,.string ⟨v.query.toArray⟩,.bool v.hasQ,.string ⟨v.frag.toArray⟩,.bool v.hasF],.int .i64 er]) (by simp [results,Tryz.results13,go_sem,e0,e1,e2,e3,e4,e5,e6,e7,e8,e9]) rfl ?_
    rw [HF2.out]
    exact ⟨_,by rw [←HVH.out];rfl,HEB.out⟩
theorem ztU (t:List UInt8) (U:Nat) (b:UZ) (bpv:Value) (w:World) (hmax:MaxVar w) (hl:t.length≤1000000) (hs:b.scheme=zdV∨b.scheme=zcX) (hbh:b.host≠ .none) (hbl:b.path.length≤1000000) (hub:UB w U b bpv) (hpv:PV w bpv b.path) (hrel:ybI t):
  Calls Tryz.prog 13 #[.string ⟨t.toArray⟩,.pointer (some ⟨U,0,none⟩)] w (RetP w (zaQ t (some b))):=by
 obtain ⟨x0,hx0⟩: ∃y,y=w.alloc (.cells zbH 28):=⟨_,rfl⟩
 have hb0:Below w.heap.size w x0:=by rw [hx0];exact zbQ w _
 have HR0:Hid (RB x0 w.heap.size):=by show RB _ _;rw [hx0];exact RB.new w
 have hz:=zaA t
 unfold zbH at hx0
 have HUB:=yiF (fun x (h:Below w.heap.size w x)=>hub.below h)
 have HPV:=yiF (fun x (h:Below w.heap.size w x)=>hpv.keep h)
 have hUw:=zaO hub
 have HX:=yiF (fun x (h:Below w.heap.size w x)=>zaG hmax h)
 by_cases hbig:4096<t.length
 ·have HF:=yiF (ziV (b:=(some b)) hbig)
  have hd:decide (4096<(t.length:Int))=true:=yiJ (by omega)
  have hbb:Below w.heap.size w (w.alloc (.cells zbH 28)):=zbQ w _
  unfold zbH at hbb
  clear HR0 hb0 hx0 HX
  go_enter Tryz.func13,Tryz.ntmps13
  go_wp2
  refine bodyPost_ret (v:= .tuple #[.agg zbH,.int .i64 3]) (by simp [results,Tryz.results13,go_sem,zbH]) rfl ?_
  rw [HF.out]
  exact ⟨.slice none 0 0,rfl,zaM.nil _ _,hbb⟩
 have hd:decide (4096<(t.length:Int))=false:=yiI (by omega)
 have HF:=yiF (zqK (b:=(some b)) (fun u e=>by rw [←Option.some.inj e];exact hs) hbig)
 have h4:t.length≤4096:=by omega
 have HREL:=yiF (hrel h4 b bpv)
 have hcl:=zcW t
 have htl:(zaV t).length≤t.length:=by
  have h2:=zdS t
  have h3:=(List.dropWhile_suffix (l:=t) zcA).length_le
  omega
 have HT:=yiF (fun W=>zzC ⟨t.toArray⟩ W (by rw [zaA];omega))
 rw [zaB] at HT
 have HD:=yiF (fun W=>zzQ ⟨(zaV t).toArray⟩ W (by rw [zaA];omega))
 rw [zaB] at HD
 generalize zcF (zaV t)=s at*
 generalize zaV t=t1 at*
 have HB0:=yiF hb0
 clear hmax hb0 hbig hub hpv hrel
 go_enter Tryz.func13,Tryz.ntmps13
 go_wp2_with fail
 rw [←hx0]
 clear hx0
 refine (HT.out _).mono ?_
 rintro e w' ⟨rfl,rfl⟩
 go_wp2_with fail
 refine (HD.out _).mono ?_
 rintro e x1 ⟨rfl,hb1⟩
 have HB1:=yiF (zaC HB0.out hb1)
 have HR1:=yiF (HR0.out.below hb1)
 clear hb1 HB0 HR0 HT HD hz hd
 obtain ⟨x2,hx2⟩: ∃y,y=x1.alloc (.cells #[.string ⟨s.toArray⟩] 53):=⟨_,rfl⟩
 have hb2:Below x1.heap.size x1 x2:=by rw [hx2];exact (yiK _ _).alloc (yiH _) _
 have HB2:=yiF (zaC HB1.out hb2)
 have HR2:=yiF (HR1.out.below hb2)
 have HM2:Hid (MB x2 x1.heap.size s):=by show MB _ _ _;rw [hx2];exact heap_alloc_new x1 _
 have HS2:=yiF (zqQ _ s x2 (by omega) HM2.out)
 have hRM:w.heap.size≠x1.heap.size:=by have:=HR1.out.lt;omega
 have hwM:w.heap.size<x1.heap.size:=HR1.out.lt
 clear HB1 HR1 hb2 HM2
 go_wp2_with fail
 rw [←hx2]
 clear hx2
 generalize x1.heap.size=M at*
 refine HS2.out.mono ?_
 rintro e x3 ⟨rfl,hm3,ho3⟩
 have hb3:Below w.heap.size x2 x3:=ho3.below HB2.out.size (fun x hx=>by rw [List.mem_singleton.1 hx];omega)
 have HB3:=yiF (HB2.out.trans hb3)
 have HR3:=yiF (HR2.out.only ho3 (by simp [hRM]))
 have hMx3:=zaO hm3
 clear HS2 ho3 HB2 HR2 hb3
 cases hsc:schW s with
 |none=>
  obtain ⟨hnm',-,hlf⟩:=zsO (b:=b) hsc
  rw [hsc] at hm3
  simp only [Option.map,Option.getD,Option.isSome] at hm3 ⊢
  obtain ⟨nm,hbn⟩: ∃nm,b.scheme=nm:=⟨_,rfl⟩
  have hnm:zfZ s (some b)=nm:=hnm'.trans hbn
  have h0: ¬ownZ (zfZ s (some b))=0:=fun g=>z2Z.1 (by rw [hnm'] at g;exact g) hs
  have hUd:=(HUB.out _ HB3.out).all.1
  rw [hbn] at hUd
  have hon:=z4U (n:=nm) (by rw [←hnm];exact h0)
  have HOW:=yiF (fun W=>zfT nm W)
  have hne:(ownZ nm==(0:Int))=false:=by rw [yiG,←hnm];exact h0
  generalize hoz:ownZ nm=oz at*
  have HUN:=yiF (zhW M s x3 hm3)
  go_wp2_with fail
  refine (HOW.out _).mono ?_
  rintro e w' ⟨rfl,rfl⟩
  go_wp2_with fail
  refine HUN.out.mono ?_
  rintro e xc ⟨rfl,hmc,hoc⟩
  have hbc:Below w.heap.size x3 xc:=hoc.below HB3.out.size (fun x hx=>by rw [List.mem_singleton.1 hx];omega)
  have HBC:=yiF (HB3.out.trans hbc)
  have HRC:=yiF (HR3.out.only hoc (by simp [hRM]))
  have HMC:=yiF hmc
  have hbl2:=zdT (s)
  clear HUN HOW hoc hbc hmc hm3 HB3 HR3 hne
  clear hUd
  obtain ⟨u0,hu0⟩: ∃f:List UInt8,b.scheme=f:=⟨_,rfl⟩
  have hsn:=zxY (s)
  have hUc:=(HUB.out _ HBC.out).all.1
  have hal:((s).take (zbM (s))).length=zbM (s):=by rw [List.length_take];omega
  by_cases hbs:b.scheme=nm
  ·have hqb:(b.scheme==nm)=true:=by rw [beq_iff_eq];exact hbs
   by_cases h1:1<zbM (s)
   ·have HF2:=yiF (HF.out.trans (zrD h0 (.inr (by rw [hlf];exact h1))))
    rw [hnm,hlf] at HF2
    have hd1:decide (1<(zbM (s):Int))=true:=yiJ (by omega)
    generalize (s).take (zbM (s))=ah at*
    generalize zbM (s)=sn2 at*
    generalize zbW (s)=lb at*
    have hzz:=zaA ah
    rw [hal] at hzz
    rw [←hoz] at hon
    clear hu0
    go_wp2_with fail
    refine (zgE M lb nm _ (by omega) HMC.out (HX.out _ HBC.out) hon).mono ?_
    rintro e x5 ⟨pv,rfl,hp5,ho5⟩
    have hb5:Below w.heap.size xc x5:=ho5.below HBC.out.size (fun x hx=>by rw [List.mem_singleton.1 hx];omega)
    have HB5:=yiF (HBC.out.trans hb5)
    have HR5:=HRC.out.only ho5 (by simp [hRM])
    have HP5:=yiF hp5
    have hBs:w.heap.size<xc.heap.size:=HRC.out.lt
    clear ho5 hb5 hp5 HRC HMC HBC
    generalize zcU nm lb=rr at*
    obtain ⟨v,er⟩:=rr
    simp only [UZ.cells] at HP5 HF2 ⊢
    obtain ⟨sa,sn,sc,rfl⟩:=HP5.out.pv.shape
    obtain ⟨c0,c1,c2,c3,c4,c5,c6,c7,c8,c9,hrow⟩:=HR5
    have HRW:=yiF hrow
    obtain ⟨k0,k1,k2,k3,k4,k5,k6,k7,k8,k9,kf⟩:=zaP hrow
    clear hrow
    rcases v.host.shape with hv|⟨it,iv,hv⟩
    ·have HVH:=yiF hv
     rw [hv]
     clear hv
     have HEND:=yiF (zeG HRW.out (.string ⟨v.scheme.toArray⟩) (.string ⟨v.user.toArray⟩) (.string ⟨v.pass.toArray⟩) .nilIface (.int .i64 v.port) (.slice sa sn sc) (.string ⟨v.query.toArray⟩) (.bool v.hasQ) (.string ⟨v.frag.toArray⟩) (.bool v.hasF))
     have HEB:=yiF (zcI HB5.out HP5.out hBs (.string ⟨v.scheme.toArray⟩) (.string ⟨v.user.toArray⟩) (.string ⟨v.pass.toArray⟩) .nilIface (.int .i64 v.port) (.slice sa sn sc) (.string ⟨v.query.toArray⟩) (.bool v.hasQ) (.string ⟨v.frag.toArray⟩) (.bool v.hasF))
     go_wp2
     obtain ⟨e0,e1,e2,e3,e4,e5,e6,e7,e8,e9,-⟩:=zaP HEND.out
     refine bodyPost_ret (v:= .tuple #[.agg #[.string ⟨v.scheme.toArray⟩,.string ⟨v.user.toArray⟩,.string ⟨v.pass.toArray⟩,.nilIface,.int .i64 v.port,.slice sa sn sc,.string ⟨v.query.toArray⟩,.bool v.hasQ,.string ⟨v.frag.toArray⟩,.bool v.hasF],.int .i64 er]) (by simp [results,Tryz.results13,go_sem,e0,e1,e2,e3,e4,e5,e6,e7,e8,e9]) rfl ?_
     rw [HF2.out]
     exact ⟨_,by rw [←HVH.out];rfl,HEB.out⟩
    ·have HVH:=yiF hv
     rw [hv]
     clear hv
     have HEND:=yiF (zeG HRW.out (.string ⟨v.scheme.toArray⟩) (.string ⟨v.user.toArray⟩) (.string ⟨v.pass.toArray⟩) (.iface it iv) (.int .i64 v.port) (.slice sa sn sc) (.string ⟨v.query.toArray⟩) (.bool v.hasQ) (.string ⟨v.frag.toArray⟩) (.bool v.hasF))
     have HEB:=yiF (zcI HB5.out HP5.out hBs (.string ⟨v.scheme.toArray⟩) (.string ⟨v.user.toArray⟩) (.string ⟨v.pass.toArray⟩) (.iface it iv) (.int .i64 v.port) (.slice sa sn sc) (.string ⟨v.query.toArray⟩) (.bool v.hasQ) (.string ⟨v.frag.toArray⟩) (.bool v.hasF))
     go_wp2
     obtain ⟨e0,e1,e2,e3,e4,e5,e6,e7,e8,e9,-⟩:=zaP HEND.out
     refine bodyPost_ret (v:= .tuple #[.agg #[.string ⟨v.scheme.toArray⟩,.string ⟨v.user.toArray⟩,.string ⟨v.pass.toArray⟩,(.iface it iv),.int .i64 v.port,.slice sa sn sc,.string ⟨v.query.toArray⟩,.bool v.hasQ,.string ⟨v.frag.toArray⟩,.bool v.hasF],.int .i64 er]) (by simp [results,Tryz.results13,go_sem,e0,e1,e2,e3,e4,e5,e6,e7,e8,e9]) rfl ?_
     rw [HF2.out]
     exact ⟨_,by rw [←HVH.out];rfl,HEB.out⟩
   ·have HF2:=yiF (HF.out.trans (zzZ h0 (by rw [hnm,hlf];rintro (g|g);exact g hbs;exact h1 g)))
    rw [hlf] at HF2 HREL
    have hd1:decide (1<(zbM (s):Int))=false:=yiI (by omega)
    have hemp:((s).take (zbM (s))).isEmpty= !decide (zbM (s)≠0):=by
     rw [Bool.eq_iff_iff,List.isEmpty_iff,←List.length_eq_zero_iff,hal];simp
    generalize decide (zbM (s)≠0)=rt at*
    generalize (s).take (zbM (s))=ah at*
    generalize zbM (s)=sn2 at*
    generalize zbW (s)=lb at*
    have hzz:=zaA ah
    rw [hal] at hzz
    have HRL:=yiF (fun W (h:MB W M lb) (hp:PV W bpv b.path) (hx:MaxVar W)=>HREL.out M W hbh hbl h hp hx)
    obtain ⟨ba,bn,bc,hbpv⟩:=(HPV.out _ HBC.out).shape
    obtain ⟨d0,d1,d2,d3,d4,d5,d6,d7,d8,d9,-⟩:=(HUB.out _ HBC.out).all
    obtain ⟨jt,jv,hjv⟩:=HZ.iface hbh
    have HJV:=yiF hjv
    have HRL2:Hid (Calls Tryz.prog 26 #[.pointer (some ⟨M,0,none⟩),.agg #[.string ⟨b.scheme.toArray⟩,.string ⟨b.user.toArray⟩,.string ⟨b.pass.toArray⟩,.iface jt jv,.int .i64 b.port,bpv,.string ⟨b.query.toArray⟩,.bool b.hasQ,.string ⟨b.frag.toArray⟩,.bool b.hasF],.bool rt] xc (zrQ xc M (relC b rt lb))):=by
     have:=HRL.out _ HMC.out (HPV.out _ HBC.out) (HX.out _ HBC.out)
     simp only [UZ.cells] at this
     rw [hjv] at this
     exact this
    rw [hbs,hbpv] at HRL2
    rw [hjv] at d3
    clear hu0 HRL hjv
    go_wp2_with fail
    refine HRL2.out.mono ?_
    rintro e x5 ⟨pv,rfl,hp5,ho5⟩
    have hb5:Below w.heap.size xc x5:=ho5.below HBC.out.size (fun x hx=>by rw [List.mem_singleton.1 hx];omega)
    have HB5:=yiF (HBC.out.trans hb5)
    have HR5:=HRC.out.only ho5 (by simp [hRM])
    have HP5:=yiF hp5
    have hBs:w.heap.size<xc.heap.size:=HRC.out.lt
    clear ho5 hb5 hp5 HRC HMC HBC HRL2 d0 d1 d2 d3 d4 d5 d6 d7 d8 d9
    generalize relC b rt lb=v at*
    simp only [UZ.cells]
    obtain ⟨sa,sn,sc,rfl⟩:=HP5.out.pv.shape
    obtain ⟨c0,c1,c2,c3,c4,c5,c6,c7,c8,c9,hrow⟩:=HR5
    have HRW:=yiF hrow
    obtain ⟨k0,k1,k2,k3,k4,k5,k6,k7,k8,k9,kf⟩:=zaP hrow
    clear hrow
    rcases v.host.shape with hv|⟨it,iv,hv⟩
    ·have HVH:=yiF hv
     rw [hv]
     clear hv
     have HEND:=yiF (zeG HRW.out (.string ⟨v.scheme.toArray⟩) (.string ⟨v.user.toArray⟩) (.string ⟨v.pass.toArray⟩) .nilIface (.int .i64 v.port) (.slice sa sn sc) (.string ⟨v.query.toArray⟩) (.bool v.hasQ) (.string ⟨v.frag.toArray⟩) (.bool v.hasF))
     have HEB:=yiF (zcI HB5.out HP5.out hBs (.string ⟨v.scheme.toArray⟩) (.string ⟨v.user.toArray⟩) (.string ⟨v.pass.toArray⟩) .nilIface (.int .i64 v.port) (.slice sa sn sc) (.string ⟨v.query.toArray⟩) (.bool v.hasQ) (.string ⟨v.frag.toArray⟩) (.bool v.hasF))
     go_wp2
     obtain ⟨e0,e1,e2,e3,e4,e5,e6,e7,e8,e9,-⟩:=zaP HEND.out
     refine bodyPost_ret (v:= .tuple #[.agg #[.string ⟨v.scheme.toArray⟩,.string ⟨v.user.toArray⟩,.string ⟨v.pass.toArray⟩,.nilIface,.int .i64 v.port,.slice sa sn sc,.string ⟨v.query.toArray⟩,.bool v.hasQ,.string ⟨v.frag.toArray⟩,.bool v.hasF],.int .i64 0]) (by simp [results,Tryz.results13,go_sem,e0,e1,e2,e3,e4,e5,e6,e7,e8,e9]) rfl ?_
     rw [HF2.out]
     exact ⟨_,by rw [←HVH.out];rfl,HEB.out⟩
    ·have HVH:=yiF hv
     rw [hv]
     clear hv
     have HEND:=yiF (zeG HRW.out (.string ⟨v.scheme.toArray⟩) (.string ⟨v.user.toArray⟩) (.string ⟨v.pass.toArray⟩) (.iface it iv) (.int .i64 v.port) (.slice sa sn sc) (.string ⟨v.query.toArray⟩) (.bool v.hasQ) (.string ⟨v.frag.toArray⟩) (.bool v.hasF))
     have HEB:=yiF (zcI HB5.out HP5.out hBs (.string ⟨v.scheme.toArray⟩) (.string ⟨v.user.toArray⟩) (.string ⟨v.pass.toArray⟩) (.iface it iv) (.int .i64 v.port) (.slice sa sn sc) (.string ⟨v.query.toArray⟩) (.bool v.hasQ) (.string ⟨v.frag.toArray⟩) (.bool v.hasF))
     go_wp2
     obtain ⟨e0,e1,e2,e3,e4,e5,e6,e7,e8,e9,-⟩:=zaP HEND.out
     refine bodyPost_ret (v:= .tuple #[.agg #[.string ⟨v.scheme.toArray⟩,.string ⟨v.user.toArray⟩,.string ⟨v.pass.toArray⟩,(.iface it iv),.int .i64 v.port,.slice sa sn sc,.string ⟨v.query.toArray⟩,.bool v.hasQ,.string ⟨v.frag.toArray⟩,.bool v.hasF],.int .i64 0]) (by simp [results,Tryz.results13,go_sem,e0,e1,e2,e3,e4,e5,e6,e7,e8,e9]) rfl ?_
     rw [HF2.out]
     exact ⟨_,by rw [←HVH.out];rfl,HEB.out⟩
  ·exact absurd hbn hbs
 |some p=>
  obtain ⟨nm,lf⟩:=p
  obtain ⟨hnm,hlf⟩:=zuP (b:=some b) hsc
  have hsl:=zeP hsc
  rw [hsc] at hm3
  simp only [Option.map,Option.getD,Option.isSome] at hm3 ⊢
  by_cases h0:ownZ (zfZ s (some b))=0
  ·have HF2:=yiF (HF.out.trans (zsC h0))
   obtain ⟨c0,c1,c2,c3,c4,c5,c6,c7,c8,c9,hrow⟩:=HR3.out
   have HRW:=yiF hrow
   obtain ⟨k0,k1,k2,k3,k4,k5,k6,k7,k8,k9,kf⟩:=zaP hrow
   have HEND:=yiF (zeG HRW.out (.string ⟨#[]⟩) (.string ⟨#[]⟩) (.string ⟨#[]⟩) .nilIface (.int .i64 0) (.slice none 0 0) (.string ⟨#[]⟩) (.bool false) (.string ⟨#[]⟩) (.bool false))
   have HEB:=yiF (zdW HB3.out (yiH _) (.string ⟨#[]⟩) (.string ⟨#[]⟩) (.string ⟨#[]⟩) .nilIface (.int .i64 0) (.slice none 0 0) (.string ⟨#[]⟩) (.bool false) (.string ⟨#[]⟩) (.bool false))
   have HOW:=yiF (fun W=>zfT nm W)
   rw [hnm] at h0
   rw [h0] at HOW
   clear hrow HR3 hm3 h0 hnm
   go_wp2_with fail
   refine (HOW.out _).mono ?_
   rintro e w' ⟨rfl,rfl⟩
   go_wp2
   obtain ⟨e0,e1,e2,e3,e4,e5,e6,e7,e8,e9,-⟩:=zaP HEND.out
   refine bodyPost_ret (v:= .tuple #[.agg zbH,.int .i64 5]) (by simp [results,Tryz.results13,go_sem,e0,e1,e2,e3,e4,e5,e6,e7,e8,e9,zbH]) rfl ?_
   rw [HF2.out]
   exact ⟨.slice none 0 0,rfl,zaM.nil _ _,HEB.out⟩
  ·have hon:=z4U (n:=nm) (by rw [←hnm];exact h0)
   have HOW:=yiF (fun W=>zfT nm W)
   have hne:(ownZ nm==(0:Int))=false:=by rw [yiG,←hnm];exact h0
   generalize hoz:ownZ nm=oz at*
   have HUN:=yiF (zhW M lf x3 hm3)
   go_wp2_with fail
   refine (HOW.out _).mono ?_
   rintro e w' ⟨rfl,rfl⟩
   go_wp2_with fail
   refine HUN.out.mono ?_
   rintro e xc ⟨rfl,hmc,hoc⟩
   have hbc:Below w.heap.size x3 xc:=hoc.below HB3.out.size (fun x hx=>by rw [List.mem_singleton.1 hx];omega)
   have HBC:=yiF (HB3.out.trans hbc)
   have HRC:=yiF (HR3.out.only hoc (by simp [hRM]))
   have HMC:=yiF hmc
   have hbl2:=zdT (lf)
   clear HUN HOW hoc hbc hmc hm3 HB3 HR3 hne
   obtain ⟨u0,hu0⟩: ∃f:List UInt8,b.scheme=f:=⟨_,rfl⟩
   have hsn:=zxY (lf)
   have hUc:=(HUB.out _ HBC.out).all.1
   have hal:((lf).take (zbM (lf))).length=zbM (lf):=by rw [List.length_take];omega
   by_cases hbs:b.scheme=nm
   ·have hqb:(b.scheme==nm)=true:=by rw [beq_iff_eq];exact hbs
    by_cases h1:1<zbM (lf)
    ·have HF2:=yiF (HF.out.trans (zrD h0 (.inr (by rw [hlf];exact h1))))
     rw [hnm,hlf] at HF2
     have hd1:decide (1<(zbM (lf):Int))=true:=yiJ (by omega)
     generalize (lf).take (zbM (lf))=ah at*
     generalize zbM (lf)=sn2 at*
     generalize zbW (lf)=lb at*
     have hzz:=zaA ah
     rw [hal] at hzz
     rw [←hoz] at hon
     clear hu0
     go_wp2_with fail
     refine (zgE M lb nm _ (by omega) HMC.out (HX.out _ HBC.out) hon).mono ?_
     rintro e x5 ⟨pv,rfl,hp5,ho5⟩
     have hb5:Below w.heap.size xc x5:=ho5.below HBC.out.size (fun x hx=>by rw [List.mem_singleton.1 hx];omega)
     have HB5:=yiF (HBC.out.trans hb5)
     have HR5:=HRC.out.only ho5 (by simp [hRM])
     have HP5:=yiF hp5
     have hBs:w.heap.size<xc.heap.size:=HRC.out.lt
     clear ho5 hb5 hp5 HRC HMC HBC
     generalize zcU nm lb=rr at*
     obtain ⟨v,er⟩:=rr
     simp only [UZ.cells] at HP5 HF2 ⊢
     obtain ⟨sa,sn,sc,rfl⟩:=HP5.out.pv.shape
     obtain ⟨c0,c1,c2,c3,c4,c5,c6,c7,c8,c9,hrow⟩:=HR5
     have HRW:=yiF hrow
     obtain ⟨k0,k1,k2,k3,k4,k5,k6,k7,k8,k9,kf⟩:=zaP hrow
     clear hrow
     rcases v.host.shape with hv|⟨it,iv,hv⟩
     ·have HVH:=yiF hv
      rw [hv]
      clear hv
      have HEND:=yiF (zeG HRW.out (.string ⟨v.scheme.toArray⟩) (.string ⟨v.user.toArray⟩) (.string ⟨v.pass.toArray⟩) .nilIface (.int .i64 v.port) (.slice sa sn sc) (.string ⟨v.query.toArray⟩) (.bool v.hasQ) (.string ⟨v.frag.toArray⟩) (.bool v.hasF))
      have HEB:=yiF (zcI HB5.out HP5.out hBs (.string ⟨v.scheme.toArray⟩) (.string ⟨v.user.toArray⟩) (.string ⟨v.pass.toArray⟩) .nilIface (.int .i64 v.port) (.slice sa sn sc) (.string ⟨v.query.toArray⟩) (.bool v.hasQ) (.string ⟨v.frag.toArray⟩) (.bool v.hasF))
      go_wp2
      obtain ⟨e0,e1,e2,e3,e4,e5,e6,e7,e8,e9,-⟩:=zaP HEND.out
      refine bodyPost_ret (v:= .tuple #[.agg #[.string ⟨v.scheme.toArray⟩,.string ⟨v.user.toArray⟩,.string ⟨v.pass.toArray⟩,.nilIface,.int .i64 v.port,.slice sa sn sc,.string ⟨v.query.toArray⟩,.bool v.hasQ,.string ⟨v.frag.toArray⟩,.bool v.hasF],.int .i64 er]) (by simp [results,Tryz.results13,go_sem,e0,e1,e2,e3,e4,e5,e6,e7,e8,e9]) rfl ?_
      rw [HF2.out]
      exact ⟨_,by rw [←HVH.out];rfl,HEB.out⟩
     ·have HVH:=yiF hv
      rw [hv]
      clear hv
      have HEND:=yiF (zeG HRW.out (.string ⟨v.scheme.toArray⟩) (.string ⟨v.user.toArray⟩) (.string ⟨v.pass.toArray⟩) (.iface it iv) (.int .i64 v.port) (.slice sa sn sc) (.string ⟨v.query.toArray⟩) (.bool v.hasQ) (.string ⟨v.frag.toArray⟩) (.bool v.hasF))
      have HEB:=yiF (zcI HB5.out HP5.out hBs (.string ⟨v.scheme.toArray⟩) (.string ⟨v.user.toArray⟩) (.string ⟨v.pass.toArray⟩) (.iface it iv) (.int .i64 v.port) (.slice sa sn sc) (.string ⟨v.query.toArray⟩) (.bool v.hasQ) (.string ⟨v.frag.toArray⟩) (.bool v.hasF))
      go_wp2
      obtain ⟨e0,e1,e2,e3,e4,e5,e6,e7,e8,e9,-⟩:=zaP HEND.out
      refine bodyPost_ret (v:= .tuple #[.agg #[.string ⟨v.scheme.toArray⟩,.string ⟨v.user.toArray⟩,.string ⟨v.pass.toArray⟩,(.iface it iv),.int .i64 v.port,.slice sa sn sc,.string ⟨v.query.toArray⟩,.bool v.hasQ,.string ⟨v.frag.toArray⟩,.bool v.hasF],.int .i64 er]) (by simp [results,Tryz.results13,go_sem,e0,e1,e2,e3,e4,e5,e6,e7,e8,e9]) rfl ?_
      rw [HF2.out]
      exact ⟨_,by rw [←HVH.out];rfl,HEB.out⟩
    ·have HF2:=yiF (HF.out.trans (zzZ h0 (by rw [hnm,hlf];rintro (g|g);exact g hbs;exact h1 g)))
     rw [hlf] at HF2 HREL
     have hd1:decide (1<(zbM (lf):Int))=false:=yiI (by omega)
     have hemp:((lf).take (zbM (lf))).isEmpty= !decide (zbM (lf)≠0):=by
      rw [Bool.eq_iff_iff,List.isEmpty_iff,←List.length_eq_zero_iff,hal];simp
     generalize decide (zbM (lf)≠0)=rt at*
     generalize (lf).take (zbM (lf))=ah at*
     generalize zbM (lf)=sn2 at*
     generalize zbW (lf)=lb at*
     have hzz:=zaA ah
     rw [hal] at hzz
     have HRL:=yiF (fun W (h:MB W M lb) (hp:PV W bpv b.path) (hx:MaxVar W)=>HREL.out M W hbh hbl h hp hx)
     obtain ⟨ba,bn,bc,hbpv⟩:=(HPV.out _ HBC.out).shape
     obtain ⟨d0,d1,d2,d3,d4,d5,d6,d7,d8,d9,-⟩:=(HUB.out _ HBC.out).all
     obtain ⟨jt,jv,hjv⟩:=HZ.iface hbh
     have HJV:=yiF hjv
     have HRL2:Hid (Calls Tryz.prog 26 #[.pointer (some ⟨M,0,none⟩),.agg #[.string ⟨b.scheme.toArray⟩,.string ⟨b.user.toArray⟩,.string ⟨b.pass.toArray⟩,.iface jt jv,.int .i64 b.port,bpv,.string ⟨b.query.toArray⟩,.bool b.hasQ,.string ⟨b.frag.toArray⟩,.bool b.hasF],.bool rt] xc (zrQ xc M (relC b rt lb))):=by
      have:=HRL.out _ HMC.out (HPV.out _ HBC.out) (HX.out _ HBC.out)
      simp only [UZ.cells] at this
      rw [hjv] at this
      exact this
     rw [hbs,hbpv] at HRL2
     rw [hjv] at d3
     clear hu0 HRL hjv
     go_wp2_with fail
     refine HRL2.out.mono ?_
     rintro e x5 ⟨pv,rfl,hp5,ho5⟩
     have hb5:Below w.heap.size xc x5:=ho5.below HBC.out.size (fun x hx=>by rw [List.mem_singleton.1 hx];omega)
     have HB5:=yiF (HBC.out.trans hb5)
     have HR5:=HRC.out.only ho5 (by simp [hRM])
     have HP5:=yiF hp5
     have hBs:w.heap.size<xc.heap.size:=HRC.out.lt
     clear ho5 hb5 hp5 HRC HMC HBC HRL2 d0 d1 d2 d3 d4 d5 d6 d7 d8 d9
     generalize relC b rt lb=v at*
     simp only [UZ.cells]
     obtain ⟨sa,sn,sc,rfl⟩:=HP5.out.pv.shape
     obtain ⟨c0,c1,c2,c3,c4,c5,c6,c7,c8,c9,hrow⟩:=HR5
     have HRW:=yiF hrow
     obtain ⟨k0,k1,k2,k3,k4,k5,k6,k7,k8,k9,kf⟩:=zaP hrow
     clear hrow
     rcases v.host.shape with hv|⟨it,iv,hv⟩
     ·have HVH:=yiF hv
      rw [hv]
      clear hv
      have HEND:=yiF (zeG HRW.out (.string ⟨v.scheme.toArray⟩) (.string ⟨v.user.toArray⟩) (.string ⟨v.pass.toArray⟩) .nilIface (.int .i64 v.port) (.slice sa sn sc) (.string ⟨v.query.toArray⟩) (.bool v.hasQ) (.string ⟨v.frag.toArray⟩) (.bool v.hasF))
      have HEB:=yiF (zcI HB5.out HP5.out hBs (.string ⟨v.scheme.toArray⟩) (.string ⟨v.user.toArray⟩) (.string ⟨v.pass.toArray⟩) .nilIface (.int .i64 v.port) (.slice sa sn sc) (.string ⟨v.query.toArray⟩) (.bool v.hasQ) (.string ⟨v.frag.toArray⟩) (.bool v.hasF))
      go_wp2
      obtain ⟨e0,e1,e2,e3,e4,e5,e6,e7,e8,e9,-⟩:=zaP HEND.out
      refine bodyPost_ret (v:= .tuple #[.agg #[.string ⟨v.scheme.toArray⟩,.string ⟨v.user.toArray⟩,.string ⟨v.pass.toArray⟩,.nilIface,.int .i64 v.port,.slice sa sn sc,.string ⟨v.query.toArray⟩,.bool v.hasQ,.string ⟨v.frag.toArray⟩,.bool v.hasF],.int .i64 0]) (by simp [results,Tryz.results13,go_sem,e0,e1,e2,e3,e4,e5,e6,e7,e8,e9]) rfl ?_
      rw [HF2.out]
      exact ⟨_,by rw [←HVH.out];rfl,HEB.out⟩
     ·have HVH:=yiF hv
      rw [hv]
      clear hv
      have HEND:=yiF (zeG HRW.out (.string ⟨v.scheme.toArray⟩) (.string ⟨v.user.toArray⟩) (.string ⟨v.pass.toArray⟩) (.iface it iv) (.int .i64 v.port) (.slice sa sn sc) (.string ⟨v.query.toArray⟩) (.bool v.hasQ) (.string ⟨v.frag.toArray⟩) (.bool v.hasF))
      have HEB:=yiF (zcI HB5.out HP5.out hBs (.string ⟨v.scheme.toArray⟩) (.string ⟨v.user.toArray⟩) (.string ⟨v.pass.toArray⟩) (.iface it iv) (.int .i64 v.port) (.slice sa sn sc) (.string ⟨v.query.toArray⟩) (.bool v.hasQ) (.string ⟨v.frag.toArray⟩) (.bool v.hasF))
      go_wp2
      obtain ⟨e0,e1,e2,e3,e4,e5,e6,e7,e8,e9,-⟩:=zaP HEND.out
      refine bodyPost_ret (v:= .tuple #[.agg #[.string ⟨v.scheme.toArray⟩,.string ⟨v.user.toArray⟩,.string ⟨v.pass.toArray⟩,(.iface it iv),.int .i64 v.port,.slice sa sn sc,.string ⟨v.query.toArray⟩,.bool v.hasQ,.string ⟨v.frag.toArray⟩,.bool v.hasF],.int .i64 0]) (by simp [results,Tryz.results13,go_sem,e0,e1,e2,e3,e4,e5,e6,e7,e8,e9]) rfl ?_
      rw [HF2.out]
      exact ⟨_,by rw [←HVH.out];rfl,HEB.out⟩
   ·have hqb:(b.scheme==nm)=false:=by rw [yiG];exact hbs
    have HF2:=yiF (HF.out.trans (zrD h0 (.inl (by rw [hnm];exact hbs))))
    rw [hnm,hlf] at HF2
    generalize (lf).take (zbM (lf))=ah at*
    generalize zbM (lf)=sn2 at*
    generalize zbW (lf)=lb at*
    have hzz:=zaA ah
    rw [hal] at hzz
    rw [←hoz] at hon
    clear hu0
    go_wp2_with fail
    refine (zgE M lb nm _ (by omega) HMC.out (HX.out _ HBC.out) hon).mono ?_
    rintro e x5 ⟨pv,rfl,hp5,ho5⟩
    have hb5:Below w.heap.size xc x5:=ho5.below HBC.out.size (fun x hx=>by rw [List.mem_singleton.1 hx];omega)
    have HB5:=yiF (HBC.out.trans hb5)
    have HR5:=HRC.out.only ho5 (by simp [hRM])
    have HP5:=yiF hp5
    have hBs:w.heap.size<xc.heap.size:=HRC.out.lt
    clear ho5 hb5 hp5 HRC HMC HBC
    generalize zcU nm lb=rr at*
    obtain ⟨v,er⟩:=rr
    simp only [UZ.cells] at HP5 HF2 ⊢
    obtain ⟨sa,sn,sc,rfl⟩:=HP5.out.pv.shape
    obtain ⟨c0,c1,c2,c3,c4,c5,c6,c7,c8,c9,hrow⟩:=HR5
    have HRW:=yiF hrow
    obtain ⟨k0,k1,k2,k3,k4,k5,k6,k7,k8,k9,kf⟩:=zaP hrow
    clear hrow
    rcases v.host.shape with hv|⟨it,iv,hv⟩
    ·have HVH:=yiF hv
     rw [hv]
     clear hv
     have HEND:=yiF (zeG HRW.out (.string ⟨v.scheme.toArray⟩) (.string ⟨v.user.toArray⟩) (.string ⟨v.pass.toArray⟩) .nilIface (.int .i64 v.port) (.slice sa sn sc) (.string ⟨v.query.toArray⟩) (.bool v.hasQ) (.string ⟨v.frag.toArray⟩) (.bool v.hasF))
     have HEB:=yiF (zcI HB5.out HP5.out hBs (.string ⟨v.scheme.toArray⟩) (.string ⟨v.user.toArray⟩) (.string ⟨v.pass.toArray⟩) .nilIface (.int .i64 v.port) (.slice sa sn sc) (.string ⟨v.query.toArray⟩) (.bool v.hasQ) (.string ⟨v.frag.toArray⟩) (.bool v.hasF))
     go_wp2
     obtain ⟨e0,e1,e2,e3,e4,e5,e6,e7,e8,e9,-⟩:=zaP HEND.out
     refine bodyPost_ret (v:= .tuple #[.agg #[.string ⟨v.scheme.toArray⟩,.string ⟨v.user.toArray⟩,.string ⟨v.pass.toArray⟩,.nilIface,.int .i64 v.port,.slice sa sn sc,.string ⟨v.query.toArray⟩,.bool v.hasQ,.string ⟨v.frag.toArray⟩,.bool v.hasF],.int .i64 er]) (by simp [results,Tryz.results13,go_sem,e0,e1,e2,e3,e4,e5,e6,e7,e8,e9]) rfl ?_
     rw [HF2.out]
     exact ⟨_,by rw [←HVH.out];rfl,HEB.out⟩
    ·have HVH:=yiF hv
     rw [hv]
     clear hv
     have HEND:=yiF (zeG HRW.out (.string ⟨v.scheme.toArray⟩) (.string ⟨v.user.toArray⟩) (.string ⟨v.pass.toArray⟩) (.iface it iv) (.int .i64 v.port) (.slice sa sn sc) (.string ⟨v.query.toArray⟩) (.bool v.hasQ) (.string ⟨v.frag.toArray⟩) (.bool v.hasF))
     have HEB:=yiF (zcI HB5.out HP5.out hBs (.string ⟨v.scheme.toArray⟩) (.string ⟨v.user.toArray⟩) (.string ⟨v.pass.toArray⟩) (.iface it iv) (.int .i64 v.port) (.slice sa sn sc) (.string ⟨v.query.toArray⟩) (.bool v.hasQ) (.string ⟨v.frag.toArray⟩) (.bool v.hasF))
     go_wp2
     obtain ⟨e0,e1,e2,e3,e4,e5,e6,e7,e8,e9,-⟩:=zaP HEND.out
     refine bodyPost_ret (v:= .tuple #[.agg #[.string ⟨v.scheme.toArray⟩,.string ⟨v.user.toArray⟩,.string ⟨v.pass.toArray⟩,(.iface it iv),.int .i64 v.port,.slice sa sn sc,.string ⟨v.query.toArray⟩,.bool v.hasQ,.string ⟨v.frag.toArray⟩,.bool v.hasF],.int .i64 er]) (by simp [results,Tryz.results13,go_sem,e0,e1,e2,e3,e4,e5,e6,e7,e8,e9]) rfl ?_
     rw [HF2.out]
     exact ⟨_,by rw [←HVH.out];rfl,HEB.out⟩
theorem z4V (t:List UInt8) (w:World) (hmax:MaxVar w) (hl:t.length≤1000000):
  Calls Tryz.prog 10 #[.string ⟨t.toArray⟩] w (RetP w (zaQ t none)):=by
 obtain ⟨x0,hx0⟩: ∃y,y=w.alloc (.cells zbH 28):=⟨_,rfl⟩
 have hb0:Below w.heap.size w x0:=by rw [hx0];exact zbQ w _
 have HR0:Hid (RB x0 w.heap.size):=by show RB _ _;rw [hx0];exact RB.new w
 have HP:=yiF (zxC t x0 (zaG hmax hb0) hl)
 have HB0:=yiF hb0
 have hRs:w.heap.size<x0.heap.size:=HR0.out.lt
 unfold zbH at hx0
 clear hmax hb0
 generalize zaQ t none=rr at*
 obtain ⟨v,er⟩:=rr
 go_enter Tryz.func10,Tryz.ntmps10
 go_wp2_with fail
 rw [←hx0]
 clear hx0
 refine HP.out.mono ?_
 rintro e x5 ⟨pv,rfl,hp5,hb5⟩
 have HB5:=yiF (zaC HB0.out hb5)
 have HR5:=HR0.out.below hb5
 have HP5:=yiF hp5
 clear HP hb5 hp5 HR0 HB0
 simp only [UZ.cells] at HP5 ⊢
 obtain ⟨sa,sn,sc,rfl⟩:=HP5.out.pv.shape
 obtain ⟨c0,c1,c2,c3,c4,c5,c6,c7,c8,c9,hrow⟩:=HR5
 have HRW:=yiF hrow
 obtain ⟨k0,k1,k2,k3,k4,k5,k6,k7,k8,k9,kf⟩:=zaP hrow
 clear hrow
 rcases v.host.shape with hv|⟨it,iv,hv⟩
 ·have HVH:=yiF hv
  rw [hv]
  clear hv
  have HEND:=yiF (zeG HRW.out (.string ⟨v.scheme.toArray⟩) (.string ⟨v.user.toArray⟩) (.string ⟨v.pass.toArray⟩) .nilIface (.int .i64 v.port) (.slice sa sn sc) (.string ⟨v.query.toArray⟩) (.bool v.hasQ) (.string ⟨v.frag.toArray⟩) (.bool v.hasF))
  have HEB:=yiF (zcI HB5.out HP5.out hRs (.string ⟨v.scheme.toArray⟩) (.string ⟨v.user.toArray⟩) (.string ⟨v.pass.toArray⟩) .nilIface (.int .i64 v.port) (.slice sa sn sc) (.string ⟨v.query.toArray⟩) (.bool v.hasQ) (.string ⟨v.frag.toArray⟩) (.bool v.hasF))
  go_wp2
  obtain ⟨e0,e1,e2,e3,e4,e5,e6,e7,e8,e9,-⟩:=zaP HEND.out
  refine bodyPost_ret (v:= .tuple #[.agg #[.string ⟨v.scheme.toArray⟩,.string ⟨v.user.toArray⟩,.string ⟨v.pass.toArray⟩,.nilIface,.int .i64 v.port,.slice sa sn sc,.string ⟨v.query.toArray⟩,.bool v.hasQ,.string ⟨v.frag.toArray⟩,.bool v.hasF],.int .i64 er]) (by simp [results,Tryz.results10,go_sem,e0,e1,e2,e3,e4,e5,e6,e7,e8,e9]) rfl ?_
  exact ⟨_,by rw [←HVH.out];rfl,HEB.out⟩
 ·have HVH:=yiF hv
  rw [hv]
  clear hv
  have HEND:=yiF (zeG HRW.out (.string ⟨v.scheme.toArray⟩) (.string ⟨v.user.toArray⟩) (.string ⟨v.pass.toArray⟩) (.iface it iv) (.int .i64 v.port) (.slice sa sn sc) (.string ⟨v.query.toArray⟩) (.bool v.hasQ) (.string ⟨v.frag.toArray⟩) (.bool v.hasF))
  have HEB:=yiF (zcI HB5.out HP5.out hRs (.string ⟨v.scheme.toArray⟩) (.string ⟨v.user.toArray⟩) (.string ⟨v.pass.toArray⟩) (.iface it iv) (.int .i64 v.port) (.slice sa sn sc) (.string ⟨v.query.toArray⟩) (.bool v.hasQ) (.string ⟨v.frag.toArray⟩) (.bool v.hasF))
  go_wp2
  obtain ⟨e0,e1,e2,e3,e4,e5,e6,e7,e8,e9,-⟩:=zaP HEND.out
  refine bodyPost_ret (v:= .tuple #[.agg #[.string ⟨v.scheme.toArray⟩,.string ⟨v.user.toArray⟩,.string ⟨v.pass.toArray⟩,.iface it iv,.int .i64 v.port,.slice sa sn sc,.string ⟨v.query.toArray⟩,.bool v.hasQ,.string ⟨v.frag.toArray⟩,.bool v.hasF],.int .i64 er]) (by simp [results,Tryz.results10,go_sem,e0,e1,e2,e3,e4,e5,e6,e7,e8,e9]) rfl ?_
  exact ⟨_,by rw [←HVH.out];rfl,HEB.out⟩
theorem z7F (b:Bool) (out:List (List UInt8)) (q:List UInt8):(zhJ b out q).length≤out.length+1:=by
 unfold zhJ
 repeat' split
 all_goals simp
 all_goals omega
theorem z8F: ∀(ps out:List (List UInt8)),(goW out ps).length≤out.length+ps.length
 |[],out=>by simp [goW]
 |p::r,out=>by
  rw [goW]
  have h1:=z8F r (zhJ r.isEmpty out (encW 4 p))
  have h2:=z7F r.isEmpty out (encW 4 p)
  simp only [List.length_cons]
  omega
theorem z5O (f:List (List UInt8)) (l:List UInt8):(zjC f l).length≤f.length+l.length+1:=by
 have h1:=z8F (zcL (hasB [47,92]) l) f
 have h2:=zcN (hasB [47,92]) l
 unfold zjC
 omega
theorem zkZ (u:UZ) (l:List UInt8):(zdC u l).path=u.path:=by
 unfold zdC
 rw [(zkI (qryW u l) l).2.2.2.2.2.1,(zkA u l).2.2.2.2.2.1]
theorem zlH (u:UZ) (f:List (List UInt8)) (l:List UInt8):(zcY u f l).path.length≤f.length+l.length+1:=by
 unfold zcY
 rw [zkZ]
 have:=z5O f (l.take (l.findIdx (hasB [63,35])))
 have h2:(l.take (l.findIdx (hasB [63,35]))).length≤l.length:=by rw [List.length_take];omega
 show (zjC f (l.take (l.findIdx (hasB [63,35])))).length≤_
 omega
theorem znE (n l:List UInt8):(zcU n l).1.path.length≤l.length+1:=by
 unfold zcU
 simp only
 split
 ·exact Nat.zero_le _
 ·split
  ·exact Nat.zero_le _
  ·split
   ·exact Nat.zero_le _
   ·refine Nat.le_trans (zlH _ [] _) ?_
    have h1:=zwM (l.drop (l.findIdx (hasB [47,92,63,35])))
    rw [List.length_drop] at h1
    simp only [List.length_nil]
    omega
theorem zyG (b:UZ) (l:List UInt8):(relW b l).1.path.length≤b.path.length+l.length+1:=by
 unfold relW
 split
 ·have h1:=znE b.scheme (zbW l)
  have h2:=zdT l
  omega
 ·simp only
  split
  ·have:=zlH {zbX with scheme:=b.scheme,user:=b.user,pass:=b.pass,host:=b.host,port:=b.port} [] (l.drop 1)
   rw [List.length_drop] at this
   simp only [List.length_nil] at this
   exact Nat.le_trans this (by omega)
  ·split
   ·rw [zkZ];show b.path.length≤_;omega
   ·split
    ·rw [zkZ];show b.path.length≤_;omega
    ·refine Nat.le_trans (zlH _ _ _) ?_
     rw [List.length_dropLast];omega
theorem zfQ (t:List UInt8) (b:Option UZ) (n:Nat) (hb: ∀u,b=some u→u.path.length≤n):(zaQ t b).1.path.length≤n+4098:=by
 unfold zaQ
 split
 ·exact Nat.zero_le _
 ·rename_i h
  have hc:=zcW t
  generalize zcF (zaV t)=s at*
  unfold zeB
  split
  ·exact Nat.zero_le _
  ·rename_i u _
   have:=zyG u s
   have:=hb u rfl
   omega
  ·rename_i m r hs
   have:=zeP hs
   split
   ·have:=znE m (zbW r)
    have:=zdT r
    omega
   ·exact Nat.zero_le _
  ·rename_i m r u hs
   have:=zeP hs
   split
   ·split
    ·have:=znE m (zbW r)
     have:=zdT r
     omega
    ·have:=zyG u r
     have:=hb u rfl
     omega
   ·exact Nat.zero_le _
theorem zpK {u:UZ} {er:Int} (h:er≠0) (l:List (List UInt8)):zeD (u,er) l=(u,er):=by
 cases l with
 |nil=>rfl
 |cons t r=>rw [zeD,if_neg h]
theorem zvZ {u:UZ} {l:List (List UInt8)} {k:Nat} (hk:k<l.length):zeD (u,0) (l.drop k)=zeD (zaQ (l.getD k []) (some u)) (l.drop (k+1)):=by
 rw [List.drop_eq_getElem_cons hk,zeD,if_pos rfl]
 simp [List.getD,List.getElem?_eq_getElem hk]
theorem zoP {w x:World} {u:UZ} {pv:Value} {B G:Nat} (hb:Below w.heap.size w x) (hr:RB x w.heap.size) (hg:RB x G) (hgw:w.heap.size<G) (hp:zaM B x pv u.path) (hB:G<B) (hv:Value) (hvv:u.host.val=hv):
  UB ((((((((((x.setCell ⟨G,0,none⟩ (.string ⟨u.scheme.toArray⟩)).setCell ⟨G,1,none⟩ (.string ⟨u.user.toArray⟩)).setCell ⟨G,2,none⟩ (.string ⟨u.pass.toArray⟩)).setCell ⟨G,3,none⟩ hv).setCell ⟨G,4,none⟩ (.int .i64 u.port)).setCell ⟨G,5,none⟩ pv).setCell ⟨G,6,none⟩ (.string ⟨u.query.toArray⟩)).setCell ⟨G,7,none⟩ (.bool u.hasQ)).setCell ⟨G,8,none⟩ (.string ⟨u.frag.toArray⟩)).setCell ⟨G,9,none⟩ (.bool u.hasF)) G u pv∧
  RB ((((((((((x.setCell ⟨G,0,none⟩ (.string ⟨u.scheme.toArray⟩)).setCell ⟨G,1,none⟩ (.string ⟨u.user.toArray⟩)).setCell ⟨G,2,none⟩ (.string ⟨u.pass.toArray⟩)).setCell ⟨G,3,none⟩ hv).setCell ⟨G,4,none⟩ (.int .i64 u.port)).setCell ⟨G,5,none⟩ pv).setCell ⟨G,6,none⟩ (.string ⟨u.query.toArray⟩)).setCell ⟨G,7,none⟩ (.bool u.hasQ)).setCell ⟨G,8,none⟩ (.string ⟨u.frag.toArray⟩)).setCell ⟨G,9,none⟩ (.bool u.hasF)) w.heap.size∧
  zaM (w.heap.size+1) ((((((((((x.setCell ⟨G,0,none⟩ (.string ⟨u.scheme.toArray⟩)).setCell ⟨G,1,none⟩ (.string ⟨u.user.toArray⟩)).setCell ⟨G,2,none⟩ (.string ⟨u.pass.toArray⟩)).setCell ⟨G,3,none⟩ hv).setCell ⟨G,4,none⟩ (.int .i64 u.port)).setCell ⟨G,5,none⟩ pv).setCell ⟨G,6,none⟩ (.string ⟨u.query.toArray⟩)).setCell ⟨G,7,none⟩ (.bool u.hasQ)).setCell ⟨G,8,none⟩ (.string ⟨u.frag.toArray⟩)).setCell ⟨G,9,none⟩ (.bool u.hasF)) pv u.path∧
  Below w.heap.size w ((((((((((x.setCell ⟨G,0,none⟩ (.string ⟨u.scheme.toArray⟩)).setCell ⟨G,1,none⟩ (.string ⟨u.user.toArray⟩)).setCell ⟨G,2,none⟩ (.string ⟨u.pass.toArray⟩)).setCell ⟨G,3,none⟩ hv).setCell ⟨G,4,none⟩ (.int .i64 u.port)).setCell ⟨G,5,none⟩ pv).setCell ⟨G,6,none⟩ (.string ⟨u.query.toArray⟩)).setCell ⟨G,7,none⟩ (.bool u.hasQ)).setCell ⟨G,8,none⟩ (.string ⟨u.frag.toArray⟩)).setCell ⟨G,9,none⟩ (.bool u.hasF)):=by
 subst hvv
 have ho:=zcK (g:=G) (F:=[G]) (Only.refl _ x) (.inl (yiM ..)) (.string ⟨u.scheme.toArray⟩) (.string ⟨u.user.toArray⟩) (.string ⟨u.pass.toArray⟩) u.host.val (.int .i64 u.port) pv (.string ⟨u.query.toArray⟩) (.bool u.hasQ) (.string ⟨u.frag.toArray⟩) (.bool u.hasF)
 obtain ⟨c0,c1,c2,c3,c4,c5,c6,c7,c8,c9,hg⟩:=hg
 exact ⟨zeG hg _ _ _ _ _ _ _ _ _ _,hr.only ho (by simp;omega),zbU (hp.only ho (fun b hb=>by rw [List.mem_singleton.1 hb];exact hB)) (by omega),zdW hb (Nat.le_of_lt hgw) _ _ _ _ _ _ _ _ _ _⟩
end
end Go.Proofs.YtcagcjdhbijknaaGreatDoor
