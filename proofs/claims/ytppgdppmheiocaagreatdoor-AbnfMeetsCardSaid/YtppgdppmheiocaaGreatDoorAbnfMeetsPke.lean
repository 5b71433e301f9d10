/-
  What the law AbnfMeets leans on, and its walk (30 of 35).
-/
import Derived.Maps.AppendAt
import Derived.Deep.RegionHeld3
import Derived.Test.YtppgdppmheiocaaGreatDoorAbnfMeetsPkc
import Derived.Test.YtppgdppmheiocaaGreatDoorAbnfMeetsPkO
import Derived.Test.YtppgdppmheiocaaGreatDoorAbnfMeetsPkd
import Derived.Test.YtppgdppmheiocaaGreatDoorAbnfMeetsPkU
import Derived.Test.YtppgdppmheiocaaGreatDoorAbnfMeetsPkT
namespace Go.Proofs.YtppgdppmheiocaaGreatDoor
set_option maxRecDepth 100000
set_option maxHeartbeats 16000000
abbrev yiF := @Lib.hid
abbrev yiG := @Nat.le_refl
abbrev yiH := @decide_eq_true
abbrev yiI := @Go.RowKit.Below.refl
abbrev yiJ := @List.mem_singleton
abbrev yiK := @List.mem_cons_self
section
open Go.RowKit
def PV (w:World) (v:Value) (ps:List (List UInt8)):Prop:=(ps=[]∧v= .slice none 0 0)∨ ∃g c,v= .slice (some ⟨g,0,none⟩) ps.length c∧ps.length≤c∧Seen w g ps
theorem PV.keep {w w':World} {v:Value} {ps:List (List UInt8)} (h:PV w v ps) (hb:Below w.heap.size w w'):PV w' v ps:=by
 rcases h with h|⟨g,c,h1,h2,h3⟩
 ·exact .inl h
 ·exact .inr ⟨g,c,h1,h2,h3.keep hb⟩
theorem zaY.cases {B:Nat} {w:World} {v:Value} {ps:List (List UInt8)} (h:zaY B w v ps):(ps=[]∧v= .slice none 0 0)∨ ∃g c,v= .slice (some ⟨g,0,none⟩) ps.length c∧ps.length≤c∧B≤g∧Seen w g ps:=by
 unfold zaY at h
 rcases h.2 with ⟨h1,h2⟩|⟨g,c,cur,h1,h2,h3,h4,h5,h6,h7⟩
 ·exact .inl ⟨List.eq_nil_of_length_eq_zero h2,h1⟩
 ·refine .inr ⟨g,c,h1,h4,h2,zaR h3,fun j hj=> ?_⟩
  have hq:(zhO ps)[j]? =some (.string ⟨(ps.getD j []).toArray⟩):=by
   simp [zhO,strC,List.getD,List.getElem?_eq_getElem hj]
  have:=h.cells (g:=g) (by rw [h1];rfl) j _ hq
  have e:(⟨g,0,none⟩:Addr).add j=⟨g,j,none⟩:=by simp [Addr.add];intro h;omega
  rw [e] at this
  exact this
theorem zaY.pv {B:Nat} {w:World} {v:Value} {ps:List (List UInt8)} (h:zaY B w v ps):PV w v ps:=by
 rcases h.cases with h|⟨g,c,h1,h2,_,h4⟩
 ·exact .inl h
 ·exact .inr ⟨g,c,h1,h2,h4⟩
theorem z6B (ps:List (List UInt8)):(ps.map fun p=>(⟨p.toArray⟩:ByteArray)).map Value.string=zhO ps:=by simp [zhO,strC]
theorem ztI (v:Value) (ps:List (List UInt8)) (w:World) (h:PV w v ps) (hl:ps.length≤1000000):
  Calls Tryz.prog 128 #[v] w fun e w'=> ∃v',e= .returned v'∧zaY w.heap.size w' v' ps∧Below w.heap.size w w':=by
 rcases h with ⟨rfl,rfl⟩|⟨g,c,rfl,_,hs⟩
 ·refine (Tryz.slices_Clone_string_nil 0 0 w).mono ?_
  rintro e w' ⟨rfl,rfl⟩
  exact ⟨_,rfl,zaY.nil _ _,yiI _ _⟩
 ·refine (Tryz.slices_Clone_string g 0 ps.length c (ps.map fun p=>⟨p.toArray⟩) w (by simp) (by omega) (fun j hj=> ?_)).mono ?_
  ·rw [List.length_map] at hj
   rw [Nat.zero_add,hs.2 j hj]
   simp [List.getD,List.getElem?_eq_getElem hj]
  ·rintro e w' ⟨v',rfl,hown,_,hb⟩
   refine ⟨v',rfl,?_,hb⟩
   have e:((ps.map fun p=>(⟨p.toArray⟩:ByteArray)).take ps.length).map Value.string=zhO ps:=by
    rw [List.take_of_length_le (by simp),z6B]
   rw [e] at hown
   exact hown
theorem zzV {B:Nat} {w:World} {g n c:Nat} {ps:List (List UInt8)} (h:zaY B w (.slice (some ⟨g,0,none⟩) n c) ps):zaY B w (.slice (some ⟨g,0,none⟩) (n - 1:Nat) c) ps.dropLast:=by
 unfold zaY at*
 rcases h.2 with ⟨h1,h2⟩|⟨g',c',cur,h1,h2,h3,h4,h5,h6,h7⟩
 ·cases h1
 ·simp only [Value.slice.injEq,Option.some.injEq,Addr.mk.injEq,and_true] at h1
  obtain ⟨rfl,rfl,rfl⟩:=h1
  have e:zhO ps.dropLast=(zhO ps).take (ps.length - 1):=by
   unfold zhO;rw [List.dropLast_eq_take,List.map_take]
  refine ⟨by simp [zhO],.inr ⟨g,c,cur,by simp,h2,h3,by simp;omega,h5,h6,?_⟩⟩
  rw [e,←h7,List.take_take,List.length_dropLast]
  congr 1
  omega
theorem zoA (B:Nat) (v:Value) (ps:List (List UInt8)) (w:World) (h:zaY B w v ps) (hl:ps.length≤10000000):
  Calls Tryz.prog 129 #[v] w fun e w'=> ∃v',e= .returned v'∧zaY B w v' ps.dropLast∧v'.ownBlock=v.ownBlock∧w=w':=by
 rcases h.cases with ⟨rfl,rfl⟩|⟨g,c,rfl,hc,_,_⟩
 ·have hs: ∀W,(Instr.slice 40 (.slice none 0 0) none (some (.int .i64 0)) none).run Tryz.prog W= .ok (.slice none 0 0) W:=fun W=>by
   rw [run_slice_h W 40 none 0 0 (by simp [Program.elem,Tryz.underlying40]) .i64 _ (by omega) (by omega)]
   rfl
  go_enter Tryz.func129,Tryz.ntmps129
  go_wp2
  go_ret
  exact ⟨_,rfl,zaY.nil _ _,rfl,rfl⟩
 ·have HP:=yiF (zzV h)
  clear h
  generalize ps.length=n at*
  have hs: ∀W (k:Nat),k≤c→(Instr.slice 40 (.slice (some ⟨g,0,none⟩) n c) none (some (.int .i64 (k:Int))) none).run Tryz.prog W= .ok (.slice (some ⟨g,0,none⟩) k c) W:=fun W k hk=>by
   rw [run_slice_h W 40 (some ⟨g,0,none⟩) n c (by simp [Program.elem,Tryz.underlying40]) .i64 _ (by omega) (by omega)]
   go_simp
  match n,hc,hl,HP with
  |0,hc,hl,HP=>
   have hs0:=fun W=>hs W 0 (by omega)
   clear hs
   go_enter Tryz.func129,Tryz.ntmps129
   go_wp2
   go_ret
   exact ⟨_,rfl,HP.out,rfl,rfl⟩
  |n+1,hc,hl,HP=>
   have hs0:=fun W=>hs W n (by omega)
   have HP2:Hid (zaY B w (.slice (some ⟨g,0,none⟩) n c) ps.dropLast):=HP.out
   clear hs HP
   by_cases h0:n=0
   ·subst h0
    go_enter Tryz.func129,Tryz.ntmps129
    go_wp2
    go_ret
    exact ⟨_,rfl,HP2.out,rfl,rfl⟩
   ·have hd:0<n:=by omega
    go_enter Tryz.func129,Tryz.ntmps129
    go_wp2
    go_ret
    exact ⟨_,rfl,HP2.out,rfl,rfl⟩
theorem z3K (s old:ByteArray):Lib.countB s old≤s.size+1:=by
 have:=Lib.count_le s.data.toList old.data.toList
 rw [zaI] at this
 exact this
theorem zxC (l:List UInt8) (w:World) (hl:l.length≤1000000000) (hmax:MaxVar w):
  Calls Tryz.prog 155 #[.string ⟨l.toArray⟩,.string ⟨#[37,50,101]⟩,.string ⟨#[46]⟩] w (zeL w (Lib.replaceAll l [37,50,101] [46])):=by
 obtain ⟨m,hm⟩:=hmax
 have hz:=zaE l
 have h1:=z3K ⟨l.toArray⟩ ⟨#[37,50,101]⟩
 have h2:(ByteArray.mk #[46]).size=1:=rfl
 exact Tryz.strings_ReplaceAll ⟨l.toArray⟩ ⟨#[37,50,101]⟩ ⟨#[46]⟩ m w (by omega) hm (by decide) (by rw [h2];omega)
theorem zoG {P:Program} (w:World) {ops:Array Oper} {rest:List Oper} {o:Oper} {a:Act} {Q:Exit→Act→World→Prop} (hgd:o.guard=none) (s x:Operand) (t:TypeId)
  (ho:o.op= .call {callee:= .builtin .append,args:= #[s,x],argTypes:= #[t,t]})
  (base:Nat) (e:TypeId) (i:TypeInfo) (z:Value) (bytes:Nat) (ht:P.underlying t=some (.slice e)) (hi:P.info? e=some i) (hz:i.zero=some z)
  (hsize:i.size=1) (hby:i.bytes=bytes) (hzs:z.cells.size=1)
  (v:Value) (n:Nat) (xs:List Value) (hs:a.eval s=v) (hown:w.ownsRow base e 1 v n xs) (u:Value) (hx:a.eval x= .slice (some ⟨w.heap.size,0,none⟩) 1 1) (hu:u.oneCell'=true)
  (h63:n+1≤9223372036854775807) (hbytes:(n+1)*bytes≤140737488355328) (hbase:base≤w.heap.size)
  (h: ∀v' w',w'.ownsRow base e 1 v' (n+1) (xs++[u])→w.grownBy w' v.ownBlock→(v'.ownBlock=v.ownBlock∨ ∃k,v'.ownBlock=some k∧w.heap.size≤k)→wpList P ops Q rest (a.put o.dst v') w'):wpList P ops Q (o::rest) a (w.alloc (.cells #[u] e)):=by
 refine wpList_append_own_at (w.alloc (.cells #[u] e)) hgd s x t ho base e i z 1 bytes ht hi hz hsize hby hzs (by decide) v n xs hs (hown.alloc _) ⟨w.heap.size,0,none⟩ 1 1 [u] hx rfl (zsL w u e) ?_ h63 hbytes (by simp;omega) ?_
 ·intro y hy;simp at hy;subst hy;exact hu
 ·intro v' w1 hown' hg _ hat
  refine h v' w1 hown' ⟨hg.os,hg.tape,hg.output,Nat.le_trans (by simp) hg.size,fun k hk hne=> ?_⟩ ?_
  ·exact (hg.block k (by simp;omega) hne).trans (((yiI _ w).alloc (yiG _) _).block k hk)
  ·rcases hat with q|q
   ·exact .inl q
   ·exact .inr ⟨_,q,by simp⟩
structure Segs (base:Nat) (x:World) (v0:Value) (y:World) (v:Value) (out:List (List UInt8)):Prop where
 own:zaY base y v out
 grown:x.grownBy y v0.ownBlock
 at_:v.ownBlock=v0.ownBlock∨ ∃b,v.ownBlock=some b∧x.heap.size≤b
theorem Segs.keep {base:Nat} {x:World} {v0:Value} {y z:World} {v:Value} {out:List (List UInt8)} (h:Segs base x v0 y v out) (hb:Below y.heap.size y z):Segs base x v0 z v out:=
 ⟨h.own.below hb,⟨hb.os.trans h.grown.os,hb.tape.trans h.grown.tape,hb.output.trans h.grown.output,Nat.le_trans h.grown.size hb.size,fun k hk hne=>(hb.block k (Nat.lt_of_lt_of_le hk h.grown.size)).trans (h.grown.block k hk hne)⟩,h.at_⟩
theorem Segs.app {base:Nat} {x:World} {v0:Value} {y z:World} {v v':Value} {out:List (List UInt8)} {q:List UInt8} (h:Segs base x v0 y v out) (hown:z.ownsRow base 9 1 v' (out.length+1) (zhO out++[.string ⟨q.toArray⟩])) (hg:y.grownBy z v.ownBlock) (hat:v'.ownBlock=v.ownBlock∨ ∃k,v'.ownBlock=some k∧y.heap.size≤k):Segs base x v0 z v' (out++[q]):=by
 refine ⟨zaY.snoc hown rfl,⟨hg.os.trans h.grown.os,hg.tape.trans h.grown.tape,hg.output.trans h.grown.output,Nat.le_trans h.grown.size hg.size,fun k hk hne=> ?_⟩,?_⟩
 ·refine (hg.block k (Nat.lt_of_lt_of_le hk h.grown.size) (fun e=> ?_)).trans (h.grown.block k hk hne)
  rcases h.at_ with q|⟨b,q,hb⟩
  ·exact hne (e.trans q)
  ·rw [q] at e;have:=Option.some.inj e;omega
 ·rcases hat with q|⟨k,q,hk⟩
  ·rcases h.at_ with r|r
   ·exact .inl (q.trans r)
   ·exact .inr (by rw [q];exact r)
  ·exact .inr ⟨k,q,Nat.le_trans h.grown.size hk⟩
theorem Segs.drop {base:Nat} {x:World} {v0:Value} {y:World} {v v':Value} {out:List (List UInt8)} (h:Segs base x v0 y v out) (hp:zaY base y v' out.dropLast) (hb:v'.ownBlock=v.ownBlock):Segs base x v0 y v' out.dropLast:=
 ⟨hp,h.grown,by rw [hb];exact h.at_⟩
theorem Segs.block {base:Nat} {x:World} {v0:Value} {y:World} {v:Value} {out:List (List UInt8)} (h:Segs base x v0 y v out) (hv: ∀b,v0.ownBlock=some b→base≤b) {k:Nat} (hk:k<base) (hx:base≤x.heap.size):y.heap[k]? =x.heap[k]? :=
 h.grown.block k (by omega) (fun e=>by have:=hv k e.symm;omega)
theorem znM {B:Nat} {w w':World} {v:Value} {ps:List (List UInt8)} (h:zaY B w v ps) (he: ∀b,v.ownBlock=some b→w'.heap[b]? =w.heap[b]?):zaY B w' v ps:=by
 unfold zaY at*
 refine ⟨h.1,?_⟩
 rcases h.2 with q|⟨g,cap,cur,e,hb,hg,r⟩
 ·exact .inl q
 ·exact .inr ⟨g,cap,cur,e,hb,(he g (by rw [e];rfl)).trans hg,r⟩
theorem znY {B C:Nat} {w:World} {v:Value} {ps:List (List UInt8)} (h:zaY B w v ps) (hC:C≤B):zaY C w v ps:=by
 unfold zaY at*
 refine ⟨h.1,?_⟩
 rcases h.2 with q|⟨g,cap,cur,e,hb,r⟩
 ·exact .inl q
 ·exact .inr ⟨g,cap,cur,e,Nat.le_trans hC hb,r⟩
theorem zjT {w y:World} (h:MaxVar w) (he:y.heap[0]? =w.heap[0]?):MaxVar y:=by
 obtain ⟨m,hm⟩:=h
 exact ⟨m,(World.cell?_of_block (a:=⟨0,0,none⟩) he).trans hm⟩
theorem zkO {w:World} (h:MaxVar w):0<w.heap.size:=by
 obtain ⟨m,hm⟩:=h
 exact World.block_lt_of_cell? w _ hm
theorem zrT {w:World} {M:Nat} {l:List UInt8} (h:MaxVar w) (hm:MB w M l):0≠M:=fun e=>by
 obtain ⟨m,hm2⟩:=h
 subst e
 rw [hm.cell] at hm2
 cases hm2
theorem zlL {w y:World} {M:Nat} {l:List UInt8} (h:MaxVar w) (hm:MB w M l) (ho:Only [M] w y):MaxVar y:=
 zjT h (ho.block _ (zkO h) (by rw [yiJ];exact zrT h hm))
theorem z1B {p:UInt8→Bool} {l x:List UInt8} (h:x∈zbH p l):x.length≤l.length:=by
 have h2:=(zlI p l).2.1
 have key: ∀(ps:List (List UInt8)),x∈ps→x.length≤zdT ps:=by
  intro ps
  induction ps with
  |nil=>intro h;cases h
  |cons y r ih=>
   intro h
   have e:zdT (y::r)=y.length+zdT r:=by simp [zdT]
   rcases List.mem_cons.1 h with q|q
   ·rw [q,e];omega
   ·have:=ih q;rw [e];omega
 have:=key _ h
 omega
theorem zgR (st:Int) (l:List UInt8):(encW st l).length≤12*l.length:=by
 have h1:=zjQ st (scal ⟨l.toArray⟩) (scal ⟨l.toArray⟩).length
 rw [List.take_length] at h1
 have h2:=ybN ⟨l.toArray⟩
 rw [zaE] at h2
 unfold encW
 omega
theorem goW_at {from_ out:List (List UInt8)} {ps:List (List UInt8)} {k:Nat} {p:List UInt8} (hk:k<ps.length) (hp:ps.getD k []=p) (h:goW from_ ps=goW out (ps.drop k)):goW from_ ps=goW (zeQ (decide (k+1=ps.length)) out (encW 4 p)) (ps.drop (k+1)):=by
 have e:ps.drop k=p::ps.drop (k+1):=by
  rw [List.drop_eq_getElem_cons hk]
  congr 1
  rw [←hp]
  simp [List.getD,List.getElem?_eq_getElem hk]
 have e2:(ps.drop (k+1)).isEmpty=decide (k+1=ps.length):=by
  rw [Bool.eq_iff_iff,List.isEmpty_iff,List.drop_eq_nil_iff,decide_eq_true_eq]
  omega
 rw [h,e,goW,e2]
theorem ygF {b:Bool} {out:List (List UInt8)} {q:List UInt8} (h:ptsW q=0):zeQ b out q=out++[q]:=by unfold zeQ;rw [if_pos h]
theorem z8N {out:List (List UInt8)} {q:List UInt8} (h:ptsW q=1):zeQ true out q=out++[[]]:=by unfold zeQ;rw [if_neg (by omega),if_pos rfl,if_neg (by omega)]
theorem ydP {out:List (List UInt8)} {q:List UInt8} (h:ptsW q=1):zeQ false out q=out:=by unfold zeQ;rw [if_neg (by omega),if_neg (by decide),if_neg (by omega)]
theorem z9X {out:List (List UInt8)} {q:List UInt8} (h:ptsW q=2):zeQ true out q=out.dropLast++[[]]:=by unfold zeQ;rw [if_neg (by omega),if_pos rfl,if_pos h]
theorem yeF {out:List (List UInt8)} {q:List UInt8} (h:ptsW q=2):zeQ false out q=out.dropLast:=by unfold zeQ;rw [if_neg (by omega),if_neg (by decide),if_pos h]
theorem z8S {k n:Nat}:((k:Int)==(n:Int) - 1)=decide (k+1=n):=by
 rw [Bool.eq_iff_iff,beq_iff_eq,decide_eq_true_eq];omega
def yeH (w:World) (M:Nat) (ps:List (List UInt8)) (left:List UInt8) (e:Ending) (w':World):Prop:= ∃v',e= .returned v'∧zaY w.heap.size w' v' ps∧MB w' M left∧Only [M] w w'
theorem ycD (M:Nat) (l:List UInt8) (fv:Value) (from_:List (List UInt8)) (w:World) (hl:l.length≤1000000) (hfl:from_.length≤1000000) (hm:MB w M l) (hf:PV w fv from_) (hmax:MaxVar w):
  Calls Tryz.prog 126 #[.pointer (some ⟨M,0,none⟩),fv] w (yeH w M (zmN from_ (l.take (l.findIdx (hasB [63,35])))) (l.drop (l.findIdx (hasB [63,35])))):=by
 obtain ⟨i0,hi,hz0,hz1,hz2⟩:=info_parts Tryz.infoStr
 have hMw:=zaR hm
 have HCL:=yiF (ztI fv from_ w hf hfl)
 have HM:=yiF hm
 have HX:=yiF hmax
 have hptl:(l.take (l.findIdx (hasB [63,35]))).length≤l.length:=by rw [List.length_take];omega
 have HU:=yiF (fun W (h:MB W M l)=>zfZ [63,35] (by decide) M l W h)
 generalize l.take (l.findIdx (hasB [63,35]))=part at*
 generalize l.drop (l.findIdx (hasB [63,35]))=left at*
 have HSP:=yiF (fun W=>zcQ ⟨part.toArray⟩ ⟨#[47,92]⟩ W (by rw [zaE];omega))
 rw [zaH part,zaH [47,92]] at HSP
 have HPW:Hid (zmN from_ part=goW from_ (zbH (hasB [47,92]) part)):=rfl
 have hsl:=zcC (hasB [47,92]) part
 have HPL:=yiF (fun x (h:x∈zbH (hasB [47,92]) part)=>z1B h)
 have hne:=znA (hasB [47,92]) part
 generalize zbH (hasB [47,92]) part=ps at*
 clear hm hf hmax
 go_enter Tryz.func126,Tryz.ntmps126
 go_wp2_with fail
 refine HCL.out.mono ?_
 rintro e x1 ⟨v0,rfl,hp0,hb1⟩
 have HU1:=yiF (HU.out _ (HM.out.below hb1))
 go_wp2_with fail
 refine (zmB [63,35] _).mono ?_
 rintro e x2 ⟨rfl,rfl⟩
 go_wp2_with fail
 refine HU1.out.mono ?_
 rintro e x3 ⟨rfl,hm3,ho3⟩
 go_wp2_with fail
 refine (HSP.out _).mono ?_
 rintro e x4 ⟨vp,rfl,hpp,hb4⟩
 obtain ⟨N,hN⟩: ∃N,ps.length=N:=⟨_,rfl⟩
 have hNp:0<N:=by rw [←hN];exact List.length_pos_iff.2 hne
 obtain ⟨gp,cp,rfl,hgB,hgs⟩: ∃gp cp,vp= .slice (some ⟨gp,0,none⟩) N cp∧x3.heap.size≤gp∧Seen x4 gp ps:=by
  rcases zaY.cases hpp with ⟨e,_⟩|⟨g,c,h1,h2,h3,h4⟩
  ·exact absurd e hne
  ·exact ⟨g,c,by rw [h1,hN],h3,h4⟩
 have hv0: ∀b,v0.ownBlock=some b→w.heap.size≤b∧b<x1.heap.size:=fun b hb=>World.ownsRow.lt hp0 b hb
 have hO1:Only [M] w x3:=(Only.of_below (F:=[M]) hb1).trans ho3 (fun x hx=> .inl hx)
 have hO4:Only [M] w x4:=hO1.then_below hb4
 have hs13:=ho3.size
 have hp3:zaY w.heap.size x3 v0 from_:=znM hp0 (fun b hb=>ho3.block b (hv0 b hb).2 (by have:=(hv0 b hb).1;simp;omega))
 have HS0:Hid (Segs w.heap.size x4 v0 x4 v0 from_):=⟨hp3.below hb4,⟨rfl,rfl,rfl,yiG _,fun _ _ _=>rfl⟩,.inl rfl⟩
 have hw4:w.heap.size≤x4.heap.size:=hO4.size
 have HROW:Hid (∀y v out,Segs w.heap.size x4 v0 y v out→ ∀j,j<N→y.cell? ⟨gp,j,none⟩=some (.string ⟨(ps.getD j []).toArray⟩)):=fun y v out h j hj=>by
  refine (World.cell?_of_block (a:=⟨gp,j,none⟩) (h.grown.block gp hgs.1 (fun e=> ?_))).trans (hgs.2 j (by omega))
  have:=(hv0 gp e.symm).2
  have:=hb1.size
  omega
 have HMAX:Hid (∀y v out,Segs w.heap.size x4 v0 y v out→MaxVar y):=fun y v out h=>by
  refine zjT HX.out ((h.block (fun b hb=>(hv0 b hb).1) (zkO HX.out) hw4).trans (hO4.block _ (zkO HX.out) ?_))
  rw [yiJ]
  exact zrT HX.out HM.out
 have HEND:Hid (∀y v out,Segs w.heap.size x4 v0 y v out→MB y M left∧Only [M] w y):=fun y v out h=>
  ⟨(h.block (fun b hb=>(hv0 b hb).1) hMw hw4).trans (hm3.below hb4),h.grown.os.trans hO4.os,h.grown.tape.trans hO4.tape,h.grown.output.trans hO4.output,Nat.le_trans hw4 h.grown.size,fun b hb hn=>(h.block (fun b hb=>(hv0 b hb).1) hb hw4).trans (hO4.block b hb hn)⟩
 rw [hN] at hsl
 have HN:=yiF hN
 clear HX HM HCL HU HU1 HSP hp0 hb1 hm3 ho3 hpp hb4 hgB hgs hv0 hO1 hO4 hs13 hp3 hne hN
 go_wp2
 go_loopw [5,18] (fun v i wr=> ∃(k:Nat) (out:List (List UInt8)),k≤N∧i= .int .i64 k∧Hid (Segs w.heap.size x4 v0 wr v out)∧out.length≤from_.length+k∧Hid (goW from_ ps=goW out (ps.drop k))) (fun _ i _=>N - (intOf i).toNat)
 case atStart=>exact ⟨0,from_,Nat.zero_le _,rfl,HS0,yiG _,rfl⟩
 case round=>
  obtain ⟨k,out,hk,rfl,HSG,hol,HS⟩:=hrel
  by_cases hlt:k<N
  ·have hcell:=HROW.out _ _ _ HSG.out k hlt
   obtain ⟨p,hp⟩: ∃p,ps.getD k []=p:=⟨_,rfl⟩
   rw [hp] at hcell
   have HST:=yiF (goW_at (by rw [HN.out];exact hlt) hp HS.out)
   have hpl:p.length≤part.length:=HPL.out p (by
    have hkl:k<ps.length:=by rw [HN.out];exact hlt
    rw [←hp];simp only [List.getD,List.getElem?_eq_getElem hkl,Option.getD_some];exact List.getElem_mem hkl)
   rw [HN.out] at HST
   have hql:=zgR 4 p
   have HEN:=yiF (fun W=>zeZ 4 p W (by decide) (by omega))
   have hp2:=yfQ (encW 4 p)
   have hp1:=yfV (encW 4 p)
   have hple:=pts_le (encW 4 p)
   have hbl:((k:Int)==(N:Int) - 1)=decide (k+1=N):=z8S
   clear hp HS
   generalize encW 4 p=q at*
   have HLO:=yiF (fun W=>zkK ⟨q.toArray⟩ W (by rw [zaE];omega))
   rw [zaH] at HLO
   have HRE:=yiF (fun W (h:MaxVar W)=>zxC (zaF q) W (by rw [zgI];omega) h)
   generalize Lib.replaceAll (zaF q) [37,50,101] [46]=t at*
   go_wp2_with fail
   refine (HEN.out _).mono ?_
   rintro e y1 ⟨rfl,hy1⟩
   have HSG1:=yiF (HSG.out.keep hy1)
   clear HEN hy1 HSG
   go_wp2_with fail
   refine (HLO.out _).mono ?_
   rintro e y2 ⟨rfl,hy2⟩
   have HSG2:=yiF (HSG1.out.keep hy2)
   clear HLO hy2 HSG1
   go_wp2_with fail
   refine (HRE.out _ (HMAX.out _ _ _ HSG2.out)).mono ?_
   rintro e y3 ⟨rfl,hy3⟩
   have HSG3:=yiF (HSG2.out.keep hy3)
   have hsz:w.heap.size≤y3.heap.size:=Nat.le_trans hw4 HSG3.out.grown.size
   have hown:=HSG3.out.own
   unfold zaY at hown
   clear HRE hy3 HSG2 hcell
   rcases (show ptsW q=2∨ptsW q=1∨ptsW q=0 by omega) with h2|h1|h0
   ·obtain rfl:=hp2.1 h2
    have e2:(([46,46]:List UInt8)==[46,46])=true:=rfl
    have HWL:=yiF (zoA w.heap.size _ out y3 HSG3.out.own (by omega))
    by_cases hla:k+1=N
    ·rw [yiH hla] at hbl HST
     rw [z9X h2] at HST
     clear hp2 hp1 h2
     go_wp2_with fail
     refine HWL.out.mono ?_
     rintro e w' ⟨v2,rfl,hpd,hbd,rfl⟩
     have HSG4:=yiF (HSG3.out.drop hpd hbd)
     have hdl:out.dropLast.length≤out.length:=by rw [List.length_dropLast];omega
     unfold zaY at hpd
     go_wp2_with (first|(at_builtin;refine zoG _ rfl _ _ 40 rfl w.heap.size 9 i0 (.string ⟨#[]⟩) 16 Tryz.underlying40 hi hz0 hz1 hz2 rfl _ _ _ rfl hpd (.string ⟨#[]⟩) rfl rfl (by omega) (by omega) hsz ?_;intro v' w1 hown' hgr' hat')|go_in)
     go_roundw
     case rel=>exact ⟨k+1,out.dropLast++[[]],by omega,by go_num,HSG4.out.app hown' hgr' hat',by simp;omega,HST.out⟩
     case measure=>simp [intOf];omega
    ·rw [decide_eq_false hla] at hbl HST
     rw [yeF h2] at HST
     clear hp2 hp1 h2
     go_wp2_with fail
     refine HWL.out.mono ?_
     rintro e w' ⟨v2,rfl,hpd,hbd,rfl⟩
     have HSG4:=yiF (HSG3.out.drop hpd hbd)
     have hdl:out.dropLast.length≤out.length:=by rw [List.length_dropLast];omega
     go_wp2
     go_roundw
     case rel=>exact ⟨k+1,out.dropLast,by omega,by go_num,HSG4.out,by omega,HST.out⟩
     case measure=>simp [intOf];omega
   ·obtain rfl:=hp1.1 h1
    have e1:(([46]:List UInt8)==[46,46])=false:=rfl
    have e2:(([46]:List UInt8)==[46])=true:=rfl
    by_cases hla:k+1=N
    ·rw [yiH hla] at hbl HST
     rw [z8N h1] at HST
     clear hp2 hp1 h1
     go_wp2_with (first|(at_builtin;refine zoG _ rfl _ _ 40 rfl w.heap.size 9 i0 (.string ⟨#[]⟩) 16 Tryz.underlying40 hi hz0 hz1 hz2 rfl _ _ _ rfl hown (.string ⟨#[]⟩) rfl rfl (by omega) (by omega) hsz ?_;intro v' w1 hown' hgr' hat')|go_in)
     go_roundw
     case rel=>exact ⟨k+1,out++[[]],by omega,by go_num,HSG3.out.app hown' hgr' hat',by simp;omega,HST.out⟩
     case measure=>simp [intOf];omega
    ·rw [decide_eq_false hla] at hbl HST
     rw [ydP h1] at HST
     clear hp2 hp1 h1
     go_wp2
     go_roundw
     case rel=>exact ⟨k+1,out,by omega,by go_num,HSG3.out,by omega,HST.out⟩
     case measure=>simp [intOf];omega
   ·have e1:(t==[46,46])=false:=by rw [beq_eq_false_iff_ne];intro g;have:=hp2.2 g;omega
    have e2:(t==[46])=false:=by rw [beq_eq_false_iff_ne];intro g;have:=hp1.2 g;omega
    rw [ygF h0] at HST
    clear hp2 hp1 h0
    go_wp2_with (first|(at_builtin;refine zoG _ rfl _ _ 40 rfl w.heap.size 9 i0 (.string ⟨#[]⟩) 16 Tryz.underlying40 hi hz0 hz1 hz2 rfl _ _ _ rfl hown (.string ⟨q.toArray⟩) rfl rfl (by omega) (by omega) hsz ?_;intro v' w1 hown' hgr' hat')|go_in)
    go_roundw
    case rel=>exact ⟨k+1,out++[q],by omega,by go_num,HSG3.out.app hown' hgr' hat',by simp;omega,HST.out⟩
    case measure=>simp [intOf];omega
  ·have hkN:k=N:=by omega
   have HF:Hid (goW from_ ps=out):=by show _=_;rw [HS.out,List.drop_eq_nil_of_le (by rw [HN.out];omega)];rfl
   clear HS
   go_wp2
   go_ret
   exact ⟨_,rfl,by rw [HPW.out,HF.out];exact HSG.out.own,HEND.out _ _ _ HSG.out⟩
theorem zbK {x:World} {g:Nat} {c0 c1 c2 c3 c4 c5 c6 c7 c8 c9:Value} {t:TypeId} (h:x.heap[g]? =some (.cells #[c0,c1,c2,c3,c4,c5,c6,c7,c8,c9] t (0,0))):x.cell? ⟨g,0,none⟩=some c0∧x.cell? ⟨g,1,none⟩=some c1∧x.cell? ⟨g,2,none⟩=some c2∧x.cell? ⟨g,3,none⟩=some c3∧x.cell? ⟨g,4,none⟩=some c4∧x.cell? ⟨g,5,none⟩=some c5∧x.cell? ⟨g,6,none⟩=some c6∧x.cell? ⟨g,7,none⟩=some c7∧x.cell? ⟨g,8,none⟩=some c8∧x.cell? ⟨g,9,none⟩=some c9∧ ∀i,x.frozen? ⟨g,i,none⟩=false:=by
 refine ⟨?_,?_,?_,?_,?_,?_,?_,?_,?_,?_,zaS h⟩<;>rw [cell_of_row x _ _ _ _ _ h]<;>rfl
theorem zkX {x:World} {g:Nat} {c0 c1 c2 c3 c4 c5 c6 c7 c8 c9:Value} {t:TypeId} (h:x.heap[g]? =some (.cells #[c0,c1,c2,c3,c4,c5,c6,c7,c8,c9] t)) (a0 a1 a2 a3 a4 a5 a6 a7 a8 a9:Value):((((((((((x.setCell ⟨g,0,none⟩ a0).setCell ⟨g,1,none⟩ a1).setCell ⟨g,2,none⟩ a2).setCell ⟨g,3,none⟩ a3).setCell ⟨g,4,none⟩ a4).setCell ⟨g,5,none⟩ a5).setCell ⟨g,6,none⟩ a6).setCell ⟨g,7,none⟩ a7).setCell ⟨g,8,none⟩ a8).setCell ⟨g,9,none⟩ a9).heap[g]? =some (.cells #[a0,a1,a2,a3,a4,a5,a6,a7,a8,a9] t):=by
 have:=zaJ (zaJ (zaJ (zaJ (zaJ (zaJ (zaJ (zaJ (zaJ (zaJ h 0 a0) 1 a1) 2 a2) 3 a3) 4 a4) 5 a5) 6 a6) 7 a7) 8 a8) 9 a9
 simpa using this
theorem zcX {w x:World} {g B:Nat} (h:Below B w x) (hg:B≤g) (a0 a1 a2 a3 a4 a5 a6 a7 a8 a9:Value):Below B w ((((((((((x.setCell ⟨g,0,none⟩ a0).setCell ⟨g,1,none⟩ a1).setCell ⟨g,2,none⟩ a2).setCell ⟨g,3,none⟩ a3).setCell ⟨g,4,none⟩ a4).setCell ⟨g,5,none⟩ a5).setCell ⟨g,6,none⟩ a6).setCell ⟨g,7,none⟩ a7).setCell ⟨g,8,none⟩ a8).setCell ⟨g,9,none⟩ a9):=
 (((((((((h.setCell (p:=⟨g,0,none⟩) hg _).setCell (p:=⟨g,1,none⟩) hg _).setCell (p:=⟨g,2,none⟩) hg _).setCell (p:=⟨g,3,none⟩) hg _).setCell (p:=⟨g,4,none⟩) hg _).setCell (p:=⟨g,5,none⟩) hg _).setCell (p:=⟨g,6,none⟩) hg _).setCell (p:=⟨g,7,none⟩) hg _).setCell (p:=⟨g,8,none⟩) hg _).setCell (p:=⟨g,9,none⟩) hg _
theorem zgU {w x:World} {g:Nat} {F:List Nat} (h:Only F w x) (hg:g∈F∨w.heap.size≤g) (a0 a1 a2 a3 a4 a5 a6 a7 a8 a9:Value):Only F w ((((((((((x.setCell ⟨g,0,none⟩ a0).setCell ⟨g,1,none⟩ a1).setCell ⟨g,2,none⟩ a2).setCell ⟨g,3,none⟩ a3).setCell ⟨g,4,none⟩ a4).setCell ⟨g,5,none⟩ a5).setCell ⟨g,6,none⟩ a6).setCell ⟨g,7,none⟩ a7).setCell ⟨g,8,none⟩ a8).setCell ⟨g,9,none⟩ a9):=
 (((((((((h.setCell (p:=⟨g,0,none⟩) hg _).setCell (p:=⟨g,1,none⟩) hg _).setCell (p:=⟨g,2,none⟩) hg _).setCell (p:=⟨g,3,none⟩) hg _).setCell (p:=⟨g,4,none⟩) hg _).setCell (p:=⟨g,5,none⟩) hg _).setCell (p:=⟨g,6,none⟩) hg _).setCell (p:=⟨g,7,none⟩) hg _).setCell (p:=⟨g,8,none⟩) hg _).setCell (p:=⟨g,9,none⟩) hg _
def zbT:Array Value:= #[.string ⟨#[]⟩,.string ⟨#[]⟩,.string ⟨#[]⟩,.nilIface,.int .i64 0,.slice none 0 0,.string ⟨#[]⟩,.bool false,.string ⟨#[]⟩,.bool false]
theorem ztV:zcG.cells (.slice none 0 0)=zbT:=rfl
def RetURL (w:World) (x:UZ×Int) (pv:Value) (e:Ending) (w':World):Prop:=e= .returned (.tuple #[.agg (x.1.cells pv),.int .i64 x.2])∧Below w.heap.size w w'
theorem who_at (a:List UInt8): ∃(z:Int) (m r:Nat),Lib.lastIndexByte ⟨a.toArray⟩ 64=z∧max z 0=(m:Int)∧z+1=(r:Int)∧ -1≤z∧m≤a.length∧r≤a.length∧zjN a=encW 5 (Lib.cut (a.take m) [58]).1∧ziX a=encW 5 (Lib.cut (a.take m) [58]).2.1∧zcP a=a.drop r:=by
 rcases ydV a with ⟨h1,h2⟩|⟨i,hi,h1,h2⟩
 ·obtain ⟨e1,e2,e3⟩:=z4R a h2
  exact ⟨-1,0,0,h1,by omega,rfl,by omega,Nat.zero_le _,Nat.zero_le _,e1,e2,e3⟩
 ·obtain ⟨e1,e2,e3⟩:=ybX a h2
  exact ⟨i,i,i+1,h1,by omega,by omega,by omega,by omega,by omega,e1,e2,e3⟩
theorem zrJ (l:List UInt8):(Lib.cut l [58]).1.length≤l.length∧(Lib.cut l [58]).2.1.length≤l.length:=by
 rw [zuM]
 simp only [List.length_take,List.length_drop]
 omega
theorem z0V: ∀(l:List UInt8) (i:Bool),(hpW i l).1.length≤l.length∧(hpW i l).2.length≤l.length
 |[],i=>by simp [hpW]
 |c::r,i=>by
  rw [zgN]
  split
  ·simp
  ·have:=z0V r (if c=91 then true else if c=93 then false else i)
   simp only [List.length_cons]
   omega
theorem z7F (l:List UInt8):(if hd1 [58] (l.drop (zbQ zfV false l))=true then (l.drop (zbQ zfV false l)).drop 1 else l.drop (zbQ zfV false l))=(hpW false l).2:=by
 have h1:=(zeY l false).2.1
 have h2:=(zeY l false).2.2
 generalize zbQ zfV false l=n at*
 by_cases hn:n<l.length
 ·rw [zlF,if_pos]
  ·exact h1
  ·rw [List.head?_drop,yiH (h2 hn)]
 ·have e:l.drop n=[]:=List.drop_eq_nil_of_le (by omega)
  rw [e] at h1 ⊢
  exact h1
theorem z5A {l:List UInt8} (h:(zdJ l).2≠0):(zdJ l).1= .none:=zvF h
def RB (w:World) (R:Nat):Prop:= ∃c0 c1 c2 c3 c4 c5 c6 c7 c8 c9,w.heap[R]? =some (.cells #[c0,c1,c2,c3,c4,c5,c6,c7,c8,c9] 42)
theorem RB.below {w w':World} {R:Nat} (h:RB w R) (hb:Below w.heap.size w w'):RB w' R:=by
 obtain ⟨c0,c1,c2,c3,c4,c5,c6,c7,c8,c9,h⟩:=h
 exact ⟨c0,c1,c2,c3,c4,c5,c6,c7,c8,c9,(hb.block R (zaR h)).trans h⟩
theorem RB.lt {w:World} {R:Nat} (h:RB w R):R<w.heap.size:=by
 obtain ⟨c0,c1,c2,c3,c4,c5,c6,c7,c8,c9,h⟩:=h
 exact zaR h
theorem RB.only {w w':World} {R:Nat} {F:List Nat} (h:RB w R) (ho:Only F w w') (hR:R∉F):RB w' R:=by
 obtain ⟨c0,c1,c2,c3,c4,c5,c6,c7,c8,c9,h⟩:=h
 exact ⟨c0,c1,c2,c3,c4,c5,c6,c7,c8,c9,(ho.block R (zaR h) hR).trans h⟩
theorem RB.new (w:World):RB (w.alloc (.cells zbT 42)) w.heap.size:=⟨_,_,_,_,_,_,_,_,_,_,heap_alloc_new w _⟩
theorem UB.who {w:World} {U:Nat} {u:UZ} {pv:Value} (h:UB w U u pv) (a:List UInt8):UB (w.setCell ⟨U,1,none⟩ (.string ⟨a.toArray⟩)) U {u with user:=a} pv:=zaJ h 1 _
theorem UB.pwd {w:World} {U:Nat} {u:UZ} {pv:Value} (h:UB w U u pv) (a:List UInt8):UB (w.setCell ⟨U,2,none⟩ (.string ⟨a.toArray⟩)) U {u with pass:=a} pv:=zaJ h 2 _
theorem UB.pth {w:World} {U:Nat} {u:UZ} {pv:Value} (h:UB w U u pv) (v:Value):UB (w.setCell ⟨U,5,none⟩ v) U u v:=zaJ h 5 _
theorem RB.set {w:World} {R g i:Nat} (h:RB w R) (hne:R≠g) (v:Value):RB (w.setCell ⟨g,i,none⟩ v) R:=by
 obtain ⟨c0,c1,c2,c3,c4,c5,c6,c7,c8,c9,h⟩:=h
 exact ⟨c0,c1,c2,c3,c4,c5,c6,c7,c8,c9,(zdX hne i v).trans h⟩
theorem UB.all {w:World} {U:Nat} {u:UZ} {pv:Value} (h:UB w U u pv):w.cell? ⟨U,0,none⟩=some (.string ⟨u.scheme.toArray⟩)∧w.cell? ⟨U,1,none⟩=some (.string ⟨u.user.toArray⟩)∧w.cell? ⟨U,2,none⟩=some (.string ⟨u.pass.toArray⟩)∧w.cell? ⟨U,3,none⟩=some u.host.val∧w.cell? ⟨U,4,none⟩=some (.int .i64 u.port)∧w.cell? ⟨U,5,none⟩=some pv∧w.cell? ⟨U,6,none⟩=some (.string ⟨u.query.toArray⟩)∧w.cell? ⟨U,7,none⟩=some (.bool u.hasQ)∧w.cell? ⟨U,8,none⟩=some (.string ⟨u.frag.toArray⟩)∧w.cell? ⟨U,9,none⟩=some (.bool u.hasF)∧ ∀i,w.frozen? ⟨U,i,none⟩=false:=zbK h
theorem UB.new (x:World) (u:UZ) (pv:Value):UB (x.alloc (.cells (u.cells pv) 42)) x.heap.size u pv:=heap_alloc_new x _
theorem zbD (x:World) (cs:Array Value):Below x.heap.size x (x.alloc (.cells cs 42)):=(yiI _ x).alloc (yiG _) _
theorem zqZ (a name:List UInt8) (w:World) (hl:a.length≤1000000) (hmax:MaxVar w):
  Calls Tryz.prog 124 #[.string ⟨a.toArray⟩,.string ⟨name.toArray⟩] w (RetURL w (zjK name a) (.slice none 0 0)):=by
 obtain ⟨z,m,r,hz,hzm,hzr,hz1,hm,hr,hu,hp,hb⟩:=who_at a
 have hs1:=znH a m hm
 have hs2: ∀W,(Instr.slice 9 (.string ⟨a.toArray⟩) (some (.int .i64 (z+1))) none none).run Tryz.prog W= .ok (.string ⟨(a.drop r).toArray⟩) W:=by rw [hzr];exact zfG a r hr
 have hzs:(ByteArray.mk a.toArray).size=a.length:=zaE a
 have HLI:Hid (∀W,Calls Tryz.prog 63 #[.string ⟨a.toArray⟩,.int .u8 64] W fun e w'=>e= .returned (.int .i64 z)∧W=w'):=fun W=>(Tryz.strings_LastIndexByte ⟨a.toArray⟩ 64 (by omega) W).mono (fun e w' h=>⟨by rw [h.1,hz],h.2.symm⟩)
 have htl:(a.take m).length≤a.length:=by rw [List.length_take];omega
 have hc1:=(zrJ (a.take m)).1
 have hc2:=(zrJ (a.take m)).2
 have HCU:Hid (∀W,MaxVar W→Calls Tryz.prog 71 #[.string ⟨(a.take m).toArray⟩,.string ⟨#[58]⟩] W fun e w'=>e= .returned (.tuple #[.string ⟨(Lib.cut (a.take m) [58]).1.toArray⟩,.string ⟨(Lib.cut (a.take m) [58]).2.1.toArray⟩,.bool (Lib.cut (a.take m) [58]).2.2])∧Below W.heap.size W w'):=fun W hW=>by
  obtain ⟨mm,hmm⟩:=hW
  exact (Tryz.strings_Cut ⟨(a.take m).toArray⟩ ⟨#[58]⟩ mm W (by rw [zaE];omega) hmm).mono (fun e w' h=>⟨h.1,by obtain ⟨n,rfl⟩:=h.2;exact zbU (yiI _ _) n⟩)
 have HUS:=yiF (fun W=>zeZ 5 (Lib.cut (a.take m) [58]).1 W (by decide) (by omega))
 have HPS:=yiF (fun W=>zeZ 5 (Lib.cut (a.take m) [58]).2.1 W (by decide) (by omega))
 rw [←hu] at HUS
 rw [←hp] at HPS
 generalize Lib.cut (a.take m) [58]=cu at*
 generalize a.take m=ta at*
 have hbl:(a.drop r).length≤a.length:=by rw [List.length_drop];omega
 have HRC:Hid (zjK name a=if (zdJ (hpW false (a.drop r)).1).2≠0 then (zcG,(zdJ (hpW false (a.drop r)).1).2) else if (zfN name (hpW false (a.drop r)).2).2=false then (zcG,8) else ({zcG with scheme:=name,user:=zjN a,pass:=ziX a,host:=(zdJ (hpW false (a.drop r)).1).1,port:=(zfN name (hpW false (a.drop r)).2).1},0)):=by show _=_;rw [←hb];rfl
 have hh1:=(z0V (a.drop r) false).1
 have hh2:=(z0V (a.drop r) false).2
 have HMH:=yiF (fun M W (h:MB W M (a.drop r))=>z0Q M (a.drop r) W h)
 have HSK:=yiF (fun M W (h:MB W M ((a.drop r).drop (zbQ zfV false (a.drop r))))=>zfL M _ [58] W h)
 rw [z7F] at HSK
 generalize (a.drop r).drop (zbQ zfV false (a.drop r))=l1 at*
 generalize hd1 [58] l1=kb at*
 generalize zjN a=us at*
 generalize ziX a=pw at*
 generalize hpW false (a.drop r)=hp2 at*
 generalize a.drop r=bh at*
 have HHP:=yiF (fun W (h:MaxVar W)=>zpA ⟨hp2.1.toArray⟩ W (by rw [zaE];omega) h)
 rw [zaH] at HHP
 have hhe:=z5A (l:=hp2.1)
 have HRP:=yiF (fun W=>zqN name hp2.2 W)
 have HX:=yiF hmax
 obtain ⟨x0,hx0⟩: ∃y,y=w.alloc (.cells zbT 42):=⟨_,rfl⟩
 have HB0:Hid (Below w.heap.size w x0):=by show Below _ _ _;rw [hx0];exact (yiI _ w).alloc (yiG _) _
 have HR0:Hid (RB x0 w.heap.size):=by show RB _ _;rw [hx0];exact RB.new w
 have HX0:=yiF (zaB hmax HB0.out)
 unfold zbT at hx0
 clear hmax hz hb hu hp hzr
 go_enter Tryz.func124,Tryz.ntmps124
 go_wp2_with fail
 rw [←hx0]
 clear hx0
 refine (HLI.out _).mono ?_
 rintro e w' ⟨rfl,rfl⟩
 go_wp2_with fail
 refine (HCU.out _ HX0.out).mono ?_
 rintro e x1 ⟨rfl,hb1⟩
 have HB1:=yiF (zaO HB0.out hb1)
 have HR1:=yiF (HR0.out.below hb1)
 clear hb1 HB0 HR0 HCU HLI HX0
 obtain ⟨x2,hx2⟩: ∃y,y=x1.alloc (.cells #[.string ⟨bh.toArray⟩] 93):=⟨_,rfl⟩
 have hb2:Below x1.heap.size x1 x2:=by rw [hx2];exact (yiI _ _).alloc (yiG _) _
 have HB2:=yiF (zaO HB1.out hb2)
 have HR2:=yiF (HR1.out.below hb2)
 have hM2:MB x2 x1.heap.size bh:=by rw [hx2];exact heap_alloc_new x1 _
 have HMH2:=yiF (HMH.out _ _ hM2)
 have hRM:w.heap.size≠x1.heap.size:=by have:=HR1.out.lt;omega
 have hwM:w.heap.size≤x1.heap.size:=HB1.out.size
 clear hb2 HB1 HR1 HMH hM2
 go_wp2_with fail
 rw [←hx2]
 clear hx2
 refine HMH2.out.mono ?_
 rintro e x3 ⟨rfl,hm3,ho3⟩
 have HB3:=yiF (HB2.out.trans (ho3.below HB2.out.size (fun x hx=>by rw [List.mem_singleton.1 hx];exact hwM)))
 have HR3:=yiF (HR2.out.only ho3 (by simp [hRM]))
 have HM3:=yiF hm3
 clear ho3 hm3 HMH2 HB2 HR2
 go_wp2_with fail
 refine (HHP.out _ (zaB HX.out HB3.out)).mono ?_
 rintro e x4 ⟨rfl,hb4⟩
 have HB4:=yiF (zaO HB3.out hb4)
 have HR4:=yiF (HR3.out.below hb4)
 have HM4:=yiF (HM3.out.below hb4)
 clear HB3 HR3 HM3 hb4 HHP HX
 have hok:=zkI (l:=hp2.1)
 generalize zdJ hp2.1=hz at*
 obtain ⟨h,he⟩:=hz
 simp only at hhe hok HRC ⊢
 by_cases h0:he=0
 ·obtain ⟨it,iv,hiv⟩:=HZ.iface (hok h0).ne
  rw [hiv]
  have HIV:=yiF hiv
  clear hiv hok
  have HRC2:=yiF (HRC.out.trans (if_neg (fun g=>g h0)))
  have hd0:(he !=(0:Int))=false:=by rw [h0];rfl
  clear hhe HRC h0
  have HSK4:=yiF (HSK.out _ _ HM4.out)
  go_wp2_with fail
  refine HSK4.out.mono ?_
  rintro e x5 ⟨rfl,hm5,ho5⟩
  have HB5:=yiF (HB4.out.trans (ho5.below HB4.out.size (fun x hx=>by rw [List.mem_singleton.1 hx];exact hwM)))
  have HR5:=yiF (HR4.out.only ho5 (by simp [hRM]))
  have c5:=hm5.cell
  clear ho5 hm5 HB4 HR4 HM4 HSK HSK4
  go_wp2_with fail
  refine (HRP.out _).mono ?_
  rintro e x6 ⟨rfl,hb6⟩
  have HB6:=yiF (zaO HB5.out hb6)
  have HR6:=yiF (HR5.out.below hb6)
  clear HB5 HR5 hb6 HRP c5
  generalize zfN name hp2.2=po at*
  obtain ⟨pn,pb⟩:=po
  simp only at HRC2 ⊢
  cases pb with
  |false=>
   have HRC3:=yiF (HRC2.out.trans (if_pos rfl))
   obtain ⟨c0,c1,c2,c3,c4,c5,c6,c7,c8,c9,hrow⟩:=HR6.out
   have HRW:=yiF hrow
   obtain ⟨k0,k1,k2,k3,k4,k5,k6,k7,k8,k9,kf⟩:=zbK hrow
   clear hrow HR6 HRC2 HUS HPS
   have HEND:=yiF (zkX HRW.out (.string ⟨#[]⟩) (.string ⟨#[]⟩) (.string ⟨#[]⟩) .nilIface (.int .i64 0) (.slice none 0 0) (.string ⟨#[]⟩) (.bool false) (.string ⟨#[]⟩) (.bool false))
   have HEB:=yiF (zcX HB6.out (yiG _) (.string ⟨#[]⟩) (.string ⟨#[]⟩) (.string ⟨#[]⟩) .nilIface (.int .i64 0) (.slice none 0 0) (.string ⟨#[]⟩) (.bool false) (.string ⟨#[]⟩) (.bool false))
   go_wp2
   obtain ⟨e0,e1,e2,e3,e4,e5,e6,e7,e8,e9,-⟩:=zbK HEND.out
   refine bodyPost_ret (v:= .tuple #[.agg zbT,.int .i64 8]) (by simp [results,Tryz.results124,go_sem,e0,e1,e2,e3,e4,e5,e6,e7,e8,e9,zbT]) rfl ?_
   rw [HRC3.out]
   exact ⟨rfl,HEB.out⟩
  |true=>
   have HRC3:=yiF (HRC2.out.trans (if_neg (by decide)))
   clear HRC2
   obtain ⟨x7,hx7⟩: ∃y,y=x6.alloc (.cells #[.string ⟨name.toArray⟩,.string ⟨#[]⟩,.string ⟨#[]⟩,(.iface it iv),.int .i64 pn,.slice none 0 0,.string ⟨#[]⟩,.bool false,.string ⟨#[]⟩,.bool false] 42):=⟨_,rfl⟩
   have hU7:UB x7 x6.heap.size {zcG with scheme:=name,host:=h,port:=pn} (.slice none 0 0):=by rw [hx7,←HIV.out];exact heap_alloc_new x6 _
   have hb7:Below x6.heap.size x6 x7:=by rw [hx7];exact zbD x6 _
   have HB7:=yiF (zaO HB6.out hb7)
   have HR7:=yiF (HR6.out.below hb7)
   have HU7:=yiF hU7
   have hgw:w.heap.size≤x6.heap.size:=HB6.out.size
   have hgR:w.heap.size≠x6.heap.size:=by have:=HR6.out.lt;omega
   clear HB6 HR6 hb7 hU7
   go_wp2_with fail
   rw [←hx7]
   clear hx7
   generalize x6.heap.size=g at*
   refine (HUS.out _).mono ?_
   rintro e x8 ⟨rfl,hb8⟩
   have HB8:=yiF (zaO HB7.out hb8)
   have HR8:=yiF (HR7.out.below hb8)
   have HU8:=yiF (HU7.out.below hb8)
   obtain ⟨-,c1,-,-,-,-,-,-,-,-,f8⟩:=HU8.out.all
   have f81:=f8 1
   have HB9:=yiF (HB8.out.setCell (p:=⟨g,1,none⟩) hgw (.string ⟨us.toArray⟩))
   have HR9:=yiF (HR8.out.set (i:=1) hgR (.string ⟨us.toArray⟩))
   have HU9:=yiF (HU8.out.who us)
   clear hb8 HB7 HR7 HU7 HB8 HR8 HU8 HUS f8
   go_wp2_with fail
   clear c1 f81
   generalize x8.setCell ⟨g,1,none⟩ (.string ⟨us.toArray⟩)=x9 at*
   refine (HPS.out _).mono ?_
   rintro e y8 ⟨rfl,hb8⟩
   have HB8:=yiF (zaO HB9.out hb8)
   have HR8:=yiF (HR9.out.below hb8)
   have HU8:=yiF (HU9.out.below hb8)
   obtain ⟨-,-,c2,-,-,-,-,-,-,-,f8⟩:=HU8.out.all
   have f82:=f8 2
   have HBA:=yiF (HB8.out.setCell (p:=⟨g,2,none⟩) hgw (.string ⟨pw.toArray⟩))
   have HRA:=HR8.out.set (i:=2) hgR (.string ⟨pw.toArray⟩)
   have HUA:=HU8.out.pwd pw
   have HUL:(y8.setCell ⟨g,2,none⟩ (.string ⟨pw.toArray⟩)).heap[g]? =some (.cells #[.string ⟨name.toArray⟩,.string ⟨us.toArray⟩,.string ⟨pw.toArray⟩,(.iface it iv),.int .i64 pn,.slice none 0 0,.string ⟨#[]⟩,.bool false,.string ⟨#[]⟩,.bool false] 42):=by rw [←HIV.out];exact HUA
   obtain ⟨d0,d1,d2,d3,d4,d5,d6,d7,d8,d9,-⟩:=zbK HUL
   obtain ⟨c0,c1,c2',c3,c4,c5,c6,c7,c8,c9,hrow⟩:=HRA
   have HRW:=yiF hrow
   obtain ⟨k0,k1,k2,k3,k4,k5,k6,k7,k8,k9,kf⟩:=zbK hrow
   clear hrow hb8 HB9 HR9 HU9 HB8 HR8 HU8 HPS f8 HUA HUL
   have HEND:=yiF (zkX HRW.out (.string ⟨name.toArray⟩) (.string ⟨us.toArray⟩) (.string ⟨pw.toArray⟩) (.iface it iv) (.int .i64 pn) (.slice none 0 0) (.string ⟨#[]⟩) (.bool false) (.string ⟨#[]⟩) (.bool false))
   have HEB:=yiF (zcX HBA.out (yiG _) (.string ⟨name.toArray⟩) (.string ⟨us.toArray⟩) (.string ⟨pw.toArray⟩) (.iface it iv) (.int .i64 pn) (.slice none 0 0) (.string ⟨#[]⟩) (.bool false) (.string ⟨#[]⟩) (.bool false))
   go_wp2
   obtain ⟨e0,e1,e2,e3,e4,e5,e6,e7,e8,e9,-⟩:=zbK HEND.out
   refine bodyPost_ret (v:= .tuple #[.agg #[.string ⟨name.toArray⟩,.string ⟨us.toArray⟩,.string ⟨pw.toArray⟩,(.iface it iv),.int .i64 pn,.slice none 0 0,.string ⟨#[]⟩,.bool false,.string ⟨#[]⟩,.bool false],.int .i64 0]) (by simp [results,Tryz.results124,go_sem,e0,e1,e2,e3,e4,e5,e6,e7,e8,e9]) rfl ?_
   rw [HRC3.out]
   exact ⟨by rw [←HIV.out];rfl,HEB.out⟩
 ·have HRC2:=yiF (HRC.out.trans (if_pos h0))
  have hd0:(he !=(0:Int))=true:=by rw [bne_iff_ne];exact h0
  obtain rfl:h= .none:=hhe h0
  obtain ⟨c0,c1,c2,c3,c4,c5,c6,c7,c8,c9,hrow⟩:=HR4.out
  have HRW:=yiF hrow
  obtain ⟨k0,k1,k2,k3,k4,k5,k6,k7,k8,k9,kf⟩:=zbK hrow
  clear hrow HR4 HRC HUS HPS hhe h0 hok
  have HEND:=yiF (zkX HRW.out (.string ⟨#[]⟩) (.string ⟨#[]⟩) (.string ⟨#[]⟩) .nilIface (.int .i64 0) (.slice none 0 0) (.string ⟨#[]⟩) (.bool false) (.string ⟨#[]⟩) (.bool false))
  have HEB:=yiF (zcX HB4.out (yiG _) (.string ⟨#[]⟩) (.string ⟨#[]⟩) (.string ⟨#[]⟩) .nilIface (.int .i64 0) (.slice none 0 0) (.string ⟨#[]⟩) (.bool false) (.string ⟨#[]⟩) (.bool false))
  go_wp2
  obtain ⟨e0,e1,e2,e3,e4,e5,e6,e7,e8,e9,-⟩:=zbK HEND.out
  refine bodyPost_ret (v:= .tuple #[.agg zbT,.int .i64 he]) (by simp [results,Tryz.results124,go_sem,e0,e1,e2,e3,e4,e5,e6,e7,e8,e9,zbT]) rfl ?_
  rw [HRC2.out]
  exact ⟨rfl,HEB.out⟩
theorem ycK (l:List UInt8):(if hd1 [47,92] l=true then l.drop 1 else l)=offW l:=by
 match l with
 |[]=>rfl
 |c::r=>
  have e:hd1 [47,92] (c::r)=zcI c:=by
   have b: ∀d:UInt8,(d==c)=(c==d):=fun d=>by rw [Bool.eq_iff_iff,beq_iff_eq,beq_iff_eq];exact eq_comm
   have h47:=b 47
   have h92:=b 92
   show hasB [47,92] c=zcI c
   simp only [hasB,List.any_cons,List.any_nil,Bool.or_false,h47,h92,zcI]
  rw [e]
  rfl
theorem z0H (l:List UInt8):l.drop (l.findIdx (hasB [63,35]))=[]∨(l.drop (l.findIdx (hasB [63,35]))).head? =some 63∨(l.drop (l.findIdx (hasB [63,35]))).head? =some 35:=by
 by_cases h:l.findIdx (hasB [63,35])<l.length
 ·have h1:=List.findIdx_getElem (w:=h)
  rw [zrO,dif_pos h]
  have h2:l[l.findIdx (hasB [63,35])]=63∨l[l.findIdx (hasB [63,35])]=35:=by
   have:=h1
   simp only [hasB,List.any_cons,List.any_nil,Bool.or_false,Bool.or_eq_true,beq_iff_eq] at this
   rcases this with g|g
   ·exact .inl g.symm
   ·exact .inr g.symm
  rcases h2 with g|g
  ·exact .inr (.inl (by rw [g]))
  ·exact .inr (.inr (by rw [g]))
 ·exact .inl (List.drop_eq_nil_of_le (by omega))
theorem zzJ (u:UZ) (from_:List (List UInt8)) (l:List UInt8):zeA u from_ l=finC {u with path:=zmN from_ (l.take (l.findIdx (hasB [63,35])))} (l.drop (l.findIdx (hasB [63,35]))):=by
 unfold zeA
 exact (yaV _ (z0H l)).symm
theorem z1N (u:UZ) (l:List UInt8):(finC u l).path=u.path:=by
 unfold finC;repeat' split
 all_goals rfl
theorem zaY.only {B:Nat} {F:List Nat} {w w':World} {v:Value} {ps:List (List UInt8)} (h:zaY B w v ps) (ho:Only F w w') (hF: ∀b∈F,b<B):zaY B w' v ps:=
 znM h (fun b hb=>ho.block b (World.ownsRow.lt h b hb).2 (fun g=>by have:=hF b g;have:=(World.ownsRow.lt h b hb).1;omega))
def RetUP (w:World) (M:Nat) (x:UZ×Int) (e:Ending) (w':World):Prop:= ∃pv,e= .returned (.tuple #[.agg (x.1.cells pv),.int .i64 x.2])∧zaY w.heap.size w' pv x.1.path∧Only [M] w w'
theorem z6J {w x y:World} {M G:Nat} (hb:Only [M] w x) (hG:w.heap.size≤G) (h:Only [M,G] x y):Only [M] w y:=
 hb.trans h (fun z hz=>by
  rcases List.mem_cons.1 hz with e|e
  ·exact .inl (by rw [e];exact yiK ..)
  ·rw [yiJ] at e;exact .inr (by omega))
theorem z0X (u:UZ) (l:List UInt8):(finC u l).host=u.host:=by
 unfold finC;repeat' split
 all_goals rfl
theorem zyN {name a:List UInt8} (h:(zjK name a).2=0):(zjK name a).1.host≠ .none:=by
 unfold zjK at*
 split at h
 ·rename_i h1;exact absurd h h1
 ·rename_i h1
  rw [if_neg h1]
  split at h
  ·cases h
  ·rename_i h2
   rw [if_neg h2]
   exact (zkI (Decidable.not_not.1 h1)).ne
theorem PV.shape {w:World} {v:Value} {ps:List (List UInt8)} (h:PV w v ps): ∃a n c,v= .slice a n c:=by
 rcases h with ⟨_,h⟩|⟨g,c,h,_⟩
 ·exact ⟨_,_,_,h⟩
 ·exact ⟨_,_,_,h⟩
theorem z0R {name a:List UInt8} (h:(zjK name a).2≠0):(zjK name a).1=zcG:=by
 unfold zjK at*
 split
 ·rfl
 ·rename_i h1
  rw [if_neg h1] at h
  split
  ·rfl
  ·rename_i h2
   rw [if_neg h2] at h
   exact absurd rfl h
theorem yfL (l:List UInt8):(offW l).length≤l.length:=by
 match l with
 |[]=>exact yiG _
 |c::r=>
  show (if zcI c=true then r else c::r).length≤(c::r).length
  split<;>simp
theorem zsC (M:Nat) (l name:List UInt8) (w:World) (hl:l.length≤100000) (hm:MB w M l) (hmax:MaxVar w) (hn:ownZ name=80∨ownZ name=443):
  Calls Tryz.prog 92 #[.pointer (some ⟨M,0,none⟩),.string ⟨name.toArray⟩] w (RetUP w M (zeB name l)):=by
 have HRES:=yiF (zwU name l hn)
 have HU1:=yiF (fun W (h:MB W M l)=>zfZ [47,92,63,35] (by decide) M l W h)
 have hal:(l.take (l.findIdx (hasB [47,92,63,35]))).length≤l.length:=by rw [List.length_take];omega
 have hrl:(l.drop (l.findIdx (hasB [47,92,63,35]))).length≤l.length:=by rw [List.length_drop];omega
 generalize l.take (l.findIdx (hasB [47,92,63,35]))=a at*
 generalize l.drop (l.findIdx (hasB [47,92,63,35]))=rest at*
 have HRA:=yiF (fun W (h:MaxVar W)=>zqZ a name W (by omega) h)
 have hRe:=z0R (name:=name) (a:=a)
 have hRh:=zyN (name:=name) (a:=a)
 generalize zjK name a=rc at*
 obtain ⟨u,er⟩:=rc
 simp only at HRES hRe hRh
 have HSK:=yiF (fun W (h:MB W M rest)=>zfL M rest [47,92] W h)
 rw [ycK] at HSK
 have hol:=yfL rest
 have HWF:=yiF (zzJ u [] (offW rest))
 generalize hd1 [47,92] rest=kb at*
 generalize offW rest=t at*
 have HPA:=yiF (fun W (h:MB W M t) (hx:MaxVar W)=>ycD M t (.slice none 0 0) [] W (by omega) (by simp) h (.inl ⟨rfl,rfl⟩) hx)
 have hll:(t.drop (t.findIdx (hasB [63,35]))).length≤t.length:=by rw [List.length_drop];omega
 generalize zmN [] (t.take (t.findIdx (hasB [63,35])))=ps at*
 generalize t.drop (t.findIdx (hasB [63,35]))=left at*
 have HX:=yiF hmax
 have HM:=yiF hm
 have hMw:=zaR hm
 obtain ⟨x0,hx0⟩: ∃y,y=w.alloc (.cells zbT 42):=⟨_,rfl⟩
 have hb0:Below w.heap.size w x0:=by rw [hx0];exact zbD w _
 have HR0:Hid (RB x0 w.heap.size):=by show RB _ _;rw [hx0];exact RB.new w
 have hM0:MB x0 M l:=hm.below hb0
 have HU:=yiF (HU1.out x0 hM0)
 have HO0:Hid (Only [M] w x0):=Only.of_below hb0
 unfold zbT at hx0
 clear hmax hm hn hb0 hM0 HU1
 go_enter Tryz.func92,Tryz.ntmps92
 go_wp2_with fail
 rw [←hx0]
 clear hx0
 refine (zmB [47,92,63,35] _).mono ?_
 rintro e x1 ⟨rfl,rfl⟩
 go_wp2_with fail
 refine HU.out.mono ?_
 rintro e x2 ⟨rfl,hm2,ho2⟩
 have hRM:w.heap.size≠M:=by omega
 have HR2:=yiF (HR0.out.only ho2 (by simp [hRM]))
 have HO2:=yiF (HO0.out.trans ho2 (fun x hx=> .inl hx))
 have HM2:=yiF hm2
 have HX2:=yiF (zlL HX.out HM.out HO2.out)
 clear HU HR0 HO0 ho2 hm2
 go_wp2_with fail
 refine (HRA.out _ HX2.out).mono ?_
 rintro e x3 ⟨rfl,hb3⟩
 have HR3:=yiF (HR2.out.below hb3)
 have HO3:=yiF (HO2.out.then_below hb3)
 have HM3:=yiF (HM2.out.below hb3)
 clear HRA HR2 HO2 HM2 HX2 hb3
 have hw3:w.heap.size≤x3.heap.size:=HO3.out.size
 have hRg:w.heap.size≠x3.heap.size:=by have:=HR3.out.lt;omega
 have hMg:x3.heap.size≠M:=by have:=zaR HM3.out;omega
 by_cases h0:er=0
 ·have hd0:(er !=(0:Int))=false:=by rw [h0];rfl
  have HRES2:=yiF (HRES.out.trans (if_neg (fun k=>k h0)))
  obtain ⟨it,iv,hiv⟩:=HZ.iface (hRh h0)
  clear hRe hRh HRES h0
  obtain ⟨x4,hx4⟩: ∃y,y=x3.alloc (.cells (u.cells (.slice none 0 0)) 42):=⟨_,rfl⟩
  have HU4:Hid (UB x4 x3.heap.size u (.slice none 0 0)):=by show UB _ _ _ _;rw [hx4];exact UB.new x3 u _
  have hb4:Below x3.heap.size x3 x4:=by rw [hx4];exact zbD x3 _
  have HR4:=yiF (HR3.out.below hb4)
  have HO4:=yiF (HO3.out.then_below hb4)
  have HM4:=yiF (HM3.out.below hb4)
  have hg4:x3.heap.size<x4.heap.size:=by have:=zaR HU4.out;exact this
  clear HR3 HO3 HM3 hb4
  simp only [UZ.cells] at hx4 ⊢
  rw [hiv] at hx4 ⊢
  have HIV:=yiF hiv
  clear hiv
  have HS4:=yiF (HSK.out _ HM4.out)
  go_wp2_with fail
  rw [←hx4]
  clear hx4
  generalize x3.heap.size=g at*
  refine HS4.out.mono ?_
  rintro e x5 ⟨rfl,hm5,ho5⟩
  have HR5:=yiF (HR4.out.only ho5 (by simp [hRM]))
  have HU5:=yiF (HU4.out.only ho5 (by simp [hMg]))
  have HO5:=yiF (HO4.out.trans ho5 (fun x hx=> .inl hx))
  have HP5:=yiF (HPA.out _ hm5 (zlL HX.out HM.out HO5.out))
  have hg5:g<x5.heap.size:=zaR HU5.out
  clear HS4 HSK HPA HR4 HU4 HO4 HM4 hm5 ho5
  go_wp2_with fail
  refine HP5.out.mono ?_
  rintro e x6 ⟨pv,rfl,hp6,hm6,ho6⟩
  obtain ⟨sa,sn,sc,rfl⟩:=hp6.pv.shape
  have HR6:=yiF (HR5.out.only ho6 (by simp [hRM]))
  have HU6:=yiF (HU5.out.only ho6 (by simp [hMg]))
  have HO6:=yiF (HO5.out.trans ho6 (fun x hx=> .inl hx))
  have HP6:=yiF hp6
  have HM6:=yiF hm6
  clear HP5 HR5 HU5 HO5 hp6 hm6 ho6
  obtain ⟨-,-,-,-,-,c5,-,-,-,-,f6⟩:=HU6.out.all
  have f65:=f6 5
  have hset:Only [g] x6 (x6.setCell ⟨g,5,none⟩ (.slice sa sn sc)):=(Only.refl _ _).setCell (p:=⟨g,5,none⟩) (.inl (yiK ..)) _
  have HR7:=yiF (HR6.out.set (i:=5) hRg (.slice sa sn sc))
  have HU7:Hid (UB (x6.setCell ⟨g,5,none⟩ (.slice sa sn sc)) g {u with path:=ps} (.slice sa sn sc)):=HU6.out.pth (.slice sa sn sc)
  have HM7:Hid (MB (x6.setCell ⟨g,5,none⟩ (.slice sa sn sc)) M left):=HM6.out.only hset (by simp [Ne.symm hMg])
  have HO7:Hid (Only [M] w (x6.setCell ⟨g,5,none⟩ (.slice sa sn sc))):=HO6.out.setCell (p:=⟨g,5,none⟩) (.inr hw3) _
  have HP7:=yiF (HP6.out.only hset (fun b hb=>by rw [List.mem_singleton.1 hb];exact hg5))
  have HF7:=yiF (zwX M g left {u with path:=ps} (.slice sa sn sc) _ (by omega) HM7.out HU7.out)
  clear HR6 HU6 HO6 HP6 HM6 hset f6
  go_wp2_with fail
  clear c5 f65
  generalize x6.setCell ⟨g,5,none⟩ (.slice sa sn sc)=x7 at*
  refine HF7.out.mono ?_
  rintro e x8 ⟨rfl,hu8,ho8⟩
  have HR8:=HR7.out.only ho8 (by simp [hRM,hRg])
  have HO8:=yiF (z6J HO7.out hw3 ho8)
  have HP8:=yiF (HP7.out.only ho8 (fun b hb=>by
   rcases List.mem_cons.1 hb with e|e
   ·rw [e];omega
   ·rw [yiJ] at e;omega))
  have HVH:Hid ((finC {u with path:=ps} left).host.val= .iface it iv):=by show _=_;rw [z0X];exact HIV.out
  have HFP:Hid ((finC {u with path:=ps} left).path=ps):=z1N _ _
  have HWF2:Hid (zeA u [] t=finC {u with path:=ps} left):=HWF.out
  rw [HWF2.out] at HRES2
  clear HWF HWF2 HF7 HR7 HU7 HO7 HP7 HM7 ho8
  generalize finC {u with path:=ps} left=v at*
  obtain ⟨d0,d1,d2,d3,d4,d5,d6,d7,d8,d9,-⟩:=hu8.all
  rw [HVH.out] at d3
  obtain ⟨c0,c1,c2,c3,c4,c5,c6,c7,c8,c9,hrow⟩:=HR8
  have HRW:=yiF hrow
  obtain ⟨k0,k1,k2,k3,k4,k5,k6,k7,k8,k9,kf⟩:=zbK hrow
  clear hrow hu8
  have HEND:=yiF (zkX HRW.out (.string ⟨v.scheme.toArray⟩) (.string ⟨v.user.toArray⟩) (.string ⟨v.pass.toArray⟩) (.iface it iv) (.int .i64 v.port) (.slice sa sn sc) (.string ⟨v.query.toArray⟩) (.bool v.hasQ) (.string ⟨v.frag.toArray⟩) (.bool v.hasF))
  have HEO:=yiF (zgU (g:=w.heap.size) HO8.out (.inr (yiG _)) (.string ⟨v.scheme.toArray⟩) (.string ⟨v.user.toArray⟩) (.string ⟨v.pass.toArray⟩) (.iface it iv) (.int .i64 v.port) (.slice sa sn sc) (.string ⟨v.query.toArray⟩) (.bool v.hasQ) (.string ⟨v.frag.toArray⟩) (.bool v.hasF))
  have HEP:=yiF (HP8.out.only (zgU (g:=w.heap.size) (F:=[w.heap.size]) (Only.refl _ _) (.inl (yiK ..)) (.string ⟨v.scheme.toArray⟩) (.string ⟨v.user.toArray⟩) (.string ⟨v.pass.toArray⟩) (.iface it iv) (.int .i64 v.port) (.slice sa sn sc) (.string ⟨v.query.toArray⟩) (.bool v.hasQ) (.string ⟨v.frag.toArray⟩) (.bool v.hasF)) (fun b hb=>by rw [List.mem_singleton.1 hb];omega))
  go_wp2
  obtain ⟨e0,e1,e2,e3,e4,e5,e6,e7,e8,e9,-⟩:=zbK HEND.out
  refine bodyPost_ret (v:= .tuple #[.agg #[.string ⟨v.scheme.toArray⟩,.string ⟨v.user.toArray⟩,.string ⟨v.pass.toArray⟩,.iface it iv,.int .i64 v.port,(.slice sa sn sc),.string ⟨v.query.toArray⟩,.bool v.hasQ,.string ⟨v.frag.toArray⟩,.bool v.hasF],.int .i64 0]) (by simp [results,Tryz.results92,go_sem,e0,e1,e2,e3,e4,e5,e6,e7,e8,e9]) rfl ?_
  rw [HRES2.out]
  exact ⟨(.slice sa sn sc),by rw [←HVH.out];rfl,by rw [show (v,(0:Int)).1.path=ps from HFP.out];exact znY HEP.out (by omega),HEO.out⟩
 ·have hd0:(er !=(0:Int))=true:=by rw [bne_iff_ne];exact h0
  have HRES2:=yiF (HRES.out.trans (if_pos h0))
  obtain rfl:=hRe h0
  obtain ⟨x4,hx4⟩: ∃y,y=x3.alloc (.cells zbT 42):=⟨_,rfl⟩
  have hb4:Below x3.heap.size x3 x4:=by rw [hx4];exact zbD x3 _
  have HR4:=yiF (HR3.out.below hb4)
  have HO4:=yiF (HO3.out.then_below hb4)
  rw [ztV]
  unfold zbT at hx4 ⊢
  clear HR3 HO3 HM3 hb4 hRh
  obtain ⟨c0,c1,c2,c3,c4,c5,c6,c7,c8,c9,hrow⟩:=HR4.out
  have HRW:=yiF hrow
  obtain ⟨k0,k1,k2,k3,k4,k5,k6,k7,k8,k9,kf⟩:=zbK hrow
  clear hrow hRe h0 HR4
  have HEND:=yiF (zkX HRW.out (.string ⟨#[]⟩) (.string ⟨#[]⟩) (.string ⟨#[]⟩) .nilIface (.int .i64 0) (.slice none 0 0) (.string ⟨#[]⟩) (.bool false) (.string ⟨#[]⟩) (.bool false))
  have HEO:=yiF (zgU (g:=w.heap.size) HO4.out (.inr (yiG _)) (.string ⟨#[]⟩) (.string ⟨#[]⟩) (.string ⟨#[]⟩) .nilIface (.int .i64 0) (.slice none 0 0) (.string ⟨#[]⟩) (.bool false) (.string ⟨#[]⟩) (.bool false))
  rw [hx4] at k0 k1 k2 k3 k4 k5 k6 k7 k8 k9 kf HEND HEO
  clear hx4
  go_wp2
  obtain ⟨e0,e1,e2,e3,e4,e5,e6,e7,e8,e9,-⟩:=zbK HEND.out
  refine bodyPost_ret (v:= .tuple #[.agg zbT,.int .i64 er]) (by simp [results,Tryz.results92,go_sem,e0,e1,e2,e3,e4,e5,e6,e7,e8,e9,zbT]) rfl ?_
  rw [HRES2.out]
  exact ⟨.slice none 0 0,rfl,zaY.nil _ _,HEO.out⟩
def RetP (w:World) (x:UZ×Int) (e:Ending) (w':World):Prop:= ∃pv,e= .returned (.tuple #[.agg (x.1.cells pv),.int .i64 x.2])∧zaY w.heap.size w' pv x.1.path∧Below w.heap.size w w'
theorem HZ.shape (h:HZ):h.val= .nilIface∨ ∃t v,h.val= .iface t v:=by
 cases h with
 |none=>exact .inl rfl
 |name l=>exact .inr ⟨_,_,rfl⟩
 |addr a=>cases a<;>exact .inr ⟨_,_,rfl⟩
theorem own_80 {n:List UInt8} (h:ownZ n≠0):ownZ n=80∨ownZ n=443:=by
 unfold ownZ at*
 split at h
 ·exact .inl (by rename_i g;rw [if_pos g])
 ·rename_i g
  rw [if_neg g] at*
  split at h
  ·rename_i g2;exact .inr (by rw [if_pos g2])
  ·exact absurd rfl h
theorem zxV {t:List UInt8} {b:Option UZ} (hb: ∀u,b=some u→u.scheme=ziW∨u.scheme=zeG) (h: ¬4096<t.length):zaZ t b=z6V (zgZ (zgP t)) b:=by
 unfold zaZ
 rw [if_neg h,z3G _ b hb]
theorem zyS {t:List UInt8} {b:Option UZ} (h:4096<t.length):zaZ t b=(zcG,3):=if_pos h
theorem zpD (t:List UInt8):(zgZ (zgP t)).length≤t.length:=by
 have h1:=z9I (zgP t)
 have h2:=zwD t
 have h3:=(List.dropWhile_suffix (l:=t) zcE).length_le
 omega
theorem zvI {s:List UInt8} {b:Option UZ} (h:ownZ (zhN s b)=0):z6V s b=(zcG,5):=if_pos h
theorem yaK {s:List UInt8} (h: ¬ownZ (zhN s none)=0):z6V s none=zeB (zhN s none) (zhR (zlU s)):=if_neg h
theorem z7B {s n r:List UInt8} {b:Option UZ} (h:schW s=some (n,r)):zhN s b=n∧zlU s=r:=by
 unfold zhN zlU;rw [h];exact ⟨rfl,rfl⟩
theorem z1J {s:List UInt8} {b:UZ} (h:schW s=none):zhN s (some b)=b.scheme∧zhN s none=[]∧zlU s=s:=by
 unfold zhN zlU;rw [h];exact ⟨rfl,rfl,rfl⟩
theorem zwS (l:List UInt8):(zhR l).length≤l.length:=(List.dropWhile_suffix (l:=l) zcI).length_le
theorem z5P {s n r:List UInt8} (h:schW s=some (n,r)):r.length≤s.length:=by
 rw [zqJ] at h
 split at h
 ·have:=(Prod.mk.inj (Option.some.inj h)).2
  rw [←this,List.length_drop];omega
 ·cases h
theorem ziG {w x:World} {pv:Value} {u:UZ} {B:Nat} (hb:Below w.heap.size w x) (hp:zaY B x pv u.path) (hB:w.heap.size<B) (c0 c1 c2 c3 c4 c5 c6 c7 c8 c9:Value):
  zaY w.heap.size ((((((((((x.setCell ⟨w.heap.size,0,none⟩ c0).setCell ⟨w.heap.size,1,none⟩ c1).setCell ⟨w.heap.size,2,none⟩ c2).setCell ⟨w.heap.size,3,none⟩ c3).setCell ⟨w.heap.size,4,none⟩ c4).setCell ⟨w.heap.size,5,none⟩ c5).setCell ⟨w.heap.size,6,none⟩ c6).setCell ⟨w.heap.size,7,none⟩ c7).setCell ⟨w.heap.size,8,none⟩ c8).setCell ⟨w.heap.size,9,none⟩ c9) pv u.path∧
  Below w.heap.size w ((((((((((x.setCell ⟨w.heap.size,0,none⟩ c0).setCell ⟨w.heap.size,1,none⟩ c1).setCell ⟨w.heap.size,2,none⟩ c2).setCell ⟨w.heap.size,3,none⟩ c3).setCell ⟨w.heap.size,4,none⟩ c4).setCell ⟨w.heap.size,5,none⟩ c5).setCell ⟨w.heap.size,6,none⟩ c6).setCell ⟨w.heap.size,7,none⟩ c7).setCell ⟨w.heap.size,8,none⟩ c8).setCell ⟨w.heap.size,9,none⟩ c9):=
 ⟨znY (hp.only (zgU (g:=w.heap.size) (F:=[w.heap.size]) (Only.refl _ _) (.inl (yiK ..)) _ _ _ _ _ _ _ _ _ _) (fun b hb=>by rw [List.mem_singleton.1 hb];exact hB)) (Nat.le_of_lt hB),zcX hb (yiG _) _ _ _ _ _ _ _ _ _ _⟩
theorem zsU (t:List UInt8) (w:World) (hmax:MaxVar w):
  Calls Tryz.prog 54 #[.string ⟨t.toArray⟩,.pointer none] w (RetP w (zaZ t none)):=by
 obtain ⟨x0,hx0⟩: ∃y,y=w.alloc (.cells zbT 42):=⟨_,rfl⟩
 have hb0:Below w.heap.size w x0:=by rw [hx0];exact zbD w _
 have HR0:Hid (RB x0 w.heap.size):=by show RB _ _;rw [hx0];exact RB.new w
 have hz:=zaE t
 unfold zbT at hx0
 have HX:=yiF (fun x (h:Below w.heap.size w x)=>zaB hmax h)
 by_cases hbig:4096<t.length
 ·have HF:=yiF (zyS (b:=none) hbig)
  have hd:decide (4096<(t.length:Int))=true:=yiH (by omega)
  have hbb:Below w.heap.size w (w.alloc (.cells zbT 42)):=zbD w _
  unfold zbT at hbb
  clear HR0 hb0 hx0 HX
  go_enter Tryz.func54,Tryz.ntmps54
  go_wp2
  refine bodyPost_ret (v:= .tuple #[.agg zbT,.int .i64 3]) (by simp [results,Tryz.results54,go_sem,zbT]) rfl ?_
  rw [HF.out]
  exact ⟨.slice none 0 0,rfl,zaY.nil _ _,hbb⟩
 have hd:decide (4096<(t.length:Int))=false:=decide_eq_false (by omega)
 have HF:=yiF (zxV (b:=none) (fun u e=>by cases e) hbig)
 have h4:t.length≤4096:=by omega
 have hl:t.length≤1000000:=by omega
 have hcl:=zpD t
 have htl:(zgP t).length≤t.length:=by
  have h2:=zwD t
  have h3:=(List.dropWhile_suffix (l:=t) zcE).length_le
  omega
 have HT:=yiF (fun W=>z8O ⟨t.toArray⟩ W (by rw [zaE];omega))
 rw [zaH] at HT
 have HD:=yiF (fun W=>yaI ⟨(zgP t).toArray⟩ W (by rw [zaE];omega))
 rw [zaH] at HD
 generalize zgZ (zgP t)=s at*
 generalize zgP t=t1 at*
 have HB0:=yiF hb0
 clear hmax hb0 hbig
 go_enter Tryz.func54,Tryz.ntmps54
 go_wp2_with fail
 rw [←hx0]
 clear hx0
 refine (HT.out _).mono ?_
 rintro e w' ⟨rfl,rfl⟩
 go_wp2_with fail
 refine (HD.out _).mono ?_
 rintro e x1 ⟨rfl,hb1⟩
 have HB1:=yiF (zaO HB0.out hb1)
 have HR1:=yiF (HR0.out.below hb1)
 clear hb1 HB0 HR0 HT HD hz hd
 obtain ⟨x2,hx2⟩: ∃y,y=x1.alloc (.cells #[.string ⟨s.toArray⟩] 93):=⟨_,rfl⟩
 have hb2:Below x1.heap.size x1 x2:=by rw [hx2];exact (yiI _ _).alloc (yiG _) _
 have HB2:=yiF (zaO HB1.out hb2)
 have HR2:=yiF (HR1.out.below hb2)
 have HM2:Hid (MB x2 x1.heap.size s):=by show MB _ _ _;rw [hx2];exact heap_alloc_new x1 _
 have HS2:=yiF (zzG _ s x2 (by omega) HM2.out)
 have hRM:w.heap.size≠x1.heap.size:=by have:=HR1.out.lt;omega
 have hwM:w.heap.size<x1.heap.size:=HR1.out.lt
 clear HB1 HR1 hb2 HM2
 go_wp2_with fail
 rw [←hx2]
 clear hx2
 generalize x1.heap.size=M at*
 refine HS2.out.mono ?_
 rintro e x3 ⟨rfl,hm3,ho3⟩
 have hb3:Below w.heap.size x2 x3:=ho3.below HB2.out.size (fun x hx=>by rw [List.mem_singleton.1 hx];omega)
 have HB3:=yiF (HB2.out.trans hb3)
 have HR3:=yiF (HR2.out.only ho3 (by simp [hRM]))
 have hMx3:=zaR hm3
 clear HS2 ho3 HB2 HR2 hb3
 cases hsc:schW s with
 |none=>
  obtain ⟨-,hnm,hlf⟩:=z1J (b:=zcG) hsc
  have h0:ownZ (zhN s none)=0:=by rw [hnm];decide
  rw [hsc] at hm3
  obtain ⟨nm,hnn⟩: ∃nm,nm=([]:List UInt8):=⟨_,rfl⟩
  rw [←hnn] at hnm
  clear hsc hlf
  simp only [Option.map,Option.getD,Option.isSome] at hm3 ⊢
  have HF2:=yiF (HF.out.trans (zvI h0))
  obtain ⟨c0,c1,c2,c3,c4,c5,c6,c7,c8,c9,hrow⟩:=HR3.out
  have HRW:=yiF hrow
  obtain ⟨k0,k1,k2,k3,k4,k5,k6,k7,k8,k9,kf⟩:=zbK hrow
  have HEND:=yiF (zkX HRW.out (.string ⟨#[]⟩) (.string ⟨#[]⟩) (.string ⟨#[]⟩) .nilIface (.int .i64 0) (.slice none 0 0) (.string ⟨#[]⟩) (.bool false) (.string ⟨#[]⟩) (.bool false))
  have HEB:=yiF (zcX HB3.out (yiG _) (.string ⟨#[]⟩) (.string ⟨#[]⟩) (.string ⟨#[]⟩) .nilIface (.int .i64 0) (.slice none 0 0) (.string ⟨#[]⟩) (.bool false) (.string ⟨#[]⟩) (.bool false))
  have HOW:=yiF (fun W=>ziE ([]:List UInt8) W)
  rw [show ownZ []=0 by decide] at HOW
  clear hrow HR3 hm3 h0 hnm hnn
  go_wp2_with fail
  refine (HOW.out _).mono ?_
  rintro e w' ⟨rfl,rfl⟩
  go_wp2
  obtain ⟨e0,e1,e2,e3,e4,e5,e6,e7,e8,e9,-⟩:=zbK HEND.out
  refine bodyPost_ret (v:= .tuple #[.agg zbT,.int .i64 5]) (by simp [results,Tryz.results54,go_sem,e0,e1,e2,e3,e4,e5,e6,e7,e8,e9,zbT]) rfl ?_
  rw [HF2.out]
  exact ⟨.slice none 0 0,rfl,zaY.nil _ _,HEB.out⟩
 |some p=>
  obtain ⟨nm,lf⟩:=p
  obtain ⟨hnm,hlf⟩:=z7B (b:=none) hsc
  have hsl:=z5P hsc
  rw [hsc] at hm3
  simp only [Option.map,Option.getD,Option.isSome] at hm3 ⊢
  by_cases h0:ownZ (zhN s none)=0
  ·have HF2:=yiF (HF.out.trans (zvI h0))
   obtain ⟨c0,c1,c2,c3,c4,c5,c6,c7,c8,c9,hrow⟩:=HR3.out
   have HRW:=yiF hrow
   obtain ⟨k0,k1,k2,k3,k4,k5,k6,k7,k8,k9,kf⟩:=zbK hrow
   have HEND:=yiF (zkX HRW.out (.string ⟨#[]⟩) (.string ⟨#[]⟩) (.string ⟨#[]⟩) .nilIface (.int .i64 0) (.slice none 0 0) (.string ⟨#[]⟩) (.bool false) (.string ⟨#[]⟩) (.bool false))
   have HEB:=yiF (zcX HB3.out (yiG _) (.string ⟨#[]⟩) (.string ⟨#[]⟩) (.string ⟨#[]⟩) .nilIface (.int .i64 0) (.slice none 0 0) (.string ⟨#[]⟩) (.bool false) (.string ⟨#[]⟩) (.bool false))
   have HOW:=yiF (fun W=>ziE nm W)
   rw [hnm] at h0
   rw [h0] at HOW
   clear hrow HR3 hm3 h0 hnm
   go_wp2_with fail
   refine (HOW.out _).mono ?_
   rintro e w' ⟨rfl,rfl⟩
   go_wp2
   obtain ⟨e0,e1,e2,e3,e4,e5,e6,e7,e8,e9,-⟩:=zbK HEND.out
   refine bodyPost_ret (v:= .tuple #[.agg zbT,.int .i64 5]) (by simp [results,Tryz.results54,go_sem,e0,e1,e2,e3,e4,e5,e6,e7,e8,e9,zbT]) rfl ?_
   rw [HF2.out]
   exact ⟨.slice none 0 0,rfl,zaY.nil _ _,HEB.out⟩
  ·have HF2:=yiF (HF.out.trans (yaK h0))
   rw [hnm,hlf] at HF2
   have hon:=own_80 (n:=nm) (by rw [←hnm];exact h0)
   have HOW:=yiF (fun W=>ziE nm W)
   have hne:(ownZ nm==(0:Int))=false:=by rw [beq_eq_false_iff_ne,←hnm];exact h0
   generalize hoz:ownZ nm=oz at*
   have HUN:=yiF (zoZ M lf x3 hm3)
   go_wp2_with fail
   refine (HOW.out _).mono ?_
   rintro e w' ⟨rfl,rfl⟩
   go_wp2_with fail
   refine HUN.out.mono ?_
   rintro e xc ⟨rfl,hmc,hoc⟩
   have hbc:Below w.heap.size x3 xc:=hoc.below HB3.out.size (fun x hx=>by rw [List.mem_singleton.1 hx];omega)
   have HBC:=yiF (HB3.out.trans hbc)
   have HRC:=yiF (HR3.out.only hoc (by simp [hRM]))
   have HMC:=yiF hmc
   have hbl2:=zwS (lf)
   clear HUN HOW hoc hbc hmc hm3 HB3 HR3 hne
   generalize zhR lf=lb at*
   clear h0 hnm hlf hsc
   rw [←hoz] at hon
   go_wp2_with fail
   refine (zsC M lb nm _ (by omega) HMC.out (HX.out _ HBC.out) hon).mono ?_
   rintro e x5 ⟨pv,rfl,hp5,ho5⟩
   have hb5:Below w.heap.size xc x5:=ho5.below HBC.out.size (fun x hx=>by rw [List.mem_singleton.1 hx];omega)
   have HB5:=yiF (HBC.out.trans hb5)
   have HR5:=HRC.out.only ho5 (by simp [hRM])
   have HP5:=yiF hp5
   have hBs:w.heap.size<xc.heap.size:=HRC.out.lt
   clear ho5 hb5 hp5 HRC HMC HBC
   generalize zeB nm lb=rr at*
   obtain ⟨v,er⟩:=rr
   simp only [UZ.cells] at HP5 HF2 ⊢
   obtain ⟨sa,sn,sc,rfl⟩:=HP5.out.pv.shape
   obtain ⟨c0,c1,c2,c3,c4,c5,c6,c7,c8,c9,hrow⟩:=HR5
   have HRW:=yiF hrow
   obtain ⟨k0,k1,k2,k3,k4,k5,k6,k7,k8,k9,kf⟩:=zbK hrow
   clear hrow
   rcases v.host.shape with hv|⟨it,iv,hv⟩
   ·have HVH:=yiF hv
    rw [hv]
    clear hv
    have HEND:=yiF (zkX HRW.out (.string ⟨v.scheme.toArray⟩) (.string ⟨v.user.toArray⟩) (.string ⟨v.pass.toArray⟩) .nilIface (.int .i64 v.port) (.slice sa sn sc) (.string ⟨v.query.toArray⟩) (.bool v.hasQ) (.string ⟨v.frag.toArray⟩) (.bool v.hasF))
    have HEB:=yiF (ziG HB5.out HP5.out hBs (.string ⟨v.scheme.toArray⟩) (.string ⟨v.user.toArray⟩) (.string ⟨v.pass.toArray⟩) .nilIface (.int .i64 v.port) (.slice sa sn sc) (.string ⟨v.query.toArray⟩) (.bool v.hasQ) (.string ⟨v.frag.toArray⟩) (.bool v.hasF))
    go_wp2
    obtain ⟨e0,e1,e2,e3,e4,e5,e6,e7,e8,e9,-⟩:=zbK HEND.out
    refine bodyPost_ret (v:= .tuple #[.agg #[.string ⟨v.scheme.toArray⟩,.string ⟨v.user.toArray⟩,.string ⟨v.pass.toArray⟩,.nilIface,.int .i64 v.port,.slice sa sn sc,.string ⟨v.query.toArray⟩,.bool v.hasQ,.string ⟨v.frag.toArray⟩,.bool v.hasF],.int .i64 er]) (by simp [results,Tryz.results54,go_sem,e0,e1,e2,e3,e4,e5,e6,e7,e8,e9]) rfl ?_
    rw [HF2.out]
    exact ⟨_,by rw [←HVH.out];rfl,HEB.out⟩
   ·have HVH:=yiF hv
    rw [hv]
    clear hv
    have HEND:=yiF (zkX HRW.out (.string ⟨v.scheme.toArray⟩) (.string ⟨v.user.toArray⟩) (.string ⟨v.pass.toArray⟩) (.iface it iv) (.int .i64 v.port) (.slice sa sn sc) (.string ⟨v.query.toArray⟩) (.bool v.hasQ) (.string ⟨v.frag.toArray⟩) (.bool v.hasF))
    have HEB:=yiF (ziG HB5.out HP5.out hBs (.string ⟨v.scheme.toArray⟩) (.string ⟨v.user.toArray⟩) (.string ⟨v.pass.toArray⟩) (.iface it iv) (.int .i64 v.port) (.slice sa sn sc) (.string ⟨v.query.toArray⟩) (.bool v.hasQ) (.string ⟨v.frag.toArray⟩) (.bool v.hasF))
    go_wp2
    obtain ⟨e0,e1,e2,e3,e4,e5,e6,e7,e8,e9,-⟩:=zbK HEND.out
    refine bodyPost_ret (v:= .tuple #[.agg #[.string ⟨v.scheme.toArray⟩,.string ⟨v.user.toArray⟩,.string ⟨v.pass.toArray⟩,(.iface it iv),.int .i64 v.port,.slice sa sn sc,.string ⟨v.query.toArray⟩,.bool v.hasQ,.string ⟨v.frag.toArray⟩,.bool v.hasF],.int .i64 er]) (by simp [results,Tryz.results54,go_sem,e0,e1,e2,e3,e4,e5,e6,e7,e8,e9]) rfl ?_
    rw [HF2.out]
    exact ⟨_,by rw [←HVH.out];rfl,HEB.out⟩
theorem z7J (t:List UInt8) (w:World) (hmax:MaxVar w):
  Calls Tryz.prog 20 #[.string ⟨t.toArray⟩] w (RetP w (zaZ t none)):=by
 obtain ⟨x0,hx0⟩: ∃y,y=w.alloc (.cells zbT 42):=⟨_,rfl⟩
 have hb0:Below w.heap.size w x0:=by rw [hx0];exact zbD w _
 have HR0:Hid (RB x0 w.heap.size):=by show RB _ _;rw [hx0];exact RB.new w
 have HP:=yiF (zsU t x0 (zaB hmax hb0))
 have HB0:=yiF hb0
 have hRs:w.heap.size<x0.heap.size:=HR0.out.lt
 unfold zbT at hx0
 clear hmax hb0
 generalize zaZ t none=rr at*
 obtain ⟨v,er⟩:=rr
 go_enter Tryz.func20,Tryz.ntmps20
 go_wp2_with fail
 rw [←hx0]
 clear hx0
 refine HP.out.mono ?_
 rintro e x5 ⟨pv,rfl,hp5,hb5⟩
 have HB5:=yiF (zaO HB0.out hb5)
 have HR5:=HR0.out.below hb5
 have HP5:=yiF hp5
 clear HP hb5 hp5 HR0 HB0
 simp only [UZ.cells] at HP5 ⊢
 obtain ⟨sa,sn,sc,rfl⟩:=HP5.out.pv.shape
 obtain ⟨c0,c1,c2,c3,c4,c5,c6,c7,c8,c9,hrow⟩:=HR5
 have HRW:=yiF hrow
 obtain ⟨k0,k1,k2,k3,k4,k5,k6,k7,k8,k9,kf⟩:=zbK hrow
 clear hrow
 rcases v.host.shape with hv|⟨it,iv,hv⟩
 ·have HVH:=yiF hv
  rw [hv]
  clear hv
  have HEND:=yiF (zkX HRW.out (.string ⟨v.scheme.toArray⟩) (.string ⟨v.user.toArray⟩) (.string ⟨v.pass.toArray⟩) .nilIface (.int .i64 v.port) (.slice sa sn sc) (.string ⟨v.query.toArray⟩) (.bool v.hasQ) (.string ⟨v.frag.toArray⟩) (.bool v.hasF))
  have HEB:=yiF (ziG HB5.out HP5.out hRs (.string ⟨v.scheme.toArray⟩) (.string ⟨v.user.toArray⟩) (.string ⟨v.pass.toArray⟩) .nilIface (.int .i64 v.port) (.slice sa sn sc) (.string ⟨v.query.toArray⟩) (.bool v.hasQ) (.string ⟨v.frag.toArray⟩) (.bool v.hasF))
  go_wp2
  obtain ⟨e0,e1,e2,e3,e4,e5,e6,e7,e8,e9,-⟩:=zbK HEND.out
  refine bodyPost_ret (v:= .tuple #[.agg #[.string ⟨v.scheme.toArray⟩,.string ⟨v.user.toArray⟩,.string ⟨v.pass.toArray⟩,.nilIface,.int .i64 v.port,.slice sa sn sc,.string ⟨v.query.toArray⟩,.bool v.hasQ,.string ⟨v.frag.toArray⟩,.bool v.hasF],.int .i64 er]) (by simp [results,Tryz.results20,go_sem,e0,e1,e2,e3,e4,e5,e6,e7,e8,e9]) rfl ?_
  exact ⟨_,by rw [←HVH.out];rfl,HEB.out⟩
 ·have HVH:=yiF hv
  rw [hv]
  clear hv
  have HEND:=yiF (zkX HRW.out (.string ⟨v.scheme.toArray⟩) (.string ⟨v.user.toArray⟩) (.string ⟨v.pass.toArray⟩) (.iface it iv) (.int .i64 v.port) (.slice sa sn sc) (.string ⟨v.query.toArray⟩) (.bool v.hasQ) (.string ⟨v.frag.toArray⟩) (.bool v.hasF))
  have HEB:=yiF (ziG HB5.out HP5.out hRs (.string ⟨v.scheme.toArray⟩) (.string ⟨v.user.toArray⟩) (.string ⟨v.pass.toArray⟩) (.iface it iv) (.int .i64 v.port) (.slice sa sn sc) (.string ⟨v.query.toArray⟩) (.bool v.hasQ) (.string ⟨v.frag.toArray⟩) (.bool v.hasF))
  go_wp2
  obtain ⟨e0,e1,e2,e3,e4,e5,e6,e7,e8,e9,-⟩:=zbK HEND.out
  refine bodyPost_ret (v:= .tuple #[.agg #[.string ⟨v.scheme.toArray⟩,.string ⟨v.user.toArray⟩,.string ⟨v.pass.toArray⟩,.iface it iv,.int .i64 v.port,.slice sa sn sc,.string ⟨v.query.toArray⟩,.bool v.hasQ,.string ⟨v.frag.toArray⟩,.bool v.hasF],.int .i64 er]) (by simp [results,Tryz.results20,go_sem,e0,e1,e2,e3,e4,e5,e6,e7,e8,e9]) rfl ?_
  exact ⟨_,by rw [←HVH.out];rfl,HEB.out⟩
end
end Go.Proofs.YtppgdppmheiocaaGreatDoor
