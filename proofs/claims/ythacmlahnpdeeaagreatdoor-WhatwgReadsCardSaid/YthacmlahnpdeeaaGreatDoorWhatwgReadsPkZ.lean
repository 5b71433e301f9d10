/-
  What the law WhatwgReads leans on, and its walk (25 of 29).
-/
import Derived.Maps.AppendAt
import Derived.Deep.RegionHeld3
import Derived.Test.YthacmlahnpdeeaaGreatDoorWhatwgReadsPkX
import Derived.Test.YthacmlahnpdeeaaGreatDoorWhatwgReadsPkL
import Derived.Test.YthacmlahnpdeeaaGreatDoorWhatwgReadsPkY
import Derived.Test.YthacmlahnpdeeaaGreatDoorWhatwgReadsPkQ
import Derived.Test.YthacmlahnpdeeaaGreatDoorWhatwgReadsPkP
namespace Go.Proofs.YthacmlahnpdeeaaGreatDoor
set_option maxRecDepth 100000
set_option maxHeartbeats 16000000
abbrev yeA := @Lib.hid
abbrev yeB := @Nat.le_refl
abbrev yeC := @decide_eq_true
abbrev yeD := @Go.RowKit.Below.refl
abbrev yeE := @List.mem_singleton
abbrev yeF := @List.mem_cons_self
section
open Go.RowKit
def PV (w:World) (v:Value) (ps:List (List UInt8)):Prop:=(ps=[]∧v= .slice none 0 0)∨ ∃g c,v= .slice (some ⟨g,0,none⟩) ps.length c∧ps.length≤c∧Seen w g ps
theorem PV.keep {w w':World} {v:Value} {ps:List (List UInt8)} (h:PV w v ps) (hb:Below w.heap.size w w'):PV w' v ps:=by
 rcases h with h|⟨g,c,h1,h2,h3⟩
 ·exact .inl h
 ·exact .inr ⟨g,c,h1,h2,h3.keep hb⟩
theorem zaO.cases {B:Nat} {w:World} {v:Value} {ps:List (List UInt8)} (h:zaO B w v ps):(ps=[]∧v= .slice none 0 0)∨ ∃g c,v= .slice (some ⟨g,0,none⟩) ps.length c∧ps.length≤c∧B≤g∧Seen w g ps:=by
 unfold zaO at h
 rcases h.2 with ⟨h1,h2⟩|⟨g,c,cur,h1,h2,h3,h4,h5,h6,h7⟩
 ·exact .inl ⟨List.eq_nil_of_length_eq_zero h2,h1⟩
 ·refine .inr ⟨g,c,h1,h4,h2,zaT h3,fun j hj=> ?_⟩
  have hq:(zeD ps)[j]? =some (.string ⟨(ps.getD j []).toArray⟩):=by
   simp [zeD,strC,List.getD,List.getElem?_eq_getElem hj]
  have:=h.cells (g:=g) (by rw [h1];rfl) j _ hq
  have e:(⟨g,0,none⟩:Addr).add j=⟨g,j,none⟩:=by simp [Addr.add];intro h;omega
  rw [e] at this
  exact this
theorem zaO.pv {B:Nat} {w:World} {v:Value} {ps:List (List UInt8)} (h:zaO B w v ps):PV w v ps:=by
 rcases h.cases with h|⟨g,c,h1,h2,_,h4⟩
 ·exact .inl h
 ·exact .inr ⟨g,c,h1,h2,h4⟩
theorem z2D (ps:List (List UInt8)):(ps.map fun p=>(⟨p.toArray⟩:ByteArray)).map Value.string=zeD ps:=by simp [zeD,strC]
theorem zuH (v:Value) (ps:List (List UInt8)) (w:World) (h:PV w v ps) (hl:ps.length≤1000000):
  Calls Tryz.prog 78 #[v] w fun e w'=> ∃v',e= .returned v'∧zaO w.heap.size w' v' ps∧Below w.heap.size w w':=by
 rcases h with ⟨rfl,rfl⟩|⟨g,c,rfl,_,hs⟩
 ·refine (Tryz.slices_Clone_string_nil 0 0 w).mono ?_
  rintro e w' ⟨rfl,rfl⟩
  exact ⟨_,rfl,zaO.nil _ _,yeD _ _⟩
 ·refine (Tryz.slices_Clone_string g 0 ps.length c (ps.map fun p=>⟨p.toArray⟩) w (by simp) (by omega) (fun j hj=> ?_)).mono ?_
  ·rw [List.length_map] at hj
   rw [Nat.zero_add,hs.2 j hj]
   simp [List.getD,List.getElem?_eq_getElem hj]
  ·rintro e w' ⟨v',rfl,hown,_,hb⟩
   refine ⟨v',rfl,?_,hb⟩
   have e:((ps.map fun p=>(⟨p.toArray⟩:ByteArray)).take ps.length).map Value.string=zeD ps:=by
    rw [List.take_of_length_le (by simp),z2D]
   rw [e] at hown
   exact hown
theorem zoJ {B:Nat} {w:World} {g n c:Nat} {ps:List (List UInt8)} (h:zaO B w (.slice (some ⟨g,0,none⟩) n c) ps):zaO B w (.slice (some ⟨g,0,none⟩) (n - 1:Nat) c) ps.dropLast:=by
 unfold zaO at*
 rcases h.2 with ⟨h1,h2⟩|⟨g',c',cur,h1,h2,h3,h4,h5,h6,h7⟩
 ·cases h1
 ·simp only [Value.slice.injEq,Option.some.injEq,Addr.mk.injEq,and_true] at h1
  obtain ⟨rfl,rfl,rfl⟩:=h1
  have e:zeD ps.dropLast=(zeD ps).take (ps.length - 1):=by
   unfold zeD;rw [List.dropLast_eq_take,List.map_take]
  refine ⟨by simp [zeD],.inr ⟨g,c,cur,by simp,h2,h3,by simp;omega,h5,h6,?_⟩⟩
  rw [e,←h7,List.take_take,List.length_dropLast]
  congr 1
  omega
theorem zpV (B:Nat) (v:Value) (ps:List (List UInt8)) (w:World) (h:zaO B w v ps) (hl:ps.length≤10000000):
  Calls Tryz.prog 79 #[v] w fun e w'=> ∃v',e= .returned v'∧zaO B w v' ps.dropLast∧v'.ownBlock=v.ownBlock∧w=w':=by
 rcases h.cases with ⟨rfl,rfl⟩|⟨g,c,rfl,hc,_,_⟩
 ·have hs: ∀W,(Instr.slice 25 (.slice none 0 0) none (some (.int .i64 0)) none).run Tryz.prog W= .ok (.slice none 0 0) W:=fun W=>by
   rw [run_slice_h W 25 none 0 0 (by simp [Program.elem,Tryz.underlying25]) .i64 _ (by omega) (by omega)]
   rfl
  go_enter Tryz.func79,Tryz.ntmps79
  go_wp2
  go_ret
  exact ⟨_,rfl,zaO.nil _ _,rfl,rfl⟩
 ·have HP:=yeA (zoJ h)
  clear h
  generalize ps.length=n at*
  have hs: ∀W (k:Nat),k≤c→(Instr.slice 25 (.slice (some ⟨g,0,none⟩) n c) none (some (.int .i64 (k:Int))) none).run Tryz.prog W= .ok (.slice (some ⟨g,0,none⟩) k c) W:=fun W k hk=>by
   rw [run_slice_h W 25 (some ⟨g,0,none⟩) n c (by simp [Program.elem,Tryz.underlying25]) .i64 _ (by omega) (by omega)]
   go_simp
  match n,hc,hl,HP with
  |0,hc,hl,HP=>
   have hs0:=fun W=>hs W 0 (by omega)
   clear hs
   go_enter Tryz.func79,Tryz.ntmps79
   go_wp2
   go_ret
   exact ⟨_,rfl,HP.out,rfl,rfl⟩
  |n+1,hc,hl,HP=>
   have hs0:=fun W=>hs W n (by omega)
   have HP2:Hid (zaO B w (.slice (some ⟨g,0,none⟩) n c) ps.dropLast):=HP.out
   clear hs HP
   by_cases h0:n=0
   ·subst h0
    go_enter Tryz.func79,Tryz.ntmps79
    go_wp2
    go_ret
    exact ⟨_,rfl,HP2.out,rfl,rfl⟩
   ·have hd:0<n:=by omega
    go_enter Tryz.func79,Tryz.ntmps79
    go_wp2
    go_ret
    exact ⟨_,rfl,HP2.out,rfl,rfl⟩
theorem z4Q (s old:ByteArray):Lib.countB s old≤s.size+1:=by
 have:=Lib.count_le s.data.toList old.data.toList
 rw [zaD] at this
 exact this
theorem zzP (l:List UInt8) (w:World) (hl:l.length≤1000000000) (hmax:MaxVar w):
  Calls Tryz.prog 122 #[.string ⟨l.toArray⟩,.string ⟨#[37,50,101]⟩,.string ⟨#[46]⟩] w (RetStr w (Lib.replaceAll l [37,50,101] [46])):=by
 obtain ⟨m,hm⟩:=hmax
 have hz:=zaA l
 have h1:=z4Q ⟨l.toArray⟩ ⟨#[37,50,101]⟩
 have h2:(ByteArray.mk #[46]).size=1:=rfl
 exact Tryz.strings_ReplaceAll ⟨l.toArray⟩ ⟨#[37,50,101]⟩ ⟨#[46]⟩ m w (by omega) hm (by decide) (by rw [h2];omega)
theorem zfA {P:Program} (w:World) {ops:Array Oper} {rest:List Oper} {o:Oper} {a:Act} {Q:Exit→Act→World→Prop} (hgd:o.guard=none) (s x:Operand) (t:TypeId)
  (ho:o.op= .call {callee:= .builtin .append,args:= #[s,x],argTypes:= #[t,t]})
  (base:Nat) (e:TypeId) (i:TypeInfo) (z:Value) (bytes:Nat) (ht:P.underlying t=some (.slice e)) (hi:P.info? e=some i) (hz:i.zero=some z)
  (hsize:i.size=1) (hby:i.bytes=bytes) (hzs:z.cells.size=1)
  (v:Value) (n:Nat) (xs:List Value) (hs:a.eval s=v) (hown:w.ownsRow base e 1 v n xs) (u:Value) (hx:a.eval x= .slice (some ⟨w.heap.size,0,none⟩) 1 1) (hu:u.oneCell'=true)
  (h63:n+1≤9223372036854775807) (hbytes:(n+1)*bytes≤140737488355328) (hbase:base≤w.heap.size)
  (h: ∀v' w',w'.ownsRow base e 1 v' (n+1) (xs++[u])→w.grownBy w' v.ownBlock→(v'.ownBlock=v.ownBlock∨ ∃k,v'.ownBlock=some k∧w.heap.size≤k)→wpList P ops Q rest (a.put o.dst v') w'):wpList P ops Q (o::rest) a (w.alloc (.cells #[u] e)):=by
 refine wpList_append_own_at (w.alloc (.cells #[u] e)) hgd s x t ho base e i z 1 bytes ht hi hz hsize hby hzs (by decide) v n xs hs (hown.alloc _) ⟨w.heap.size,0,none⟩ 1 1 [u] hx rfl (zpC w u e) ?_ h63 hbytes (by simp;omega) ?_
 ·intro y hy;simp at hy;subst hy;exact hu
 ·intro v' w1 hown' hg _ hat
  refine h v' w1 hown' ⟨hg.os,hg.tape,hg.output,Nat.le_trans (by simp) hg.size,fun k hk hne=> ?_⟩ ?_
  ·exact (hg.block k (by simp;omega) hne).trans (((yeD _ w).alloc (yeB _) _).block k hk)
  ·rcases hat with q|q
   ·exact .inl q
   ·exact .inr ⟨_,q,by simp⟩
structure Segs (base:Nat) (x:World) (v0:Value) (y:World) (v:Value) (out:List (List UInt8)):Prop where
 own:zaO base y v out
 grown:x.grownBy y v0.ownBlock
 at_:v.ownBlock=v0.ownBlock∨ ∃b,v.ownBlock=some b∧x.heap.size≤b
theorem Segs.keep {base:Nat} {x:World} {v0:Value} {y z:World} {v:Value} {out:List (List UInt8)} (h:Segs base x v0 y v out) (hb:Below y.heap.size y z):Segs base x v0 z v out:=
 ⟨h.own.below hb,⟨hb.os.trans h.grown.os,hb.tape.trans h.grown.tape,hb.output.trans h.grown.output,Nat.le_trans h.grown.size hb.size,fun k hk hne=>(hb.block k (Nat.lt_of_lt_of_le hk h.grown.size)).trans (h.grown.block k hk hne)⟩,h.at_⟩
theorem Segs.app {base:Nat} {x:World} {v0:Value} {y z:World} {v v':Value} {out:List (List UInt8)} {q:List UInt8} (h:Segs base x v0 y v out) (hown:z.ownsRow base 9 1 v' (out.length+1) (zeD out++[.string ⟨q.toArray⟩])) (hg:y.grownBy z v.ownBlock) (hat:v'.ownBlock=v.ownBlock∨ ∃k,v'.ownBlock=some k∧y.heap.size≤k):Segs base x v0 z v' (out++[q]):=by
 refine ⟨zaO.snoc hown rfl,⟨hg.os.trans h.grown.os,hg.tape.trans h.grown.tape,hg.output.trans h.grown.output,Nat.le_trans h.grown.size hg.size,fun k hk hne=> ?_⟩,?_⟩
 ·refine (hg.block k (Nat.lt_of_lt_of_le hk h.grown.size) (fun e=> ?_)).trans (h.grown.block k hk hne)
  rcases h.at_ with q|⟨b,q,hb⟩
  ·exact hne (e.trans q)
  ·rw [q] at e;have:=Option.some.inj e;omega
 ·rcases hat with q|⟨k,q,hk⟩
  ·rcases h.at_ with r|r
   ·exact .inl (q.trans r)
   ·exact .inr (by rw [q];exact r)
  ·exact .inr ⟨k,q,Nat.le_trans h.grown.size hk⟩
theorem Segs.drop {base:Nat} {x:World} {v0:Value} {y:World} {v v':Value} {out:List (List UInt8)} (h:Segs base x v0 y v out) (hp:zaO base y v' out.dropLast) (hb:v'.ownBlock=v.ownBlock):Segs base x v0 y v' out.dropLast:=
 ⟨hp,h.grown,by rw [hb];exact h.at_⟩
theorem Segs.block {base:Nat} {x:World} {v0:Value} {y:World} {v:Value} {out:List (List UInt8)} (h:Segs base x v0 y v out) (hv: ∀b,v0.ownBlock=some b→base≤b) {k:Nat} (hk:k<base) (hx:base≤x.heap.size):y.heap[k]? =x.heap[k]? :=
 h.grown.block k (by omega) (fun e=>by have:=hv k e.symm;omega)
theorem znW {B:Nat} {w w':World} {v:Value} {ps:List (List UInt8)} (h:zaO B w v ps) (he: ∀b,v.ownBlock=some b→w'.heap[b]? =w.heap[b]?):zaO B w' v ps:=by
 unfold zaO at*
 refine ⟨h.1,?_⟩
 rcases h.2 with q|⟨g,cap,cur,e,hb,hg,r⟩
 ·exact .inl q
 ·exact .inr ⟨g,cap,cur,e,hb,(he g (by rw [e];rfl)).trans hg,r⟩
theorem zeP {B C:Nat} {w:World} {v:Value} {ps:List (List UInt8)} (h:zaO B w v ps) (hC:C≤B):zaO C w v ps:=by
 unfold zaO at*
 refine ⟨h.1,?_⟩
 rcases h.2 with q|⟨g,cap,cur,e,hb,r⟩
 ·exact .inl q
 ·exact .inr ⟨g,cap,cur,e,Nat.le_trans hC hb,r⟩
theorem zkJ {w y:World} (h:MaxVar w) (he:y.heap[2]? =w.heap[2]?):MaxVar y:=by
 obtain ⟨m,hm⟩:=h
 exact ⟨m,(World.cell?_of_block (a:=⟨2,0,none⟩) he).trans hm⟩
theorem zmR {w:World} (h:MaxVar w):2<w.heap.size:=by
 obtain ⟨m,hm⟩:=h
 exact World.block_lt_of_cell? w _ hm
theorem zrK {w:World} {M:Nat} {l:List UInt8} (h:MaxVar w) (hm:MB w M l):2≠M:=fun e=>by
 obtain ⟨m,hm2⟩:=h
 rw [e,hm.cell] at hm2
 cases hm2
theorem zlV {w y:World} {M:Nat} {l:List UInt8} (h:MaxVar w) (hm:MB w M l) (ho:Only [M] w y):MaxVar y:=
 zkJ h (ho.block _ (zmR h) (by rw [yeE];exact zrK h hm))
theorem zqK {p:UInt8→Bool} {l x:List UInt8} (h:x∈zbM p l):x.length≤l.length:=by
 have h2:=(zuG p l).2.1
 have key: ∀(ps:List (List UInt8)),x∈ps→x.length≤zgR ps:=by
  intro ps
  induction ps with
  |nil=>intro h;cases h
  |cons y r ih=>
   intro h
   have e:zgR (y::r)=y.length+zgR r:=by simp [zgR]
   rcases List.mem_cons.1 h with q|q
   ·rw [q,e];omega
   ·have:=ih q;rw [e];omega
 have:=key _ h
 omega
theorem zvJ (st:Int) (l:List UInt8):(encW st l).length≤12*l.length:=by
 have h1:=zkN st (scal ⟨l.toArray⟩) (scal ⟨l.toArray⟩).length
 rw [List.take_length] at h1
 have h2:=zwY ⟨l.toArray⟩
 rw [zaA] at h2
 unfold encW
 omega
theorem z9E {from_ out:List (List UInt8)} {ps:List (List UInt8)} {k:Nat} {p:List UInt8} (hk:k<ps.length) (hp:ps.getD k []=p) (h:goW from_ ps=goW out (ps.drop k)):goW from_ ps=goW (ziG (decide (k+1=ps.length)) out (encW 4 p)) (ps.drop (k+1)):=by
 have e:ps.drop k=p::ps.drop (k+1):=by
  rw [List.drop_eq_getElem_cons hk]
  congr 1
  rw [←hp]
  simp [List.getD,List.getElem?_eq_getElem hk]
 have e2:(ps.drop (k+1)).isEmpty=decide (k+1=ps.length):=by
  rw [Bool.eq_iff_iff,List.isEmpty_iff,List.drop_eq_nil_iff,decide_eq_true_eq]
  omega
 rw [h,e,goW,e2]
theorem zzY {b:Bool} {out:List (List UInt8)} {q:List UInt8} (h:ptsW q=0):ziG b out q=out++[q]:=by unfold ziG;rw [if_pos h]
theorem zwX {out:List (List UInt8)} {q:List UInt8} (h:ptsW q=1):ziG true out q=out++[[]]:=by unfold ziG;rw [if_neg (by omega),if_pos rfl,if_neg (by omega)]
theorem z5D {out:List (List UInt8)} {q:List UInt8} (h:ptsW q=1):ziG false out q=out:=by unfold ziG;rw [if_neg (by omega),if_neg (by decide),if_neg (by omega)]
theorem zlF {out:List (List UInt8)} {q:List UInt8} (h:ptsW q=2):ziG true out q=out.dropLast++[[]]:=by unfold ziG;rw [if_neg (by omega),if_pos rfl,if_pos h]
theorem zoW {out:List (List UInt8)} {q:List UInt8} (h:ptsW q=2):ziG false out q=out.dropLast:=by unfold ziG;rw [if_neg (by omega),if_neg (by decide),if_pos h]
theorem zvF {k n:Nat}:((k:Int)==(n:Int) - 1)=decide (k+1=n):=by
 rw [Bool.eq_iff_iff,beq_iff_eq,decide_eq_true_eq];omega
def ybE (w:World) (M:Nat) (ps:List (List UInt8)) (left:List UInt8) (e:Ending) (w':World):Prop:= ∃v',e= .returned v'∧zaO w.heap.size w' v' ps∧MB w' M left∧Only [M] w w'
theorem z6H (M:Nat) (l:List UInt8) (fv:Value) (from_:List (List UInt8)) (w:World) (hl:l.length≤1000000) (hfl:from_.length≤1000000) (hm:MB w M l) (hf:PV w fv from_) (hmax:MaxVar w):
  Calls Tryz.prog 76 #[.pointer (some ⟨M,0,none⟩),fv] w (ybE w M (zkV from_ (l.take (l.findIdx (hasB [63,35])))) (l.drop (l.findIdx (hasB [63,35])))):=by
 obtain ⟨i0,hi,hz0,hz1,hz2⟩:=info_parts Tryz.infoStr
 have hMw:=zaT hm
 have HCL:=yeA (zuH fv from_ w hf hfl)
 have HM:=yeA hm
 have HX:=yeA hmax
 have hptl:(l.take (l.findIdx (hasB [63,35]))).length≤l.length:=by rw [List.length_take];omega
 have HU:=yeA (fun W (h:MB W M l)=>zgQ [63,35] (by decide) M l W h)
 generalize l.take (l.findIdx (hasB [63,35]))=part at*
 generalize l.drop (l.findIdx (hasB [63,35]))=left at*
 have HSP:=yeA (fun W=>zdO ⟨part.toArray⟩ ⟨#[47,92]⟩ W (by rw [zaA];omega))
 rw [zaC part,zaC [47,92]] at HSP
 have HPW:Hid (zkV from_ part=goW from_ (zbM (hasB [47,92]) part)):=rfl
 have hsl:=zbN (hasB [47,92]) part
 have HPL:=yeA (fun x (h:x∈zbM (hasB [47,92]) part)=>zqK h)
 have hne:=znY (hasB [47,92]) part
 generalize zbM (hasB [47,92]) part=ps at*
 clear hm hf hmax
 go_enter Tryz.func76,Tryz.ntmps76
 go_wp2_with fail
 refine HCL.out.mono ?_
 rintro e x1 ⟨v0,rfl,hp0,hb1⟩
 have HU1:=yeA (HU.out _ (HM.out.below hb1))
 go_wp2_with fail
 refine (zmD [63,35] _).mono ?_
 rintro e x2 ⟨rfl,rfl⟩
 go_wp2_with fail
 refine HU1.out.mono ?_
 rintro e x3 ⟨rfl,hm3,ho3⟩
 go_wp2_with fail
 refine (HSP.out _).mono ?_
 rintro e x4 ⟨vp,rfl,hpp,hb4⟩
 obtain ⟨N,hN⟩: ∃N,ps.length=N:=⟨_,rfl⟩
 have hNp:0<N:=by rw [←hN];exact List.length_pos_iff.2 hne
 obtain ⟨gp,cp,rfl,hgB,hgs⟩: ∃gp cp,vp= .slice (some ⟨gp,0,none⟩) N cp∧x3.heap.size≤gp∧Seen x4 gp ps:=by
  rcases zaO.cases hpp with ⟨e,_⟩|⟨g,c,h1,h2,h3,h4⟩
  ·exact absurd e hne
  ·exact ⟨g,c,by rw [h1,hN],h3,h4⟩
 have hv0: ∀b,v0.ownBlock=some b→w.heap.size≤b∧b<x1.heap.size:=fun b hb=>World.ownsRow.lt hp0 b hb
 have hO1:Only [M] w x3:=(Only.of_below (F:=[M]) hb1).trans ho3 (fun x hx=> .inl hx)
 have hO4:Only [M] w x4:=hO1.then_below hb4
 have hs13:=ho3.size
 have hp3:zaO w.heap.size x3 v0 from_:=znW hp0 (fun b hb=>ho3.block b (hv0 b hb).2 (by have:=(hv0 b hb).1;simp;omega))
 have HS0:Hid (Segs w.heap.size x4 v0 x4 v0 from_):=⟨hp3.below hb4,⟨rfl,rfl,rfl,yeB _,fun _ _ _=>rfl⟩,.inl rfl⟩
 have hw4:w.heap.size≤x4.heap.size:=hO4.size
 have HROW:Hid (∀y v out,Segs w.heap.size x4 v0 y v out→ ∀j,j<N→y.cell? ⟨gp,j,none⟩=some (.string ⟨(ps.getD j []).toArray⟩)):=fun y v out h j hj=>by
  refine (World.cell?_of_block (a:=⟨gp,j,none⟩) (h.grown.block gp hgs.1 (fun e=> ?_))).trans (hgs.2 j (by omega))
  have:=(hv0 gp e.symm).2
  have:=hb1.size
  omega
 have HMAX:Hid (∀y v out,Segs w.heap.size x4 v0 y v out→MaxVar y):=fun y v out h=>by
  refine zkJ HX.out ((h.block (fun b hb=>(hv0 b hb).1) (zmR HX.out) hw4).trans (hO4.block _ (zmR HX.out) ?_))
  rw [yeE]
  exact zrK HX.out HM.out
 have HEND:Hid (∀y v out,Segs w.heap.size x4 v0 y v out→MB y M left∧Only [M] w y):=fun y v out h=>
  ⟨(h.block (fun b hb=>(hv0 b hb).1) hMw hw4).trans (hm3.below hb4),h.grown.os.trans hO4.os,h.grown.tape.trans hO4.tape,h.grown.output.trans hO4.output,Nat.le_trans hw4 h.grown.size,fun b hb hn=>(h.block (fun b hb=>(hv0 b hb).1) hb hw4).trans (hO4.block b hb hn)⟩
 rw [hN] at hsl
 have HN:=yeA hN
 clear HX HM HCL HU HU1 HSP hp0 hb1 hm3 ho3 hpp hb4 hgB hgs hv0 hO1 hO4 hs13 hp3 hne hN
 go_wp2
 go_loopw [5,18] (fun v i wr=> ∃(k:Nat) (out:List (List UInt8)),k≤N∧i= .int .i64 k∧Hid (Segs w.heap.size x4 v0 wr v out)∧out.length≤from_.length+k∧Hid (goW from_ ps=goW out (ps.drop k))) (fun _ i _=>N - (intOf i).toNat)
 case atStart=>exact ⟨0,from_,Nat.zero_le _,rfl,HS0,yeB _,rfl⟩
 case round=>
  obtain ⟨k,out,hk,rfl,HSG,hol,HS⟩:=hrel
  by_cases hlt:k<N
  ·have hcell:=HROW.out _ _ _ HSG.out k hlt
   obtain ⟨p,hp⟩: ∃p,ps.getD k []=p:=⟨_,rfl⟩
   rw [hp] at hcell
   have HST:=yeA (z9E (by rw [HN.out];exact hlt) hp HS.out)
   have hpl:p.length≤part.length:=HPL.out p (by
    have hkl:k<ps.length:=by rw [HN.out];exact hlt
    rw [←hp];simp only [List.getD,List.getElem?_eq_getElem hkl,Option.getD_some];exact List.getElem_mem hkl)
   rw [HN.out] at HST
   have hql:=zvJ 4 p
   have HEN:=yeA (fun W=>zfZ 4 p W (by decide) (by omega))
   have hp2:=ybN (encW 4 p)
   have hp1:=z9Q (encW 4 p)
   have hple:=z9B (encW 4 p)
   have hbl:((k:Int)==(N:Int) - 1)=decide (k+1=N):=zvF
   clear hp HS
   generalize encW 4 p=q at*
   have HLO:=yeA (fun W=>zrA ⟨q.toArray⟩ W (by rw [zaA];omega))
   rw [zaC] at HLO
   have HRE:=yeA (fun W (h:MaxVar W)=>zzP (zaQ q) W (by rw [zgZ];omega) h)
   generalize Lib.replaceAll (zaQ q) [37,50,101] [46]=t at*
   go_wp2_with fail
   refine (HEN.out _).mono ?_
   rintro e y1 ⟨rfl,hy1⟩
   have HSG1:=yeA (HSG.out.keep hy1)
   clear HEN hy1 HSG
   go_wp2_with fail
   refine (HLO.out _).mono ?_
   rintro e y2 ⟨rfl,hy2⟩
   have HSG2:=yeA (HSG1.out.keep hy2)
   clear HLO hy2 HSG1
   go_wp2_with fail
   refine (HRE.out _ (HMAX.out _ _ _ HSG2.out)).mono ?_
   rintro e y3 ⟨rfl,hy3⟩
   have HSG3:=yeA (HSG2.out.keep hy3)
   have hsz:w.heap.size≤y3.heap.size:=Nat.le_trans hw4 HSG3.out.grown.size
   have hown:=HSG3.out.own
   unfold zaO at hown
   clear HRE hy3 HSG2 hcell
   rcases (show ptsW q=2∨ptsW q=1∨ptsW q=0 by omega) with h2|h1|h0
   ·obtain rfl:=hp2.1 h2
    have e2:(([46,46]:List UInt8)==[46,46])=true:=rfl
    have HWL:=yeA (zpV w.heap.size _ out y3 HSG3.out.own (by omega))
    by_cases hla:k+1=N
    ·rw [yeC hla] at hbl HST
     rw [zlF h2] at HST
     clear hp2 hp1 h2
     go_wp2_with fail
     refine HWL.out.mono ?_
     rintro e w' ⟨v2,rfl,hpd,hbd,rfl⟩
     have HSG4:=yeA (HSG3.out.drop hpd hbd)
     have hdl:out.dropLast.length≤out.length:=by rw [List.length_dropLast];omega
     unfold zaO at hpd
     go_wp2_with (first|(at_builtin;refine zfA _ rfl _ _ 25 rfl w.heap.size 9 i0 (.string ⟨#[]⟩) 16 Tryz.underlying25 hi hz0 hz1 hz2 rfl _ _ _ rfl hpd (.string ⟨#[]⟩) rfl rfl (by omega) (by omega) hsz ?_;intro v' w1 hown' hgr' hat')|go_in)
     go_roundw
     case rel=>exact ⟨k+1,out.dropLast++[[]],by omega,by go_num,HSG4.out.app hown' hgr' hat',by simp;omega,HST.out⟩
     case measure=>simp [intOf];omega
    ·rw [decide_eq_false hla] at hbl HST
     rw [zoW h2] at HST
     clear hp2 hp1 h2
     go_wp2_with fail
     refine HWL.out.mono ?_
     rintro e w' ⟨v2,rfl,hpd,hbd,rfl⟩
     have HSG4:=yeA (HSG3.out.drop hpd hbd)
     have hdl:out.dropLast.length≤out.length:=by rw [List.length_dropLast];omega
     go_wp2
     go_roundw
     case rel=>exact ⟨k+1,out.dropLast,by omega,by go_num,HSG4.out,by omega,HST.out⟩
     case measure=>simp [intOf];omega
   ·obtain rfl:=hp1.1 h1
    have e1:(([46]:List UInt8)==[46,46])=false:=rfl
    have e2:(([46]:List UInt8)==[46])=true:=rfl
    by_cases hla:k+1=N
    ·rw [yeC hla] at hbl HST
     rw [zwX h1] at HST
     clear hp2 hp1 h1
     go_wp2_with (first|(at_builtin;refine zfA _ rfl _ _ 25 rfl w.heap.size 9 i0 (.string ⟨#[]⟩) 16 Tryz.underlying25 hi hz0 hz1 hz2 rfl _ _ _ rfl hown (.string ⟨#[]⟩) rfl rfl (by omega) (by omega) hsz ?_;intro v' w1 hown' hgr' hat')|go_in)
     go_roundw
     case rel=>exact ⟨k+1,out++[[]],by omega,by go_num,HSG3.out.app hown' hgr' hat',by simp;omega,HST.out⟩
     case measure=>simp [intOf];omega
    ·rw [decide_eq_false hla] at hbl HST
     rw [z5D h1] at HST
     clear hp2 hp1 h1
     go_wp2
     go_roundw
     case rel=>exact ⟨k+1,out,by omega,by go_num,HSG3.out,by omega,HST.out⟩
     case measure=>simp [intOf];omega
   ·have e1:(t==[46,46])=false:=by rw [beq_eq_false_iff_ne];intro g;have:=hp2.2 g;omega
    have e2:(t==[46])=false:=by rw [beq_eq_false_iff_ne];intro g;have:=hp1.2 g;omega
    rw [zzY h0] at HST
    clear hp2 hp1 h0
    go_wp2_with (first|(at_builtin;refine zfA _ rfl _ _ 25 rfl w.heap.size 9 i0 (.string ⟨#[]⟩) 16 Tryz.underlying25 hi hz0 hz1 hz2 rfl _ _ _ rfl hown (.string ⟨q.toArray⟩) rfl rfl (by omega) (by omega) hsz ?_;intro v' w1 hown' hgr' hat')|go_in)
    go_roundw
    case rel=>exact ⟨k+1,out++[q],by omega,by go_num,HSG3.out.app hown' hgr' hat',by simp;omega,HST.out⟩
    case measure=>simp [intOf];omega
  ·have hkN:k=N:=by omega
   have HF:Hid (goW from_ ps=out):=by show _=_;rw [HS.out,List.drop_eq_nil_of_le (by rw [HN.out];omega)];rfl
   clear HS
   go_wp2
   go_ret
   exact ⟨_,rfl,by rw [HPW.out,HF.out];exact HSG.out.own,HEND.out _ _ _ HSG.out⟩
theorem zbW {x:World} {g:Nat} {c0 c1 c2 c3 c4 c5 c6 c7 c8 c9:Value} {t:TypeId} (h:x.heap[g]? =some (.cells #[c0,c1,c2,c3,c4,c5,c6,c7,c8,c9] t (0,0))):x.cell? ⟨g,0,none⟩=some c0∧x.cell? ⟨g,1,none⟩=some c1∧x.cell? ⟨g,2,none⟩=some c2∧x.cell? ⟨g,3,none⟩=some c3∧x.cell? ⟨g,4,none⟩=some c4∧x.cell? ⟨g,5,none⟩=some c5∧x.cell? ⟨g,6,none⟩=some c6∧x.cell? ⟨g,7,none⟩=some c7∧x.cell? ⟨g,8,none⟩=some c8∧x.cell? ⟨g,9,none⟩=some c9∧ ∀i,x.frozen? ⟨g,i,none⟩=false:=by
 refine ⟨?_,?_,?_,?_,?_,?_,?_,?_,?_,?_,zdB h⟩<;>rw [cell_of_row x _ _ _ _ _ h]<;>rfl
theorem zlS {x:World} {g:Nat} {c0 c1 c2 c3 c4 c5 c6 c7 c8 c9:Value} {t:TypeId} (h:x.heap[g]? =some (.cells #[c0,c1,c2,c3,c4,c5,c6,c7,c8,c9] t)) (a0 a1 a2 a3 a4 a5 a6 a7 a8 a9:Value):((((((((((x.setCell ⟨g,0,none⟩ a0).setCell ⟨g,1,none⟩ a1).setCell ⟨g,2,none⟩ a2).setCell ⟨g,3,none⟩ a3).setCell ⟨g,4,none⟩ a4).setCell ⟨g,5,none⟩ a5).setCell ⟨g,6,none⟩ a6).setCell ⟨g,7,none⟩ a7).setCell ⟨g,8,none⟩ a8).setCell ⟨g,9,none⟩ a9).heap[g]? =some (.cells #[a0,a1,a2,a3,a4,a5,a6,a7,a8,a9] t):=by
 have:=zaL (zaL (zaL (zaL (zaL (zaL (zaL (zaL (zaL (zaL h 0 a0) 1 a1) 2 a2) 3 a3) 4 a4) 5 a5) 6 a6) 7 a7) 8 a8) 9 a9
 simpa using this
theorem zdS {w x:World} {g B:Nat} (h:Below B w x) (hg:B≤g) (a0 a1 a2 a3 a4 a5 a6 a7 a8 a9:Value):Below B w ((((((((((x.setCell ⟨g,0,none⟩ a0).setCell ⟨g,1,none⟩ a1).setCell ⟨g,2,none⟩ a2).setCell ⟨g,3,none⟩ a3).setCell ⟨g,4,none⟩ a4).setCell ⟨g,5,none⟩ a5).setCell ⟨g,6,none⟩ a6).setCell ⟨g,7,none⟩ a7).setCell ⟨g,8,none⟩ a8).setCell ⟨g,9,none⟩ a9):=
 (((((((((h.setCell (p:=⟨g,0,none⟩) hg _).setCell (p:=⟨g,1,none⟩) hg _).setCell (p:=⟨g,2,none⟩) hg _).setCell (p:=⟨g,3,none⟩) hg _).setCell (p:=⟨g,4,none⟩) hg _).setCell (p:=⟨g,5,none⟩) hg _).setCell (p:=⟨g,6,none⟩) hg _).setCell (p:=⟨g,7,none⟩) hg _).setCell (p:=⟨g,8,none⟩) hg _).setCell (p:=⟨g,9,none⟩) hg _
theorem zhB {w x:World} {g:Nat} {F:List Nat} (h:Only F w x) (hg:g∈F∨w.heap.size≤g) (a0 a1 a2 a3 a4 a5 a6 a7 a8 a9:Value):Only F w ((((((((((x.setCell ⟨g,0,none⟩ a0).setCell ⟨g,1,none⟩ a1).setCell ⟨g,2,none⟩ a2).setCell ⟨g,3,none⟩ a3).setCell ⟨g,4,none⟩ a4).setCell ⟨g,5,none⟩ a5).setCell ⟨g,6,none⟩ a6).setCell ⟨g,7,none⟩ a7).setCell ⟨g,8,none⟩ a8).setCell ⟨g,9,none⟩ a9):=
 (((((((((h.setCell (p:=⟨g,0,none⟩) hg _).setCell (p:=⟨g,1,none⟩) hg _).setCell (p:=⟨g,2,none⟩) hg _).setCell (p:=⟨g,3,none⟩) hg _).setCell (p:=⟨g,4,none⟩) hg _).setCell (p:=⟨g,5,none⟩) hg _).setCell (p:=⟨g,6,none⟩) hg _).setCell (p:=⟨g,7,none⟩) hg _).setCell (p:=⟨g,8,none⟩) hg _).setCell (p:=⟨g,9,none⟩) hg _
def zcN:Array Value:= #[.string ⟨#[]⟩,.string ⟨#[]⟩,.string ⟨#[]⟩,.nilIface,.int .i64 0,.slice none 0 0,.string ⟨#[]⟩,.bool false,.string ⟨#[]⟩,.bool false]
theorem zuB:zbO.cells (.slice none 0 0)=zcN:=rfl
def RetURL (w:World) (x:UZ×Int) (pv:Value) (e:Ending) (w':World):Prop:=e= .returned (.tuple #[.agg (x.1.cells pv),.int .i64 x.2])∧Below w.heap.size w w'
theorem who_at (a:List UInt8): ∃(z:Int) (m r:Nat),Lib.lastIndexByte ⟨a.toArray⟩ 64=z∧max z 0=(m:Int)∧z+1=(r:Int)∧ -1≤z∧m≤a.length∧r≤a.length∧zhM a=encW 5 (Lib.cut (a.take m) [58]).1∧zhO a=encW 5 (Lib.cut (a.take m) [58]).2.1∧zbI a=a.drop r:=by
 rcases yaH a with ⟨h1,h2⟩|⟨i,hi,h1,h2⟩
 ·obtain ⟨e1,e2,e3⟩:=ztA a h2
  exact ⟨-1,0,0,h1,by omega,rfl,by omega,Nat.zero_le _,Nat.zero_le _,e1,e2,e3⟩
 ·obtain ⟨e1,e2,e3⟩:=z7X a h2
  exact ⟨i,i,i+1,h1,by omega,by omega,by omega,by omega,by omega,e1,e2,e3⟩
theorem zsN (l:List UInt8):(Lib.cut l [58]).1.length≤l.length∧(Lib.cut l [58]).2.1.length≤l.length:=by
 rw [zvQ]
 simp only [List.length_take,List.length_drop]
 omega
theorem zvI: ∀(l:List UInt8) (i:Bool),(hpW i l).1.length≤l.length∧(hpW i l).2.length≤l.length
 |[],i=>by simp [hpW]
 |c::r,i=>by
  rw [zfR]
  split
  ·simp
  ·have:=zvI r (if c=91 then true else if c=93 then false else i)
   simp only [List.length_cons]
   omega
theorem z3E (l:List UInt8):(if hd1 [58] (l.drop (zcE zgO false l))=true then (l.drop (zcE zgO false l)).drop 1 else l.drop (zcE zgO false l))=(hpW false l).2:=by
 have h1:=(zfN l false).2.1
 have h2:=(zfN l false).2.2
 generalize zcE zgO false l=n at*
 by_cases hn:n<l.length
 ·rw [zmU,if_pos]
  ·exact h1
  ·rw [List.head?_drop,yeC (h2 hn)]
 ·have e:l.drop n=[]:=List.drop_eq_nil_of_le (by omega)
  rw [e] at h1 ⊢
  exact h1
theorem z3F {l:List UInt8} (h:(zdC l).2≠0):(zdC l).1= .none:=zxG h
def RB (w:World) (R:Nat):Prop:= ∃c0 c1 c2 c3 c4 c5 c6 c7 c8 c9,w.heap[R]? =some (.cells #[c0,c1,c2,c3,c4,c5,c6,c7,c8,c9] 27)
theorem RB.below {w w':World} {R:Nat} (h:RB w R) (hb:Below w.heap.size w w'):RB w' R:=by
 obtain ⟨c0,c1,c2,c3,c4,c5,c6,c7,c8,c9,h⟩:=h
 exact ⟨c0,c1,c2,c3,c4,c5,c6,c7,c8,c9,(hb.block R (zaT h)).trans h⟩
theorem RB.lt {w:World} {R:Nat} (h:RB w R):R<w.heap.size:=by
 obtain ⟨c0,c1,c2,c3,c4,c5,c6,c7,c8,c9,h⟩:=h
 exact zaT h
theorem RB.only {w w':World} {R:Nat} {F:List Nat} (h:RB w R) (ho:Only F w w') (hR:R∉F):RB w' R:=by
 obtain ⟨c0,c1,c2,c3,c4,c5,c6,c7,c8,c9,h⟩:=h
 exact ⟨c0,c1,c2,c3,c4,c5,c6,c7,c8,c9,(ho.block R (zaT h) hR).trans h⟩
theorem RB.new (w:World):RB (w.alloc (.cells zcN 27)) w.heap.size:=⟨_,_,_,_,_,_,_,_,_,_,heap_alloc_new w _⟩
theorem UB.who {w:World} {U:Nat} {u:UZ} {pv:Value} (h:UB w U u pv) (a:List UInt8):UB (w.setCell ⟨U,1,none⟩ (.string ⟨a.toArray⟩)) U {u with user:=a} pv:=zaL h 1 _
theorem UB.pwd {w:World} {U:Nat} {u:UZ} {pv:Value} (h:UB w U u pv) (a:List UInt8):UB (w.setCell ⟨U,2,none⟩ (.string ⟨a.toArray⟩)) U {u with pass:=a} pv:=zaL h 2 _
theorem UB.pth {w:World} {U:Nat} {u:UZ} {pv:Value} (h:UB w U u pv) (v:Value):UB (w.setCell ⟨U,5,none⟩ v) U u v:=zaL h 5 _
theorem RB.set {w:World} {R g i:Nat} (h:RB w R) (hne:R≠g) (v:Value):RB (w.setCell ⟨g,i,none⟩ v) R:=by
 obtain ⟨c0,c1,c2,c3,c4,c5,c6,c7,c8,c9,h⟩:=h
 exact ⟨c0,c1,c2,c3,c4,c5,c6,c7,c8,c9,(zbC hne i v).trans h⟩
theorem UB.all {w:World} {U:Nat} {u:UZ} {pv:Value} (h:UB w U u pv):w.cell? ⟨U,0,none⟩=some (.string ⟨u.scheme.toArray⟩)∧w.cell? ⟨U,1,none⟩=some (.string ⟨u.user.toArray⟩)∧w.cell? ⟨U,2,none⟩=some (.string ⟨u.pass.toArray⟩)∧w.cell? ⟨U,3,none⟩=some u.host.val∧w.cell? ⟨U,4,none⟩=some (.int .i64 u.port)∧w.cell? ⟨U,5,none⟩=some pv∧w.cell? ⟨U,6,none⟩=some (.string ⟨u.query.toArray⟩)∧w.cell? ⟨U,7,none⟩=some (.bool u.hasQ)∧w.cell? ⟨U,8,none⟩=some (.string ⟨u.frag.toArray⟩)∧w.cell? ⟨U,9,none⟩=some (.bool u.hasF)∧ ∀i,w.frozen? ⟨U,i,none⟩=false:=zbW h
theorem UB.new (x:World) (u:UZ) (pv:Value):UB (x.alloc (.cells (u.cells pv) 27)) x.heap.size u pv:=heap_alloc_new x _
theorem zcP (x:World) (cs:Array Value):Below x.heap.size x (x.alloc (.cells cs 27)):=(yeD _ x).alloc (yeB _) _
theorem zqC (a name:List UInt8) (w:World) (hl:a.length≤1000000) (hmax:MaxVar w):
  Calls Tryz.prog 74 #[.string ⟨a.toArray⟩,.string ⟨name.toArray⟩] w (RetURL w (zkA name a) (.slice none 0 0)):=by
 obtain ⟨z,m,r,hz,hzm,hzr,hz1,hm,hr,hu,hp,hb⟩:=who_at a
 have hs1:=ziJ a m hm
 have hs2: ∀W,(Instr.slice 9 (.string ⟨a.toArray⟩) (some (.int .i64 (z+1))) none none).run Tryz.prog W= .ok (.string ⟨(a.drop r).toArray⟩) W:=by rw [hzr];exact zeN a r hr
 have hzs:(ByteArray.mk a.toArray).size=a.length:=zaA a
 have HLI:Hid (∀W,Calls Tryz.prog 115 #[.string ⟨a.toArray⟩,.int .u8 64] W fun e w'=>e= .returned (.int .i64 z)∧W=w'):=fun W=>(Tryz.strings_LastIndexByte ⟨a.toArray⟩ 64 (by omega) W).mono (fun e w' h=>⟨by rw [h.1,hz],h.2.symm⟩)
 have htl:(a.take m).length≤a.length:=by rw [List.length_take];omega
 have hc1:=(zsN (a.take m)).1
 have hc2:=(zsN (a.take m)).2
 have HCU:Hid (∀W,MaxVar W→Calls Tryz.prog 116 #[.string ⟨(a.take m).toArray⟩,.string ⟨#[58]⟩] W fun e w'=>e= .returned (.tuple #[.string ⟨(Lib.cut (a.take m) [58]).1.toArray⟩,.string ⟨(Lib.cut (a.take m) [58]).2.1.toArray⟩,.bool (Lib.cut (a.take m) [58]).2.2])∧Below W.heap.size W w'):=fun W hW=>by
  obtain ⟨mm,hmm⟩:=hW
  exact (Tryz.strings_Cut ⟨(a.take m).toArray⟩ ⟨#[58]⟩ mm W (by rw [zaA];omega) hmm).mono (fun e w' h=>⟨h.1,by obtain ⟨n,rfl⟩:=h.2;exact zaP (yeD _ _) n⟩)
 have HUS:=yeA (fun W=>zfZ 5 (Lib.cut (a.take m) [58]).1 W (by decide) (by omega))
 have HPS:=yeA (fun W=>zfZ 5 (Lib.cut (a.take m) [58]).2.1 W (by decide) (by omega))
 rw [←hu] at HUS
 rw [←hp] at HPS
 generalize Lib.cut (a.take m) [58]=cu at*
 generalize a.take m=ta at*
 have hbl:(a.drop r).length≤a.length:=by rw [List.length_drop];omega
 have HRC:Hid (zkA name a=if (zdC (hpW false (a.drop r)).1).2≠0 then (zbO,(zdC (hpW false (a.drop r)).1).2) else if (zgG name (hpW false (a.drop r)).2).2=false then (zbO,8) else ({zbO with scheme:=name,user:=zhM a,pass:=zhO a,host:=(zdC (hpW false (a.drop r)).1).1,port:=(zgG name (hpW false (a.drop r)).2).1},0)):=by show _=_;rw [←hb];rfl
 have hh1:=(zvI (a.drop r) false).1
 have hh2:=(zvI (a.drop r) false).2
 have HMH:=yeA (fun M W (h:MB W M (a.drop r))=>z3R M (a.drop r) W h)
 have HSK:=yeA (fun M W (h:MB W M ((a.drop r).drop (zcE zgO false (a.drop r))))=>zgI M _ [58] W h)
 rw [z3E] at HSK
 generalize (a.drop r).drop (zcE zgO false (a.drop r))=l1 at*
 generalize hd1 [58] l1=kb at*
 generalize zhM a=us at*
 generalize zhO a=pw at*
 generalize hpW false (a.drop r)=hp2 at*
 generalize a.drop r=bh at*
 have HHP:=yeA (fun W (h:MaxVar W)=>zpG ⟨hp2.1.toArray⟩ W (by rw [zaA];omega) h)
 rw [zaC] at HHP
 have hhe:=z3F (l:=hp2.1)
 have HRP:=yeA (fun W=>zqW name hp2.2 W)
 have HX:=yeA hmax
 obtain ⟨x0,hx0⟩: ∃y,y=w.alloc (.cells zcN 27):=⟨_,rfl⟩
 have HB0:Hid (Below w.heap.size w x0):=by show Below _ _ _;rw [hx0];exact (yeD _ w).alloc (yeB _) _
 have HR0:Hid (RB x0 w.heap.size):=by show RB _ _;rw [hx0];exact RB.new w
 have HX0:=yeA (zaF hmax HB0.out)
 unfold zcN at hx0
 clear hmax hz hb hu hp hzr
 go_enter Tryz.func74,Tryz.ntmps74
 go_wp2_with fail
 rw [←hx0]
 clear hx0
 refine (HLI.out _).mono ?_
 rintro e w' ⟨rfl,rfl⟩
 go_wp2_with fail
 refine (HCU.out _ HX0.out).mono ?_
 rintro e x1 ⟨rfl,hb1⟩
 have HB1:=yeA (zaK HB0.out hb1)
 have HR1:=yeA (HR0.out.below hb1)
 clear hb1 HB0 HR0 HCU HLI HX0
 obtain ⟨x2,hx2⟩: ∃y,y=x1.alloc (.cells #[.string ⟨bh.toArray⟩] 67):=⟨_,rfl⟩
 have hb2:Below x1.heap.size x1 x2:=by rw [hx2];exact (yeD _ _).alloc (yeB _) _
 have HB2:=yeA (zaK HB1.out hb2)
 have HR2:=yeA (HR1.out.below hb2)
 have hM2:MB x2 x1.heap.size bh:=by rw [hx2];exact heap_alloc_new x1 _
 have HMH2:=yeA (HMH.out _ _ hM2)
 have hRM:w.heap.size≠x1.heap.size:=by have:=HR1.out.lt;omega
 have hwM:w.heap.size≤x1.heap.size:=HB1.out.size
 clear hb2 HB1 HR1 HMH hM2
 go_wp2_with fail
 rw [←hx2]
 clear hx2
 refine HMH2.out.mono ?_
 rintro e x3 ⟨rfl,hm3,ho3⟩
 have HB3:=yeA (HB2.out.trans (ho3.below HB2.out.size (fun x hx=>by rw [List.mem_singleton.1 hx];exact hwM)))
 have HR3:=yeA (HR2.out.only ho3 (by simp [hRM]))
 have HM3:=yeA hm3
 clear ho3 hm3 HMH2 HB2 HR2
 go_wp2_with fail
 refine (HHP.out _ (zaF HX.out HB3.out)).mono ?_
 rintro e x4 ⟨rfl,hb4⟩
 have HB4:=yeA (zaK HB3.out hb4)
 have HR4:=yeA (HR3.out.below hb4)
 have HM4:=yeA (HM3.out.below hb4)
 clear HB3 HR3 HM3 hb4 HHP HX
 have hok:=zpK (l:=hp2.1)
 generalize zdC hp2.1=hz at*
 obtain ⟨h,he⟩:=hz
 simp only at hhe hok HRC ⊢
 by_cases h0:he=0
 ·obtain ⟨it,iv,hiv⟩:=HZ.iface (hok h0).ne
  rw [hiv]
  have HIV:=yeA hiv
  clear hiv hok
  have HRC2:=yeA (HRC.out.trans (if_neg (fun g=>g h0)))
  have hd0:(he !=(0:Int))=false:=by rw [h0];rfl
  clear hhe HRC h0
  have HSK4:=yeA (HSK.out _ _ HM4.out)
  go_wp2_with fail
  refine HSK4.out.mono ?_
  rintro e x5 ⟨rfl,hm5,ho5⟩
  have HB5:=yeA (HB4.out.trans (ho5.below HB4.out.size (fun x hx=>by rw [List.mem_singleton.1 hx];exact hwM)))
  have HR5:=yeA (HR4.out.only ho5 (by simp [hRM]))
  have c5:=hm5.cell
  clear ho5 hm5 HB4 HR4 HM4 HSK HSK4
  go_wp2_with fail
  refine (HRP.out _).mono ?_
  rintro e x6 ⟨rfl,hb6⟩
  have HB6:=yeA (zaK HB5.out hb6)
  have HR6:=yeA (HR5.out.below hb6)
  clear HB5 HR5 hb6 HRP c5
  generalize zgG name hp2.2=po at*
  obtain ⟨pn,pb⟩:=po
  simp only at HRC2 ⊢
  cases pb with
  |false=>
   have HRC3:=yeA (HRC2.out.trans (if_pos rfl))
   obtain ⟨c0,c1,c2,c3,c4,c5,c6,c7,c8,c9,hrow⟩:=HR6.out
   have HRW:=yeA hrow
   obtain ⟨k0,k1,k2,k3,k4,k5,k6,k7,k8,k9,kf⟩:=zbW hrow
   clear hrow HR6 HRC2 HUS HPS
   have HEND:=yeA (zlS HRW.out (.string ⟨#[]⟩) (.string ⟨#[]⟩) (.string ⟨#[]⟩) .nilIface (.int .i64 0) (.slice none 0 0) (.string ⟨#[]⟩) (.bool false) (.string ⟨#[]⟩) (.bool false))
   have HEB:=yeA (zdS HB6.out (yeB _) (.string ⟨#[]⟩) (.string ⟨#[]⟩) (.string ⟨#[]⟩) .nilIface (.int .i64 0) (.slice none 0 0) (.string ⟨#[]⟩) (.bool false) (.string ⟨#[]⟩) (.bool false))
   go_wp2
   obtain ⟨e0,e1,e2,e3,e4,e5,e6,e7,e8,e9,-⟩:=zbW HEND.out
   refine bodyPost_ret (v:= .tuple #[.agg zcN,.int .i64 8]) (by simp [results,Tryz.results74,go_sem,e0,e1,e2,e3,e4,e5,e6,e7,e8,e9,zcN]) rfl ?_
   rw [HRC3.out]
   exact ⟨rfl,HEB.out⟩
  |true=>
   have HRC3:=yeA (HRC2.out.trans (if_neg (by decide)))
   clear HRC2
   obtain ⟨x7,hx7⟩: ∃y,y=x6.alloc (.cells #[.string ⟨name.toArray⟩,.string ⟨#[]⟩,.string ⟨#[]⟩,(.iface it iv),.int .i64 pn,.slice none 0 0,.string ⟨#[]⟩,.bool false,.string ⟨#[]⟩,.bool false] 27):=⟨_,rfl⟩
   have hU7:UB x7 x6.heap.size {zbO with scheme:=name,host:=h,port:=pn} (.slice none 0 0):=by rw [hx7,←HIV.out];exact heap_alloc_new x6 _
   have hb7:Below x6.heap.size x6 x7:=by rw [hx7];exact zcP x6 _
   have HB7:=yeA (zaK HB6.out hb7)
   have HR7:=yeA (HR6.out.below hb7)
   have HU7:=yeA hU7
   have hgw:w.heap.size≤x6.heap.size:=HB6.out.size
   have hgR:w.heap.size≠x6.heap.size:=by have:=HR6.out.lt;omega
   clear HB6 HR6 hb7 hU7
   go_wp2_with fail
   rw [←hx7]
   clear hx7
   generalize x6.heap.size=g at*
   refine (HUS.out _).mono ?_
   rintro e x8 ⟨rfl,hb8⟩
   have HB8:=yeA (zaK HB7.out hb8)
   have HR8:=yeA (HR7.out.below hb8)
   have HU8:=yeA (HU7.out.below hb8)
   obtain ⟨-,c1,-,-,-,-,-,-,-,-,f8⟩:=HU8.out.all
   have f81:=f8 1
   have HB9:=yeA (HB8.out.setCell (p:=⟨g,1,none⟩) hgw (.string ⟨us.toArray⟩))
   have HR9:=yeA (HR8.out.set (i:=1) hgR (.string ⟨us.toArray⟩))
   have HU9:=yeA (HU8.out.who us)
   clear hb8 HB7 HR7 HU7 HB8 HR8 HU8 HUS f8
   go_wp2_with fail
   clear c1 f81
   generalize x8.setCell ⟨g,1,none⟩ (.string ⟨us.toArray⟩)=x9 at*
   refine (HPS.out _).mono ?_
   rintro e y8 ⟨rfl,hb8⟩
   have HB8:=yeA (zaK HB9.out hb8)
   have HR8:=yeA (HR9.out.below hb8)
   have HU8:=yeA (HU9.out.below hb8)
   obtain ⟨-,-,c2,-,-,-,-,-,-,-,f8⟩:=HU8.out.all
   have f82:=f8 2
   have HBA:=yeA (HB8.out.setCell (p:=⟨g,2,none⟩) hgw (.string ⟨pw.toArray⟩))
   have HRA:=HR8.out.set (i:=2) hgR (.string ⟨pw.toArray⟩)
   have HUA:=HU8.out.pwd pw
   have HUL:(y8.setCell ⟨g,2,none⟩ (.string ⟨pw.toArray⟩)).heap[g]? =some (.cells #[.string ⟨name.toArray⟩,.string ⟨us.toArray⟩,.string ⟨pw.toArray⟩,(.iface it iv),.int .i64 pn,.slice none 0 0,.string ⟨#[]⟩,.bool false,.string ⟨#[]⟩,.bool false] 27):=by rw [←HIV.out];exact HUA
   obtain ⟨d0,d1,d2,d3,d4,d5,d6,d7,d8,d9,-⟩:=zbW HUL
   obtain ⟨c0,c1,c2',c3,c4,c5,c6,c7,c8,c9,hrow⟩:=HRA
   have HRW:=yeA hrow
   obtain ⟨k0,k1,k2,k3,k4,k5,k6,k7,k8,k9,kf⟩:=zbW hrow
   clear hrow hb8 HB9 HR9 HU9 HB8 HR8 HU8 HPS f8 HUA HUL
   have HEND:=yeA (zlS HRW.out (.string ⟨name.toArray⟩) (.string ⟨us.toArray⟩) (.string ⟨pw.toArray⟩) (.iface it iv) (.int .i64 pn) (.slice none 0 0) (.string ⟨#[]⟩) (.bool false) (.string ⟨#[]⟩) (.bool false))
   have HEB:=yeA (zdS HBA.out (yeB _) (.string ⟨name.toArray⟩) (.string ⟨us.toArray⟩) (.string ⟨pw.toArray⟩) (.iface it iv) (.int .i64 pn) (.slice none 0 0) (.string ⟨#[]⟩) (.bool false) (.string ⟨#[]⟩) (.bool false))
   go_wp2
   obtain ⟨e0,e1,e2,e3,e4,e5,e6,e7,e8,e9,-⟩:=zbW HEND.out
   refine bodyPost_ret (v:= .tuple #[.agg #[.string ⟨name.toArray⟩,.string ⟨us.toArray⟩,.string ⟨pw.toArray⟩,(.iface it iv),.int .i64 pn,.slice none 0 0,.string ⟨#[]⟩,.bool false,.string ⟨#[]⟩,.bool false],.int .i64 0]) (by simp [results,Tryz.results74,go_sem,e0,e1,e2,e3,e4,e5,e6,e7,e8,e9]) rfl ?_
   rw [HRC3.out]
   exact ⟨by rw [←HIV.out];rfl,HEB.out⟩
 ·have HRC2:=yeA (HRC.out.trans (if_pos h0))
  have hd0:(he !=(0:Int))=true:=by rw [bne_iff_ne];exact h0
  obtain rfl:h= .none:=hhe h0
  obtain ⟨c0,c1,c2,c3,c4,c5,c6,c7,c8,c9,hrow⟩:=HR4.out
  have HRW:=yeA hrow
  obtain ⟨k0,k1,k2,k3,k4,k5,k6,k7,k8,k9,kf⟩:=zbW hrow
  clear hrow HR4 HRC HUS HPS hhe h0 hok
  have HEND:=yeA (zlS HRW.out (.string ⟨#[]⟩) (.string ⟨#[]⟩) (.string ⟨#[]⟩) .nilIface (.int .i64 0) (.slice none 0 0) (.string ⟨#[]⟩) (.bool false) (.string ⟨#[]⟩) (.bool false))
  have HEB:=yeA (zdS HB4.out (yeB _) (.string ⟨#[]⟩) (.string ⟨#[]⟩) (.string ⟨#[]⟩) .nilIface (.int .i64 0) (.slice none 0 0) (.string ⟨#[]⟩) (.bool false) (.string ⟨#[]⟩) (.bool false))
  go_wp2
  obtain ⟨e0,e1,e2,e3,e4,e5,e6,e7,e8,e9,-⟩:=zbW HEND.out
  refine bodyPost_ret (v:= .tuple #[.agg zcN,.int .i64 he]) (by simp [results,Tryz.results74,go_sem,e0,e1,e2,e3,e4,e5,e6,e7,e8,e9,zcN]) rfl ?_
  rw [HRC2.out]
  exact ⟨rfl,HEB.out⟩
theorem z7D (l:List UInt8):(if hd1 [47,92] l=true then l.drop 1 else l)=offW l:=by
 match l with
 |[]=>rfl
 |c::r=>
  have e:hd1 [47,92] (c::r)=zbQ c:=by
   have b: ∀d:UInt8,(d==c)=(c==d):=fun d=>by rw [Bool.eq_iff_iff,beq_iff_eq,beq_iff_eq];exact eq_comm
   have h47:=b 47
   have h92:=b 92
   show hasB [47,92] c=zbQ c
   simp only [hasB,List.any_cons,List.any_nil,Bool.or_false,h47,h92,zbQ]
  rw [e]
  rfl
theorem z5Y (l:List UInt8):l.drop (l.findIdx (hasB [63,35]))=[]∨(l.drop (l.findIdx (hasB [63,35]))).head? =some 63∨(l.drop (l.findIdx (hasB [63,35]))).head? =some 35:=by
 by_cases h:l.findIdx (hasB [63,35])<l.length
 ·have h1:=List.findIdx_getElem (w:=h)
  rw [zsK,dif_pos h]
  have h2:l[l.findIdx (hasB [63,35])]=63∨l[l.findIdx (hasB [63,35])]=35:=by
   have:=h1
   simp only [hasB,List.any_cons,List.any_nil,Bool.or_false,Bool.or_eq_true,beq_iff_eq] at this
   rcases this with g|g
   ·exact .inl g.symm
   ·exact .inr g.symm
  rcases h2 with g|g
  ·exact .inr (.inl (by rw [g]))
  ·exact .inr (.inr (by rw [g]))
 ·exact .inl (List.drop_eq_nil_of_le (by omega))
theorem zzL (u:UZ) (from_:List (List UInt8)) (l:List UInt8):zeA u from_ l=finC {u with path:=zkV from_ (l.take (l.findIdx (hasB [63,35])))} (l.drop (l.findIdx (hasB [63,35]))):=by
 unfold zeA
 exact (z7P _ (z5Y l)).symm
theorem z5P (u:UZ) (l:List UInt8):(finC u l).path=u.path:=by
 unfold finC;repeat' split
 all_goals rfl
theorem zaO.only {B:Nat} {F:List Nat} {w w':World} {v:Value} {ps:List (List UInt8)} (h:zaO B w v ps) (ho:Only F w w') (hF: ∀b∈F,b<B):zaO B w' v ps:=
 znW h (fun b hb=>ho.block b (World.ownsRow.lt h b hb).2 (fun g=>by have:=hF b g;have:=(World.ownsRow.lt h b hb).1;omega))
def RetUP (w:World) (M:Nat) (x:UZ×Int) (e:Ending) (w':World):Prop:= ∃pv,e= .returned (.tuple #[.agg (x.1.cells pv),.int .i64 x.2])∧zaO w.heap.size w' pv x.1.path∧Only [M] w w'
theorem z5I {w x y:World} {M G:Nat} (hb:Only [M] w x) (hG:w.heap.size≤G) (h:Only [M,G] x y):Only [M] w y:=
 hb.trans h (fun z hz=>by
  rcases List.mem_cons.1 hz with e|e
  ·exact .inl (by rw [e];exact yeF ..)
  ·rw [yeE] at e;exact .inr (by omega))
theorem z3S (u:UZ) (l:List UInt8):(finC u l).host=u.host:=by
 unfold finC;repeat' split
 all_goals rfl
theorem zzN {name a:List UInt8} (h:(zkA name a).2=0):(zkA name a).1.host≠ .none:=by
 unfold zkA at*
 split at h
 ·rename_i h1;exact absurd h h1
 ·rename_i h1
  rw [if_neg h1]
  split at h
  ·cases h
  ·rename_i h2
   rw [if_neg h2]
   exact (zpK (Decidable.not_not.1 h1)).ne
theorem PV.shape {w:World} {v:Value} {ps:List (List UInt8)} (h:PV w v ps): ∃a n c,v= .slice a n c:=by
 rcases h with ⟨_,h⟩|⟨g,c,h,_⟩
 ·exact ⟨_,_,_,h⟩
 ·exact ⟨_,_,_,h⟩
theorem z0L {name a:List UInt8} (h:(zkA name a).2≠0):(zkA name a).1=zbO:=by
 unfold zkA at*
 split
 ·rfl
 ·rename_i h1
  rw [if_neg h1] at h
  split
  ·rfl
  ·rename_i h2
   rw [if_neg h2] at h
   exact absurd rfl h
theorem zuQ (l:List UInt8):(offW l).length≤l.length:=by
 match l with
 |[]=>exact yeB _
 |c::r=>
  show (if zbQ c=true then r else c::r).length≤(c::r).length
  split<;>simp
theorem zrW (M:Nat) (l name:List UInt8) (w:World) (hl:l.length≤100000) (hm:MB w M l) (hmax:MaxVar w) (hn:ownZ name=80∨ownZ name=443):
  Calls Tryz.prog 41 #[.pointer (some ⟨M,0,none⟩),.string ⟨name.toArray⟩] w (RetUP w M (zdV name l)):=by
 have HRES:=yeA (zzI name l hn)
 have HU1:=yeA (fun W (h:MB W M l)=>zgQ [47,92,63,35] (by decide) M l W h)
 have hal:(l.take (l.findIdx (hasB [47,92,63,35]))).length≤l.length:=by rw [List.length_take];omega
 have hrl:(l.drop (l.findIdx (hasB [47,92,63,35]))).length≤l.length:=by rw [List.length_drop];omega
 generalize l.take (l.findIdx (hasB [47,92,63,35]))=a at*
 generalize l.drop (l.findIdx (hasB [47,92,63,35]))=rest at*
 have HRA:=yeA (fun W (h:MaxVar W)=>zqC a name W (by omega) h)
 have hRe:=z0L (name:=name) (a:=a)
 have hRh:=zzN (name:=name) (a:=a)
 generalize zkA name a=rc at*
 obtain ⟨u,er⟩:=rc
 simp only at HRES hRe hRh
 have HSK:=yeA (fun W (h:MB W M rest)=>zgI M rest [47,92] W h)
 rw [z7D] at HSK
 have hol:=zuQ rest
 have HWF:=yeA (zzL u [] (offW rest))
 generalize hd1 [47,92] rest=kb at*
 generalize offW rest=t at*
 have HPA:=yeA (fun W (h:MB W M t) (hx:MaxVar W)=>z6H M t (.slice none 0 0) [] W (by omega) (by simp) h (.inl ⟨rfl,rfl⟩) hx)
 have hll:(t.drop (t.findIdx (hasB [63,35]))).length≤t.length:=by rw [List.length_drop];omega
 generalize zkV [] (t.take (t.findIdx (hasB [63,35])))=ps at*
 generalize t.drop (t.findIdx (hasB [63,35]))=left at*
 have HX:=yeA hmax
 have HM:=yeA hm
 have hMw:=zaT hm
 obtain ⟨x0,hx0⟩: ∃y,y=w.alloc (.cells zcN 27):=⟨_,rfl⟩
 have hb0:Below w.heap.size w x0:=by rw [hx0];exact zcP w _
 have HR0:Hid (RB x0 w.heap.size):=by show RB _ _;rw [hx0];exact RB.new w
 have hM0:MB x0 M l:=hm.below hb0
 have HU:=yeA (HU1.out x0 hM0)
 have HO0:Hid (Only [M] w x0):=Only.of_below hb0
 unfold zcN at hx0
 clear hmax hm hn hb0 hM0 HU1
 go_enter Tryz.func41,Tryz.ntmps41
 go_wp2_with fail
 rw [←hx0]
 clear hx0
 refine (zmD [47,92,63,35] _).mono ?_
 rintro e x1 ⟨rfl,rfl⟩
 go_wp2_with fail
 refine HU.out.mono ?_
 rintro e x2 ⟨rfl,hm2,ho2⟩
 have hRM:w.heap.size≠M:=by omega
 have HR2:=yeA (HR0.out.only ho2 (by simp [hRM]))
 have HO2:=yeA (HO0.out.trans ho2 (fun x hx=> .inl hx))
 have HM2:=yeA hm2
 have HX2:=yeA (zlV HX.out HM.out HO2.out)
 clear HU HR0 HO0 ho2 hm2
 go_wp2_with fail
 refine (HRA.out _ HX2.out).mono ?_
 rintro e x3 ⟨rfl,hb3⟩
 have HR3:=yeA (HR2.out.below hb3)
 have HO3:=yeA (HO2.out.then_below hb3)
 have HM3:=yeA (HM2.out.below hb3)
 clear HRA HR2 HO2 HM2 HX2 hb3
 have hw3:w.heap.size≤x3.heap.size:=HO3.out.size
 have hRg:w.heap.size≠x3.heap.size:=by have:=HR3.out.lt;omega
 have hMg:x3.heap.size≠M:=by have:=zaT HM3.out;omega
 by_cases h0:er=0
 ·have hd0:(er !=(0:Int))=false:=by rw [h0];rfl
  have HRES2:=yeA (HRES.out.trans (if_neg (fun k=>k h0)))
  obtain ⟨it,iv,hiv⟩:=HZ.iface (hRh h0)
  clear hRe hRh HRES h0
  obtain ⟨x4,hx4⟩: ∃y,y=x3.alloc (.cells (u.cells (.slice none 0 0)) 27):=⟨_,rfl⟩
  have HU4:Hid (UB x4 x3.heap.size u (.slice none 0 0)):=by show UB _ _ _ _;rw [hx4];exact UB.new x3 u _
  have hb4:Below x3.heap.size x3 x4:=by rw [hx4];exact zcP x3 _
  have HR4:=yeA (HR3.out.below hb4)
  have HO4:=yeA (HO3.out.then_below hb4)
  have HM4:=yeA (HM3.out.below hb4)
  have hg4:x3.heap.size<x4.heap.size:=by have:=zaT HU4.out;exact this
  clear HR3 HO3 HM3 hb4
  simp only [UZ.cells] at hx4 ⊢
  rw [hiv] at hx4 ⊢
  have HIV:=yeA hiv
  clear hiv
  have HS4:=yeA (HSK.out _ HM4.out)
  go_wp2_with fail
  rw [←hx4]
  clear hx4
  generalize x3.heap.size=g at*
  refine HS4.out.mono ?_
  rintro e x5 ⟨rfl,hm5,ho5⟩
  have HR5:=yeA (HR4.out.only ho5 (by simp [hRM]))
  have HU5:=yeA (HU4.out.only ho5 (by simp [hMg]))
  have HO5:=yeA (HO4.out.trans ho5 (fun x hx=> .inl hx))
  have HP5:=yeA (HPA.out _ hm5 (zlV HX.out HM.out HO5.out))
  have hg5:g<x5.heap.size:=zaT HU5.out
  clear HS4 HSK HPA HR4 HU4 HO4 HM4 hm5 ho5
  go_wp2_with fail
  refine HP5.out.mono ?_
  rintro e x6 ⟨pv,rfl,hp6,hm6,ho6⟩
  obtain ⟨sa,sn,sc,rfl⟩:=hp6.pv.shape
  have HR6:=yeA (HR5.out.only ho6 (by simp [hRM]))
  have HU6:=yeA (HU5.out.only ho6 (by simp [hMg]))
  have HO6:=yeA (HO5.out.trans ho6 (fun x hx=> .inl hx))
  have HP6:=yeA hp6
  have HM6:=yeA hm6
  clear HP5 HR5 HU5 HO5 hp6 hm6 ho6
  obtain ⟨-,-,-,-,-,c5,-,-,-,-,f6⟩:=HU6.out.all
  have f65:=f6 5
  have hset:Only [g] x6 (x6.setCell ⟨g,5,none⟩ (.slice sa sn sc)):=(Only.refl _ _).setCell (p:=⟨g,5,none⟩) (.inl (yeF ..)) _
  have HR7:=yeA (HR6.out.set (i:=5) hRg (.slice sa sn sc))
  have HU7:Hid (UB (x6.setCell ⟨g,5,none⟩ (.slice sa sn sc)) g {u with path:=ps} (.slice sa sn sc)):=HU6.out.pth (.slice sa sn sc)
  have HM7:Hid (MB (x6.setCell ⟨g,5,none⟩ (.slice sa sn sc)) M left):=HM6.out.only hset (by simp [Ne.symm hMg])
  have HO7:Hid (Only [M] w (x6.setCell ⟨g,5,none⟩ (.slice sa sn sc))):=HO6.out.setCell (p:=⟨g,5,none⟩) (.inr hw3) _
  have HP7:=yeA (HP6.out.only hset (fun b hb=>by rw [List.mem_singleton.1 hb];exact hg5))
  have HF7:=yeA (zxW M g left {u with path:=ps} (.slice sa sn sc) _ (by omega) HM7.out HU7.out)
  clear HR6 HU6 HO6 HP6 HM6 hset f6
  go_wp2_with fail
  clear c5 f65
  generalize x6.setCell ⟨g,5,none⟩ (.slice sa sn sc)=x7 at*
  refine HF7.out.mono ?_
  rintro e x8 ⟨rfl,hu8,ho8⟩
  have HR8:=HR7.out.only ho8 (by simp [hRM,hRg])
  have HO8:=yeA (z5I HO7.out hw3 ho8)
  have HP8:=yeA (HP7.out.only ho8 (fun b hb=>by
   rcases List.mem_cons.1 hb with e|e
   ·rw [e];omega
   ·rw [yeE] at e;omega))
  have HVH:Hid ((finC {u with path:=ps} left).host.val= .iface it iv):=by show _=_;rw [z3S];exact HIV.out
  have HFP:Hid ((finC {u with path:=ps} left).path=ps):=z5P _ _
  have HWF2:Hid (zeA u [] t=finC {u with path:=ps} left):=HWF.out
  rw [HWF2.out] at HRES2
  clear HWF HWF2 HF7 HR7 HU7 HO7 HP7 HM7 ho8
  generalize finC {u with path:=ps} left=v at*
  obtain ⟨d0,d1,d2,d3,d4,d5,d6,d7,d8,d9,-⟩:=hu8.all
  rw [HVH.out] at d3
  obtain ⟨c0,c1,c2,c3,c4,c5,c6,c7,c8,c9,hrow⟩:=HR8
  have HRW:=yeA hrow
  obtain ⟨k0,k1,k2,k3,k4,k5,k6,k7,k8,k9,kf⟩:=zbW hrow
  clear hrow hu8
  have HEND:=yeA (zlS HRW.out (.string ⟨v.scheme.toArray⟩) (.string ⟨v.user.toArray⟩) (.string ⟨v.pass.toArray⟩) (.iface it iv) (.int .i64 v.port) (.slice sa sn sc) (.string ⟨v.query.toArray⟩) (.bool v.hasQ) (.string ⟨v.frag.toArray⟩) (.bool v.hasF))
  have HEO:=yeA (zhB (g:=w.heap.size) HO8.out (.inr (yeB _)) (.string ⟨v.scheme.toArray⟩) (.string ⟨v.user.toArray⟩) (.string ⟨v.pass.toArray⟩) (.iface it iv) (.int .i64 v.port) (.slice sa sn sc) (.string ⟨v.query.toArray⟩) (.bool v.hasQ) (.string ⟨v.frag.toArray⟩) (.bool v.hasF))
  have HEP:=yeA (HP8.out.only (zhB (g:=w.heap.size) (F:=[w.heap.size]) (Only.refl _ _) (.inl (yeF ..)) (.string ⟨v.scheme.toArray⟩) (.string ⟨v.user.toArray⟩) (.string ⟨v.pass.toArray⟩) (.iface it iv) (.int .i64 v.port) (.slice sa sn sc) (.string ⟨v.query.toArray⟩) (.bool v.hasQ) (.string ⟨v.frag.toArray⟩) (.bool v.hasF)) (fun b hb=>by rw [List.mem_singleton.1 hb];omega))
  go_wp2
  obtain ⟨e0,e1,e2,e3,e4,e5,e6,e7,e8,e9,-⟩:=zbW HEND.out
  refine bodyPost_ret (v:= .tuple #[.agg #[.string ⟨v.scheme.toArray⟩,.string ⟨v.user.toArray⟩,.string ⟨v.pass.toArray⟩,.iface it iv,.int .i64 v.port,(.slice sa sn sc),.string ⟨v.query.toArray⟩,.bool v.hasQ,.string ⟨v.frag.toArray⟩,.bool v.hasF],.int .i64 0]) (by simp [results,Tryz.results41,go_sem,e0,e1,e2,e3,e4,e5,e6,e7,e8,e9]) rfl ?_
  rw [HRES2.out]
  exact ⟨(.slice sa sn sc),by rw [←HVH.out];rfl,by rw [show (v,(0:Int)).1.path=ps from HFP.out];exact zeP HEP.out (by omega),HEO.out⟩
 ·have hd0:(er !=(0:Int))=true:=by rw [bne_iff_ne];exact h0
  have HRES2:=yeA (HRES.out.trans (if_pos h0))
  obtain rfl:=hRe h0
  obtain ⟨x4,hx4⟩: ∃y,y=x3.alloc (.cells zcN 27):=⟨_,rfl⟩
  have hb4:Below x3.heap.size x3 x4:=by rw [hx4];exact zcP x3 _
  have HR4:=yeA (HR3.out.below hb4)
  have HO4:=yeA (HO3.out.then_below hb4)
  rw [zuB]
  unfold zcN at hx4 ⊢
  clear HR3 HO3 HM3 hb4 hRh
  obtain ⟨c0,c1,c2,c3,c4,c5,c6,c7,c8,c9,hrow⟩:=HR4.out
  have HRW:=yeA hrow
  obtain ⟨k0,k1,k2,k3,k4,k5,k6,k7,k8,k9,kf⟩:=zbW hrow
  clear hrow hRe h0 HR4
  have HEND:=yeA (zlS HRW.out (.string ⟨#[]⟩) (.string ⟨#[]⟩) (.string ⟨#[]⟩) .nilIface (.int .i64 0) (.slice none 0 0) (.string ⟨#[]⟩) (.bool false) (.string ⟨#[]⟩) (.bool false))
  have HEO:=yeA (zhB (g:=w.heap.size) HO4.out (.inr (yeB _)) (.string ⟨#[]⟩) (.string ⟨#[]⟩) (.string ⟨#[]⟩) .nilIface (.int .i64 0) (.slice none 0 0) (.string ⟨#[]⟩) (.bool false) (.string ⟨#[]⟩) (.bool false))
  rw [hx4] at k0 k1 k2 k3 k4 k5 k6 k7 k8 k9 kf HEND HEO
  clear hx4
  go_wp2
  obtain ⟨e0,e1,e2,e3,e4,e5,e6,e7,e8,e9,-⟩:=zbW HEND.out
  refine bodyPost_ret (v:= .tuple #[.agg zcN,.int .i64 er]) (by simp [results,Tryz.results41,go_sem,e0,e1,e2,e3,e4,e5,e6,e7,e8,e9,zcN]) rfl ?_
  rw [HRES2.out]
  exact ⟨.slice none 0 0,rfl,zaO.nil _ _,HEO.out⟩
theorem z3P {c:UInt8} {n:Nat} (hn:n<256):(((c.toNat:Int))==(n:Int))=decide (c=UInt8.ofNat n):=by
 rw [Bool.eq_iff_iff,beq_iff_eq,decide_eq_true_eq,←UInt8.toNat_inj,UInt8.toNat_ofNat_of_lt' (by simpa using hn)]
 omega
def RetP (w:World) (x:UZ×Int) (e:Ending) (w':World):Prop:= ∃pv,e= .returned (.tuple #[.agg (x.1.cells pv),.int .i64 x.2])∧zaO w.heap.size w' pv x.1.path∧Below w.heap.size w w'
theorem HZ.shape (h:HZ):h.val= .nilIface∨ ∃t v,h.val= .iface t v:=by
 cases h with
 |none=>exact .inl rfl
 |name l=>exact .inr ⟨_,_,rfl⟩
 |addr a=>cases a<;>exact .inr ⟨_,_,rfl⟩
theorem own_80 {n:List UInt8} (h:ownZ n≠0):ownZ n=80∨ownZ n=443:=by
 unfold ownZ at*
 split at h
 ·exact .inl (by rename_i g;rw [if_pos g])
 ·rename_i g
  rw [if_neg g] at*
  split at h
  ·rename_i g2;exact .inr (by rw [if_pos g2])
  ·exact absurd rfl h
theorem zyM {t:List UInt8} {b:Option UZ} (hb: ∀u,b=some u→u.scheme=zlA∨u.scheme=zgN) (h: ¬4096<t.length):zdY t b=z0Z (zfS (zeV t)) b:=by
 unfold zdY
 rw [if_neg h,z4Z _ b hb]
theorem zoD {t:List UInt8} {b:Option UZ} (h:4096<t.length):zdY t b=(zbO,3):=if_pos h
theorem zmM (t:List UInt8):(zfS (zeV t)).length≤t.length:=by
 have h1:=z8G (zeV t)
 have h2:=zpF t
 have h3:=(List.dropWhile_suffix (l:=t) zcG).length_le
 omega
theorem zxI {s:List UInt8} {b:Option UZ} (h:ownZ (zhY s b)=0):z0Z s b=(zbO,5):=if_pos h
theorem z8M {s:List UInt8} (h: ¬ownZ (zhY s none)=0):z0Z s none=zdV (zhY s none) (zcW (znA s)):=if_neg h
theorem z2Y {s n r:List UInt8} {b:Option UZ} (h:schW s=some (n,r)):zhY s b=n∧znA s=r:=by
 unfold zhY znA;rw [h];exact ⟨rfl,rfl⟩
theorem z5Z {s:List UInt8} {b:UZ} (h:schW s=none):zhY s (some b)=b.scheme∧zhY s none=[]∧znA s=s:=by
 unfold zhY znA;rw [h];exact ⟨rfl,rfl,rfl⟩
theorem zhF (l:List UInt8):(zcW l).length≤l.length:=(List.dropWhile_suffix (l:=l) zbQ).length_le
theorem zpT {s n r:List UInt8} (h:schW s=some (n,r)):r.length≤s.length:=by
 rw [zsH] at h
 split at h
 ·have:=(Prod.mk.inj (Option.some.inj h)).2
  rw [←this,List.length_drop];omega
 ·cases h
theorem ziK {w x:World} {pv:Value} {u:UZ} {B:Nat} (hb:Below w.heap.size w x) (hp:zaO B x pv u.path) (hB:w.heap.size<B) (c0 c1 c2 c3 c4 c5 c6 c7 c8 c9:Value):
  zaO w.heap.size ((((((((((x.setCell ⟨w.heap.size,0,none⟩ c0).setCell ⟨w.heap.size,1,none⟩ c1).setCell ⟨w.heap.size,2,none⟩ c2).setCell ⟨w.heap.size,3,none⟩ c3).setCell ⟨w.heap.size,4,none⟩ c4).setCell ⟨w.heap.size,5,none⟩ c5).setCell ⟨w.heap.size,6,none⟩ c6).setCell ⟨w.heap.size,7,none⟩ c7).setCell ⟨w.heap.size,8,none⟩ c8).setCell ⟨w.heap.size,9,none⟩ c9) pv u.path∧
  Below w.heap.size w ((((((((((x.setCell ⟨w.heap.size,0,none⟩ c0).setCell ⟨w.heap.size,1,none⟩ c1).setCell ⟨w.heap.size,2,none⟩ c2).setCell ⟨w.heap.size,3,none⟩ c3).setCell ⟨w.heap.size,4,none⟩ c4).setCell ⟨w.heap.size,5,none⟩ c5).setCell ⟨w.heap.size,6,none⟩ c6).setCell ⟨w.heap.size,7,none⟩ c7).setCell ⟨w.heap.size,8,none⟩ c8).setCell ⟨w.heap.size,9,none⟩ c9):=
 ⟨zeP (hp.only (zhB (g:=w.heap.size) (F:=[w.heap.size]) (Only.refl _ _) (.inl (yeF ..)) _ _ _ _ _ _ _ _ _ _) (fun b hb=>by rw [List.mem_singleton.1 hb];exact hB)) (Nat.le_of_lt hB),zdS hb (yeB _) _ _ _ _ _ _ _ _ _ _⟩
theorem ztI (t:List UInt8) (w:World) (hmax:MaxVar w) (hl:t.length≤1000000):
  Calls Tryz.prog 20 #[.string ⟨t.toArray⟩,.pointer none] w (RetP w (zdY t none)):=by
 obtain ⟨x0,hx0⟩: ∃y,y=w.alloc (.cells zcN 27):=⟨_,rfl⟩
 have hb0:Below w.heap.size w x0:=by rw [hx0];exact zcP w _
 have HR0:Hid (RB x0 w.heap.size):=by show RB _ _;rw [hx0];exact RB.new w
 have hz:=zaA t
 unfold zcN at hx0
 have HX:=yeA (fun x (h:Below w.heap.size w x)=>zaF hmax h)
 by_cases hbig:4096<t.length
 ·have HF:=yeA (zoD (b:=none) hbig)
  have hd:decide (4096<(t.length:Int))=true:=yeC (by omega)
  have hbb:Below w.heap.size w (w.alloc (.cells zcN 27)):=zcP w _
  unfold zcN at hbb
  clear HR0 hb0 hx0 HX
  go_enter Tryz.func20,Tryz.ntmps20
  go_wp2
  refine bodyPost_ret (v:= .tuple #[.agg zcN,.int .i64 3]) (by simp [results,Tryz.results20,go_sem,zcN]) rfl ?_
  rw [HF.out]
  exact ⟨.slice none 0 0,rfl,zaO.nil _ _,hbb⟩
 have hd:decide (4096<(t.length:Int))=false:=decide_eq_false (by omega)
 have HF:=yeA (zyM (b:=none) (fun u e=>by cases e) hbig)
 have h4:t.length≤4096:=by omega
 have hcl:=zmM t
 have htl:(zeV t).length≤t.length:=by
  have h2:=zpF t
  have h3:=(List.dropWhile_suffix (l:=t) zcG).length_le
  omega
 have HT:=yeA (fun W=>z7T ⟨t.toArray⟩ W (by rw [zaA];omega))
 rw [zaC] at HT
 have HD:=yeA (fun W=>z8N ⟨(zeV t).toArray⟩ W (by rw [zaA];omega))
 rw [zaC] at HD
 generalize zfS (zeV t)=s at*
 generalize zeV t=t1 at*
 have HB0:=yeA hb0
 clear hmax hb0 hbig
 go_enter Tryz.func20,Tryz.ntmps20
 go_wp2_with fail
 rw [←hx0]
 clear hx0
 refine (HT.out _).mono ?_
 rintro e w' ⟨rfl,rfl⟩
 go_wp2_with fail
 refine (HD.out _).mono ?_
 rintro e x1 ⟨rfl,hb1⟩
 have HB1:=yeA (zaK HB0.out hb1)
 have HR1:=yeA (HR0.out.below hb1)
 clear hb1 HB0 HR0 HT HD hz hd
 obtain ⟨x2,hx2⟩: ∃y,y=x1.alloc (.cells #[.string ⟨s.toArray⟩] 67):=⟨_,rfl⟩
 have hb2:Below x1.heap.size x1 x2:=by rw [hx2];exact (yeD _ _).alloc (yeB _) _
 have HB2:=yeA (zaK HB1.out hb2)
 have HR2:=yeA (HR1.out.below hb2)
 have HM2:Hid (MB x2 x1.heap.size s):=by show MB _ _ _;rw [hx2];exact heap_alloc_new x1 _
 have HS2:=yeA (zyT _ s x2 (by omega) HM2.out)
 have hRM:w.heap.size≠x1.heap.size:=by have:=HR1.out.lt;omega
 have hwM:w.heap.size<x1.heap.size:=HR1.out.lt
 clear HB1 HR1 hb2 HM2
 go_wp2_with fail
 rw [←hx2]
 clear hx2
 generalize x1.heap.size=M at*
 refine HS2.out.mono ?_
 rintro e x3 ⟨rfl,hm3,ho3⟩
 have hb3:Below w.heap.size x2 x3:=ho3.below HB2.out.size (fun x hx=>by rw [List.mem_singleton.1 hx];omega)
 have HB3:=yeA (HB2.out.trans hb3)
 have HR3:=yeA (HR2.out.only ho3 (by simp [hRM]))
 have hMx3:=zaT hm3
 clear HS2 ho3 HB2 HR2 hb3
 cases hsc:schW s with
 |none=>
  obtain ⟨-,hnm,hlf⟩:=z5Z (b:=zbO) hsc
  have h0:ownZ (zhY s none)=0:=by rw [hnm];decide
  rw [hsc] at hm3
  obtain ⟨nm,hnn⟩: ∃nm,nm=([]:List UInt8):=⟨_,rfl⟩
  rw [←hnn] at hnm
  clear hsc hlf
  simp only [Option.map,Option.getD,Option.isSome] at hm3 ⊢
  have HF2:=yeA (HF.out.trans (zxI h0))
  obtain ⟨c0,c1,c2,c3,c4,c5,c6,c7,c8,c9,hrow⟩:=HR3.out
  have HRW:=yeA hrow
  obtain ⟨k0,k1,k2,k3,k4,k5,k6,k7,k8,k9,kf⟩:=zbW hrow
  have HEND:=yeA (zlS HRW.out (.string ⟨#[]⟩) (.string ⟨#[]⟩) (.string ⟨#[]⟩) .nilIface (.int .i64 0) (.slice none 0 0) (.string ⟨#[]⟩) (.bool false) (.string ⟨#[]⟩) (.bool false))
  have HEB:=yeA (zdS HB3.out (yeB _) (.string ⟨#[]⟩) (.string ⟨#[]⟩) (.string ⟨#[]⟩) .nilIface (.int .i64 0) (.slice none 0 0) (.string ⟨#[]⟩) (.bool false) (.string ⟨#[]⟩) (.bool false))
  have HOW:=yeA (fun W=>ziY ([]:List UInt8) W)
  rw [show ownZ []=0 by decide] at HOW
  clear hrow HR3 hm3 h0 hnm hnn
  go_wp2_with fail
  refine (HOW.out _).mono ?_
  rintro e w' ⟨rfl,rfl⟩
  go_wp2
  obtain ⟨e0,e1,e2,e3,e4,e5,e6,e7,e8,e9,-⟩:=zbW HEND.out
  refine bodyPost_ret (v:= .tuple #[.agg zcN,.int .i64 5]) (by simp [results,Tryz.results20,go_sem,e0,e1,e2,e3,e4,e5,e6,e7,e8,e9,zcN]) rfl ?_
  rw [HF2.out]
  exact ⟨.slice none 0 0,rfl,zaO.nil _ _,HEB.out⟩
 |some p=>
  obtain ⟨nm,lf⟩:=p
  obtain ⟨hnm,hlf⟩:=z2Y (b:=none) hsc
  have hsl:=zpT hsc
  rw [hsc] at hm3
  simp only [Option.map,Option.getD,Option.isSome] at hm3 ⊢
  by_cases h0:ownZ (zhY s none)=0
  ·have HF2:=yeA (HF.out.trans (zxI h0))
   obtain ⟨c0,c1,c2,c3,c4,c5,c6,c7,c8,c9,hrow⟩:=HR3.out
   have HRW:=yeA hrow
   obtain ⟨k0,k1,k2,k3,k4,k5,k6,k7,k8,k9,kf⟩:=zbW hrow
   have HEND:=yeA (zlS HRW.out (.string ⟨#[]⟩) (.string ⟨#[]⟩) (.string ⟨#[]⟩) .nilIface (.int .i64 0) (.slice none 0 0) (.string ⟨#[]⟩) (.bool false) (.string ⟨#[]⟩) (.bool false))
   have HEB:=yeA (zdS HB3.out (yeB _) (.string ⟨#[]⟩) (.string ⟨#[]⟩) (.string ⟨#[]⟩) .nilIface (.int .i64 0) (.slice none 0 0) (.string ⟨#[]⟩) (.bool false) (.string ⟨#[]⟩) (.bool false))
   have HOW:=yeA (fun W=>ziY nm W)
   rw [hnm] at h0
   rw [h0] at HOW
   clear hrow HR3 hm3 h0 hnm
   go_wp2_with fail
   refine (HOW.out _).mono ?_
   rintro e w' ⟨rfl,rfl⟩
   go_wp2
   obtain ⟨e0,e1,e2,e3,e4,e5,e6,e7,e8,e9,-⟩:=zbW HEND.out
   refine bodyPost_ret (v:= .tuple #[.agg zcN,.int .i64 5]) (by simp [results,Tryz.results20,go_sem,e0,e1,e2,e3,e4,e5,e6,e7,e8,e9,zcN]) rfl ?_
   rw [HF2.out]
   exact ⟨.slice none 0 0,rfl,zaO.nil _ _,HEB.out⟩
  ·have HF2:=yeA (HF.out.trans (z8M h0))
   rw [hnm,hlf] at HF2
   have hon:=own_80 (n:=nm) (by rw [←hnm];exact h0)
   have HOW:=yeA (fun W=>ziY nm W)
   have hne:(ownZ nm==(0:Int))=false:=by rw [beq_eq_false_iff_ne,←hnm];exact h0
   generalize hoz:ownZ nm=oz at*
   have HUN:=yeA (zpW M lf x3 hm3)
   go_wp2_with fail
   refine (HOW.out _).mono ?_
   rintro e w' ⟨rfl,rfl⟩
   go_wp2_with fail
   refine HUN.out.mono ?_
   rintro e xc ⟨rfl,hmc,hoc⟩
   have hbc:Below w.heap.size x3 xc:=hoc.below HB3.out.size (fun x hx=>by rw [List.mem_singleton.1 hx];omega)
   have HBC:=yeA (HB3.out.trans hbc)
   have HRC:=yeA (HR3.out.only hoc (by simp [hRM]))
   have HMC:=yeA hmc
   have hbl2:=zhF (lf)
   clear HUN HOW hoc hbc hmc hm3 HB3 HR3 hne
   generalize zcW lf=lb at*
   clear h0 hnm hlf hsc
   rw [←hoz] at hon
   go_wp2_with fail
   refine (zrW M lb nm _ (by omega) HMC.out (HX.out _ HBC.out) hon).mono ?_
   rintro e x5 ⟨pv,rfl,hp5,ho5⟩
   have hb5:Below w.heap.size xc x5:=ho5.below HBC.out.size (fun x hx=>by rw [List.mem_singleton.1 hx];omega)
   have HB5:=yeA (HBC.out.trans hb5)
   have HR5:=HRC.out.only ho5 (by simp [hRM])
   have HP5:=yeA hp5
   have hBs:w.heap.size<xc.heap.size:=HRC.out.lt
   clear ho5 hb5 hp5 HRC HMC HBC
   generalize zdV nm lb=rr at*
   obtain ⟨v,er⟩:=rr
   simp only [UZ.cells] at HP5 HF2 ⊢
   obtain ⟨sa,sn,sc,rfl⟩:=HP5.out.pv.shape
   obtain ⟨c0,c1,c2,c3,c4,c5,c6,c7,c8,c9,hrow⟩:=HR5
   have HRW:=yeA hrow
   obtain ⟨k0,k1,k2,k3,k4,k5,k6,k7,k8,k9,kf⟩:=zbW hrow
   clear hrow
   rcases v.host.shape with hv|⟨it,iv,hv⟩
   ·have HVH:=yeA hv
    rw [hv]
    clear hv
    have HEND:=yeA (zlS HRW.out (.string ⟨v.scheme.toArray⟩) (.string ⟨v.user.toArray⟩) (.string ⟨v.pass.toArray⟩) .nilIface (.int .i64 v.port) (.slice sa sn sc) (.string ⟨v.query.toArray⟩) (.bool v.hasQ) (.string ⟨v.frag.toArray⟩) (.bool v.hasF))
    have HEB:=yeA (ziK HB5.out HP5.out hBs (.string ⟨v.scheme.toArray⟩) (.string ⟨v.user.toArray⟩) (.string ⟨v.pass.toArray⟩) .nilIface (.int .i64 v.port) (.slice sa sn sc) (.string ⟨v.query.toArray⟩) (.bool v.hasQ) (.string ⟨v.frag.toArray⟩) (.bool v.hasF))
    go_wp2
    obtain ⟨e0,e1,e2,e3,e4,e5,e6,e7,e8,e9,-⟩:=zbW HEND.out
    refine bodyPost_ret (v:= .tuple #[.agg #[.string ⟨v.scheme.toArray⟩,.string ⟨v.user.toArray⟩,.string ⟨v.pass.toArray⟩,.nilIface,.int .i64 v.port,.slice sa sn sc,.string ⟨v.query.toArray⟩,.bool v.hasQ,.string ⟨v.frag.toArray⟩,.bool v.hasF],.int .i64 er]) (by simp [results,Tryz.results20,go_sem,e0,e1,e2,e3,e4,e5,e6,e7,e8,e9]) rfl ?_
    rw [HF2.out]
    exact ⟨_,by rw [←HVH.out];rfl,HEB.out⟩
   ·have HVH:=yeA hv
    rw [hv]
    clear hv
    have HEND:=yeA (zlS HRW.out (.string ⟨v.scheme.toArray⟩) (.string ⟨v.user.toArray⟩) (.string ⟨v.pass.toArray⟩) (.iface it iv) (.int .i64 v.port) (.slice sa sn sc) (.string ⟨v.query.toArray⟩) (.bool v.hasQ) (.string ⟨v.frag.toArray⟩) (.bool v.hasF))
    have HEB:=yeA (ziK HB5.out HP5.out hBs (.string ⟨v.scheme.toArray⟩) (.string ⟨v.user.toArray⟩) (.string ⟨v.pass.toArray⟩) (.iface it iv) (.int .i64 v.port) (.slice sa sn sc) (.string ⟨v.query.toArray⟩) (.bool v.hasQ) (.string ⟨v.frag.toArray⟩) (.bool v.hasF))
    go_wp2
    obtain ⟨e0,e1,e2,e3,e4,e5,e6,e7,e8,e9,-⟩:=zbW HEND.out
    refine bodyPost_ret (v:= .tuple #[.agg #[.string ⟨v.scheme.toArray⟩,.string ⟨v.user.toArray⟩,.string ⟨v.pass.toArray⟩,(.iface it iv),.int .i64 v.port,.slice sa sn sc,.string ⟨v.query.toArray⟩,.bool v.hasQ,.string ⟨v.frag.toArray⟩,.bool v.hasF],.int .i64 er]) (by simp [results,Tryz.results20,go_sem,e0,e1,e2,e3,e4,e5,e6,e7,e8,e9]) rfl ?_
    rw [HF2.out]
    exact ⟨_,by rw [←HVH.out];rfl,HEB.out⟩
theorem z1M (t:List UInt8) (w:World) (hmax:MaxVar w) (hl:t.length≤1000000):
  Calls Tryz.prog 7 #[.string ⟨t.toArray⟩] w (RetP w (zdY t none)):=by
 obtain ⟨x0,hx0⟩: ∃y,y=w.alloc (.cells zcN 27):=⟨_,rfl⟩
 have hb0:Below w.heap.size w x0:=by rw [hx0];exact zcP w _
 have HR0:Hid (RB x0 w.heap.size):=by show RB _ _;rw [hx0];exact RB.new w
 have HP:=yeA (ztI t x0 (zaF hmax hb0) hl)
 have HB0:=yeA hb0
 have hRs:w.heap.size<x0.heap.size:=HR0.out.lt
 unfold zcN at hx0
 clear hmax hb0
 generalize zdY t none=rr at*
 obtain ⟨v,er⟩:=rr
 go_enter Tryz.func7,Tryz.ntmps7
 go_wp2_with fail
 rw [←hx0]
 clear hx0
 refine HP.out.mono ?_
 rintro e x5 ⟨pv,rfl,hp5,hb5⟩
 have HB5:=yeA (zaK HB0.out hb5)
 have HR5:=HR0.out.below hb5
 have HP5:=yeA hp5
 clear HP hb5 hp5 HR0 HB0
 simp only [UZ.cells] at HP5 ⊢
 obtain ⟨sa,sn,sc,rfl⟩:=HP5.out.pv.shape
 obtain ⟨c0,c1,c2,c3,c4,c5,c6,c7,c8,c9,hrow⟩:=HR5
 have HRW:=yeA hrow
 obtain ⟨k0,k1,k2,k3,k4,k5,k6,k7,k8,k9,kf⟩:=zbW hrow
 clear hrow
 rcases v.host.shape with hv|⟨it,iv,hv⟩
 ·have HVH:=yeA hv
  rw [hv]
  clear hv
  have HEND:=yeA (zlS HRW.out (.string ⟨v.scheme.toArray⟩) (.string ⟨v.user.toArray⟩) (.string ⟨v.pass.toArray⟩) .nilIface (.int .i64 v.port) (.slice sa sn sc) (.string ⟨v.query.toArray⟩) (.bool v.hasQ) (.string ⟨v.frag.toArray⟩) (.bool v.hasF))
  have HEB:=yeA (ziK HB5.out HP5.out hRs (.string ⟨v.scheme.toArray⟩) (.string ⟨v.user.toArray⟩) (.string ⟨v.pass.toArray⟩) .nilIface (.int .i64 v.port) (.slice sa sn sc) (.string ⟨v.query.toArray⟩) (.bool v.hasQ) (.string ⟨v.frag.toArray⟩) (.bool v.hasF))
  go_wp2
  obtain ⟨e0,e1,e2,e3,e4,e5,e6,e7,e8,e9,-⟩:=zbW HEND.out
  refine bodyPost_ret (v:= .tuple #[.agg #[.string ⟨v.scheme.toArray⟩,.string ⟨v.user.toArray⟩,.string ⟨v.pass.toArray⟩,.nilIface,.int .i64 v.port,.slice sa sn sc,.string ⟨v.query.toArray⟩,.bool v.hasQ,.string ⟨v.frag.toArray⟩,.bool v.hasF],.int .i64 er]) (by simp [results,Tryz.results7,go_sem,e0,e1,e2,e3,e4,e5,e6,e7,e8,e9]) rfl ?_
  exact ⟨_,by rw [←HVH.out];rfl,HEB.out⟩
 ·have HVH:=yeA hv
  rw [hv]
  clear hv
  have HEND:=yeA (zlS HRW.out (.string ⟨v.scheme.toArray⟩) (.string ⟨v.user.toArray⟩) (.string ⟨v.pass.toArray⟩) (.iface it iv) (.int .i64 v.port) (.slice sa sn sc) (.string ⟨v.query.toArray⟩) (.bool v.hasQ) (.string ⟨v.frag.toArray⟩) (.bool v.hasF))
  have HEB:=yeA (ziK HB5.out HP5.out hRs (.string ⟨v.scheme.toArray⟩) (.string ⟨v.user.toArray⟩) (.string ⟨v.pass.toArray⟩) (.iface it iv) (.int .i64 v.port) (.slice sa sn sc) (.string ⟨v.query.toArray⟩) (.bool v.hasQ) (.string ⟨v.frag.toArray⟩) (.bool v.hasF))
  go_wp2
  obtain ⟨e0,e1,e2,e3,e4,e5,e6,e7,e8,e9,-⟩:=zbW HEND.out
  refine bodyPost_ret (v:= .tuple #[.agg #[.string ⟨v.scheme.toArray⟩,.string ⟨v.user.toArray⟩,.string ⟨v.pass.toArray⟩,.iface it iv,.int .i64 v.port,.slice sa sn sc,.string ⟨v.query.toArray⟩,.bool v.hasQ,.string ⟨v.frag.toArray⟩,.bool v.hasF],.int .i64 er]) (by simp [results,Tryz.results7,go_sem,e0,e1,e2,e3,e4,e5,e6,e7,e8,e9]) rfl ?_
  exact ⟨_,by rw [←HVH.out];rfl,HEB.out⟩
theorem z4L (b:Bool) (out:List (List UInt8)) (q:List UInt8):(ziG b out q).length≤out.length+1:=by
 unfold ziG
 repeat' split
 all_goals simp
 all_goals omega
theorem z5G: ∀(ps out:List (List UInt8)),(goW out ps).length≤out.length+ps.length
 |[],out=>by simp [goW]
 |p::r,out=>by
  rw [goW]
  have h1:=z5G r (ziG r.isEmpty out (encW 4 p))
  have h2:=z4L r.isEmpty out (encW 4 p)
  simp only [List.length_cons]
  omega
theorem z5A (f:List (List UInt8)) (l:List UInt8):(zkV f l).length≤f.length+l.length+1:=by
 have h1:=z5G (zbM (hasB [47,92]) l) f
 have h2:=zbN (hasB [47,92]) l
 unfold zkV
 omega
theorem zjJ (u:UZ) (l:List UInt8):(zdP u l).path=u.path:=by
 unfold zdP
 rw [(zpI (qryW u l) l).2.2.2.2.2.1,(zoY u l).2.2.2.2.2.1]
theorem zjK (u:UZ) (f:List (List UInt8)) (l:List UInt8):(zeA u f l).path.length≤f.length+l.length+1:=by
 unfold zeA
 rw [zjJ]
 have:=z5A f (l.take (l.findIdx (hasB [63,35])))
 have h2:(l.take (l.findIdx (hasB [63,35]))).length≤l.length:=by rw [List.length_take];omega
 show (zkV f (l.take (l.findIdx (hasB [63,35])))).length≤_
 omega
theorem zmJ (n l:List UInt8):(zdV n l).1.path.length≤l.length+1:=by
 unfold zdV
 simp only
 split
 ·exact Nat.zero_le _
 ·split
  ·exact Nat.zero_le _
  ·split
   ·exact Nat.zero_le _
   ·refine Nat.le_trans (zjK _ [] _) ?_
    have h1:=zuQ (l.drop (l.findIdx (hasB [47,92,63,35])))
    rw [List.length_drop] at h1
    simp only [List.length_nil]
    omega
theorem zvX (b:UZ) (l:List UInt8):(relW b l).1.path.length≤b.path.length+l.length+1:=by
 unfold relW
 split
 ·have h1:=zmJ b.scheme (zcW l)
  have h2:=zhF l
  omega
 ·simp only
  split
  ·have:=zjK {zbO with scheme:=b.scheme,user:=b.user,pass:=b.pass,host:=b.host,port:=b.port} [] (l.drop 1)
   rw [List.length_drop] at this
   simp only [List.length_nil] at this
   exact Nat.le_trans this (by omega)
  ·split
   ·rw [zjJ];show b.path.length≤_;omega
   ·split
    ·rw [zjJ];show b.path.length≤_;omega
    ·refine Nat.le_trans (zjK _ _ _) ?_
     rw [List.length_dropLast];omega
theorem zyJ (t:List UInt8) (b:Option UZ) (n:Nat) (hb: ∀u,b=some u→u.path.length≤n):(zdY t b).1.path.length≤n+4098:=by
 unfold zdY
 split
 ·exact Nat.zero_le _
 ·rename_i h
  have hc:=zmM t
  generalize zfS (zeV t)=s at*
  unfold znF
  split
  ·exact Nat.zero_le _
  ·rename_i u _
   have:=zvX u s
   have:=hb u rfl
   omega
  ·rename_i m r hs
   have:=zpT hs
   split
   ·have:=zmJ m (zcW r)
    have:=zhF r
    omega
   ·exact Nat.zero_le _
  ·rename_i m r u hs
   have:=zpT hs
   split
   ·split
    ·have:=zmJ m (zcW r)
     have:=zhF r
     omega
    ·have:=zvX u r
     have:=hb u rfl
     omega
   ·exact Nat.zero_le _
end
end Go.Proofs.YthacmlahnpdeeaaGreatDoor
