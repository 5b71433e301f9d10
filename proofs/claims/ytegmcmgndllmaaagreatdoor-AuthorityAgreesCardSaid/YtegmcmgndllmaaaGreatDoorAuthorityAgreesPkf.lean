/-
  What the law AuthorityAgrees leans on, and its walk (31 of 43).
-/
import Derived.Maps.AppendAt
import Derived.Deep.RegionHeld3
import Derived.Test.YtegmcmgndllmaaaGreatDoorAuthorityAgreesPkd
import Derived.Test.YtegmcmgndllmaaaGreatDoorAuthorityAgreesPkN
import Derived.Test.YtegmcmgndllmaaaGreatDoorAuthorityAgreesPke
import Derived.Test.YtegmcmgndllmaaaGreatDoorAuthorityAgreesPkT
import Derived.Test.YtegmcmgndllmaaaGreatDoorAuthorityAgreesPkR
namespace Go.Proofs.YtegmcmgndllmaaaGreatDoor
set_option maxRecDepth 100000
set_option maxHeartbeats 16000000
abbrev yoU := @Lib.hid
abbrev yoV := @Nat.le_refl
abbrev yoW := @decide_eq_true
abbrev yoX := @Go.RowKit.Below.refl
abbrev yoY := @List.mem_singleton
abbrev yoZ := @List.mem_cons_self
section
open Go.RowKit
def PV (w:World) (v:Value) (ps:List (List UInt8)):Prop:=(ps=[]∧v= .slice none 0 0)∨ ∃g c,v= .slice (some ⟨g,0,none⟩) ps.length c∧ps.length≤c∧Seen w g ps
theorem PV.keep {w w':World} {v:Value} {ps:List (List UInt8)} (h:PV w v ps) (e:Below w.heap.size w w'):PV w' v ps:=by
 rcases h with h|⟨g,c,d,i,f⟩
 ·exact .inl h
 ·exact .inr ⟨g,c,d,i,f.keep e⟩
theorem zaZ.cases {B:Nat} {w:World} {v:Value} {ps:List (List UInt8)} (h:zaZ B w v ps):(ps=[]∧v= .slice none 0 0)∨ ∃g c,v= .slice (some ⟨g,0,none⟩) ps.length c∧ps.length≤c∧B≤g∧Seen w g ps:=by
 unfold zaZ at h
 rcases h.2 with ⟨d,f⟩|⟨g,c,i,d,f,q,A,D,C,E⟩
 ·exact .inl ⟨List.eq_nil_of_length_eq_zero f,d⟩
 ·refine .inr ⟨g,c,d,A,f,zaK q,fun j m=> ?_⟩
  have o:(zjF ps)[j]? =some (.string ⟨(ps.getD j []).toArray⟩):=by
   simp [zjF,strC,List.getD,List.getElem?_eq_getElem m]
  have:=h.cells (g:=g) (by rw [d];rfl) j _ o
  have e:(⟨g,0,none⟩:Addr).add j=⟨g,j,none⟩:=by simp [Addr.add];intro h;omega
  rw [e] at this
  exact this
theorem zaZ.pv {B:Nat} {w:World} {v:Value} {ps:List (List UInt8)} (h:zaZ B w v ps):PV w v ps:=by
 rcases h.cases with h|⟨g,c,d,e,_,f⟩
 ·exact .inl h
 ·exact .inr ⟨g,c,d,e,f⟩
theorem ydV (ps:List (List UInt8)):(ps.map fun p=>(⟨p.toArray⟩:ByteArray)).map Value.string=zjF ps:=by simp [zjF,strC]
theorem zxR (v:Value) (ps:List (List UInt8)) (w:World) (h:PV w v ps) (q:ps.length≤1000000):
  Calls Tryz.prog 158 #[v] w fun e w'=> ∃f,e= .returned f∧zaZ w.heap.size w' f ps∧Below w.heap.size w w':=by
 rcases h with ⟨rfl,rfl⟩|⟨g,c,rfl,_,m⟩
 ·refine (Tryz.slices_Clone_string_nil 0 0 w).mono ?_
  rintro e w' ⟨rfl,rfl⟩
  exact ⟨_,rfl,zaZ.nil _ _,yoX _ _⟩
 ·refine (Tryz.slices_Clone_string g 0 ps.length c (ps.map fun p=>⟨p.toArray⟩) w (by simp) (by omega) (fun j i=> ?_)).mono ?_
  ·rw [List.length_map] at i
   rw [Nat.zero_add,m.2 j i]
   simp [List.getD,List.getElem?_eq_getElem i]
  ·rintro e w' ⟨f,rfl,d,_,o⟩
   refine ⟨f,rfl,?_,o⟩
   have e:((ps.map fun p=>(⟨p.toArray⟩:ByteArray)).take ps.length).map Value.string=zjF ps:=by
    rw [List.take_of_length_le (by simp),ydV]
   rw [e] at d
   exact d
theorem z4F {B:Nat} {w:World} {g n c:Nat} {ps:List (List UInt8)} (h:zaZ B w (.slice (some ⟨g,0,none⟩) n c) ps):zaZ B w (.slice (some ⟨g,0,none⟩) (n - 1:Nat) c) ps.dropLast:=by
 unfold zaZ at*
 rcases h.2 with ⟨d,i⟩|⟨A,C,f,d,i,q,D,j,o,m⟩
 ·cases d
 ·simp only [Value.slice.injEq,Option.some.injEq,Addr.mk.injEq,and_true] at d
  obtain ⟨rfl,rfl,rfl⟩:=d
  have e:zjF ps.dropLast=(zjF ps).take (ps.length - 1):=by
   unfold zjF;rw [List.dropLast_eq_take,List.map_take]
  refine ⟨by simp [zjF],.inr ⟨g,c,f,by simp,i,q,by simp;omega,j,o,?_⟩⟩
  rw [e,←m,List.take_take,List.length_dropLast]
  congr 1
  omega
theorem zrW (B:Nat) (v:Value) (ps:List (List UInt8)) (w:World) (h:zaZ B w v ps) (q:ps.length≤10000000):
  Calls Tryz.prog 159 #[v] w fun e w'=> ∃j,e= .returned j∧zaZ B w j ps.dropLast∧j.ownBlock=v.ownBlock∧w=w':=by
 rcases h.cases with ⟨rfl,rfl⟩|⟨g,c,rfl,o,_,_⟩
 ·have f: ∀W,(Instr.slice 25 (.slice none 0 0) none (some (.int .i64 0)) none).run Tryz.prog W= .ok (.slice none 0 0) W:=fun W=>by
   rw [run_slice_h W 25 none 0 0 (by simp [Program.elem,Tryz.underlying25]) .i64 _ (by omega) (by omega)]
   rfl
  go_enter Tryz.func159,Tryz.ntmps159
  go_wp2
  go_ret
  exact ⟨_,rfl,zaZ.nil _ _,rfl,rfl⟩
 ·have d:=yoU (z4F h)
  clear h
  generalize ps.length=n at*
  have f: ∀W (k:Nat),k≤c→(Instr.slice 25 (.slice (some ⟨g,0,none⟩) n c) none (some (.int .i64 (k:Int))) none).run Tryz.prog W= .ok (.slice (some ⟨g,0,none⟩) k c) W:=fun W k C=>by
   rw [run_slice_h W 25 (some ⟨g,0,none⟩) n c (by simp [Program.elem,Tryz.underlying25]) .i64 _ (by omega) (by omega)]
   go_simp
  match n,o,q,d with
  |0,o,q,d=>
   have m:=fun W=>f W 0 (by omega)
   clear f
   go_enter Tryz.func159,Tryz.ntmps159
   go_wp2
   go_ret
   exact ⟨_,rfl,d.out,rfl,rfl⟩
  |n+1,o,q,d=>
   have m:=fun W=>f W n (by omega)
   have i:Hid (zaZ B w (.slice (some ⟨g,0,none⟩) n c) ps.dropLast):=d.out
   clear f d
   by_cases A:n=0
   ·subst A
    go_enter Tryz.func159,Tryz.ntmps159
    go_wp2
    go_ret
    exact ⟨_,rfl,i.out,rfl,rfl⟩
   ·have D:0<n:=by omega
    go_enter Tryz.func159,Tryz.ntmps159
    go_wp2
    go_ret
    exact ⟨_,rfl,i.out,rfl,rfl⟩
theorem z6Z (s d:ByteArray):Lib.countB s d≤s.size+1:=by
 have:=Lib.count_le s.data.toList d.data.toList
 rw [zaN] at this
 exact this
theorem z1L (l:List UInt8) (w:World) (i:l.length≤1000000000) (d:MaxVar w):
  Calls Tryz.prog 224 #[.string ⟨l.toArray⟩,.string ⟨#[37,50,101]⟩,.string ⟨#[46]⟩] w (zdY w (Lib.replaceAll l [37,50,101] [46])):=by
 obtain ⟨m,f⟩:=d
 have j:=zaF l
 have g:=z6Z ⟨l.toArray⟩ ⟨#[37,50,101]⟩
 have e:(ByteArray.mk #[46]).size=1:=rfl
 exact Tryz.strings_ReplaceAll ⟨l.toArray⟩ ⟨#[37,50,101]⟩ ⟨#[46]⟩ m w (by omega) f (by decide) (by rw [e];omega)
theorem zqM {P:Program} (w:World) {D:Array Oper} {g:List Oper} {o:Oper} {a:Act} {Q:Exit→Act→World→Prop} (L:o.guard=none) (s x:Operand) (t:TypeId)
  (N:o.op= .call {callee:= .builtin .append,args:= #[s,x],argTypes:= #[t,t]})
  (base:Nat) (e:TypeId) (i:TypeInfo) (z:Value) (d:Nat) (V:P.underlying t=some (.slice e)) (hi:P.info? e=some i) (X:i.zero=some z)
  (m:i.size=1) (K:i.bytes=d) (J:z.cells.size=1)
  (v:Value) (n:Nat) (xs:List Value) (U:a.eval s=v) (C:w.ownsRow base e 1 v n xs) (u:Value) (S:a.eval x= .slice (some ⟨w.heap.size,0,none⟩) 1 1) (O:u.oneCell'=true)
  (E:n+1≤9223372036854775807) (f:(n+1)*d≤140737488355328) (H:base≤w.heap.size)
  (h: ∀A w',w'.ownsRow base e 1 A (n+1) (xs++[u])→w.grownBy w' v.ownBlock→(A.ownBlock=v.ownBlock∨ ∃k,A.ownBlock=some k∧w.heap.size≤k)→wpList P D Q g (a.put o.dst A) w'):wpList P D Q (o::g) a (w.alloc (.cells #[u] e)):=by
 refine wpList_append_own_at (w.alloc (.cells #[u] e)) L s x t N base e i z 1 d V hi X m K J (by decide) v n xs U (C.alloc _) ⟨w.heap.size,0,none⟩ 1 1 [u] S rfl (zwR w u e) ?_ E f (by simp;omega) ?_
 ·intro y M;simp at M;subst M;exact O
 ·intro A T j B _ I
  refine h A T j ⟨B.os,B.tape,B.output,Nat.le_trans (by simp) B.size,fun k Y G=> ?_⟩ ?_
  ·exact (B.block k (by simp;omega) G).trans (((yoX _ w).alloc (yoV _) _).block k Y)
  ·rcases I with q|q
   ·exact .inl q
   ·exact .inr ⟨_,q,by simp⟩
structure Segs (base:Nat) (x:World) (v0:Value) (y:World) (v:Value) (out:List (List UInt8)):Prop where
 own:zaZ base y v out
 grown:x.grownBy y v0.ownBlock
 at_:v.ownBlock=v0.ownBlock∨ ∃b,v.ownBlock=some b∧x.heap.size≤b
theorem Segs.keep {base:Nat} {x:World} {v0:Value} {y z:World} {v:Value} {out:List (List UInt8)} (h:Segs base x v0 y v out) (d:Below y.heap.size y z):Segs base x v0 z v out:=
 ⟨h.own.below d,⟨d.os.trans h.grown.os,d.tape.trans h.grown.tape,d.output.trans h.grown.output,Nat.le_trans h.grown.size d.size,fun k f e=>(d.block k (Nat.lt_of_lt_of_le f h.grown.size)).trans (h.grown.block k f e)⟩,h.at_⟩
theorem Segs.app {base:Nat} {x:World} {v0:Value} {y z:World} {v i:Value} {out:List (List UInt8)} {q:List UInt8} (h:Segs base x v0 y v out) (f:z.ownsRow base 9 1 i (out.length+1) (zjF out++[.string ⟨q.toArray⟩])) (d:y.grownBy z v.ownBlock) (m:i.ownBlock=v.ownBlock∨ ∃k,i.ownBlock=some k∧y.heap.size≤k):Segs base x v0 z i (out++[q]):=by
 refine ⟨zaZ.snoc f rfl,⟨d.os.trans h.grown.os,d.tape.trans h.grown.tape,d.output.trans h.grown.output,Nat.le_trans h.grown.size d.size,fun k j g=> ?_⟩,?_⟩
 ·refine (d.block k (Nat.lt_of_lt_of_le j h.grown.size) (fun e=> ?_)).trans (h.grown.block k j g)
  rcases h.at_ with q|⟨b,q,o⟩
  ·exact g (e.trans q)
  ·rw [q] at e;have:=Option.some.inj e;omega
 ·rcases m with q|⟨k,q,j⟩
  ·rcases h.at_ with r|r
   ·exact .inl (q.trans r)
   ·exact .inr (by rw [q];exact r)
  ·exact .inr ⟨k,q,Nat.le_trans h.grown.size j⟩
theorem Segs.drop {base:Nat} {x:World} {v0:Value} {y:World} {v d:Value} {out:List (List UInt8)} (h:Segs base x v0 y v out) (f:zaZ base y d out.dropLast) (e:d.ownBlock=v.ownBlock):Segs base x v0 y d out.dropLast:=
 ⟨f,h.grown,by rw [e];exact h.at_⟩
theorem Segs.block {base:Nat} {x:World} {v0:Value} {y:World} {v:Value} {out:List (List UInt8)} (h:Segs base x v0 y v out) (d: ∀b,v0.ownBlock=some b→base≤b) {k:Nat} (f:k<base) (g:base≤x.heap.size):y.heap[k]? =x.heap[k]? :=
 h.grown.block k (by omega) (fun e=>by have:=d k e.symm;omega)
theorem zoY {B:Nat} {w w':World} {v:Value} {ps:List (List UInt8)} (h:zaZ B w v ps) (j: ∀b,v.ownBlock=some b→w'.heap[b]? =w.heap[b]?):zaZ B w' v ps:=by
 unfold zaZ at*
 refine ⟨h.1,?_⟩
 rcases h.2 with q|⟨g,f,d,e,m,i,r⟩
 ·exact .inl q
 ·exact .inr ⟨g,f,d,e,m,(j g (by rw [e];rfl)).trans i,r⟩
theorem zpL {B C:Nat} {w:World} {v:Value} {ps:List (List UInt8)} (h:zaZ B w v ps) (j:C≤B):zaZ C w v ps:=by
 unfold zaZ at*
 refine ⟨h.1,?_⟩
 rcases h.2 with q|⟨g,f,d,e,i,r⟩
 ·exact .inl q
 ·exact .inr ⟨g,f,d,e,Nat.le_trans j i,r⟩
theorem zlI {w y:World} (h:MaxVar w) (e:y.heap[0]? =w.heap[0]?):MaxVar y:=by
 obtain ⟨m,d⟩:=h
 exact ⟨m,(World.cell?_of_block (a:=⟨0,0,none⟩) e).trans d⟩
theorem zmL {w:World} (h:MaxVar w):0<w.heap.size:=by
 obtain ⟨m,d⟩:=h
 exact World.block_lt_of_cell? w _ d
theorem zvH {w:World} {M:Nat} {l:List UInt8} (h:MaxVar w) (f:MB w M l):0≠M:=fun e=>by
 obtain ⟨m,d⟩:=h
 subst e
 rw [f.cell] at d
 cases d
theorem zmI {w y:World} {M:Nat} {l:List UInt8} (h:MaxVar w) (e:MB w M l) (d:Only [M] w y):MaxVar y:=
 zlI h (d.block _ (zmL h) (by rw [yoY];exact zvH h e))
theorem yaT {p:UInt8→Bool} {l x:List UInt8} (h:x∈zbF p l):x.length≤l.length:=by
 have g:=(zmJ p l).2.1
 have d: ∀(ps:List (List UInt8)),x∈ps→x.length≤zeS ps:=by
  intro ps
  induction ps with
  |nil=>intro h;cases h
  |cons y r f=>
   intro h
   have e:zeS (y::r)=y.length+zeS r:=by simp [zeS]
   rcases List.mem_cons.1 h with q|q
   ·rw [q,e];omega
   ·have:=f q;rw [e];omega
 have:=d _ h
 omega
theorem ziC (st:Int) (l:List UInt8):(encW st l).length≤12*l.length:=by
 have d:=zlM st (scal ⟨l.toArray⟩) (scal ⟨l.toArray⟩).length
 rw [List.take_length] at d
 have e:=yfK ⟨l.toArray⟩
 rw [zaF] at e
 unfold encW
 omega
theorem goW_at {d out:List (List UInt8)} {ps:List (List UInt8)} {k:Nat} {p:List UInt8} (f:k<ps.length) (i:ps.getD k []=p) (h:goW d ps=goW out (ps.drop k)):goW d ps=goW (zeE (decide (k+1=ps.length)) out (encW 4 p)) (ps.drop (k+1)):=by
 have e:ps.drop k=p::ps.drop (k+1):=by
  rw [List.drop_eq_getElem_cons f]
  congr 1
  rw [←i]
  simp [List.getD,List.getElem?_eq_getElem f]
 have g:(ps.drop (k+1)).isEmpty=decide (k+1=ps.length):=by
  rw [Bool.eq_iff_iff,List.isEmpty_iff,List.drop_eq_nil_iff,decide_eq_true_eq]
  omega
 rw [h,e,goW,g]
theorem ykA {b:Bool} {out:List (List UInt8)} {q:List UInt8} (h:ptsW q=0):zeE b out q=out++[q]:=by unfold zeE;rw [if_pos h]
theorem yhR {out:List (List UInt8)} {q:List UInt8} (h:ptsW q=1):zeE true out q=out++[[]]:=by unfold zeE;rw [if_neg (by omega),if_pos rfl,if_neg (by omega)]
theorem ymQ {out:List (List UInt8)} {q:List UInt8} (h:ptsW q=1):zeE false out q=out:=by unfold zeE;rw [if_neg (by omega),if_neg (by decide),if_neg (by omega)]
theorem yfC {out:List (List UInt8)} {q:List UInt8} (h:ptsW q=2):zeE true out q=out.dropLast++[[]]:=by unfold zeE;rw [if_neg (by omega),if_pos rfl,if_pos h]
theorem yjN {out:List (List UInt8)} {q:List UInt8} (h:ptsW q=2):zeE false out q=out.dropLast:=by unfold zeE;rw [if_neg (by omega),if_neg (by decide),if_pos h]
theorem yfI {k n:Nat}:((k:Int)==(n:Int) - 1)=decide (k+1=n):=by
 rw [Bool.eq_iff_iff,beq_iff_eq,decide_eq_true_eq];omega
def yjX (w:World) (M:Nat) (ps:List (List UInt8)) (left:List UInt8) (e:Ending) (w':World):Prop:= ∃d,e= .returned d∧zaZ w.heap.size w' d ps∧MB w' M left∧Only [M] w w'
theorem ygQ (M:Nat) (l:List UInt8) (fv:Value) (d:List (List UInt8)) (w:World) (hl:l.length≤1000000) (qK:d.length≤1000000) (hm:MB w M l) (hf:PV w fv d) (qa:MaxVar w):
  Calls Tryz.prog 156 #[.pointer (some ⟨M,0,none⟩),fv] w (yjX w M (znS d (l.take (l.findIdx (hasB [63,35])))) (l.drop (l.findIdx (hasB [63,35])))):=by
 obtain ⟨i0,hi,qe,qh,ql⟩:=info_parts Tryz.infoStr
 have qI:=zaK hm
 have qo:=yoU (zxR fv d w hf qK)
 have HM:=yoU hm
 have HX:=yoU qa
 have qP:(l.take (l.findIdx (hasB [63,35]))).length≤l.length:=by rw [List.length_take];omega
 have HU:=yoU (fun W (h:MB W M l)=>zhE [63,35] (by decide) M l W h)
 generalize l.take (l.findIdx (hasB [63,35]))=m at*
 generalize l.drop (l.findIdx (hasB [63,35]))=left at*
 have qm:=yoU (fun W=>zdD ⟨m.toArray⟩ ⟨#[47,92]⟩ W (by rw [zaF];omega))
 rw [zaM m,zaM [47,92]] at qm
 have qN:Hid (znS d m=goW d (zbF (hasB [47,92]) m)):=rfl
 have qJ:=zcV (hasB [47,92]) m
 have qL:=yoU (fun x (h:x∈zbF (hasB [47,92]) m)=>yaT h)
 have qc:=zqH (hasB [47,92]) m
 generalize zbF (hasB [47,92]) m=ps at*
 clear hm hf qa
 go_enter Tryz.func156,Tryz.ntmps156
 go_wp2_with fail
 refine qo.out.mono ?_
 rintro e x1 ⟨v0,rfl,qd,Z⟩
 have qE:=yoU (HU.out _ (HM.out.below Z))
 go_wp2_with fail
 refine (zmC [63,35] _).mono ?_
 rintro e x2 ⟨rfl,rfl⟩
 go_wp2_with fail
 refine qE.out.mono ?_
 rintro e x3 ⟨rfl,qp,V⟩
 go_wp2_with fail
 refine (qm.out _).mono ?_
 rintro e x4 ⟨vp,rfl,qq,X⟩
 obtain ⟨N,hN⟩: ∃N,ps.length=N:=⟨_,rfl⟩
 have qT:0<N:=by rw [←hN];exact List.length_pos_iff.2 qc
 obtain ⟨gp,cp,rfl,qM,qi⟩: ∃gp cp,vp= .slice (some ⟨gp,0,none⟩) N cp∧x3.heap.size≤gp∧Seen x4 gp ps:=by
  rcases zaZ.cases qq with ⟨e,_⟩|⟨g,c,h1,h2,h3,h4⟩
  ·exact absurd e qc
  ·exact ⟨g,c,by rw [h1,hN],h3,h4⟩
 have G: ∀b,v0.ownBlock=some b→w.heap.size≤b∧b<x1.heap.size:=fun b I=>World.ownsRow.lt qd b I
 have qr:Only [M] w x3:=(Only.of_below (F:=[M]) Z).trans V (fun x hx=> .inl hx)
 have D:Only [M] w x4:=qr.then_below X
 have qB:=V.size
 have qz:zaZ w.heap.size x3 v0 d:=zoY qd (fun b I=>V.block b (G b I).2 (by have:=(G b I).1;simp;omega))
 have qG:Hid (Segs w.heap.size x4 v0 x4 v0 d):=⟨qz.below X,⟨rfl,rfl,rfl,yoV _,fun _ _ _=>rfl⟩,.inl rfl⟩
 have L:w.heap.size≤x4.heap.size:=D.size
 have qn:Hid (∀y v out,Segs w.heap.size x4 v0 y v out→ ∀j,j<N→y.cell? ⟨gp,j,none⟩=some (.string ⟨(ps.getD j []).toArray⟩)):=fun y v out h j hj=>by
  refine (World.cell?_of_block (a:=⟨gp,j,none⟩) (h.grown.block gp qi.1 (fun e=> ?_))).trans (qi.2 j (by omega))
  have:=(G gp e.symm).2
  have:=Z.size
  omega
 have qv:Hid (∀y v out,Segs w.heap.size x4 v0 y v out→MaxVar y):=fun y v out h=>by
  refine zlI HX.out ((h.block (fun b I=>(G b I).1) (zmL HX.out) L).trans (D.block _ (zmL HX.out) ?_))
  rw [yoY]
  exact zvH HX.out HM.out
 have qC:Hid (∀y v out,Segs w.heap.size x4 v0 y v out→MB y M left∧Only [M] w y):=fun y v out h=>
  ⟨(h.block (fun b I=>(G b I).1) qI L).trans (qp.below X),h.grown.os.trans D.os,h.grown.tape.trans D.tape,h.grown.output.trans D.output,Nat.le_trans L h.grown.size,fun b I hn=>(h.block (fun b I=>(G b I).1) I L).trans (D.block b I hn)⟩
 rw [hN] at qJ
 have HN:=yoU hN
 clear HX HM qo HU qE qm qd Z qp V qq X qM qi G qr D qB qz qc hN
 go_wp2
 go_loopw [5,18] (fun v i wr=> ∃(k:Nat) (out:List (List UInt8)),k≤N∧i= .int .i64 k∧Hid (Segs w.heap.size x4 v0 wr v out)∧out.length≤d.length+k∧Hid (goW d ps=goW out (ps.drop k))) (fun _ i _=>N - (intOf i).toNat)
 case atStart=>exact ⟨0,d,Nat.zero_le _,rfl,qG,yoV _,rfl⟩
 case round=>
  obtain ⟨k,out,hk,rfl,Q,qR,HS⟩:=hrel
  by_cases qk:k<N
  ·have O:=qn.out _ _ _ Q.out k qk
   obtain ⟨p,hp⟩: ∃p,ps.getD k []=p:=⟨_,rfl⟩
   rw [hp] at O
   have f:=yoU (goW_at (by rw [HN.out];exact qk) hp HS.out)
   have qQ:p.length≤m.length:=qL.out p (by
    have qD:k<ps.length:=by rw [HN.out];exact qk
    rw [←hp];simp only [List.getD,List.getElem?_eq_getElem qD,Option.getD_some];exact List.getElem_mem qD)
   rw [HN.out] at f
   have qS:=ziC 4 p
   have qy:=yoU (fun W=>zfP 4 p W (by decide) (by omega))
   have E:=ylZ (encW 4 p)
   have H:=ylX (encW 4 p)
   have qO:=pts_le (encW 4 p)
   have Y:((k:Int)==(N:Int) - 1)=decide (k+1=N):=yfI
   clear hp HS
   generalize encW 4 p=q at*
   have qj:=yoU (fun W=>zkI ⟨q.toArray⟩ W (by rw [zaF];omega))
   rw [zaM] at qj
   have qF:=yoU (fun W (h:MaxVar W)=>z1L (zaI q) W (by rw [zhL];omega) h)
   generalize Lib.replaceAll (zaI q) [37,50,101] [46]=t at*
   go_wp2_with fail
   refine (qy.out _).mono ?_
   rintro e y1 ⟨rfl,qs⟩
   have qb:=yoU (Q.out.keep qs)
   clear qy qs Q
   go_wp2_with fail
   refine (qj.out _).mono ?_
   rintro e y2 ⟨rfl,qx⟩
   have U:=yoU (qb.out.keep qx)
   clear qj qx qb
   go_wp2_with fail
   refine (qF.out _ (qv.out _ _ _ U.out)).mono ?_
   rintro e y3 ⟨rfl,qw⟩
   have o:=yoU (U.out.keep qw)
   have qg:w.heap.size≤y3.heap.size:=Nat.le_trans L o.out.grown.size
   have K:=o.out.own
   unfold zaZ at K
   clear qF qw U O
   rcases (show ptsW q=2∨ptsW q=1∨ptsW q=0 by omega) with h2|h1|h0
   ·obtain rfl:=E.1 h2
    have e2:(([46,46]:List UInt8)==[46,46])=true:=rfl
    have qA:=yoU (zrW w.heap.size _ out y3 o.out.own (by omega))
    by_cases J:k+1=N
    ·rw [yoW J] at Y f
     rw [yfC h2] at f
     clear E H h2
     go_wp2_with fail
     refine qA.out.mono ?_
     rintro e w' ⟨v2,rfl,S,qf,rfl⟩
     have T:=yoU (o.out.drop S qf)
     have qH:out.dropLast.length≤out.length:=by rw [List.length_dropLast];omega
     unfold zaZ at S
     go_wp2_with (first|(at_builtin;refine zqM _ rfl _ _ 25 rfl w.heap.size 9 i0 (.string ⟨#[]⟩) 16 Tryz.underlying25 hi qe qh ql rfl _ _ _ rfl S (.string ⟨#[]⟩) rfl rfl (by omega) (by omega) qg ?_;intro v' w1 A C B)|go_in)
     go_roundw
     case rel=>exact ⟨k+1,out.dropLast++[[]],by omega,by go_num,T.out.app A C B,by simp;omega,f.out⟩
     case measure=>simp [intOf];omega
    ·rw [decide_eq_false J] at Y f
     rw [yjN h2] at f
     clear E H h2
     go_wp2_with fail
     refine qA.out.mono ?_
     rintro e w' ⟨v2,rfl,S,qf,rfl⟩
     have T:=yoU (o.out.drop S qf)
     have qH:out.dropLast.length≤out.length:=by rw [List.length_dropLast];omega
     go_wp2
     go_roundw
     case rel=>exact ⟨k+1,out.dropLast,by omega,by go_num,T.out,by omega,f.out⟩
     case measure=>simp [intOf];omega
   ·obtain rfl:=H.1 h1
    have e1:(([46]:List UInt8)==[46,46])=false:=rfl
    have e2:(([46]:List UInt8)==[46])=true:=rfl
    by_cases J:k+1=N
    ·rw [yoW J] at Y f
     rw [yhR h1] at f
     clear E H h1
     go_wp2_with (first|(at_builtin;refine zqM _ rfl _ _ 25 rfl w.heap.size 9 i0 (.string ⟨#[]⟩) 16 Tryz.underlying25 hi qe qh ql rfl _ _ _ rfl K (.string ⟨#[]⟩) rfl rfl (by omega) (by omega) qg ?_;intro v' w1 A C B)|go_in)
     go_roundw
     case rel=>exact ⟨k+1,out++[[]],by omega,by go_num,o.out.app A C B,by simp;omega,f.out⟩
     case measure=>simp [intOf];omega
    ·rw [decide_eq_false J] at Y f
     rw [ymQ h1] at f
     clear E H h1
     go_wp2
     go_roundw
     case rel=>exact ⟨k+1,out,by omega,by go_num,o.out,by omega,f.out⟩
     case measure=>simp [intOf];omega
   ·have e1:(t==[46,46])=false:=by rw [beq_eq_false_iff_ne];intro g;have:=E.2 g;omega
    have e2:(t==[46])=false:=by rw [beq_eq_false_iff_ne];intro g;have:=H.2 g;omega
    rw [ykA h0] at f
    clear E H h0
    go_wp2_with (first|(at_builtin;refine zqM _ rfl _ _ 25 rfl w.heap.size 9 i0 (.string ⟨#[]⟩) 16 Tryz.underlying25 hi qe qh ql rfl _ _ _ rfl K (.string ⟨q.toArray⟩) rfl rfl (by omega) (by omega) qg ?_;intro v' w1 A C B)|go_in)
    go_roundw
    case rel=>exact ⟨k+1,out++[q],by omega,by go_num,o.out.app A C B,by simp;omega,f.out⟩
    case measure=>simp [intOf];omega
  ·have qU:k=N:=by omega
   have HF:Hid (goW d ps=out):=by show _=_;rw [HS.out,List.drop_eq_nil_of_le (by rw [HN.out];omega)];rfl
   clear HS
   go_wp2
   go_ret
   exact ⟨_,rfl,by rw [qN.out,HF.out];exact Q.out.own,qC.out _ _ _ Q.out⟩
theorem zbR {x:World} {g:Nat} {f o m A B j C q e d:Value} {t:TypeId} (h:x.heap[g]? =some (.cells #[f,o,m,A,B,j,C,q,e,d] t (0,0))):x.cell? ⟨g,0,none⟩=some f∧x.cell? ⟨g,1,none⟩=some o∧x.cell? ⟨g,2,none⟩=some m∧x.cell? ⟨g,3,none⟩=some A∧x.cell? ⟨g,4,none⟩=some B∧x.cell? ⟨g,5,none⟩=some j∧x.cell? ⟨g,6,none⟩=some C∧x.cell? ⟨g,7,none⟩=some q∧x.cell? ⟨g,8,none⟩=some e∧x.cell? ⟨g,9,none⟩=some d∧ ∀i,x.frozen? ⟨g,i,none⟩=false:=by
 refine ⟨?_,?_,?_,?_,?_,?_,?_,?_,?_,?_,zaJ h⟩<;>rw [cell_of_row x _ _ _ _ _ h]<;>rfl
theorem zlN {x:World} {g:Nat} {K C I L E H M D J G:Value} {t:TypeId} (h:x.heap[g]? =some (.cells #[K,C,I,L,E,H,M,D,J,G] t)) (d j q o i f m e B A:Value):((((((((((x.setCell ⟨g,0,none⟩ d).setCell ⟨g,1,none⟩ j).setCell ⟨g,2,none⟩ q).setCell ⟨g,3,none⟩ o).setCell ⟨g,4,none⟩ i).setCell ⟨g,5,none⟩ f).setCell ⟨g,6,none⟩ m).setCell ⟨g,7,none⟩ e).setCell ⟨g,8,none⟩ B).setCell ⟨g,9,none⟩ A).heap[g]? =some (.cells #[d,j,q,o,i,f,m,e,B,A] t):=by
 have:=zaL (zaL (zaL (zaL (zaL (zaL (zaL (zaL (zaL (zaL h 0 d) 1 j) 2 q) 3 o) 4 i) 5 f) 6 m) 7 e) 8 B) 9 A
 simpa using this
theorem zcC {w x:World} {g B:Nat} (h:Below B w x) (d:B≤g) (e f m q D o i j C A:Value):Below B w ((((((((((x.setCell ⟨g,0,none⟩ e).setCell ⟨g,1,none⟩ f).setCell ⟨g,2,none⟩ m).setCell ⟨g,3,none⟩ q).setCell ⟨g,4,none⟩ D).setCell ⟨g,5,none⟩ o).setCell ⟨g,6,none⟩ i).setCell ⟨g,7,none⟩ j).setCell ⟨g,8,none⟩ C).setCell ⟨g,9,none⟩ A):=
 (((((((((h.setCell (p:=⟨g,0,none⟩) d _).setCell (p:=⟨g,1,none⟩) d _).setCell (p:=⟨g,2,none⟩) d _).setCell (p:=⟨g,3,none⟩) d _).setCell (p:=⟨g,4,none⟩) d _).setCell (p:=⟨g,5,none⟩) d _).setCell (p:=⟨g,6,none⟩) d _).setCell (p:=⟨g,7,none⟩) d _).setCell (p:=⟨g,8,none⟩) d _).setCell (p:=⟨g,9,none⟩) d _
theorem ziF {w x:World} {g:Nat} {F:List Nat} (h:Only F w x) (d:g∈F∨w.heap.size≤g) (e f m q C o i j B A:Value):Only F w ((((((((((x.setCell ⟨g,0,none⟩ e).setCell ⟨g,1,none⟩ f).setCell ⟨g,2,none⟩ m).setCell ⟨g,3,none⟩ q).setCell ⟨g,4,none⟩ C).setCell ⟨g,5,none⟩ o).setCell ⟨g,6,none⟩ i).setCell ⟨g,7,none⟩ j).setCell ⟨g,8,none⟩ B).setCell ⟨g,9,none⟩ A):=
 (((((((((h.setCell (p:=⟨g,0,none⟩) d _).setCell (p:=⟨g,1,none⟩) d _).setCell (p:=⟨g,2,none⟩) d _).setCell (p:=⟨g,3,none⟩) d _).setCell (p:=⟨g,4,none⟩) d _).setCell (p:=⟨g,5,none⟩) d _).setCell (p:=⟨g,6,none⟩) d _).setCell (p:=⟨g,7,none⟩) d _).setCell (p:=⟨g,8,none⟩) d _).setCell (p:=⟨g,9,none⟩) d _
def zbQ:Array Value:= #[.string ⟨#[]⟩,.string ⟨#[]⟩,.string ⟨#[]⟩,.nilIface,.int .i64 0,.slice none 0 0,.string ⟨#[]⟩,.bool false,.string ⟨#[]⟩,.bool false]
theorem zxE:zcL.cells (.slice none 0 0)=zbQ:=rfl
def RetURL (w:World) (x:UZ×Int) (pv:Value) (e:Ending) (w':World):Prop:=e= .returned (.tuple #[.agg (x.1.cells pv),.int .i64 x.2])∧Below w.heap.size w w'
theorem who_at (a:List UInt8): ∃(z:Int) (m r:Nat),Lib.lastIndexByte ⟨a.toArray⟩ 64=z∧max z 0=(m:Int)∧z+1=(r:Int)∧ -1≤z∧m≤a.length∧r≤a.length∧ziJ a=encW 5 (Lib.cut (a.take m) [58]).1∧ziN a=encW 5 (Lib.cut (a.take m) [58]).2.1∧zcO a=a.drop r:=by
 rcases ylL a with ⟨d,j⟩|⟨i,hi,d,j⟩
 ·obtain ⟨e,g,f⟩:=z7D a j
  exact ⟨-1,0,0,d,by omega,rfl,by omega,Nat.zero_le _,Nat.zero_le _,e,g,f⟩
 ·obtain ⟨e,g,f⟩:=yeG a j
  exact ⟨i,i,i+1,d,by omega,by omega,by omega,by omega,by omega,e,g,f⟩
theorem zsG (l:List UInt8):(Lib.cut l [58]).1.length≤l.length∧(Lib.cut l [58]).2.1.length≤l.length:=by
 rw [z0O]
 simp only [List.length_take,List.length_drop]
 omega
theorem z8P: ∀(l:List UInt8) (i:Bool),(hpW i l).1.length≤l.length∧(hpW i l).2.length≤l.length
 |[],i=>by simp [hpW]
 |c::r,i=>by
  rw [zhO]
  split
  ·simp
  ·have:=z8P r (if c=91 then true else if c=93 then false else i)
   simp only [List.length_cons]
   omega
theorem ybC (l:List UInt8):(if hd1 [58] (l.drop (zbX zgW false l))=true then (l.drop (zbX zgW false l)).drop 1 else l.drop (zbX zgW false l))=(hpW false l).2:=by
 have d:=(zfZ l false).2.1
 have g:=(zfZ l false).2.2
 generalize zbX zgW false l=n at*
 by_cases f:n<l.length
 ·rw [zmK,if_pos]
  ·exact d
  ·rw [List.head?_drop,yoW (g f)]
 ·have e:l.drop n=[]:=List.drop_eq_nil_of_le (by omega)
  rw [e] at d ⊢
  exact d
theorem z7E {l:List UInt8} (h:(zcN l).2≠0):(zcN l).1= .none:=zyM h
def RB (w:World) (R:Nat):Prop:= ∃f j i q A g m o e d,w.heap[R]? =some (.cells #[f,j,i,q,A,g,m,o,e,d] 27)
theorem RB.below {w w':World} {R:Nat} (h:RB w R) (j:Below w.heap.size w w'):RB w' R:=by
 obtain ⟨f,m,i,A,B,g,o,q,e,d,h⟩:=h
 exact ⟨f,m,i,A,B,g,o,q,e,d,(j.block R (zaK h)).trans h⟩
theorem RB.lt {w:World} {R:Nat} (h:RB w R):R<w.heap.size:=by
 obtain ⟨f,j,i,q,A,g,m,o,e,d,h⟩:=h
 exact zaK h
theorem RB.only {w w':World} {R:Nat} {F:List Nat} (h:RB w R) (d:Only F w w') (hR:R∉F):RB w' R:=by
 obtain ⟨g,m,j,A,B,i,q,o,f,e,h⟩:=h
 exact ⟨g,m,j,A,B,i,q,o,f,e,(d.block R (zaK h) hR).trans h⟩
theorem RB.new (w:World):RB (w.alloc (.cells zbQ 27)) w.heap.size:=⟨_,_,_,_,_,_,_,_,_,_,heap_alloc_new w _⟩
theorem UB.who {w:World} {U:Nat} {u:UZ} {pv:Value} (h:UB w U u pv) (a:List UInt8):UB (w.setCell ⟨U,1,none⟩ (.string ⟨a.toArray⟩)) U {u with user:=a} pv:=zaL h 1 _
theorem UB.pwd {w:World} {U:Nat} {u:UZ} {pv:Value} (h:UB w U u pv) (a:List UInt8):UB (w.setCell ⟨U,2,none⟩ (.string ⟨a.toArray⟩)) U {u with pass:=a} pv:=zaL h 2 _
theorem UB.pth {w:World} {U:Nat} {u:UZ} {pv:Value} (h:UB w U u pv) (v:Value):UB (w.setCell ⟨U,5,none⟩ v) U u v:=zaL h 5 _
theorem RB.set {w:World} {R g i:Nat} (h:RB w R) (d:R≠g) (v:Value):RB (w.setCell ⟨g,i,none⟩ v) R:=by
 obtain ⟨j,q,o,C,D,m,A,B,f,e,h⟩:=h
 exact ⟨j,q,o,C,D,m,A,B,f,e,(zcR d i v).trans h⟩
theorem UB.all {w:World} {U:Nat} {u:UZ} {pv:Value} (h:UB w U u pv):w.cell? ⟨U,0,none⟩=some (.string ⟨u.scheme.toArray⟩)∧w.cell? ⟨U,1,none⟩=some (.string ⟨u.user.toArray⟩)∧w.cell? ⟨U,2,none⟩=some (.string ⟨u.pass.toArray⟩)∧w.cell? ⟨U,3,none⟩=some u.host.val∧w.cell? ⟨U,4,none⟩=some (.int .i64 u.port)∧w.cell? ⟨U,5,none⟩=some pv∧w.cell? ⟨U,6,none⟩=some (.string ⟨u.query.toArray⟩)∧w.cell? ⟨U,7,none⟩=some (.bool u.hasQ)∧w.cell? ⟨U,8,none⟩=some (.string ⟨u.frag.toArray⟩)∧w.cell? ⟨U,9,none⟩=some (.bool u.hasF)∧ ∀i,w.frozen? ⟨U,i,none⟩=false:=zbR h
theorem UB.new (x:World) (u:UZ) (pv:Value):UB (x.alloc (.cells (u.cells pv) 27)) x.heap.size u pv:=heap_alloc_new x _
theorem zbA (x:World) (d:Array Value):Below x.heap.size x (x.alloc (.cells d 27)):=(yoX _ x).alloc (yoV _) _
theorem zuO (a name:List UInt8) (w:World) (hl:a.length≤1000000) (J:MaxVar w):
  Calls Tryz.prog 154 #[.string ⟨a.toArray⟩,.string ⟨name.toArray⟩] w (RetURL w (zkM name a) (.slice none 0 0)):=by
 obtain ⟨z,m,r,hz,Qd,qO,Qf,hm,hr,hu,hp,hb⟩:=who_at a
 have Qg:=zpY a m hm
 have Qn: ∀W,(Instr.slice 9 (.string ⟨a.toArray⟩) (some (.int .i64 (z+1))) none none).run Tryz.prog W= .ok (.string ⟨(a.drop r).toArray⟩) W:=by rw [qO];exact zgQ a r hr
 have Qk:(ByteArray.mk a.toArray).size=a.length:=zaF a
 have qD:Hid (∀W,Calls Tryz.prog 162 #[.string ⟨a.toArray⟩,.int .u8 64] W fun e w'=>e= .returned (.int .i64 z)∧W=w'):=fun W=>(Tryz.strings_LastIndexByte ⟨a.toArray⟩ 64 (by omega) W).mono (fun e w' h=>⟨by rw [h.1,hz],h.2.symm⟩)
 have Qc:(a.take m).length≤a.length:=by rw [List.length_take];omega
 have Qi:=(zsG (a.take m)).1
 have Qe:=(zsG (a.take m)).2
 have qz:Hid (∀W,MaxVar W→Calls Tryz.prog 34 #[.string ⟨(a.take m).toArray⟩,.string ⟨#[58]⟩] W fun e w'=>e= .returned (.tuple #[.string ⟨(Lib.cut (a.take m) [58]).1.toArray⟩,.string ⟨(Lib.cut (a.take m) [58]).2.1.toArray⟩,.bool (Lib.cut (a.take m) [58]).2.2])∧Below W.heap.size W w'):=fun W hW=>by
  obtain ⟨mm,qY⟩:=hW
  exact (Tryz.strings_Cut ⟨(a.take m).toArray⟩ ⟨#[58]⟩ mm W (by rw [zaF];omega) qY).mono (fun e w' h=>⟨h.1,by obtain ⟨n,rfl⟩:=h.2;exact zcD (yoX _ _) n⟩)
 have K:=yoU (fun W=>zfP 5 (Lib.cut (a.take m) [58]).1 W (by decide) (by omega))
 have H:=yoU (fun W=>zfP 5 (Lib.cut (a.take m) [58]).2.1 W (by decide) (by omega))
 rw [←hu] at K
 rw [←hp] at H
 generalize Lib.cut (a.take m) [58]=cu at*
 generalize a.take m=ta at*
 have Ql:(a.drop r).length≤a.length:=by rw [List.length_drop];omega
 have D:Hid (zkM name a=if (zcN (hpW false (a.drop r)).1).2≠0 then (zcL,(zcN (hpW false (a.drop r)).1).2) else if (zgJ name (hpW false (a.drop r)).2).2=false then (zcL,8) else ({zcL with scheme:=name,user:=ziJ a,pass:=ziN a,host:=(zcN (hpW false (a.drop r)).1).1,port:=(zgJ name (hpW false (a.drop r)).2).1},0)):=by show _=_;rw [←hb];rfl
 have Qj:=(z8P (a.drop r) false).1
 have Qh:=(z8P (a.drop r) false).2
 have qv:=yoU (fun M W (h:MB W M (a.drop r))=>ycI M (a.drop r) W h)
 have qn:=yoU (fun M W (h:MB W M ((a.drop r).drop (zbX zgW false (a.drop r))))=>zgC M _ [58] W h)
 rw [ybC] at qn
 generalize (a.drop r).drop (zbX zgW false (a.drop r))=l1 at*
 generalize hd1 [58] l1=kb at*
 generalize ziJ a=us at*
 generalize ziN a=pw at*
 generalize hpW false (a.drop r)=A at*
 generalize a.drop r=bh at*
 have qm:=yoU (fun W (h:MaxVar W)=>zjU ⟨A.1.toArray⟩ W (by rw [zaF];omega) h)
 rw [zaM] at qm
 have U:=z7E (l:=A.1)
 have qy:=yoU (fun W=>zuI name A.2 W)
 have HX:=yoU J
 obtain ⟨x0,I⟩: ∃y,y=w.alloc (.cells zbQ 27):=⟨_,rfl⟩
 have qf:Hid (Below w.heap.size w x0):=by show Below _ _ _;rw [I];exact (yoX _ w).alloc (yoV _) _
 have qR:Hid (RB x0 w.heap.size):=by show RB _ _;rw [I];exact RB.new w
 have qs:=yoU (zaD J qf.out)
 unfold zbQ at I
 clear J hz hb hu hp qO
 go_enter Tryz.func154,Tryz.ntmps154
 go_wp2_with fail
 rw [←I]
 clear I
 refine (qD.out _).mono ?_
 rintro e w' ⟨rfl,rfl⟩
 go_wp2_with fail
 refine (qz.out _ qs.out).mono ?_
 rintro e x1 ⟨rfl,qj⟩
 have qh:=yoU (zaG qf.out qj)
 have qp:=yoU (qR.out.below qj)
 clear qj qf qR qz qD qs
 obtain ⟨x2,Y⟩: ∃y,y=x1.alloc (.cells #[.string ⟨bh.toArray⟩] 145):=⟨_,rfl⟩
 have qd:Below x1.heap.size x1 x2:=by rw [Y];exact (yoX _ _).alloc (yoV _) _
 have qk:=yoU (zaG qh.out qd)
 have qT:=yoU (qp.out.below qd)
 have qr:MB x2 x1.heap.size bh:=by rw [Y];exact heap_alloc_new x1 _
 have qb:=yoU (qv.out _ _ qr)
 have qS:w.heap.size≠x1.heap.size:=by have:=qp.out.lt;omega
 have qF:w.heap.size≤x1.heap.size:=qh.out.size
 clear qd qh qp qv qr
 go_wp2_with fail
 rw [←Y]
 clear Y
 refine qb.out.mono ?_
 rintro e x3 ⟨rfl,qL,qo⟩
 have qc:=yoU (qk.out.trans (qo.below qk.out.size (fun x hx=>by rw [List.mem_singleton.1 hx];exact qF)))
 have qA:=yoU (qT.out.only qo (by simp [qS]))
 have qE:=yoU qL
 clear qo qL qb qk qT
 go_wp2_with fail
 refine (qm.out _ (zaD HX.out qc.out)).mono ?_
 rintro e x4 ⟨rfl,Q⟩
 have S:=yoU (zaG qc.out Q)
 have Z:=yoU (qA.out.below Q)
 have qP:=yoU (qE.out.below Q)
 clear qc qA qE Q qm HX
 have X:=zlZ (l:=A.1)
 generalize zcN A.1=hz at*
 obtain ⟨h,he⟩:=hz
 simp only at U X D ⊢
 by_cases h0:he=0
 ·obtain ⟨it,iv,qg⟩:=HZ.iface (X h0).ne
  rw [qg]
  have qi:=yoU qg
  clear qg X
  have f:=yoU (D.out.trans (if_neg (fun g=>g h0)))
  have Qa:(he !=(0:Int))=false:=by rw [h0];rfl
  clear U D h0
  have qa:=yoU (qn.out _ _ qP.out)
  go_wp2_with fail
  refine qa.out.mono ?_
  rintro e x5 ⟨rfl,qH,qe⟩
  have qB:=yoU (S.out.trans (qe.below S.out.size (fun x hx=>by rw [List.mem_singleton.1 hx];exact qF)))
  have qJ:=yoU (Z.out.only qe (by simp [qS]))
  have c5:=qH.cell
  clear qe qH S Z qP qn qa
  go_wp2_with fail
  refine (qy.out _).mono ?_
  rintro e T ⟨rfl,ql⟩
  have O:=yoU (zaG qB.out ql)
  have N:=yoU (qJ.out.below ql)
  clear qB qJ ql qy c5
  generalize zgJ name A.2=po at*
  obtain ⟨pn,pb⟩:=po
  simp only at f ⊢
  cases pb with
  |false=>
   have C:=yoU (f.out.trans (if_pos rfl))
   obtain ⟨c0,c1,c2,c3,c4,c5,c6,c7,c8,c9,d⟩:=N.out
   have L:=yoU d
   obtain ⟨k0,k1,k2,k3,k4,k5,k6,k7,k8,k9,kf⟩:=zbR d
   clear d N f K H
   have o:=yoU (zlN L.out (.string ⟨#[]⟩) (.string ⟨#[]⟩) (.string ⟨#[]⟩) .nilIface (.int .i64 0) (.slice none 0 0) (.string ⟨#[]⟩) (.bool false) (.string ⟨#[]⟩) (.bool false))
   have E:=yoU (zcC O.out (yoV _) (.string ⟨#[]⟩) (.string ⟨#[]⟩) (.string ⟨#[]⟩) .nilIface (.int .i64 0) (.slice none 0 0) (.string ⟨#[]⟩) (.bool false) (.string ⟨#[]⟩) (.bool false))
   go_wp2
   obtain ⟨e0,e1,e2,e3,e4,e5,e6,e7,e8,e9,-⟩:=zbR o.out
   refine bodyPost_ret (v:= .tuple #[.agg zbQ,.int .i64 8]) (by simp [results,Tryz.results154,go_sem,e0,e1,e2,e3,e4,e5,e6,e7,e8,e9,zbQ]) rfl ?_
   rw [C.out]
   exact ⟨rfl,E.out⟩
  |true=>
   have C:=yoU (f.out.trans (if_neg (by decide)))
   clear f
   obtain ⟨x7,V⟩: ∃y,y=T.alloc (.cells #[.string ⟨name.toArray⟩,.string ⟨#[]⟩,.string ⟨#[]⟩,(.iface it iv),.int .i64 pn,.slice none 0 0,.string ⟨#[]⟩,.bool false,.string ⟨#[]⟩,.bool false] 27):=⟨_,rfl⟩
   have qC:UB x7 T.heap.size {zcL with scheme:=name,host:=h,port:=pn} (.slice none 0 0):=by rw [V,←qi.out];exact heap_alloc_new T _
   have qq:Below T.heap.size T x7:=by rw [V];exact zbA T _
   have qx:=yoU (zaG O.out qq)
   have qI:=yoU (N.out.below qq)
   have qV:=yoU qC
   have qK:w.heap.size≤T.heap.size:=O.out.size
   have qQ:w.heap.size≠T.heap.size:=by have:=N.out.lt;omega
   clear O N qq qC
   go_wp2_with fail
   rw [←V]
   clear V
   generalize T.heap.size=g at*
   refine (K.out _).mono ?_
   rintro e x8 ⟨rfl,j⟩
   have G:=yoU (zaG qx.out j)
   have B:=yoU (qI.out.below j)
   have q:=yoU (qV.out.below j)
   obtain ⟨-,c1,-,-,-,-,-,-,-,-,f8⟩:=q.out.all
   have qW:=f8 1
   have qM:=yoU (G.out.setCell (p:=⟨g,1,none⟩) qK (.string ⟨us.toArray⟩))
   have qw:=yoU (B.out.set (i:=1) qQ (.string ⟨us.toArray⟩))
   have qG:=yoU (q.out.who us)
   clear j qx qI qV G B q K f8
   go_wp2_with fail
   clear c1 qW
   generalize x8.setCell ⟨g,1,none⟩ (.string ⟨us.toArray⟩)=x9 at*
   refine (H.out _).mono ?_
   rintro e y8 ⟨rfl,j⟩
   have G:=yoU (zaG qM.out j)
   have B:=yoU (qw.out.below j)
   have q:=yoU (qG.out.below j)
   obtain ⟨-,-,c2,-,-,-,-,-,-,-,f8⟩:=q.out.all
   have Qb:=f8 2
   have qZ:=yoU (G.out.setCell (p:=⟨g,2,none⟩) qK (.string ⟨pw.toArray⟩))
   have qX:=B.out.set (i:=2) qQ (.string ⟨pw.toArray⟩)
   have qU:=q.out.pwd pw
   have qN:(y8.setCell ⟨g,2,none⟩ (.string ⟨pw.toArray⟩)).heap[g]? =some (.cells #[.string ⟨name.toArray⟩,.string ⟨us.toArray⟩,.string ⟨pw.toArray⟩,(.iface it iv),.int .i64 pn,.slice none 0 0,.string ⟨#[]⟩,.bool false,.string ⟨#[]⟩,.bool false] 27):=by rw [←qi.out];exact qU
   obtain ⟨d0,d1,d2,d3,d4,d5,d6,d7,d8,d9,-⟩:=zbR qN
   obtain ⟨c0,c1,Qm,c3,c4,c5,c6,c7,c8,c9,d⟩:=qX
   have L:=yoU d
   obtain ⟨k0,k1,k2,k3,k4,k5,k6,k7,k8,k9,kf⟩:=zbR d
   clear d j qM qw qG G B q H f8 qU qN
   have o:=yoU (zlN L.out (.string ⟨name.toArray⟩) (.string ⟨us.toArray⟩) (.string ⟨pw.toArray⟩) (.iface it iv) (.int .i64 pn) (.slice none 0 0) (.string ⟨#[]⟩) (.bool false) (.string ⟨#[]⟩) (.bool false))
   have E:=yoU (zcC qZ.out (yoV _) (.string ⟨name.toArray⟩) (.string ⟨us.toArray⟩) (.string ⟨pw.toArray⟩) (.iface it iv) (.int .i64 pn) (.slice none 0 0) (.string ⟨#[]⟩) (.bool false) (.string ⟨#[]⟩) (.bool false))
   go_wp2
   obtain ⟨e0,e1,e2,e3,e4,e5,e6,e7,e8,e9,-⟩:=zbR o.out
   refine bodyPost_ret (v:= .tuple #[.agg #[.string ⟨name.toArray⟩,.string ⟨us.toArray⟩,.string ⟨pw.toArray⟩,(.iface it iv),.int .i64 pn,.slice none 0 0,.string ⟨#[]⟩,.bool false,.string ⟨#[]⟩,.bool false],.int .i64 0]) (by simp [results,Tryz.results154,go_sem,e0,e1,e2,e3,e4,e5,e6,e7,e8,e9]) rfl ?_
   rw [C.out]
   exact ⟨by rw [←qi.out];rfl,E.out⟩
 ·have f:=yoU (D.out.trans (if_pos h0))
  have Qa:(he !=(0:Int))=true:=by rw [bne_iff_ne];exact h0
  obtain rfl:h= .none:=U h0
  obtain ⟨c0,c1,c2,c3,c4,c5,c6,c7,c8,c9,d⟩:=Z.out
  have L:=yoU d
  obtain ⟨k0,k1,k2,k3,k4,k5,k6,k7,k8,k9,kf⟩:=zbR d
  clear d Z D K H U h0 X
  have o:=yoU (zlN L.out (.string ⟨#[]⟩) (.string ⟨#[]⟩) (.string ⟨#[]⟩) .nilIface (.int .i64 0) (.slice none 0 0) (.string ⟨#[]⟩) (.bool false) (.string ⟨#[]⟩) (.bool false))
  have E:=yoU (zcC S.out (yoV _) (.string ⟨#[]⟩) (.string ⟨#[]⟩) (.string ⟨#[]⟩) .nilIface (.int .i64 0) (.slice none 0 0) (.string ⟨#[]⟩) (.bool false) (.string ⟨#[]⟩) (.bool false))
  go_wp2
  obtain ⟨e0,e1,e2,e3,e4,e5,e6,e7,e8,e9,-⟩:=zbR o.out
  refine bodyPost_ret (v:= .tuple #[.agg zbQ,.int .i64 he]) (by simp [results,Tryz.results154,go_sem,e0,e1,e2,e3,e4,e5,e6,e7,e8,e9,zbQ]) rfl ?_
  rw [f.out]
  exact ⟨rfl,E.out⟩
theorem ygT (l:List UInt8):(if hd1 [47,92] l=true then l.drop 1 else l)=offW l:=by
 match l with
 |[]=>rfl
 |c::r=>
  have e:hd1 [47,92] (c::r)=zcB c:=by
   have b: ∀d:UInt8,(d==c)=(c==d):=fun d=>by rw [Bool.eq_iff_iff,beq_iff_eq,beq_iff_eq];exact eq_comm
   have f:=b 47
   have g:=b 92
   show hasB [47,92] c=zcB c
   simp only [hasB,List.any_cons,List.any_nil,Bool.or_false,f,g,zcB]
  rw [e]
  rfl
theorem z7P (l:List UInt8):l.drop (l.findIdx (hasB [63,35]))=[]∨(l.drop (l.findIdx (hasB [63,35]))).head? =some 63∨(l.drop (l.findIdx (hasB [63,35]))).head? =some 35:=by
 by_cases h:l.findIdx (hasB [63,35])<l.length
 ·have d:=List.findIdx_getElem (w:=h)
  rw [zuN,dif_pos h]
  have e:l[l.findIdx (hasB [63,35])]=63∨l[l.findIdx (hasB [63,35])]=35:=by
   have:=d
   simp only [hasB,List.any_cons,List.any_nil,Bool.or_false,Bool.or_eq_true,beq_iff_eq] at this
   rcases this with g|g
   ·exact .inl g.symm
   ·exact .inr g.symm
  rcases e with g|g
  ·exact .inr (.inl (by rw [g]))
  ·exact .inr (.inr (by rw [g]))
 ·exact .inl (List.drop_eq_nil_of_le (by omega))
theorem z2P (u:UZ) (d:List (List UInt8)) (l:List UInt8):zdQ u d l=finC {u with path:=znS d (l.take (l.findIdx (hasB [63,35])))} (l.drop (l.findIdx (hasB [63,35]))):=by
 unfold zdQ
 exact (ygB _ (z7P l)).symm
theorem ydO (u:UZ) (l:List UInt8):(finC u l).path=u.path:=by
 unfold finC;repeat' split
 all_goals rfl
theorem zaZ.only {B:Nat} {F:List Nat} {w w':World} {v:Value} {ps:List (List UInt8)} (h:zaZ B w v ps) (e:Only F w w') (hF: ∀b∈F,b<B):zaZ B w' v ps:=
 zoY h (fun b d=>e.block b (World.ownsRow.lt h b d).2 (fun g=>by have:=hF b g;have:=(World.ownsRow.lt h b d).1;omega))
def RetUP (w:World) (M:Nat) (x:UZ×Int) (e:Ending) (w':World):Prop:= ∃pv,e= .returned (.tuple #[.agg (x.1.cells pv),.int .i64 x.2])∧zaZ w.heap.size w' pv x.1.path∧Only [M] w w'
theorem z9Z {w x y:World} {M G:Nat} (d:Only [M] w x) (g:w.heap.size≤G) (h:Only [M,G] x y):Only [M] w y:=
 d.trans h (fun z f=>by
  rcases List.mem_cons.1 f with e|e
  ·exact .inl (by rw [e];exact yoZ ..)
  ·rw [yoY] at e;exact .inr (by omega))
theorem ycX (u:UZ) (l:List UInt8):(finC u l).host=u.host:=by
 unfold finC;repeat' split
 all_goals rfl
theorem z1E {name a:List UInt8} (h:(zkM name a).2=0):(zkM name a).1.host≠ .none:=by
 unfold zkM at*
 split at h
 ·rename_i d;exact absurd h d
 ·rename_i d
  rw [if_neg d]
  split at h
  ·cases h
  ·rename_i e
   rw [if_neg e]
   exact (zlZ (Decidable.not_not.1 d)).ne
theorem PV.shape {w:World} {v:Value} {ps:List (List UInt8)} (h:PV w v ps): ∃a n c,v= .slice a n c:=by
 rcases h with ⟨_,h⟩|⟨g,c,h,_⟩
 ·exact ⟨_,_,_,h⟩
 ·exact ⟨_,_,_,h⟩
theorem z4O {name a:List UInt8} (h:(zkM name a).2≠0):(zkM name a).1=zcL:=by
 unfold zkM at*
 split
 ·rfl
 ·rename_i d
  rw [if_neg d] at h
  split
  ·rfl
  ·rename_i e
   rw [if_neg e] at h
   exact absurd rfl h
theorem ylP (l:List UInt8):(offW l).length≤l.length:=by
 match l with
 |[]=>exact yoV _
 |c::r=>
  show (if zcB c=true then r else c::r).length≤(c::r).length
  split<;>simp
theorem ztC (M:Nat) (l name:List UInt8) (w:World) (hl:l.length≤100000) (hm:MB w M l) (Z:MaxVar w) (hn:ownZ name=80∨ownZ name=443):
  Calls Tryz.prog 89 #[.pointer (some ⟨M,0,none⟩),.string ⟨name.toArray⟩] w (RetUP w M (zeG name l)):=by
 have A:=yoU (z2R name l hn)
 have qO:=yoU (fun W (h:MB W M l)=>zhE [47,92,63,35] (by decide) M l W h)
 have Qg:(l.take (l.findIdx (hasB [47,92,63,35]))).length≤l.length:=by rw [List.length_take];omega
 have Qi:(l.drop (l.findIdx (hasB [47,92,63,35]))).length≤l.length:=by rw [List.length_drop];omega
 generalize l.take (l.findIdx (hasB [47,92,63,35]))=a at*
 generalize l.drop (l.findIdx (hasB [47,92,63,35]))=j at*
 have qL:=yoU (fun W (h:MaxVar W)=>zuO a name W (by omega) h)
 have O:=z4O (name:=name) (a:=a)
 have V:=z1E (name:=name) (a:=a)
 generalize zkM name a=rc at*
 obtain ⟨u,er⟩:=rc
 simp only at A O V
 have qb:=yoU (fun W (h:MB W M j)=>zgC M j [47,92] W h)
 rw [ygT] at qb
 have Qh:=ylP j
 have qp:=yoU (z2P u [] (offW j))
 generalize hd1 [47,92] j=kb at*
 generalize offW j=t at*
 have qJ:=yoU (fun W (h:MB W M t) (hx:MaxVar W)=>ygQ M t (.slice none 0 0) [] W (by omega) (by simp) h (.inl ⟨rfl,rfl⟩) hx)
 have Qd:(t.drop (t.findIdx (hasB [63,35]))).length≤t.length:=by rw [List.length_drop];omega
 generalize znS [] (t.take (t.findIdx (hasB [63,35])))=ps at*
 generalize t.drop (t.findIdx (hasB [63,35]))=left at*
 have HX:=yoU Z
 have HM:=yoU hm
 have Qe:=zaK hm
 obtain ⟨x0,G⟩: ∃y,y=w.alloc (.cells zbQ 27):=⟨_,rfl⟩
 have qh:Below w.heap.size w x0:=by rw [G];exact zbA w _
 have qB:Hid (RB x0 w.heap.size):=by show RB _ _;rw [G];exact RB.new w
 have qD:MB x0 M l:=hm.below qh
 have HU:=yoU (qO.out x0 qD)
 have qT:Hid (Only [M] w x0):=Only.of_below qh
 unfold zbQ at G
 clear Z hm hn qh qD qO
 go_enter Tryz.func89,Tryz.ntmps89
 go_wp2_with fail
 rw [←G]
 clear G
 refine (zmC [47,92,63,35] _).mono ?_
 rintro e x1 ⟨rfl,rfl⟩
 go_wp2_with fail
 refine HU.out.mono ?_
 rintro e x2 ⟨rfl,qG,qc⟩
 have X:w.heap.size≠M:=by omega
 have qK:=yoU (qB.out.only qc (by simp [X]))
 have qm:=yoU (qT.out.trans qc (fun x hx=> .inl hx))
 have qH:=yoU qG
 have qE:=yoU (zmI HX.out HM.out qm.out)
 clear HU qB qT qc qG
 go_wp2_with fail
 refine (qL.out _ qE.out).mono ?_
 rintro e q ⟨rfl,S⟩
 have I:=yoU (qK.out.below S)
 have K:=yoU (qm.out.then_below S)
 have T:=yoU (qH.out.below S)
 clear qL qK qm qH qE S
 have qM:w.heap.size≤q.heap.size:=K.out.size
 have qz:w.heap.size≠q.heap.size:=by have:=I.out.lt;omega
 have ql:q.heap.size≠M:=by have:=zaK T.out;omega
 by_cases h0:er=0
 ·have Qc:(er !=(0:Int))=false:=by rw [h0];rfl
  have m:=yoU (A.out.trans (if_neg (fun k=>k h0)))
  obtain ⟨it,iv,qe⟩:=HZ.iface (V h0)
  clear O V A h0
  obtain ⟨x4,f⟩: ∃y,y=q.alloc (.cells (u.cells (.slice none 0 0)) 27):=⟨_,rfl⟩
  have qd:Hid (UB x4 q.heap.size u (.slice none 0 0)):=by show UB _ _ _ _;rw [f];exact UB.new q u _
  have o:Below q.heap.size q x4:=by rw [f];exact zbA q _
  have J:=yoU (I.out.below o)
  have U:=yoU (K.out.then_below o)
  have qA:=yoU (T.out.below o)
  have Qf:q.heap.size<x4.heap.size:=by have:=zaK qd.out;exact this
  clear I K T o
  simp only [UZ.cells] at f ⊢
  rw [qe] at f ⊢
  have qZ:=yoU qe
  clear qe
  have qF:=yoU (qb.out _ qA.out)
  go_wp2_with fail
  rw [←f]
  clear f
  generalize q.heap.size=g at*
  refine qF.out.mono ?_
  rintro e x5 ⟨rfl,qS,Q⟩
  have qv:=yoU (J.out.only Q (by simp [X]))
  have qi:=yoU (qd.out.only Q (by simp [ql]))
  have qf:=yoU (U.out.trans Q (fun x hx=> .inl hx))
  have qx:=yoU (qJ.out _ qS (zmI HX.out HM.out qf.out))
  have qX:g<x5.heap.size:=zaK qi.out
  clear qF qb qJ J qd U qA qS Q
  go_wp2_with fail
  refine qx.out.mono ?_
  rintro e x6 ⟨pv,rfl,qk,qI,Y⟩
  obtain ⟨B,E,D,rfl⟩:=qk.pv.shape
  have qP:=yoU (qv.out.only Y (by simp [X]))
  have qg:=yoU (qi.out.only Y (by simp [ql]))
  have qo:=yoU (qf.out.trans Y (fun x hx=> .inl hx))
  have qQ:=yoU qk
  have qq:=yoU qI
  clear qx qv qi qf qk qI Y
  obtain ⟨-,-,-,-,-,c5,-,-,-,-,f6⟩:=qg.out.all
  have qU:=f6 5
  have H:Only [g] x6 (x6.setCell ⟨g,5,none⟩ (.slice B E D)):=(Only.refl _ _).setCell (p:=⟨g,5,none⟩) (.inl (yoZ ..)) _
  have qs:=yoU (qP.out.set (i:=5) qz (.slice B E D))
  have qR:Hid (UB (x6.setCell ⟨g,5,none⟩ (.slice B E D)) g {u with path:=ps} (.slice B E D)):=qg.out.pth (.slice B E D)
  have qN:Hid (MB (x6.setCell ⟨g,5,none⟩ (.slice B E D)) M left):=qq.out.only H (by simp [Ne.symm ql])
  have qy:Hid (Only [M] w (x6.setCell ⟨g,5,none⟩ (.slice B E D))):=qo.out.setCell (p:=⟨g,5,none⟩) (.inr qM) _
  have qC:=yoU (qQ.out.only H (fun b hb=>by rw [List.mem_singleton.1 hb];exact qX))
  have qn:=yoU (z2Z M g left {u with path:=ps} (.slice B E D) _ (by omega) qN.out qR.out)
  clear qP qg qo qQ qq H f6
  go_wp2_with fail
  clear c5 qU
  generalize x6.setCell ⟨g,5,none⟩ (.slice B E D)=x7 at*
  refine qn.out.mono ?_
  rintro e x8 ⟨rfl,qr,L⟩
  have qW:=qs.out.only L (by simp [X,qz])
  have Qb:=yoU (z9Z qy.out qM L)
  have qV:=yoU (qC.out.only L (fun b hb=>by
   rcases List.mem_cons.1 hb with e|e
   ·rw [e];omega
   ·rw [yoY] at e;omega))
  have qw:Hid ((finC {u with path:=ps} left).host.val= .iface it iv):=by show _=_;rw [ycX];exact qZ.out
  have Qa:Hid ((finC {u with path:=ps} left).path=ps):=ydO _ _
  have qa:Hid (zdQ u [] t=finC {u with path:=ps} left):=qp.out
  rw [qa.out] at m
  clear qp qa qn qs qR qy qC qN L
  generalize finC {u with path:=ps} left=v at*
  obtain ⟨d0,d1,d2,d3,d4,d5,d6,d7,d8,d9,-⟩:=qr.all
  rw [qw.out] at d3
  obtain ⟨c0,c1,c2,c3,c4,c5,c6,c7,c8,c9,d⟩:=qW
  have qj:=yoU d
  obtain ⟨k0,k1,k2,k3,k4,k5,k6,k7,k8,k9,kf⟩:=zbR d
  clear d qr
  have C:=yoU (zlN qj.out (.string ⟨v.scheme.toArray⟩) (.string ⟨v.user.toArray⟩) (.string ⟨v.pass.toArray⟩) (.iface it iv) (.int .i64 v.port) (.slice B E D) (.string ⟨v.query.toArray⟩) (.bool v.hasQ) (.string ⟨v.frag.toArray⟩) (.bool v.hasF))
  have N:=yoU (ziF (g:=w.heap.size) Qb.out (.inr (yoV _)) (.string ⟨v.scheme.toArray⟩) (.string ⟨v.user.toArray⟩) (.string ⟨v.pass.toArray⟩) (.iface it iv) (.int .i64 v.port) (.slice B E D) (.string ⟨v.query.toArray⟩) (.bool v.hasQ) (.string ⟨v.frag.toArray⟩) (.bool v.hasF))
  have qY:=yoU (qV.out.only (ziF (g:=w.heap.size) (F:=[w.heap.size]) (Only.refl _ _) (.inl (yoZ ..)) (.string ⟨v.scheme.toArray⟩) (.string ⟨v.user.toArray⟩) (.string ⟨v.pass.toArray⟩) (.iface it iv) (.int .i64 v.port) (.slice B E D) (.string ⟨v.query.toArray⟩) (.bool v.hasQ) (.string ⟨v.frag.toArray⟩) (.bool v.hasF)) (fun b hb=>by rw [List.mem_singleton.1 hb];omega))
  go_wp2
  obtain ⟨e0,e1,e2,e3,e4,e5,e6,e7,e8,e9,-⟩:=zbR C.out
  refine bodyPost_ret (v:= .tuple #[.agg #[.string ⟨v.scheme.toArray⟩,.string ⟨v.user.toArray⟩,.string ⟨v.pass.toArray⟩,.iface it iv,.int .i64 v.port,(.slice B E D),.string ⟨v.query.toArray⟩,.bool v.hasQ,.string ⟨v.frag.toArray⟩,.bool v.hasF],.int .i64 0]) (by simp [results,Tryz.results89,go_sem,e0,e1,e2,e3,e4,e5,e6,e7,e8,e9]) rfl ?_
  rw [m.out]
  exact ⟨(.slice B E D),by rw [←qw.out];rfl,by rw [show (v,(0:Int)).1.path=ps from Qa.out];exact zpL qY.out (by omega),N.out⟩
 ·have Qc:(er !=(0:Int))=true:=by rw [bne_iff_ne];exact h0
  have m:=yoU (A.out.trans (if_pos h0))
  obtain rfl:=O h0
  obtain ⟨x4,f⟩: ∃y,y=q.alloc (.cells zbQ 27):=⟨_,rfl⟩
  have o:Below q.heap.size q x4:=by rw [f];exact zbA q _
  have J:=yoU (I.out.below o)
  have U:=yoU (K.out.then_below o)
  rw [zxE]
  unfold zbQ at f ⊢
  clear I K T o V
  obtain ⟨c0,c1,c2,c3,c4,c5,c6,c7,c8,c9,d⟩:=J.out
  have qj:=yoU d
  obtain ⟨k0,k1,k2,k3,k4,k5,k6,k7,k8,k9,kf⟩:=zbR d
  clear d O h0 J
  have C:=yoU (zlN qj.out (.string ⟨#[]⟩) (.string ⟨#[]⟩) (.string ⟨#[]⟩) .nilIface (.int .i64 0) (.slice none 0 0) (.string ⟨#[]⟩) (.bool false) (.string ⟨#[]⟩) (.bool false))
  have N:=yoU (ziF (g:=w.heap.size) U.out (.inr (yoV _)) (.string ⟨#[]⟩) (.string ⟨#[]⟩) (.string ⟨#[]⟩) .nilIface (.int .i64 0) (.slice none 0 0) (.string ⟨#[]⟩) (.bool false) (.string ⟨#[]⟩) (.bool false))
  rw [f] at k0 k1 k2 k3 k4 k5 k6 k7 k8 k9 kf C N
  clear f
  go_wp2
  obtain ⟨e0,e1,e2,e3,e4,e5,e6,e7,e8,e9,-⟩:=zbR C.out
  refine bodyPost_ret (v:= .tuple #[.agg zbQ,.int .i64 er]) (by simp [results,Tryz.results89,go_sem,e0,e1,e2,e3,e4,e5,e6,e7,e8,e9,zbQ]) rfl ?_
  rw [m.out]
  exact ⟨.slice none 0 0,rfl,zaZ.nil _ _,N.out⟩
def RetP (w:World) (x:UZ×Int) (e:Ending) (w':World):Prop:= ∃pv,e= .returned (.tuple #[.agg (x.1.cells pv),.int .i64 x.2])∧zaZ w.heap.size w' pv x.1.path∧Below w.heap.size w w'
theorem HZ.shape (h:HZ):h.val= .nilIface∨ ∃t v,h.val= .iface t v:=by
 cases h with
 |none=>exact .inl rfl
 |name l=>exact .inr ⟨_,_,rfl⟩
 |addr a=>cases a<;>exact .inr ⟨_,_,rfl⟩
theorem own_80 {n:List UInt8} (h:ownZ n≠0):ownZ n=80∨ownZ n=443:=by
 unfold ownZ at*
 split at h
 ·exact .inl (by rename_i g;rw [if_pos g])
 ·rename_i g
  rw [if_neg g] at*
  split at h
  ·rename_i d;exact .inr (by rw [if_pos d])
  ·exact absurd rfl h
theorem z1B {t:List UInt8} {b:Option UZ} (d: ∀u,b=some u→u.scheme=ziL∨u.scheme=zdX) (h: ¬4096<t.length):zbL t b=z8R (zgX (zgP t)) b:=by
 unfold zbL
 rw [if_neg h,z9M _ b d]
theorem z1C {t:List UInt8} {b:Option UZ} (h:4096<t.length):zbL t b=(zcL,3):=if_pos h
theorem zuJ (t:List UInt8):(zgX (zgP t)).length≤t.length:=by
 have d:=yeY (zgP t)
 have f:=zyS t
 have e:=(List.dropWhile_suffix (l:=t) zcM).length_le
 omega
theorem zyJ {s:List UInt8} {b:Option UZ} (h:ownZ (ziX s b)=0):z8R s b=(zcL,5):=if_pos h
theorem yfN {s:List UInt8} (h: ¬ownZ (ziX s none)=0):z8R s none=zeG (ziX s none) (zhB (zoI s)):=if_neg h
theorem z7G {s n r:List UInt8} {b:Option UZ} (h:schW s=some (n,r)):ziX s b=n∧zoI s=r:=by
 unfold ziX zoI;rw [h];exact ⟨rfl,rfl⟩
theorem z8E {s:List UInt8} {b:UZ} (h:schW s=none):ziX s (some b)=b.scheme∧ziX s none=[]∧zoI s=s:=by
 unfold ziX zoI;rw [h];exact ⟨rfl,rfl,rfl⟩
theorem z0N (l:List UInt8):(zhB l).length≤l.length:=(List.dropWhile_suffix (l:=l) zcB).length_le
theorem ydJ {s n r:List UInt8} (h:schW s=some (n,r)):r.length≤s.length:=by
 rw [zsO] at h
 split at h
 ·have:=(Prod.mk.inj (Option.some.inj h)).2
  rw [←this,List.length_drop];omega
 ·cases h
theorem zkG {w x:World} {pv:Value} {u:UZ} {B:Nat} (d:Below w.heap.size w x) (G:zaZ B x pv u.path) (i:w.heap.size<B) (C e q D j o E f A m:Value):
  zaZ w.heap.size ((((((((((x.setCell ⟨w.heap.size,0,none⟩ C).setCell ⟨w.heap.size,1,none⟩ e).setCell ⟨w.heap.size,2,none⟩ q).setCell ⟨w.heap.size,3,none⟩ D).setCell ⟨w.heap.size,4,none⟩ j).setCell ⟨w.heap.size,5,none⟩ o).setCell ⟨w.heap.size,6,none⟩ E).setCell ⟨w.heap.size,7,none⟩ f).setCell ⟨w.heap.size,8,none⟩ A).setCell ⟨w.heap.size,9,none⟩ m) pv u.path∧
  Below w.heap.size w ((((((((((x.setCell ⟨w.heap.size,0,none⟩ C).setCell ⟨w.heap.size,1,none⟩ e).setCell ⟨w.heap.size,2,none⟩ q).setCell ⟨w.heap.size,3,none⟩ D).setCell ⟨w.heap.size,4,none⟩ j).setCell ⟨w.heap.size,5,none⟩ o).setCell ⟨w.heap.size,6,none⟩ E).setCell ⟨w.heap.size,7,none⟩ f).setCell ⟨w.heap.size,8,none⟩ A).setCell ⟨w.heap.size,9,none⟩ m):=
 ⟨zpL (G.only (ziF (g:=w.heap.size) (F:=[w.heap.size]) (Only.refl _ _) (.inl (yoZ ..)) _ _ _ _ _ _ _ _ _ _) (fun b d=>by rw [List.mem_singleton.1 d];exact i)) (Nat.le_of_lt i),zcC d (yoV _) _ _ _ _ _ _ _ _ _ _⟩
theorem zxJ (t:List UInt8) (w:World) (N:MaxVar w):
  Calls Tryz.prog 38 #[.string ⟨t.toArray⟩,.pointer none] w (RetP w (zbL t none)):=by
 obtain ⟨x0,A⟩: ∃y,y=w.alloc (.cells zbQ 27):=⟨_,rfl⟩
 have V:Below w.heap.size w x0:=by rw [A];exact zbA w _
 have qi:Hid (RB x0 w.heap.size):=by show RB _ _;rw [A];exact RB.new w
 have hz:=zaF t
 unfold zbQ at A
 have HX:=yoU (fun x (h:Below w.heap.size w x)=>zaD N h)
 by_cases G:4096<t.length
 ·have HF:=yoU (z1C (b:=none) G)
  have hd:decide (4096<(t.length:Int))=true:=yoW (by omega)
  have qj:Below w.heap.size w (w.alloc (.cells zbQ 27)):=zbA w _
  unfold zbQ at qj
  clear qi V A HX
  go_enter Tryz.func38,Tryz.ntmps38
  go_wp2
  refine bodyPost_ret (v:= .tuple #[.agg zbQ,.int .i64 3]) (by simp [results,Tryz.results38,go_sem,zbQ]) rfl ?_
  rw [HF.out]
  exact ⟨.slice none 0 0,rfl,zaZ.nil _ _,qj⟩
 have hd:decide (4096<(t.length:Int))=false:=decide_eq_false (by omega)
 have HF:=yoU (z1B (b:=none) (fun u e=>by cases e) G)
 have h4:t.length≤4096:=by omega
 have hl:t.length≤1000000:=by omega
 have qH:=zuJ t
 have qJ:(zgP t).length≤t.length:=by
  have h2:=zyS t
  have h3:=(List.dropWhile_suffix (l:=t) zcM).length_le
  omega
 have HT:=yoU (fun W=>yhZ ⟨t.toArray⟩ W (by rw [zaF];omega))
 rw [zaM] at HT
 have HD:=yoU (fun W=>yeL ⟨(zgP t).toArray⟩ W (by rw [zaF];omega))
 rw [zaM] at HD
 generalize zgX (zgP t)=s at*
 generalize zgP t=t1 at*
 have qy:=yoU V
 clear N V G
 go_enter Tryz.func38,Tryz.ntmps38
 go_wp2_with fail
 rw [←A]
 clear A
 refine (HT.out _).mono ?_
 rintro e w' ⟨rfl,rfl⟩
 go_wp2_with fail
 refine (HD.out _).mono ?_
 rintro e O ⟨rfl,qd⟩
 have qk:=yoU (zaG qy.out qd)
 have H:=yoU (qi.out.below qd)
 clear qd qy qi HT HD hz hd
 obtain ⟨x2,J⟩: ∃y,y=O.alloc (.cells #[.string ⟨s.toArray⟩] 145):=⟨_,rfl⟩
 have qe:Below O.heap.size O x2:=by rw [J];exact (yoX _ _).alloc (yoV _) _
 have qf:=yoU (zaG qk.out qe)
 have qn:=yoU (H.out.below qe)
 have ql:Hid (MB x2 O.heap.size s):=by show MB _ _ _;rw [J];exact heap_alloc_new O _
 have qv:=yoU (z3M _ s x2 (by omega) ql.out)
 have qc:w.heap.size≠O.heap.size:=by have:=H.out.lt;omega
 have qI:w.heap.size<O.heap.size:=H.out.lt
 clear qk H qe ql
 go_wp2_with fail
 rw [←J]
 clear J
 generalize O.heap.size=M at*
 refine qv.out.mono ?_
 rintro e x3 ⟨rfl,i,qg⟩
 have qA:Below w.heap.size x2 x3:=qg.below qf.out.size (fun x hx=>by rw [List.mem_singleton.1 hx];omega)
 have E:=yoU (qf.out.trans qA)
 have C:=yoU (qn.out.only qg (by simp [qc]))
 have qF:=zaK i
 clear qv qg qf qn qA
 cases o:schW s with
 |none=>
  obtain ⟨-,g,L⟩:=z8E (b:=zcL) o
  have D:ownZ (ziX s none)=0:=by rw [g];decide
  rw [o] at i
  obtain ⟨nm,qz⟩: ∃nm,nm=([]:List UInt8):=⟨_,rfl⟩
  rw [←qz] at g
  clear o L
  simp only [Option.map,Option.getD,Option.isSome] at i ⊢
  have j:=yoU (HF.out.trans (zyJ D))
  obtain ⟨c0,c1,c2,c3,c4,c5,c6,c7,c8,c9,d⟩:=C.out
  have B:=yoU d
  obtain ⟨k0,k1,k2,k3,k4,k5,k6,k7,k8,k9,kf⟩:=zbR d
  have f:=yoU (zlN B.out (.string ⟨#[]⟩) (.string ⟨#[]⟩) (.string ⟨#[]⟩) .nilIface (.int .i64 0) (.slice none 0 0) (.string ⟨#[]⟩) (.bool false) (.string ⟨#[]⟩) (.bool false))
  have q:=yoU (zcC E.out (yoV _) (.string ⟨#[]⟩) (.string ⟨#[]⟩) (.string ⟨#[]⟩) .nilIface (.int .i64 0) (.slice none 0 0) (.string ⟨#[]⟩) (.bool false) (.string ⟨#[]⟩) (.bool false))
  have m:=yoU (fun W=>zeM ([]:List UInt8) W)
  rw [show ownZ []=0 by decide] at m
  clear d C i D g qz
  go_wp2_with fail
  refine (m.out _).mono ?_
  rintro e w' ⟨rfl,rfl⟩
  go_wp2
  obtain ⟨Y,e1,e2,Z,T,U,X,e7,S,e9,-⟩:=zbR f.out
  refine bodyPost_ret (v:= .tuple #[.agg zbQ,.int .i64 5]) (by simp [results,Tryz.results38,go_sem,Y,e1,e2,Z,T,U,X,e7,S,e9,zbQ]) rfl ?_
  rw [j.out]
  exact ⟨.slice none 0 0,rfl,zaZ.nil _ _,q.out⟩
 |some p=>
  obtain ⟨nm,lf⟩:=p
  obtain ⟨g,L⟩:=z7G (b:=none) o
  have qK:=ydJ o
  rw [o] at i
  simp only [Option.map,Option.getD,Option.isSome] at i ⊢
  by_cases D:ownZ (ziX s none)=0
  ·have j:=yoU (HF.out.trans (zyJ D))
   obtain ⟨c0,c1,c2,c3,c4,c5,c6,c7,c8,c9,d⟩:=C.out
   have B:=yoU d
   obtain ⟨k0,k1,k2,k3,k4,k5,k6,k7,k8,k9,kf⟩:=zbR d
   have f:=yoU (zlN B.out (.string ⟨#[]⟩) (.string ⟨#[]⟩) (.string ⟨#[]⟩) .nilIface (.int .i64 0) (.slice none 0 0) (.string ⟨#[]⟩) (.bool false) (.string ⟨#[]⟩) (.bool false))
   have q:=yoU (zcC E.out (yoV _) (.string ⟨#[]⟩) (.string ⟨#[]⟩) (.string ⟨#[]⟩) .nilIface (.int .i64 0) (.slice none 0 0) (.string ⟨#[]⟩) (.bool false) (.string ⟨#[]⟩) (.bool false))
   have m:=yoU (fun W=>zeM nm W)
   rw [g] at D
   rw [D] at m
   clear d C i D g
   go_wp2_with fail
   refine (m.out _).mono ?_
   rintro e w' ⟨rfl,rfl⟩
   go_wp2
   obtain ⟨Y,e1,e2,Z,T,U,X,e7,S,e9,-⟩:=zbR f.out
   refine bodyPost_ret (v:= .tuple #[.agg zbQ,.int .i64 5]) (by simp [results,Tryz.results38,go_sem,Y,e1,e2,Z,T,U,X,e7,S,e9,zbQ]) rfl ?_
   rw [j.out]
   exact ⟨.slice none 0 0,rfl,zaZ.nil _ _,q.out⟩
  ·have j:=yoU (HF.out.trans (yfN D))
   rw [g,L] at j
   have qB:=own_80 (n:=nm) (by rw [←g];exact D)
   have m:=yoU (fun W=>zeM nm W)
   have qE:(ownZ nm==(0:Int))=false:=by rw [beq_eq_false_iff_ne,←g];exact D
   generalize qD:ownZ nm=oz at*
   have qo:=yoU (zqK M lf x3 i)
   go_wp2_with fail
   refine (m.out _).mono ?_
   rintro e w' ⟨rfl,rfl⟩
   go_wp2_with fail
   refine qo.out.mono ?_
   rintro e xc ⟨rfl,qp,qb⟩
   have qm:Below w.heap.size x3 xc:=qb.below E.out.size (fun x hx=>by rw [List.mem_singleton.1 hx];omega)
   have I:=yoU (E.out.trans qm)
   have Q:=yoU (C.out.only qb (by simp [qc]))
   have qs:=yoU qp
   have qG:=z0N (lf)
   clear qo m qb qm qp i E C qE
   generalize zhB lf=lb at*
   clear D g L o
   rw [←qD] at qB
   go_wp2_with fail
   refine (ztC M lb nm _ (by omega) qs.out (HX.out _ I.out) qB).mono ?_
   rintro e x5 ⟨pv,rfl,qx,qh⟩
   have qw:Below w.heap.size xc x5:=qh.below I.out.size (fun x hx=>by rw [List.mem_singleton.1 hx];omega)
   have qr:=yoU (I.out.trans qw)
   have qC:=Q.out.only qh (by simp [qc])
   have K:=yoU qx
   have qq:w.heap.size<xc.heap.size:=Q.out.lt
   clear qh qw qx Q qs I
   generalize zeG nm lb=rr at*
   obtain ⟨v,er⟩:=rr
   simp only [UZ.cells] at K j ⊢
   obtain ⟨sa,sn,sc,rfl⟩:=K.out.pv.shape
   obtain ⟨c0,c1,c2,c3,c4,c5,c6,c7,c8,c9,d⟩:=qC
   have B:=yoU d
   obtain ⟨k0,k1,k2,k3,k4,k5,k6,k7,k8,k9,kf⟩:=zbR d
   clear d
   rcases v.host.shape with hv|⟨it,iv,hv⟩
   ·have qa:=yoU hv
    rw [hv]
    clear hv
    have f:=yoU (zlN B.out (.string ⟨v.scheme.toArray⟩) (.string ⟨v.user.toArray⟩) (.string ⟨v.pass.toArray⟩) .nilIface (.int .i64 v.port) (.slice sa sn sc) (.string ⟨v.query.toArray⟩) (.bool v.hasQ) (.string ⟨v.frag.toArray⟩) (.bool v.hasF))
    have q:=yoU (zkG qr.out K.out qq (.string ⟨v.scheme.toArray⟩) (.string ⟨v.user.toArray⟩) (.string ⟨v.pass.toArray⟩) .nilIface (.int .i64 v.port) (.slice sa sn sc) (.string ⟨v.query.toArray⟩) (.bool v.hasQ) (.string ⟨v.frag.toArray⟩) (.bool v.hasF))
    go_wp2
    obtain ⟨Y,e1,e2,Z,T,U,X,e7,S,e9,-⟩:=zbR f.out
    refine bodyPost_ret (v:= .tuple #[.agg #[.string ⟨v.scheme.toArray⟩,.string ⟨v.user.toArray⟩,.string ⟨v.pass.toArray⟩,.nilIface,.int .i64 v.port,.slice sa sn sc,.string ⟨v.query.toArray⟩,.bool v.hasQ,.string ⟨v.frag.toArray⟩,.bool v.hasF],.int .i64 er]) (by simp [results,Tryz.results38,go_sem,Y,e1,e2,Z,T,U,X,e7,S,e9]) rfl ?_
    rw [j.out]
    exact ⟨_,by rw [←qa.out];rfl,q.out⟩
   ·have qa:=yoU hv
    rw [hv]
    clear hv
    have f:=yoU (zlN B.out (.string ⟨v.scheme.toArray⟩) (.string ⟨v.user.toArray⟩) (.string ⟨v.pass.toArray⟩) (.iface it iv) (.int .i64 v.port) (.slice sa sn sc) (.string ⟨v.query.toArray⟩) (.bool v.hasQ) (.string ⟨v.frag.toArray⟩) (.bool v.hasF))
    have q:=yoU (zkG qr.out K.out qq (.string ⟨v.scheme.toArray⟩) (.string ⟨v.user.toArray⟩) (.string ⟨v.pass.toArray⟩) (.iface it iv) (.int .i64 v.port) (.slice sa sn sc) (.string ⟨v.query.toArray⟩) (.bool v.hasQ) (.string ⟨v.frag.toArray⟩) (.bool v.hasF))
    go_wp2
    obtain ⟨Y,e1,e2,Z,T,U,X,e7,S,e9,-⟩:=zbR f.out
    refine bodyPost_ret (v:= .tuple #[.agg #[.string ⟨v.scheme.toArray⟩,.string ⟨v.user.toArray⟩,.string ⟨v.pass.toArray⟩,(.iface it iv),.int .i64 v.port,.slice sa sn sc,.string ⟨v.query.toArray⟩,.bool v.hasQ,.string ⟨v.frag.toArray⟩,.bool v.hasF],.int .i64 er]) (by simp [results,Tryz.results38,go_sem,Y,e1,e2,Z,T,U,X,e7,S,e9]) rfl ?_
    rw [j.out]
    exact ⟨_,by rw [←qa.out];rfl,q.out⟩
theorem ztM (t:List UInt8) (w:World) (j:MaxVar w):
  Calls Tryz.prog 9 #[.string ⟨t.toArray⟩] w (RetP w (zbL t none)):=by
 obtain ⟨M,d⟩: ∃y,y=w.alloc (.cells zbQ 27):=⟨_,rfl⟩
 have q:Below w.heap.size w M:=by rw [d];exact zbA w _
 have C:Hid (RB M w.heap.size):=by show RB _ _;rw [d];exact RB.new w
 have HP:=yoU (zxJ t M (zaD j q))
 have K:=yoU q
 have H:w.heap.size<M.heap.size:=C.out.lt
 unfold zbQ at d
 clear j q
 generalize zbL t none=rr at*
 obtain ⟨v,er⟩:=rr
 go_enter Tryz.func9,Tryz.ntmps9
 go_wp2_with fail
 rw [←d]
 clear d
 refine HP.out.mono ?_
 rintro e x5 ⟨pv,rfl,J,A⟩
 have I:=yoU (zaG K.out A)
 have Q:=C.out.below A
 have i:=yoU J
 clear HP A J C K
 simp only [UZ.cells] at i ⊢
 obtain ⟨D,E,G,rfl⟩:=i.out.pv.shape
 obtain ⟨c0,c1,c2,c3,c4,c5,c6,c7,c8,c9,g⟩:=Q
 have L:=yoU g
 obtain ⟨k0,k1,k2,k3,k4,k5,k6,k7,k8,k9,kf⟩:=zbR g
 clear g
 rcases v.host.shape with m|⟨N,iv,m⟩
 ·have B:=yoU m
  rw [m]
  clear m
  have f:=yoU (zlN L.out (.string ⟨v.scheme.toArray⟩) (.string ⟨v.user.toArray⟩) (.string ⟨v.pass.toArray⟩) .nilIface (.int .i64 v.port) (.slice D E G) (.string ⟨v.query.toArray⟩) (.bool v.hasQ) (.string ⟨v.frag.toArray⟩) (.bool v.hasF))
  have o:=yoU (zkG I.out i.out H (.string ⟨v.scheme.toArray⟩) (.string ⟨v.user.toArray⟩) (.string ⟨v.pass.toArray⟩) .nilIface (.int .i64 v.port) (.slice D E G) (.string ⟨v.query.toArray⟩) (.bool v.hasQ) (.string ⟨v.frag.toArray⟩) (.bool v.hasF))
  go_wp2
  obtain ⟨e0,S,X,e3,V,Y,Z,T,U,O,-⟩:=zbR f.out
  refine bodyPost_ret (v:= .tuple #[.agg #[.string ⟨v.scheme.toArray⟩,.string ⟨v.user.toArray⟩,.string ⟨v.pass.toArray⟩,.nilIface,.int .i64 v.port,.slice D E G,.string ⟨v.query.toArray⟩,.bool v.hasQ,.string ⟨v.frag.toArray⟩,.bool v.hasF],.int .i64 er]) (by simp [results,Tryz.results9,go_sem,e0,S,X,e3,V,Y,Z,T,U,O]) rfl ?_
  exact ⟨_,by rw [←B.out];rfl,o.out⟩
 ·have B:=yoU m
  rw [m]
  clear m
  have f:=yoU (zlN L.out (.string ⟨v.scheme.toArray⟩) (.string ⟨v.user.toArray⟩) (.string ⟨v.pass.toArray⟩) (.iface N iv) (.int .i64 v.port) (.slice D E G) (.string ⟨v.query.toArray⟩) (.bool v.hasQ) (.string ⟨v.frag.toArray⟩) (.bool v.hasF))
  have o:=yoU (zkG I.out i.out H (.string ⟨v.scheme.toArray⟩) (.string ⟨v.user.toArray⟩) (.string ⟨v.pass.toArray⟩) (.iface N iv) (.int .i64 v.port) (.slice D E G) (.string ⟨v.query.toArray⟩) (.bool v.hasQ) (.string ⟨v.frag.toArray⟩) (.bool v.hasF))
  go_wp2
  obtain ⟨e0,S,X,e3,V,Y,Z,T,U,O,-⟩:=zbR f.out
  refine bodyPost_ret (v:= .tuple #[.agg #[.string ⟨v.scheme.toArray⟩,.string ⟨v.user.toArray⟩,.string ⟨v.pass.toArray⟩,.iface N iv,.int .i64 v.port,.slice D E G,.string ⟨v.query.toArray⟩,.bool v.hasQ,.string ⟨v.frag.toArray⟩,.bool v.hasF],.int .i64 er]) (by simp [results,Tryz.results9,go_sem,e0,S,X,e3,V,Y,Z,T,U,O]) rfl ?_
  exact ⟨_,by rw [←B.out];rfl,o.out⟩
end
end Go.Proofs.YtegmcmgndllmaaaGreatDoor
