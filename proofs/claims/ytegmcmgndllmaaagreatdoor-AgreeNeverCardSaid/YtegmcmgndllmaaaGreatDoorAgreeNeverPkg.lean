/-
  What the law AgreeNever leans on, and its walk (32 of 42).
-/
import Derived.Maps.AppendAt
import Derived.Deep.RegionHeld3
import Derived.Test.YtegmcmgndllmaaaGreatDoorAgreeNeverPke
import Derived.Test.YtegmcmgndllmaaaGreatDoorAgreeNeverPkO
import Derived.Test.YtegmcmgndllmaaaGreatDoorAgreeNeverPkf
import Derived.Test.YtegmcmgndllmaaaGreatDoorAgreeNeverPkU
import Derived.Test.YtegmcmgndllmaaaGreatDoorAgreeNeverPkT
namespace Go.Proofs.YtegmcmgndllmaaaGreatDoor
set_option maxRecDepth 100000
set_option maxHeartbeats 16000000
abbrev ylO := @Lib.hid
abbrev ylP := @Nat.le_refl
abbrev ylQ := @decide_eq_true
abbrev ylR := @Go.RowKit.Below.refl
abbrev ylS := @List.mem_singleton
abbrev ylT := @List.mem_cons_self
section
open Go.RowKit
def PV (w:World) (v:Value) (ps:List (List UInt8)):Prop:=(ps=[]∧v= .slice none 0 0)∨ ∃g c,v= .slice (some ⟨g,0,none⟩) ps.length c∧ps.length≤c∧Seen w g ps
theorem zbI.cases {B:Nat} {w:World} {v:Value} {ps:List (List UInt8)} (h:zbI B w v ps):(ps=[]∧v= .slice none 0 0)∨ ∃g c,v= .slice (some ⟨g,0,none⟩) ps.length c∧ps.length≤c∧B≤g∧Seen w g ps:=by
 unfold zbI at h
 rcases h.2 with ⟨d,f⟩|⟨g,c,o,d,f,C,A,D,G,E⟩
 ·exact .inl ⟨List.eq_nil_of_length_eq_zero f,d⟩
 ·refine .inr ⟨g,c,d,A,f,zaD C,fun j i=> ?_⟩
  have m:(ziY ps)[j]? =some (.string ⟨(ps.getD j []).toArray⟩):=by
   simp [ziY,strC,List.getD,List.getElem?_eq_getElem i]
  have:=h.cells (g:=g) (by rw [d];rfl) j _ m
  have e:(⟨g,0,none⟩:Addr).add j=⟨g,j,none⟩:=by simp [Addr.add];intro h;omega
  rw [e] at this
  exact this
theorem zbI.pv {B:Nat} {w:World} {v:Value} {ps:List (List UInt8)} (h:zbI B w v ps):PV w v ps:=by
 rcases h.cases with h|⟨g,c,f,i,_,d⟩
 ·exact .inl h
 ·exact .inr ⟨g,c,f,i,d⟩
theorem z4G (ps:List (List UInt8)):(ps.map fun p=>(⟨p.toArray⟩:ByteArray)).map Value.string=ziY ps:=by simp [ziY,strC]
theorem zuV (v:Value) (ps:List (List UInt8)) (w:World) (h:PV w v ps) (A:ps.length≤1000000):
  Calls Tryz.prog 158 #[v] w fun e w'=> ∃f,e= .returned f∧zbI w.heap.size w' f ps∧Below w.heap.size w w':=by
 rcases h with ⟨rfl,rfl⟩|⟨g,c,rfl,_,o⟩
 ·refine (Tryz.slices_Clone_string_nil 0 0 w).mono ?_
  rintro e w' ⟨rfl,rfl⟩
  exact ⟨_,rfl,zbI.nil _ _,ylR _ _⟩
 ·refine (Tryz.slices_Clone_string g 0 ps.length c (ps.map fun p=>⟨p.toArray⟩) w (by simp) (by omega) (fun j i=> ?_)).mono ?_
  ·rw [List.length_map] at i
   rw [Nat.zero_add,o.2 j i]
   simp [List.getD,List.getElem?_eq_getElem i]
  ·rintro e w' ⟨f,rfl,d,_,m⟩
   refine ⟨f,rfl,?_,m⟩
   have e:((ps.map fun p=>(⟨p.toArray⟩:ByteArray)).take ps.length).map Value.string=ziY ps:=by
    rw [List.take_of_length_le (by simp),z4G]
   rw [e] at d
   exact d
theorem z0S {B:Nat} {w:World} {g n c:Nat} {ps:List (List UInt8)} (h:zbI B w (.slice (some ⟨g,0,none⟩) n c) ps):zbI B w (.slice (some ⟨g,0,none⟩) (n - 1:Nat) c) ps.dropLast:=by
 unfold zbI at*
 rcases h.2 with ⟨d,i⟩|⟨E,D,f,d,i,m,C,A,o,j⟩
 ·cases d
 ·simp only [Value.slice.injEq,Option.some.injEq,Addr.mk.injEq,and_true] at d
  obtain ⟨rfl,rfl,rfl⟩:=d
  have e:ziY ps.dropLast=(ziY ps).take (ps.length - 1):=by
   unfold ziY;rw [List.dropLast_eq_take,List.map_take]
  refine ⟨by simp [ziY],.inr ⟨g,c,f,by simp,i,m,by simp;omega,A,o,?_⟩⟩
  rw [e,←j,List.take_take,List.length_dropLast]
  congr 1
  omega
theorem zpT (B:Nat) (v:Value) (ps:List (List UInt8)) (w:World) (h:zbI B w v ps) (o:ps.length≤10000000):
  Calls Tryz.prog 159 #[v] w fun e w'=> ∃A,e= .returned A∧zbI B w A ps.dropLast∧A.ownBlock=v.ownBlock∧w=w':=by
 rcases h.cases with ⟨rfl,rfl⟩|⟨g,c,rfl,j,_,_⟩
 ·have i: ∀W,(Instr.slice 25 (.slice none 0 0) none (some (.int .i64 0)) none).run Tryz.prog W= .ok (.slice none 0 0) W:=fun W=>by
   rw [run_slice_h W 25 none 0 0 (by simp [Program.elem,Tryz.underlying25]) .i64 _ (by omega) (by omega)]
   rfl
  go_enter Tryz.func159,Tryz.ntmps159
  go_wp2
  go_ret
  exact ⟨_,rfl,zbI.nil _ _,rfl,rfl⟩
 ·have d:=ylO (z0S h)
  clear h
  generalize ps.length=n at*
  have i: ∀W (k:Nat),k≤c→(Instr.slice 25 (.slice (some ⟨g,0,none⟩) n c) none (some (.int .i64 (k:Int))) none).run Tryz.prog W= .ok (.slice (some ⟨g,0,none⟩) k c) W:=fun W k D=>by
   rw [run_slice_h W 25 (some ⟨g,0,none⟩) n c (by simp [Program.elem,Tryz.underlying25]) .i64 _ (by omega) (by omega)]
   go_simp
  match n,j,o,d with
  |0,j,o,d=>
   have m:=fun W=>i W 0 (by omega)
   clear i
   go_enter Tryz.func159,Tryz.ntmps159
   go_wp2
   go_ret
   exact ⟨_,rfl,d.out,rfl,rfl⟩
  |n+1,j,o,d=>
   have m:=fun W=>i W n (by omega)
   have f:Hid (zbI B w (.slice (some ⟨g,0,none⟩) n c) ps.dropLast):=d.out
   clear i d
   by_cases C:n=0
   ·subst C
    go_enter Tryz.func159,Tryz.ntmps159
    go_wp2
    go_ret
    exact ⟨_,rfl,f.out,rfl,rfl⟩
   ·have E:0<n:=by omega
    go_enter Tryz.func159,Tryz.ntmps159
    go_wp2
    go_ret
    exact ⟨_,rfl,f.out,rfl,rfl⟩
theorem z8O (s d:ByteArray):Lib.countB s d≤s.size+1:=by
 have:=Lib.count_le s.data.toList d.data.toList
 rw [zaR] at this
 exact this
theorem z0V (l:List UInt8) (w:World) (o:l.length≤1000000000) (d:MaxVar w):
  Calls Tryz.prog 224 #[.string ⟨l.toArray⟩,.string ⟨#[37,50,101]⟩,.string ⟨#[46]⟩] w (RetStr w (Lib.replaceAll l [37,50,101] [46])):=by
 obtain ⟨m,i⟩:=d
 have A:=zaI l
 have j:=z8O ⟨l.toArray⟩ ⟨#[37,50,101]⟩
 have f:(ByteArray.mk #[46]).size=1:=rfl
 exact Tryz.strings_ReplaceAll ⟨l.toArray⟩ ⟨#[37,50,101]⟩ ⟨#[46]⟩ m w (by omega) i (by decide) (by rw [f];omega)
theorem zqF {P:Program} (w:World) {D:Array Oper} {j:List Oper} {o:Oper} {a:Act} {Q:Exit→Act→World→Prop} (G:o.guard=none) (s x:Operand) (t:TypeId)
  (ho:o.op= .call {callee:= .builtin .append,args:= #[s,x],argTypes:= #[t,t]})
  (base:Nat) (e:TypeId) (i:TypeInfo) (z:Value) (d:Nat) (S:P.underlying t=some (.slice e)) (hi:P.info? e=some i) (X:i.zero=some z)
  (m:i.size=1) (J:i.bytes=d) (H:z.cells.size=1)
  (v:Value) (n:Nat) (xs:List Value) (Y:a.eval s=v) (C:w.ownsRow base e 1 v n xs) (u:Value) (hx:a.eval x= .slice (some ⟨w.heap.size,0,none⟩) 1 1) (U:u.oneCell'=true)
  (I:n+1≤9223372036854775807) (f:(n+1)*d≤140737488355328) (N:base≤w.heap.size)
  (h: ∀B w',w'.ownsRow base e 1 B (n+1) (xs++[u])→w.grownBy w' v.ownBlock→(B.ownBlock=v.ownBlock∨ ∃k,B.ownBlock=some k∧w.heap.size≤k)→wpList P D Q j (a.put o.dst B) w'):wpList P D Q (o::j) a (w.alloc (.cells #[u] e)):=by
 refine wpList_append_own_at (w.alloc (.cells #[u] e)) G s x t ho base e i z 1 d S hi X m J H (by decide) v n xs Y (C.alloc _) ⟨w.heap.size,0,none⟩ 1 1 [u] hx rfl (zwQ w u e) ?_ I f (by simp;omega) ?_
 ·intro y O;simp at O;subst O;exact U
 ·intro B Z A E _ M
  refine h B Z A ⟨E.os,E.tape,E.output,Nat.le_trans (by simp) E.size,fun k V K=> ?_⟩ ?_
  ·exact (E.block k (by simp;omega) K).trans (((ylR _ w).alloc (ylP _) _).block k V)
  ·rcases M with q|q
   ·exact .inl q
   ·exact .inr ⟨_,q,by simp⟩
structure Segs (base:Nat) (x:World) (v0:Value) (y:World) (v:Value) (out:List (List UInt8)):Prop where
 own:zbI base y v out
 grown:x.grownBy y v0.ownBlock
 at_:v.ownBlock=v0.ownBlock∨ ∃b,v.ownBlock=some b∧x.heap.size≤b
theorem Segs.keep {base:Nat} {x:World} {v0:Value} {y z:World} {v:Value} {out:List (List UInt8)} (h:Segs base x v0 y v out) (d:Below y.heap.size y z):Segs base x v0 z v out:=
 ⟨h.own.below d,⟨d.os.trans h.grown.os,d.tape.trans h.grown.tape,d.output.trans h.grown.output,Nat.le_trans h.grown.size d.size,fun k i f=>(d.block k (Nat.lt_of_lt_of_le i h.grown.size)).trans (h.grown.block k i f)⟩,h.at_⟩
theorem Segs.app {base:Nat} {x:World} {v0:Value} {y z:World} {v m:Value} {out:List (List UInt8)} {q:List UInt8} (h:Segs base x v0 y v out) (d:z.ownsRow base 9 1 m (out.length+1) (ziY out++[.string ⟨q.toArray⟩])) (i:y.grownBy z v.ownBlock) (o:m.ownBlock=v.ownBlock∨ ∃k,m.ownBlock=some k∧y.heap.size≤k):Segs base x v0 z m (out++[q]):=by
 refine ⟨zbI.snoc d rfl,⟨i.os.trans h.grown.os,i.tape.trans h.grown.tape,i.output.trans h.grown.output,Nat.le_trans h.grown.size i.size,fun k j f=> ?_⟩,?_⟩
 ·refine (i.block k (Nat.lt_of_lt_of_le j h.grown.size) (fun e=> ?_)).trans (h.grown.block k j f)
  rcases h.at_ with q|⟨b,q,A⟩
  ·exact f (e.trans q)
  ·rw [q] at e;have:=Option.some.inj e;omega
 ·rcases o with q|⟨k,q,j⟩
  ·rcases h.at_ with r|r
   ·exact .inl (q.trans r)
   ·exact .inr (by rw [q];exact r)
  ·exact .inr ⟨k,q,Nat.le_trans h.grown.size j⟩
theorem Segs.drop {base:Nat} {x:World} {v0:Value} {y:World} {v d:Value} {out:List (List UInt8)} (h:Segs base x v0 y v out) (f:zbI base y d out.dropLast) (i:d.ownBlock=v.ownBlock):Segs base x v0 y d out.dropLast:=
 ⟨f,h.grown,by rw [i];exact h.at_⟩
theorem Segs.block {base:Nat} {x:World} {v0:Value} {y:World} {v:Value} {out:List (List UInt8)} (h:Segs base x v0 y v out) (d: ∀b,v0.ownBlock=some b→base≤b) {k:Nat} (f:k<base) (i:base≤x.heap.size):y.heap[k]? =x.heap[k]? :=
 h.grown.block k (by omega) (fun e=>by have:=d k e.symm;omega)
theorem zoP {B:Nat} {w w':World} {v:Value} {ps:List (List UInt8)} (h:zbI B w v ps) (i: ∀b,v.ownBlock=some b→w'.heap[b]? =w.heap[b]?):zbI B w' v ps:=by
 unfold zbI at*
 refine ⟨h.1,?_⟩
 rcases h.2 with q|⟨g,f,d,e,j,m,r⟩
 ·exact .inl q
 ·exact .inr ⟨g,f,d,e,j,(i g (by rw [e];rfl)).trans m,r⟩
theorem zpI {B C:Nat} {w:World} {v:Value} {ps:List (List UInt8)} (h:zbI B w v ps) (j:C≤B):zbI C w v ps:=by
 unfold zbI at*
 refine ⟨h.1,?_⟩
 rcases h.2 with q|⟨g,f,d,e,i,r⟩
 ·exact .inl q
 ·exact .inr ⟨g,f,d,e,Nat.le_trans j i,r⟩
theorem zlH {w y:World} (h:MaxVar w) (d:y.heap[0]? =w.heap[0]?):MaxVar y:=by
 obtain ⟨m,f⟩:=h
 exact ⟨m,(World.cell?_of_block (a:=⟨0,0,none⟩) d).trans f⟩
theorem zmT {w:World} (h:MaxVar w):0<w.heap.size:=by
 obtain ⟨m,d⟩:=h
 exact World.block_lt_of_cell? w _ d
theorem ztD {w:World} {M:Nat} {l:List UInt8} (h:MaxVar w) (f:MB w M l):0≠M:=fun e=>by
 obtain ⟨m,d⟩:=h
 subst e
 rw [f.cell] at d
 cases d
theorem znO {w y:World} {M:Nat} {l:List UInt8} (h:MaxVar w) (d:MB w M l) (f:Only [M] w y):MaxVar y:=
 zlH h (f.block _ (zmT h) (by rw [ylS];exact ztD h d))
theorem yaV {p:UInt8→Bool} {l x:List UInt8} (h:x∈zbW p l):x.length≤l.length:=by
 have f:=(zwD p l).2.1
 have key: ∀(ps:List (List UInt8)),x∈ps→x.length≤zhJ ps:=by
  intro ps
  induction ps with
  |nil=>intro h;cases h
  |cons y r d=>
   intro h
   have e:zhJ (y::r)=y.length+zhJ r:=by simp [zhJ]
   rcases List.mem_cons.1 h with q|q
   ·rw [q,e];omega
   ·have:=d q;rw [e];omega
 have:=key _ h
 omega
theorem yeU (st:Int) (l:List UInt8):(encW st l).length≤12*l.length:=by
 have f:=zlG st (scal ⟨l.toArray⟩) (scal ⟨l.toArray⟩).length
 rw [List.take_length] at f
 have d:=ybY ⟨l.toArray⟩
 rw [zaI] at d
 unfold encW
 omega
theorem goW_at {d out:List (List UInt8)} {ps:List (List UInt8)} {k:Nat} {p:List UInt8} (f:k<ps.length) (i:ps.getD k []=p) (h:goW d ps=goW out (ps.drop k)):goW d ps=goW (ziF (decide (k+1=ps.length)) out (encW 4 p)) (ps.drop (k+1)):=by
 have e:ps.drop k=p::ps.drop (k+1):=by
  rw [List.drop_eq_getElem_cons f]
  congr 1
  rw [←i]
  simp [List.getD,List.getElem?_eq_getElem f]
 have j:(ps.drop (k+1)).isEmpty=decide (k+1=ps.length):=by
  rw [Bool.eq_iff_iff,List.isEmpty_iff,List.drop_eq_nil_iff,decide_eq_true_eq]
  omega
 rw [h,e,goW,j]
theorem yhV {b:Bool} {out:List (List UInt8)} {q:List UInt8} (h:ptsW q=0):ziF b out q=out++[q]:=by unfold ziF;rw [if_pos h]
theorem ydU {out:List (List UInt8)} {q:List UInt8} (h:ptsW q=1):ziF true out q=out++[[]]:=by unfold ziF;rw [if_neg (by omega),if_pos rfl,if_neg (by omega)]
theorem yiN {out:List (List UInt8)} {q:List UInt8} (h:ptsW q=1):ziF false out q=out:=by unfold ziF;rw [if_neg (by omega),if_neg (by decide),if_neg (by omega)]
theorem ycS {out:List (List UInt8)} {q:List UInt8} (h:ptsW q=2):ziF true out q=out.dropLast++[[]]:=by unfold ziF;rw [if_neg (by omega),if_pos rfl,if_pos h]
theorem yhI {out:List (List UInt8)} {q:List UInt8} (h:ptsW q=2):ziF false out q=out.dropLast:=by unfold ziF;rw [if_neg (by omega),if_neg (by decide),if_pos h]
theorem yeI {k n:Nat}:((k:Int)==(n:Int) - 1)=decide (k+1=n):=by
 rw [Bool.eq_iff_iff,beq_iff_eq,decide_eq_true_eq];omega
def yjK (w:World) (M:Nat) (ps:List (List UInt8)) (left:List UInt8) (e:Ending) (w':World):Prop:= ∃d,e= .returned d∧zbI w.heap.size w' d ps∧MB w' M left∧Only [M] w w'
theorem ycA (M:Nat) (l:List UInt8) (fv:Value) (d:List (List UInt8)) (w:World) (hl:l.length≤1000000) (qL:d.length≤1000000) (hm:MB w M l) (hf:PV w fv d) (qd:MaxVar w):
  Calls Tryz.prog 156 #[.pointer (some ⟨M,0,none⟩),fv] w (yjK w M (zwX d (l.take (l.findIdx (hasB [63,35])))) (l.drop (l.findIdx (hasB [63,35])))):=by
 obtain ⟨i0,hi,qn,qf,qk⟩:=info_parts Tryz.infoStr
 have qK:=zaD hm
 have qG:=ylO (zuV fv d w hf qL)
 have HM:=ylO hm
 have HX:=ylO qd
 have qR:(l.take (l.findIdx (hasB [63,35]))).length≤l.length:=by rw [List.length_take];omega
 have HU:=ylO (fun W (h:MB W M l)=>zhL [63,35] (by decide) M l W h)
 generalize l.take (l.findIdx (hasB [63,35]))=m at*
 generalize l.drop (l.findIdx (hasB [63,35]))=left at*
 have qj:=ylO (fun W=>zdN ⟨m.toArray⟩ ⟨#[47,92]⟩ W (by rw [zaI];omega))
 rw [zaQ m,zaQ [47,92]] at qj
 have qM:Hid (zwX d m=goW d (zbW (hasB [47,92]) m)):=rfl
 have qP:=zdF (hasB [47,92]) m
 have qO:=ylO (fun x (h:x∈zbW (hasB [47,92]) m)=>yaV h)
 have qg:=zpN (hasB [47,92]) m
 generalize zbW (hasB [47,92]) m=ps at*
 clear hm hf qd
 go_enter Tryz.func156,Tryz.ntmps156
 go_wp2_with fail
 refine qG.out.mono ?_
 rintro e x1 ⟨v0,rfl,qh,qa⟩
 have qI:=ylO (HU.out _ (HM.out.below qa))
 go_wp2_with fail
 refine (znV [63,35] _).mono ?_
 rintro e x2 ⟨rfl,rfl⟩
 go_wp2_with fail
 refine qI.out.mono ?_
 rintro e x3 ⟨rfl,qB,qc⟩
 go_wp2_with fail
 refine (qj.out _).mono ?_
 rintro e Y ⟨vp,rfl,qy,qb⟩
 obtain ⟨N,hN⟩: ∃N,ps.length=N:=⟨_,rfl⟩
 have qU:0<N:=by rw [←hN];exact List.length_pos_iff.2 qg
 obtain ⟨gp,cp,rfl,qQ,qi⟩: ∃gp cp,vp= .slice (some ⟨gp,0,none⟩) N cp∧x3.heap.size≤gp∧Seen Y gp ps:=by
  rcases zbI.cases qy with ⟨e,_⟩|⟨g,c,h1,h2,h3,h4⟩
  ·exact absurd e qg
  ·exact ⟨g,c,by rw [h1,hN],h3,h4⟩
 have H: ∀b,v0.ownBlock=some b→w.heap.size≤b∧b<x1.heap.size:=fun b I=>World.ownsRow.lt qh b I
 have qz:Only [M] w x3:=(Only.of_below (F:=[M]) qa).trans qc (fun x hx=> .inl hx)
 have G:Only [M] w Y:=qz.then_below qb
 have qs:=qc.size
 have qw:zbI w.heap.size x3 v0 d:=zoP qh (fun b I=>qc.block b (H b I).2 (by have:=(H b I).1;simp;omega))
 have qN:Hid (Segs w.heap.size Y v0 Y v0 d):=⟨qw.below qb,⟨rfl,rfl,rfl,ylP _,fun _ _ _=>rfl⟩,.inl rfl⟩
 have Q:w.heap.size≤Y.heap.size:=G.size
 have qH:Hid (∀y v out,Segs w.heap.size Y v0 y v out→ ∀j,j<N→y.cell? ⟨gp,j,none⟩=some (.string ⟨(ps.getD j []).toArray⟩)):=fun y v out h j hj=>by
  refine (World.cell?_of_block (a:=⟨gp,j,none⟩) (h.grown.block gp qi.1 (fun e=> ?_))).trans (qi.2 j (by omega))
  have:=(H gp e.symm).2
  have:=qa.size
  omega
 have qx:Hid (∀y v out,Segs w.heap.size Y v0 y v out→MaxVar y):=fun y v out h=>by
  refine zlH HX.out ((h.block (fun b I=>(H b I).1) (zmT HX.out) Q).trans (G.block _ (zmT HX.out) ?_))
  rw [ylS]
  exact ztD HX.out HM.out
 have qF:Hid (∀y v out,Segs w.heap.size Y v0 y v out→MB y M left∧Only [M] w y):=fun y v out h=>
  ⟨(h.block (fun b I=>(H b I).1) qK Q).trans (qB.below qb),h.grown.os.trans G.os,h.grown.tape.trans G.tape,h.grown.output.trans G.output,Nat.le_trans Q h.grown.size,fun b I hn=>(h.block (fun b I=>(H b I).1) I Q).trans (G.block b I hn)⟩
 rw [hN] at qP
 have HN:=ylO hN
 clear HX HM qG HU qI qj qh qa qB qc qy qb qQ qi H qz G qs qw qg hN
 go_wp2
 go_loopw [5,18] (fun v i wr=> ∃(k:Nat) (out:List (List UInt8)),k≤N∧i= .int .i64 k∧Hid (Segs w.heap.size Y v0 wr v out)∧out.length≤d.length+k∧Hid (goW d ps=goW out (ps.drop k))) (fun _ i _=>N - (intOf i).toNat)
 case atStart=>exact ⟨0,d,Nat.zero_le _,rfl,qN,ylP _,rfl⟩
 case round=>
  obtain ⟨k,out,hk,rfl,V,qV,HS⟩:=hrel
  by_cases qp:k<N
  ·have U:=qH.out _ _ _ V.out k qp
   obtain ⟨p,hp⟩: ∃p,ps.getD k []=p:=⟨_,rfl⟩
   rw [hp] at U
   have f:=ylO (goW_at (by rw [HN.out];exact qp) hp HS.out)
   have qX:p.length≤m.length:=qO.out p (by
    have qD:k<ps.length:=by rw [HN.out];exact qp
    rw [←hp];simp only [List.getD,List.getElem?_eq_getElem qD,Option.getD_some];exact List.getElem_mem qD)
   rw [HN.out] at f
   have qT:=yeU 4 p
   have qr:=ylO (fun W=>zfU 4 p W (by decide) (by omega))
   have D:=yhP (encW 4 p)
   have E:=yiD (encW 4 p)
   have qS:=pts_le (encW 4 p)
   have Z:((k:Int)==(N:Int) - 1)=decide (k+1=N):=yeI
   clear hp HS
   generalize encW 4 p=q at*
   have ql:=ylO (fun W=>zkG ⟨q.toArray⟩ W (by rw [zaI];omega))
   rw [zaQ] at ql
   have qE:=ylO (fun W (h:MaxVar W)=>z0V (zaM q) W (by rw [zhH];omega) h)
   generalize Lib.replaceAll (zaM q) [37,50,101] [46]=t at*
   go_wp2_with fail
   refine (qr.out _).mono ?_
   rintro e y1 ⟨rfl,qA⟩
   have qe:=ylO (V.out.keep qA)
   clear qr qA V
   go_wp2_with fail
   refine (ql.out _).mono ?_
   rintro e y2 ⟨rfl,qq⟩
   have J:=ylO (qe.out.keep qq)
   clear ql qq qe
   go_wp2_with fail
   refine (qE.out _ (qx.out _ _ _ J.out)).mono ?_
   rintro e y3 ⟨rfl,qv⟩
   have o:=ylO (J.out.keep qv)
   have qm:w.heap.size≤y3.heap.size:=Nat.le_trans Q o.out.grown.size
   have K:=o.out.own
   unfold zbI at K
   clear qE qv J U
   rcases (show ptsW q=2∨ptsW q=1∨ptsW q=0 by omega) with h2|h1|h0
   ·obtain rfl:=D.1 h2
    have e2:(([46,46]:List UInt8)==[46,46])=true:=rfl
    have qC:=ylO (zpT w.heap.size _ out y3 o.out.own (by omega))
    by_cases O:k+1=N
    ·rw [ylQ O] at Z f
     rw [ycS h2] at f
     clear D E h2
     go_wp2_with fail
     refine qC.out.mono ?_
     rintro e w' ⟨v2,rfl,X,qo,rfl⟩
     have S:=ylO (o.out.drop X qo)
     have qJ:out.dropLast.length≤out.length:=by rw [List.length_dropLast];omega
     unfold zbI at X
     go_wp2_with (first|(at_builtin;refine zqF _ rfl _ _ 25 rfl w.heap.size 9 i0 (.string ⟨#[]⟩) 16 Tryz.underlying25 hi qn qf qk rfl _ _ _ rfl X (.string ⟨#[]⟩) rfl rfl (by omega) (by omega) qm ?_;intro v' w1 A C B)|go_in)
     go_roundw
     case rel=>exact ⟨k+1,out.dropLast++[[]],by omega,by go_num,S.out.app A C B,by simp;omega,f.out⟩
     case measure=>simp [intOf];omega
    ·rw [decide_eq_false O] at Z f
     rw [yhI h2] at f
     clear D E h2
     go_wp2_with fail
     refine qC.out.mono ?_
     rintro e w' ⟨v2,rfl,X,qo,rfl⟩
     have S:=ylO (o.out.drop X qo)
     have qJ:out.dropLast.length≤out.length:=by rw [List.length_dropLast];omega
     go_wp2
     go_roundw
     case rel=>exact ⟨k+1,out.dropLast,by omega,by go_num,S.out,by omega,f.out⟩
     case measure=>simp [intOf];omega
   ·obtain rfl:=E.1 h1
    have e1:(([46]:List UInt8)==[46,46])=false:=rfl
    have e2:(([46]:List UInt8)==[46])=true:=rfl
    by_cases O:k+1=N
    ·rw [ylQ O] at Z f
     rw [ydU h1] at f
     clear D E h1
     go_wp2_with (first|(at_builtin;refine zqF _ rfl _ _ 25 rfl w.heap.size 9 i0 (.string ⟨#[]⟩) 16 Tryz.underlying25 hi qn qf qk rfl _ _ _ rfl K (.string ⟨#[]⟩) rfl rfl (by omega) (by omega) qm ?_;intro v' w1 A C B)|go_in)
     go_roundw
     case rel=>exact ⟨k+1,out++[[]],by omega,by go_num,o.out.app A C B,by simp;omega,f.out⟩
     case measure=>simp [intOf];omega
    ·rw [decide_eq_false O] at Z f
     rw [yiN h1] at f
     clear D E h1
     go_wp2
     go_roundw
     case rel=>exact ⟨k+1,out,by omega,by go_num,o.out,by omega,f.out⟩
     case measure=>simp [intOf];omega
   ·have e1:(t==[46,46])=false:=by rw [beq_eq_false_iff_ne];intro g;have:=D.2 g;omega
    have e2:(t==[46])=false:=by rw [beq_eq_false_iff_ne];intro g;have:=E.2 g;omega
    rw [yhV h0] at f
    clear D E h0
    go_wp2_with (first|(at_builtin;refine zqF _ rfl _ _ 25 rfl w.heap.size 9 i0 (.string ⟨#[]⟩) 16 Tryz.underlying25 hi qn qf qk rfl _ _ _ rfl K (.string ⟨q.toArray⟩) rfl rfl (by omega) (by omega) qm ?_;intro v' w1 A C B)|go_in)
    go_roundw
    case rel=>exact ⟨k+1,out++[q],by omega,by go_num,o.out.app A C B,by simp;omega,f.out⟩
    case measure=>simp [intOf];omega
  ·have qW:k=N:=by omega
   have HF:Hid (goW d ps=out):=by show _=_;rw [HS.out,List.drop_eq_nil_of_le (by rw [HN.out];omega)];rfl
   clear HS
   go_wp2
   go_ret
   exact ⟨_,rfl,by rw [qM.out,HF.out];exact V.out.own,qF.out _ _ _ V.out⟩
theorem zbX {x:World} {g:Nat} {m o B f C d D A E j:Value} {t:TypeId} (h:x.heap[g]? =some (.cells #[m,o,B,f,C,d,D,A,E,j] t (0,0))):x.cell? ⟨g,0,none⟩=some m∧x.cell? ⟨g,1,none⟩=some o∧x.cell? ⟨g,2,none⟩=some B∧x.cell? ⟨g,3,none⟩=some f∧x.cell? ⟨g,4,none⟩=some C∧x.cell? ⟨g,5,none⟩=some d∧x.cell? ⟨g,6,none⟩=some D∧x.cell? ⟨g,7,none⟩=some A∧x.cell? ⟨g,8,none⟩=some E∧x.cell? ⟨g,9,none⟩=some j∧ ∀i,x.frozen? ⟨g,i,none⟩=false:=by
 refine ⟨?_,?_,?_,?_,?_,?_,?_,?_,?_,?_,zaT h⟩<;>rw [cell_of_row x _ _ _ _ _ h]<;>rfl
theorem zmD {x:World} {g:Nat} {K H M E N O Q J I G:Value} {t:TypeId} (h:x.heap[g]? =some (.cells #[K,H,M,E,N,O,Q,J,I,G] t)) (d C B m j o D f A i:Value):((((((((((x.setCell ⟨g,0,none⟩ d).setCell ⟨g,1,none⟩ C).setCell ⟨g,2,none⟩ B).setCell ⟨g,3,none⟩ m).setCell ⟨g,4,none⟩ j).setCell ⟨g,5,none⟩ o).setCell ⟨g,6,none⟩ D).setCell ⟨g,7,none⟩ f).setCell ⟨g,8,none⟩ A).setCell ⟨g,9,none⟩ i).heap[g]? =some (.cells #[d,C,B,m,j,o,D,f,A,i] t):=by
 have:=zaK (zaK (zaK (zaK (zaK (zaK (zaK (zaK (zaK (zaK h 0 d) 1 C) 2 B) 3 m) 4 j) 5 o) 6 D) 7 f) 8 A) 9 i
 simpa using this
theorem zdV {w x:World} {g B:Nat} (h:Below B w x) (d:B≤g) (E o f j i m G A C D:Value):Below B w ((((((((((x.setCell ⟨g,0,none⟩ E).setCell ⟨g,1,none⟩ o).setCell ⟨g,2,none⟩ f).setCell ⟨g,3,none⟩ j).setCell ⟨g,4,none⟩ i).setCell ⟨g,5,none⟩ m).setCell ⟨g,6,none⟩ G).setCell ⟨g,7,none⟩ A).setCell ⟨g,8,none⟩ C).setCell ⟨g,9,none⟩ D):=
 (((((((((h.setCell (p:=⟨g,0,none⟩) d _).setCell (p:=⟨g,1,none⟩) d _).setCell (p:=⟨g,2,none⟩) d _).setCell (p:=⟨g,3,none⟩) d _).setCell (p:=⟨g,4,none⟩) d _).setCell (p:=⟨g,5,none⟩) d _).setCell (p:=⟨g,6,none⟩) d _).setCell (p:=⟨g,7,none⟩) d _).setCell (p:=⟨g,8,none⟩) d _).setCell (p:=⟨g,9,none⟩) d _
theorem zhW {w x:World} {g:Nat} {F:List Nat} (h:Only F w x) (d:g∈F∨w.heap.size≤g) (o A f j i m E B C D:Value):Only F w ((((((((((x.setCell ⟨g,0,none⟩ o).setCell ⟨g,1,none⟩ A).setCell ⟨g,2,none⟩ f).setCell ⟨g,3,none⟩ j).setCell ⟨g,4,none⟩ i).setCell ⟨g,5,none⟩ m).setCell ⟨g,6,none⟩ E).setCell ⟨g,7,none⟩ B).setCell ⟨g,8,none⟩ C).setCell ⟨g,9,none⟩ D):=
 (((((((((h.setCell (p:=⟨g,0,none⟩) d _).setCell (p:=⟨g,1,none⟩) d _).setCell (p:=⟨g,2,none⟩) d _).setCell (p:=⟨g,3,none⟩) d _).setCell (p:=⟨g,4,none⟩) d _).setCell (p:=⟨g,5,none⟩) d _).setCell (p:=⟨g,6,none⟩) d _).setCell (p:=⟨g,7,none⟩) d _).setCell (p:=⟨g,8,none⟩) d _).setCell (p:=⟨g,9,none⟩) d _
def zcH:Array Value:= #[.string ⟨#[]⟩,.string ⟨#[]⟩,.string ⟨#[]⟩,.nilIface,.int .i64 0,.slice none 0 0,.string ⟨#[]⟩,.bool false,.string ⟨#[]⟩,.bool false]
theorem zxC:zeE.cells (.slice none 0 0)=zcH:=rfl
def RetURL (w:World) (x:UZ×Int) (pv:Value) (e:Ending) (w':World):Prop:=e= .returned (.tuple #[.agg (x.1.cells pv),.int .i64 x.2])∧Below w.heap.size w w'
theorem who_at (a:List UInt8): ∃(z:Int) (m r:Nat),Lib.lastIndexByte ⟨a.toArray⟩ 64=z∧max z 0=(m:Int)∧z+1=(r:Int)∧ -1≤z∧m≤a.length∧r≤a.length∧zqJ a=encW 5 (Lib.cut (a.take m) [58]).1∧zqS a=encW 5 (Lib.cut (a.take m) [58]).2.1∧zdL a=a.drop r:=by
 rcases yiK a with ⟨f,j⟩|⟨i,hi,f,j⟩
 ·obtain ⟨d,A,o⟩:=z4N a j
  exact ⟨-1,0,0,f,by omega,rfl,by omega,Nat.zero_le _,Nat.zero_le _,d,A,o⟩
 ·obtain ⟨d,A,o⟩:=ycX a j
  exact ⟨i,i,i+1,f,by omega,by omega,by omega,by omega,by omega,d,A,o⟩
theorem zsY (l:List UInt8):(Lib.cut l [58]).1.length≤l.length∧(Lib.cut l [58]).2.1.length≤l.length:=by
 rw [zxT]
 simp only [List.length_take,List.length_drop]
 omega
theorem ybO: ∀(l:List UInt8) (i:Bool),(hpW i l).1.length≤l.length∧(hpW i l).2.length≤l.length
 |[],i=>by simp [hpW]
 |c::r,i=>by
  rw [zgZ]
  split
  ·simp
  ·have:=ybO r (if c=91 then true else if c=93 then false else i)
   simp only [List.length_cons]
   omega
theorem z9S (l:List UInt8):(if hd1 [58] (l.drop (zcB zgY false l))=true then (l.drop (zcB zgY false l)).drop 1 else l.drop (zcB zgY false l))=(hpW false l).2:=by
 have d:=(zgF l false).2.1
 have f:=(zgF l false).2.2
 generalize zcB zgY false l=n at*
 by_cases i:n<l.length
 ·rw [znY,if_pos]
  ·exact d
  ·rw [List.head?_drop,ylQ (f i)]
 ·have e:l.drop n=[]:=List.drop_eq_nil_of_le (by omega)
  rw [e] at d ⊢
  exact d
theorem z4H {l:List UInt8} (h:(zdR l).2≠0):(zdR l).1= .none:=ygE h
def RB (w:World) (R:Nat):Prop:= ∃j m A f B d C o D i,w.heap[R]? =some (.cells #[j,m,A,f,B,d,C,o,D,i] 27)
theorem RB.below {w w':World} {R:Nat} (h:RB w R) (E:Below w.heap.size w w'):RB w' R:=by
 obtain ⟨j,m,A,f,B,d,C,o,D,i,h⟩:=h
 exact ⟨j,m,A,f,B,d,C,o,D,i,(E.block R (zaD h)).trans h⟩
theorem RB.lt {w:World} {R:Nat} (h:RB w R):R<w.heap.size:=by
 obtain ⟨j,m,A,f,B,d,C,o,D,i,h⟩:=h
 exact zaD h
theorem RB.only {w w':World} {R:Nat} {F:List Nat} (h:RB w R) (E:Only F w w') (hR:R∉F):RB w' R:=by
 obtain ⟨j,m,A,f,B,d,C,o,D,i,h⟩:=h
 exact ⟨j,m,A,f,B,d,C,o,D,i,(E.block R (zaD h) hR).trans h⟩
theorem RB.new (w:World):RB (w.alloc (.cells zcH 27)) w.heap.size:=⟨_,_,_,_,_,_,_,_,_,_,heap_alloc_new w _⟩
theorem UB.who {w:World} {U:Nat} {u:UZ} {pv:Value} (h:UB w U u pv) (a:List UInt8):UB (w.setCell ⟨U,1,none⟩ (.string ⟨a.toArray⟩)) U {u with user:=a} pv:=zaK h 1 _
theorem UB.pwd {w:World} {U:Nat} {u:UZ} {pv:Value} (h:UB w U u pv) (a:List UInt8):UB (w.setCell ⟨U,2,none⟩ (.string ⟨a.toArray⟩)) U {u with pass:=a} pv:=zaK h 2 _
theorem UB.pth {w:World} {U:Nat} {u:UZ} {pv:Value} (h:UB w U u pv) (v:Value):UB (w.setCell ⟨U,5,none⟩ v) U u v:=zaK h 5 _
theorem RB.set {w:World} {R g i:Nat} (h:RB w R) (d:R≠g) (v:Value):RB (w.setCell ⟨g,i,none⟩ v) R:=by
 obtain ⟨o,A,C,j,D,f,E,B,G,m,h⟩:=h
 exact ⟨o,A,C,j,D,f,E,B,G,m,(zaZ d i v).trans h⟩
theorem UB.all {w:World} {U:Nat} {u:UZ} {pv:Value} (h:UB w U u pv):w.cell? ⟨U,0,none⟩=some (.string ⟨u.scheme.toArray⟩)∧w.cell? ⟨U,1,none⟩=some (.string ⟨u.user.toArray⟩)∧w.cell? ⟨U,2,none⟩=some (.string ⟨u.pass.toArray⟩)∧w.cell? ⟨U,3,none⟩=some u.host.val∧w.cell? ⟨U,4,none⟩=some (.int .i64 u.port)∧w.cell? ⟨U,5,none⟩=some pv∧w.cell? ⟨U,6,none⟩=some (.string ⟨u.query.toArray⟩)∧w.cell? ⟨U,7,none⟩=some (.bool u.hasQ)∧w.cell? ⟨U,8,none⟩=some (.string ⟨u.frag.toArray⟩)∧w.cell? ⟨U,9,none⟩=some (.bool u.hasF)∧ ∀i,w.frozen? ⟨U,i,none⟩=false:=zbX h
theorem UB.new (x:World) (u:UZ) (pv:Value):UB (x.alloc (.cells (u.cells pv) 27)) x.heap.size u pv:=heap_alloc_new x _
theorem zcD (x:World) (d:Array Value):Below x.heap.size x (x.alloc (.cells d 27)):=(ylR _ x).alloc (ylP _) _
theorem zrO (a name:List UInt8) (w:World) (hl:a.length≤1000000) (C:MaxVar w):
  Calls Tryz.prog 154 #[.string ⟨a.toArray⟩,.string ⟨name.toArray⟩] w (RetURL w (zkJ name a) (.slice none 0 0)):=by
 obtain ⟨z,m,r,hz,Qo,qD,Qd,hm,hr,hu,hp,hb⟩:=who_at a
 have Qf:=zmL a m hm
 have Ql: ∀W,(Instr.slice 9 (.string ⟨a.toArray⟩) (some (.int .i64 (z+1))) none none).run Tryz.prog W= .ok (.string ⟨(a.drop r).toArray⟩) W:=by rw [qD];exact zfA a r hr
 have Qi:(ByteArray.mk a.toArray).size=a.length:=zaI a
 have qJ:Hid (∀W,Calls Tryz.prog 162 #[.string ⟨a.toArray⟩,.int .u8 64] W fun e w'=>e= .returned (.int .i64 z)∧W=w'):=fun W=>(Tryz.strings_LastIndexByte ⟨a.toArray⟩ 64 (by omega) W).mono (fun e w' h=>⟨by rw [h.1,hz],h.2.symm⟩)
 have Qe:(a.take m).length≤a.length:=by rw [List.length_take];omega
 have Qj:=(zsY (a.take m)).1
 have Qn:=(zsY (a.take m)).2
 have qy:Hid (∀W,MaxVar W→Calls Tryz.prog 34 #[.string ⟨(a.take m).toArray⟩,.string ⟨#[58]⟩] W fun e w'=>e= .returned (.tuple #[.string ⟨(Lib.cut (a.take m) [58]).1.toArray⟩,.string ⟨(Lib.cut (a.take m) [58]).2.1.toArray⟩,.bool (Lib.cut (a.take m) [58]).2.2])∧Below W.heap.size W w'):=fun W hW=>by
  obtain ⟨mm,Qc⟩:=hW
  exact (Tryz.strings_Cut ⟨(a.take m).toArray⟩ ⟨#[58]⟩ mm W (by rw [zaI];omega) Qc).mono (fun e w' h=>⟨h.1,by obtain ⟨n,rfl⟩:=h.2;exact zbV (ylR _ _) n⟩)
 have N:=ylO (fun W=>zfU 5 (Lib.cut (a.take m) [58]).1 W (by decide) (by omega))
 have G:=ylO (fun W=>zfU 5 (Lib.cut (a.take m) [58]).2.1 W (by decide) (by omega))
 rw [←hu] at N
 rw [←hp] at G
 generalize Lib.cut (a.take m) [58]=cu at*
 generalize a.take m=ta at*
 have Qk:(a.drop r).length≤a.length:=by rw [List.length_drop];omega
 have H:Hid (zkJ name a=if (zdR (hpW false (a.drop r)).1).2≠0 then (zeE,(zdR (hpW false (a.drop r)).1).2) else if (zgS name (hpW false (a.drop r)).2).2=false then (zeE,8) else ({zeE with scheme:=name,user:=zqJ a,pass:=zqS a,host:=(zdR (hpW false (a.drop r)).1).1,port:=(zgS name (hpW false (a.drop r)).2).1},0)):=by show _=_;rw [←hb];rfl
 have Qh:=(ybO (a.drop r) false).1
 have Qm:=(ybO (a.drop r) false).2
 have qN:=ylO (fun M W (h:MB W M (a.drop r))=>z3N M (a.drop r) W h)
 have qr:=ylO (fun M W (h:MB W M ((a.drop r).drop (zcB zgY false (a.drop r))))=>zgQ M _ [58] W h)
 rw [z9S] at qr
 generalize (a.drop r).drop (zcB zgY false (a.drop r))=l1 at*
 generalize hd1 [58] l1=kb at*
 generalize zqJ a=us at*
 generalize zqS a=pw at*
 generalize hpW false (a.drop r)=B at*
 generalize a.drop r=bh at*
 have qp:=ylO (fun W (h:MaxVar W)=>zjM ⟨B.1.toArray⟩ W (by rw [zaI];omega) h)
 rw [zaQ] at qp
 have X:=z4H (l:=B.1)
 have qx:=ylO (fun W=>zrR name B.2 W)
 have HX:=ylO C
 obtain ⟨x0,I⟩: ∃y,y=w.alloc (.cells zcH 27):=⟨_,rfl⟩
 have qn:Hid (Below w.heap.size w x0):=by show Below _ _ _;rw [I];exact (ylR _ w).alloc (ylP _) _
 have qC:Hid (RB x0 w.heap.size):=by show RB _ _;rw [I];exact RB.new w
 have qK:=ylO (zaA C qn.out)
 unfold zcH at I
 clear C hz hb hu hp qD
 go_enter Tryz.func154,Tryz.ntmps154
 go_wp2_with fail
 rw [←I]
 clear I
 refine (qJ.out _).mono ?_
 rintro e w' ⟨rfl,rfl⟩
 go_wp2_with fail
 refine (qy.out _ qK.out).mono ?_
 rintro e x1 ⟨rfl,qg⟩
 have qe:=ylO (zaJ qn.out qg)
 have qq:=ylO (qC.out.below qg)
 clear qg qn qC qy qJ qK
 obtain ⟨x2,U⟩: ∃y,y=x1.alloc (.cells #[.string ⟨bh.toArray⟩] 145):=⟨_,rfl⟩
 have qm:Below x1.heap.size x1 x2:=by rw [U];exact (ylR _ _).alloc (ylP _) _
 have qo:=ylO (zaJ qe.out qm)
 have qR:=ylO (qq.out.below qm)
 have qB:MB x2 x1.heap.size bh:=by rw [U];exact heap_alloc_new x1 _
 have qd:=ylO (qN.out _ _ qB)
 have qH:w.heap.size≠x1.heap.size:=by have:=qq.out.lt;omega
 have qw:w.heap.size≤x1.heap.size:=qe.out.size
 clear qm qe qq qN qB
 go_wp2_with fail
 rw [←U]
 clear U
 refine qd.out.mono ?_
 rintro e x3 ⟨rfl,qz,qi⟩
 have qj:=ylO (qo.out.trans (qi.below qo.out.size (fun x hx=>by rw [List.mem_singleton.1 hx];exact qw)))
 have qE:=ylO (qR.out.only qi (by simp [qH]))
 have qA:=ylO qz
 clear qi qz qd qo qR
 go_wp2_with fail
 refine (qp.out _ (zaA HX.out qj.out)).mono ?_
 rintro e x4 ⟨rfl,qb⟩
 have Z:=ylO (zaJ qj.out qb)
 have Y:=ylO (qE.out.below qb)
 have qG:=ylO (qA.out.below qb)
 clear qj qE qA qb qp HX
 have V:=zlQ (l:=B.1)
 generalize zdR B.1=hz at*
 obtain ⟨h,he⟩:=hz
 simp only at X V H ⊢
 by_cases h0:he=0
 ·obtain ⟨it,iv,ql⟩:=HZ.iface (V h0).ne
  rw [ql]
  have qs:=ylO ql
  clear ql V
  have f:=ylO (H.out.trans (if_neg (fun g=>g h0)))
  have Qa:(he !=(0:Int))=false:=by rw [h0];rfl
  clear X H h0
  have qc:=ylO (qr.out _ _ qG.out)
  go_wp2_with fail
  refine qc.out.mono ?_
  rintro e x5 ⟨rfl,qP,qf⟩
  have qL:=ylO (Z.out.trans (qf.below Z.out.size (fun x hx=>by rw [List.mem_singleton.1 hx];exact qw)))
  have qI:=ylO (Y.out.only qf (by simp [qH]))
  have c5:=qP.cell
  clear qf qP Z Y qG qr qc
  go_wp2_with fail
  refine (qx.out _).mono ?_
  rintro e x6 ⟨rfl,qk⟩
  have qa:=ylO (zaJ qL.out qk)
  have D:=ylO (qI.out.below qk)
  clear qL qI qk qx c5
  generalize zgS name B.2=po at*
  obtain ⟨pn,pb⟩:=po
  simp only at f ⊢
  cases pb with
  |false=>
   have E:=ylO (f.out.trans (if_pos rfl))
   obtain ⟨c0,c1,c2,c3,c4,c5,c6,c7,c8,c9,d⟩:=D.out
   have J:=ylO d
   obtain ⟨k0,k1,k2,k3,k4,k5,k6,k7,k8,k9,kf⟩:=zbX d
   clear d D f N G
   have o:=ylO (zmD J.out (.string ⟨#[]⟩) (.string ⟨#[]⟩) (.string ⟨#[]⟩) .nilIface (.int .i64 0) (.slice none 0 0) (.string ⟨#[]⟩) (.bool false) (.string ⟨#[]⟩) (.bool false))
   have K:=ylO (zdV qa.out (ylP _) (.string ⟨#[]⟩) (.string ⟨#[]⟩) (.string ⟨#[]⟩) .nilIface (.int .i64 0) (.slice none 0 0) (.string ⟨#[]⟩) (.bool false) (.string ⟨#[]⟩) (.bool false))
   go_wp2
   obtain ⟨e0,e1,e2,e3,e4,e5,e6,e7,e8,e9,-⟩:=zbX o.out
   refine bodyPost_ret (v:= .tuple #[.agg zcH,.int .i64 8]) (by simp [results,Tryz.results154,go_sem,e0,e1,e2,e3,e4,e5,e6,e7,e8,e9,zcH]) rfl ?_
   rw [E.out]
   exact ⟨rfl,K.out⟩
  |true=>
   have E:=ylO (f.out.trans (if_neg (by decide)))
   clear f
   obtain ⟨x7,S⟩: ∃y,y=x6.alloc (.cells #[.string ⟨name.toArray⟩,.string ⟨#[]⟩,.string ⟨#[]⟩,(.iface it iv),.int .i64 pn,.slice none 0 0,.string ⟨#[]⟩,.bool false,.string ⟨#[]⟩,.bool false] 27):=⟨_,rfl⟩
   have qS:UB x7 x6.heap.size {zeE with scheme:=name,host:=h,port:=pn} (.slice none 0 0):=by rw [S,←qs.out];exact heap_alloc_new x6 _
   have qh:Below x6.heap.size x6 x7:=by rw [S];exact zcD x6 _
   have qM:=ylO (zaJ qa.out qh)
   have qT:=ylO (D.out.below qh)
   have qv:=ylO qS
   have qU:w.heap.size≤x6.heap.size:=qa.out.size
   have qQ:w.heap.size≠x6.heap.size:=by have:=D.out.lt;omega
   clear qa D qh qS
   go_wp2_with fail
   rw [←S]
   clear S
   generalize x6.heap.size=g at*
   refine (N.out _).mono ?_
   rintro e x8 ⟨rfl,j⟩
   have O:=ylO (zaJ qM.out j)
   have Q:=ylO (qT.out.below j)
   have A:=ylO (qv.out.below j)
   obtain ⟨-,c1,-,-,-,-,-,-,-,-,f8⟩:=A.out.all
   have qY:=f8 1
   have qX:=ylO (O.out.setCell (p:=⟨g,1,none⟩) qU (.string ⟨us.toArray⟩))
   have qV:=ylO (Q.out.set (i:=1) qQ (.string ⟨us.toArray⟩))
   have qF:=ylO (A.out.who us)
   clear j qM qT qv O Q A N f8
   go_wp2_with fail
   clear c1 qY
   generalize x8.setCell ⟨g,1,none⟩ (.string ⟨us.toArray⟩)=x9 at*
   refine (G.out _).mono ?_
   rintro e y8 ⟨rfl,j⟩
   have O:=ylO (zaJ qX.out j)
   have Q:=ylO (qV.out.below j)
   have A:=ylO (qF.out.below j)
   obtain ⟨-,-,c2,-,-,-,-,-,-,-,f8⟩:=A.out.all
   have Qp:=f8 2
   have Qb:=ylO (O.out.setCell (p:=⟨g,2,none⟩) qU (.string ⟨pw.toArray⟩))
   have qZ:=Q.out.set (i:=2) qQ (.string ⟨pw.toArray⟩)
   have qW:=A.out.pwd pw
   have qO:(y8.setCell ⟨g,2,none⟩ (.string ⟨pw.toArray⟩)).heap[g]? =some (.cells #[.string ⟨name.toArray⟩,.string ⟨us.toArray⟩,.string ⟨pw.toArray⟩,(.iface it iv),.int .i64 pn,.slice none 0 0,.string ⟨#[]⟩,.bool false,.string ⟨#[]⟩,.bool false] 27):=by rw [←qs.out];exact qW
   obtain ⟨d0,d1,d2,d3,d4,d5,d6,d7,d8,d9,-⟩:=zbX qO
   obtain ⟨c0,c1,Qg,c3,c4,c5,c6,c7,c8,c9,d⟩:=qZ
   have J:=ylO d
   obtain ⟨k0,k1,k2,k3,k4,k5,k6,k7,k8,k9,kf⟩:=zbX d
   clear d j qX qV qF O Q A G f8 qW qO
   have o:=ylO (zmD J.out (.string ⟨name.toArray⟩) (.string ⟨us.toArray⟩) (.string ⟨pw.toArray⟩) (.iface it iv) (.int .i64 pn) (.slice none 0 0) (.string ⟨#[]⟩) (.bool false) (.string ⟨#[]⟩) (.bool false))
   have K:=ylO (zdV Qb.out (ylP _) (.string ⟨name.toArray⟩) (.string ⟨us.toArray⟩) (.string ⟨pw.toArray⟩) (.iface it iv) (.int .i64 pn) (.slice none 0 0) (.string ⟨#[]⟩) (.bool false) (.string ⟨#[]⟩) (.bool false))
   go_wp2
   obtain ⟨e0,e1,e2,e3,e4,e5,e6,e7,e8,e9,-⟩:=zbX o.out
   refine bodyPost_ret (v:= .tuple #[.agg #[.string ⟨name.toArray⟩,.string ⟨us.toArray⟩,.string ⟨pw.toArray⟩,(.iface it iv),.int .i64 pn,.slice none 0 0,.string ⟨#[]⟩,.bool false,.string ⟨#[]⟩,.bool false],.int .i64 0]) (by simp [results,Tryz.results154,go_sem,e0,e1,e2,e3,e4,e5,e6,e7,e8,e9]) rfl ?_
   rw [E.out]
   exact ⟨by rw [←qs.out];rfl,K.out⟩
 ·have f:=ylO (H.out.trans (if_pos h0))
  have Qa:(he !=(0:Int))=true:=by rw [bne_iff_ne];exact h0
  obtain rfl:h= .none:=X h0
  obtain ⟨c0,c1,c2,c3,c4,c5,c6,c7,c8,c9,d⟩:=Y.out
  have J:=ylO d
  obtain ⟨k0,k1,k2,k3,k4,k5,k6,k7,k8,k9,kf⟩:=zbX d
  clear d Y H N G X h0 V
  have o:=ylO (zmD J.out (.string ⟨#[]⟩) (.string ⟨#[]⟩) (.string ⟨#[]⟩) .nilIface (.int .i64 0) (.slice none 0 0) (.string ⟨#[]⟩) (.bool false) (.string ⟨#[]⟩) (.bool false))
  have K:=ylO (zdV Z.out (ylP _) (.string ⟨#[]⟩) (.string ⟨#[]⟩) (.string ⟨#[]⟩) .nilIface (.int .i64 0) (.slice none 0 0) (.string ⟨#[]⟩) (.bool false) (.string ⟨#[]⟩) (.bool false))
  go_wp2
  obtain ⟨e0,e1,e2,e3,e4,e5,e6,e7,e8,e9,-⟩:=zbX o.out
  refine bodyPost_ret (v:= .tuple #[.agg zcH,.int .i64 he]) (by simp [results,Tryz.results154,go_sem,e0,e1,e2,e3,e4,e5,e6,e7,e8,e9,zcH]) rfl ?_
  rw [f.out]
  exact ⟨rfl,K.out⟩
theorem yfS (l:List UInt8):(if hd1 [47,92] l=true then l.drop 1 else l)=offW l:=by
 match l with
 |[]=>rfl
 |c::r=>
  have e:hd1 [47,92] (c::r)=zcY c:=by
   have b: ∀d:UInt8,(d==c)=(c==d):=fun d=>by rw [Bool.eq_iff_iff,beq_iff_eq,beq_iff_eq];exact eq_comm
   have i:=b 47
   have f:=b 92
   show hasB [47,92] c=zcY c
   simp only [hasB,List.any_cons,List.any_nil,Bool.or_false,i,f,zcY]
  rw [e]
  rfl
theorem z8W (l:List UInt8):l.drop (l.findIdx (hasB [63,35]))=[]∨(l.drop (l.findIdx (hasB [63,35]))).head? =some 63∨(l.drop (l.findIdx (hasB [63,35]))).head? =some 35:=by
 by_cases h:l.findIdx (hasB [63,35])<l.length
 ·have d:=List.findIdx_getElem (w:=h)
  rw [zrV,dif_pos h]
  have f:l[l.findIdx (hasB [63,35])]=63∨l[l.findIdx (hasB [63,35])]=35:=by
   have:=d
   simp only [hasB,List.any_cons,List.any_nil,Bool.or_false,Bool.or_eq_true,beq_iff_eq] at this
   rcases this with g|g
   ·exact .inl g.symm
   ·exact .inr g.symm
  rcases f with g|g
  ·exact .inr (.inl (by rw [g]))
  ·exact .inr (.inr (by rw [g]))
 ·exact .inl (List.drop_eq_nil_of_le (by omega))
theorem z0P (u:UZ) (d:List (List UInt8)) (l:List UInt8):ziN u d l=finC {u with path:=zwX d (l.take (l.findIdx (hasB [63,35])))} (l.drop (l.findIdx (hasB [63,35]))):=by
 unfold ziN
 exact (ydT _ (z8W l)).symm
theorem z7I (u:UZ) (l:List UInt8):(finC u l).path=u.path:=by
 unfold finC;repeat' split
 all_goals rfl
theorem zbI.only {B:Nat} {F:List Nat} {w w':World} {v:Value} {ps:List (List UInt8)} (h:zbI B w v ps) (f:Only F w w') (hF: ∀b∈F,b<B):zbI B w' v ps:=
 zoP h (fun b d=>f.block b (World.ownsRow.lt h b d).2 (fun g=>by have:=hF b g;have:=(World.ownsRow.lt h b d).1;omega))
def RetUP (w:World) (M:Nat) (x:UZ×Int) (e:Ending) (w':World):Prop:= ∃pv,e= .returned (.tuple #[.agg (x.1.cells pv),.int .i64 x.2])∧zbI w.heap.size w' pv x.1.path∧Only [M] w w'
theorem yaT {w x y:World} {M G:Nat} (d:Only [M] w x) (i:w.heap.size≤G) (h:Only [M,G] x y):Only [M] w y:=
 d.trans h (fun z f=>by
  rcases List.mem_cons.1 f with e|e
  ·exact .inl (by rw [e];exact ylT ..)
  ·rw [ylS] at e;exact .inr (by omega))
theorem ybT (u:UZ) (l:List UInt8):(finC u l).host=u.host:=by
 unfold finC;repeat' split
 all_goals rfl
theorem z2H {name a:List UInt8} (h:(zkJ name a).2=0):(zkJ name a).1.host≠ .none:=by
 unfold zkJ at*
 split at h
 ·rename_i d;exact absurd h d
 ·rename_i d
  rw [if_neg d]
  split at h
  ·cases h
  ·rename_i f
   rw [if_neg f]
   exact (zlQ (Decidable.not_not.1 d)).ne
theorem PV.shape {w:World} {v:Value} {ps:List (List UInt8)} (h:PV w v ps): ∃a n c,v= .slice a n c:=by
 rcases h with ⟨_,h⟩|⟨g,c,h,_⟩
 ·exact ⟨_,_,_,h⟩
 ·exact ⟨_,_,_,h⟩
theorem z3W {name a:List UInt8} (h:(zkJ name a).2≠0):(zkJ name a).1=zeE:=by
 unfold zkJ at*
 split
 ·rfl
 ·rename_i d
  rw [if_neg d] at h
  split
  ·rfl
  ·rename_i f
   rw [if_neg f] at h
   exact absurd rfl h
theorem yhJ (l:List UInt8):(offW l).length≤l.length:=by
 match l with
 |[]=>exact ylP _
 |c::r=>
  show (if zcY c=true then r else c::r).length≤(c::r).length
  split<;>simp
theorem ztJ (M:Nat) (l name:List UInt8) (w:World) (hl:l.length≤100000) (hm:MB w M l) (qc:MaxVar w) (hn:ownZ name=80∨ownZ name=443):
  Calls Tryz.prog 89 #[.pointer (some ⟨M,0,none⟩),.string ⟨name.toArray⟩] w (RetUP w M (zkO name l)):=by
 have G:=ylO (z1L name l hn)
 have qW:=ylO (fun W (h:MB W M l)=>zhL [47,92,63,35] (by decide) M l W h)
 have Ql:(l.take (l.findIdx (hasB [47,92,63,35]))).length≤l.length:=by rw [List.length_take];omega
 have Qj:(l.drop (l.findIdx (hasB [47,92,63,35]))).length≤l.length:=by rw [List.length_drop];omega
 generalize l.take (l.findIdx (hasB [47,92,63,35]))=a at*
 generalize l.drop (l.findIdx (hasB [47,92,63,35]))=j at*
 have qO:=ylO (fun W (h:MaxVar W)=>zrO a name W (by omega) h)
 have V:=z3W (name:=name) (a:=a)
 have Q:=z2H (name:=name) (a:=a)
 generalize zkJ name a=rc at*
 obtain ⟨u,er⟩:=rc
 simp only at G V Q
 have ql:=ylO (fun W (h:MB W M j)=>zgQ M j [47,92] W h)
 rw [yfS] at ql
 have Qg:=yhJ j
 have qC:=ylO (z0P u [] (offW j))
 generalize hd1 [47,92] j=kb at*
 generalize offW j=t at*
 have qK:=ylO (fun W (h:MB W M t) (hx:MaxVar W)=>ycA M t (.slice none 0 0) [] W (by omega) (by simp) h (.inl ⟨rfl,rfl⟩) hx)
 have Qk:(t.drop (t.findIdx (hasB [63,35]))).length≤t.length:=by rw [List.length_drop];omega
 generalize zwX [] (t.take (t.findIdx (hasB [63,35])))=ps at*
 generalize t.drop (t.findIdx (hasB [63,35]))=left at*
 have HX:=ylO qc
 have HM:=ylO hm
 have Qh:=zaD hm
 obtain ⟨x0,J⟩: ∃y,y=w.alloc (.cells zcH 27):=⟨_,rfl⟩
 have qk:Below w.heap.size w x0:=by rw [J];exact zcD w _
 have qM:Hid (RB x0 w.heap.size):=by show RB _ _;rw [J];exact RB.new w
 have qz:MB x0 M l:=hm.below qk
 have HU:=ylO (qW.out x0 qz)
 have qH:Hid (Only [M] w x0):=Only.of_below qk
 unfold zcH at J
 clear qc hm hn qk qz qW
 go_enter Tryz.func89,Tryz.ntmps89
 go_wp2_with fail
 rw [←J]
 clear J
 refine (znV [47,92,63,35] _).mono ?_
 rintro e x1 ⟨rfl,rfl⟩
 go_wp2_with fail
 refine HU.out.mono ?_
 rintro e x2 ⟨rfl,qE,qp⟩
 have qb:w.heap.size≠M:=by omega
 have qJ:=ylO (qM.out.only qp (by simp [qb]))
 have qj:=ylO (qH.out.trans qp (fun x hx=> .inl hx))
 have qT:=ylO qE
 have qD:=ylO (znO HX.out HM.out qj.out)
 clear HU qM qH qp qE
 go_wp2_with fail
 refine (qO.out _ qD.out).mono ?_
 rintro e A ⟨rfl,Y⟩
 have N:=ylO (qJ.out.below Y)
 have K:=ylO (qj.out.then_below Y)
 have S:=ylO (qT.out.below Y)
 clear qO qJ qj qT qD Y
 have qs:w.heap.size≤A.heap.size:=K.out.size
 have qG:w.heap.size≠A.heap.size:=by have:=N.out.lt;omega
 have qm:A.heap.size≠M:=by have:=zaD S.out;omega
 by_cases h0:er=0
 ·have Qd:(er !=(0:Int))=false:=by rw [h0];rfl
  have m:=ylO (G.out.trans (if_neg (fun k=>k h0)))
  obtain ⟨it,iv,qe⟩:=HZ.iface (Q h0)
  clear V Q G h0
  obtain ⟨x4,d⟩: ∃y,y=A.alloc (.cells (u.cells (.slice none 0 0)) 27):=⟨_,rfl⟩
  have qn:Hid (UB x4 A.heap.size u (.slice none 0 0)):=by show UB _ _ _ _;rw [d];exact UB.new A u _
  have o:Below A.heap.size A x4:=by rw [d];exact zcD A _
  have H:=ylO (N.out.below o)
  have Z:=ylO (K.out.then_below o)
  have qV:=ylO (S.out.below o)
  have Qi:A.heap.size<x4.heap.size:=by have:=zaD qn.out;exact this
  clear N K S o
  simp only [UZ.cells] at d ⊢
  rw [qe] at d ⊢
  have Qc:=ylO qe
  clear qe
  have qR:=ylO (ql.out _ qV.out)
  go_wp2_with fail
  rw [←d]
  clear d
  generalize A.heap.size=g at*
  refine qR.out.mono ?_
  rintro e x5 ⟨rfl,qF,U⟩
  have qq:=ylO (H.out.only U (by simp [qb]))
  have qo:=ylO (qn.out.only U (by simp [qm]))
  have qh:=ylO (Z.out.trans U (fun x hx=> .inl hx))
  have qS:=ylO (qK.out _ qF (znO HX.out HM.out qh.out))
  have Qe:g<x5.heap.size:=zaD qo.out
  clear qR ql qK H qn Z qV qF U
  go_wp2_with fail
  refine qS.out.mono ?_
  rintro e x6 ⟨pv,rfl,qf,qP,X⟩
  obtain ⟨E,D,B,rfl⟩:=qf.pv.shape
  have qw:=ylO (qq.out.only X (by simp [qb]))
  have qi:=ylO (qo.out.only X (by simp [qm]))
  have qU:=ylO (qh.out.trans X (fun x hx=> .inl hx))
  have qB:=ylO qf
  have qy:=ylO qP
  clear qS qq qo qh qf qP X
  obtain ⟨-,-,-,-,-,c5,-,-,-,-,f6⟩:=qi.out.all
  have qY:=f6 5
  have I:Only [g] x6 (x6.setCell ⟨g,5,none⟩ (.slice E D B)):=(Only.refl _ _).setCell (p:=⟨g,5,none⟩) (.inl (ylT ..)) _
  have qL:=ylO (qw.out.set (i:=5) qG (.slice E D B))
  have qv:Hid (UB (x6.setCell ⟨g,5,none⟩ (.slice E D B)) g {u with path:=ps} (.slice E D B)):=qi.out.pth (.slice E D B)
  have qx:Hid (MB (x6.setCell ⟨g,5,none⟩ (.slice E D B)) M left):=qy.out.only I (by simp [Ne.symm qm])
  have qA:Hid (Only [M] w (x6.setCell ⟨g,5,none⟩ (.slice E D B))):=qU.out.setCell (p:=⟨g,5,none⟩) (.inr qs) _
  have qN:=ylO (qB.out.only I (fun b hb=>by rw [List.mem_singleton.1 hb];exact Qe))
  have qr:=ylO (z2F M g left {u with path:=ps} (.slice E D B) _ (by omega) qx.out qv.out)
  clear qw qi qU qB qy I f6
  go_wp2_with fail
  clear c5 qY
  generalize x6.setCell ⟨g,5,none⟩ (.slice E D B)=x7 at*
  refine qr.out.mono ?_
  rintro e x8 ⟨rfl,qQ,O⟩
  have Qf:=qL.out.only O (by simp [qb,qG])
  have Qa:=ylO (yaT qA.out qs O)
  have Qb:=ylO (qN.out.only O (fun b hb=>by
   rcases List.mem_cons.1 hb with e|e
   ·rw [e];omega
   ·rw [ylS] at e;omega))
  have qI:Hid ((finC {u with path:=ps} left).host.val= .iface it iv):=by show _=_;rw [ybT];exact Qc.out
  have qZ:Hid ((finC {u with path:=ps} left).path=ps):=z7I _ _
  have qd:Hid (ziN u [] t=finC {u with path:=ps} left):=qC.out
  rw [qd.out] at m
  clear qC qd qr qL qv qA qN qx O
  generalize finC {u with path:=ps} left=v at*
  obtain ⟨d0,d1,d2,d3,d4,d5,d6,d7,d8,d9,-⟩:=qQ.all
  rw [qI.out] at d3
  obtain ⟨c0,c1,c2,c3,c4,c5,c6,c7,c8,c9,f⟩:=Qf
  have qg:=ylO f
  obtain ⟨k0,k1,k2,k3,k4,k5,k6,k7,k8,k9,kf⟩:=zbX f
  clear f qQ
  have C:=ylO (zmD qg.out (.string ⟨v.scheme.toArray⟩) (.string ⟨v.user.toArray⟩) (.string ⟨v.pass.toArray⟩) (.iface it iv) (.int .i64 v.port) (.slice E D B) (.string ⟨v.query.toArray⟩) (.bool v.hasQ) (.string ⟨v.frag.toArray⟩) (.bool v.hasF))
  have qa:=ylO (zhW (g:=w.heap.size) Qa.out (.inr (ylP _)) (.string ⟨v.scheme.toArray⟩) (.string ⟨v.user.toArray⟩) (.string ⟨v.pass.toArray⟩) (.iface it iv) (.int .i64 v.port) (.slice E D B) (.string ⟨v.query.toArray⟩) (.bool v.hasQ) (.string ⟨v.frag.toArray⟩) (.bool v.hasF))
  have qX:=ylO (Qb.out.only (zhW (g:=w.heap.size) (F:=[w.heap.size]) (Only.refl _ _) (.inl (ylT ..)) (.string ⟨v.scheme.toArray⟩) (.string ⟨v.user.toArray⟩) (.string ⟨v.pass.toArray⟩) (.iface it iv) (.int .i64 v.port) (.slice E D B) (.string ⟨v.query.toArray⟩) (.bool v.hasQ) (.string ⟨v.frag.toArray⟩) (.bool v.hasF)) (fun b hb=>by rw [List.mem_singleton.1 hb];omega))
  go_wp2
  obtain ⟨e0,e1,e2,e3,e4,e5,e6,e7,e8,e9,-⟩:=zbX C.out
  refine bodyPost_ret (v:= .tuple #[.agg #[.string ⟨v.scheme.toArray⟩,.string ⟨v.user.toArray⟩,.string ⟨v.pass.toArray⟩,.iface it iv,.int .i64 v.port,(.slice E D B),.string ⟨v.query.toArray⟩,.bool v.hasQ,.string ⟨v.frag.toArray⟩,.bool v.hasF],.int .i64 0]) (by simp [results,Tryz.results89,go_sem,e0,e1,e2,e3,e4,e5,e6,e7,e8,e9]) rfl ?_
  rw [m.out]
  exact ⟨(.slice E D B),by rw [←qI.out];rfl,by rw [show (v,(0:Int)).1.path=ps from qZ.out];exact zpI qX.out (by omega),qa.out⟩
 ·have Qd:(er !=(0:Int))=true:=by rw [bne_iff_ne];exact h0
  have m:=ylO (G.out.trans (if_pos h0))
  obtain rfl:=V h0
  obtain ⟨x4,d⟩: ∃y,y=A.alloc (.cells zcH 27):=⟨_,rfl⟩
  have o:Below A.heap.size A x4:=by rw [d];exact zcD A _
  have H:=ylO (N.out.below o)
  have Z:=ylO (K.out.then_below o)
  rw [zxC]
  unfold zcH at d ⊢
  clear N K S o Q
  obtain ⟨c0,c1,c2,c3,c4,c5,c6,c7,c8,c9,f⟩:=H.out
  have qg:=ylO f
  obtain ⟨k0,k1,k2,k3,k4,k5,k6,k7,k8,k9,kf⟩:=zbX f
  clear f V h0 H
  have C:=ylO (zmD qg.out (.string ⟨#[]⟩) (.string ⟨#[]⟩) (.string ⟨#[]⟩) .nilIface (.int .i64 0) (.slice none 0 0) (.string ⟨#[]⟩) (.bool false) (.string ⟨#[]⟩) (.bool false))
  have qa:=ylO (zhW (g:=w.heap.size) Z.out (.inr (ylP _)) (.string ⟨#[]⟩) (.string ⟨#[]⟩) (.string ⟨#[]⟩) .nilIface (.int .i64 0) (.slice none 0 0) (.string ⟨#[]⟩) (.bool false) (.string ⟨#[]⟩) (.bool false))
  rw [d] at k0 k1 k2 k3 k4 k5 k6 k7 k8 k9 kf C qa
  clear d
  go_wp2
  obtain ⟨e0,e1,e2,e3,e4,e5,e6,e7,e8,e9,-⟩:=zbX C.out
  refine bodyPost_ret (v:= .tuple #[.agg zcH,.int .i64 er]) (by simp [results,Tryz.results89,go_sem,e0,e1,e2,e3,e4,e5,e6,e7,e8,e9,zcH]) rfl ?_
  rw [m.out]
  exact ⟨.slice none 0 0,rfl,zbI.nil _ _,qa.out⟩
def RetP (w:World) (x:UZ×Int) (e:Ending) (w':World):Prop:= ∃pv,e= .returned (.tuple #[.agg (x.1.cells pv),.int .i64 x.2])∧zbI w.heap.size w' pv x.1.path∧Below w.heap.size w w'
theorem HZ.shape (h:HZ):h.val= .nilIface∨ ∃t v,h.val= .iface t v:=by
 cases h with
 |none=>exact .inl rfl
 |name l=>exact .inr ⟨_,_,rfl⟩
 |addr a=>cases a<;>exact .inr ⟨_,_,rfl⟩
theorem own_80 {n:List UInt8} (h:ownZ n≠0):ownZ n=80∨ownZ n=443:=by
 unfold ownZ at*
 split at h
 ·exact .inl (by rename_i g;rw [if_pos g])
 ·rename_i g
  rw [if_neg g] at*
  split at h
  ·rename_i d;exact .inr (by rw [if_pos d])
  ·exact absurd rfl h
theorem z2P {t:List UInt8} {b:Option UZ} (d: ∀u,b=some u→u.scheme=zjR∨u.scheme=zeY) (h: ¬4096<t.length):zfC t b=z7U (zkD (ziR t)) b:=by
 unfold zfC
 rw [if_neg h,z3Z _ b d]
theorem z2J {t:List UInt8} {b:Option UZ} (h:4096<t.length):zfC t b=(zeE,3):=if_pos h
theorem z8J (t:List UInt8):(zkD (ziR t)).length≤t.length:=by
 have i:=yfL (ziR t)
 have f:=zzM t
 have d:=(List.dropWhile_suffix (l:=t) zcW).length_le
 omega
theorem zxM {s:List UInt8} {b:Option UZ} (h:ownZ (zjC s b)=0):z7U s b=(zeE,5):=if_pos h
theorem yeH {s:List UInt8} (h: ¬ownZ (zjC s none)=0):z7U s none=zkO (zjC s none) (ziX (zmR s)):=if_neg h
theorem z4L {s n r:List UInt8} {b:Option UZ} (h:schW s=some (n,r)):zjC s b=n∧zmR s=r:=by
 unfold zjC zmR;rw [h];exact ⟨rfl,rfl⟩
theorem ybQ {s:List UInt8} {b:UZ} (h:schW s=none):zjC s (some b)=b.scheme∧zjC s none=[]∧zmR s=s:=by
 unfold zjC zmR;rw [h];exact ⟨rfl,rfl,rfl⟩
theorem yfX (l:List UInt8):(ziX l).length≤l.length:=(List.dropWhile_suffix (l:=l) zcY).length_le
theorem yiI {s n r:List UInt8} (h:schW s=some (n,r)):r.length≤s.length:=by
 rw [zrF] at h
 split at h
 ·have:=(Prod.mk.inj (Option.some.inj h)).2
  rw [←this,List.length_drop];omega
 ·cases h
theorem zkC {w x:World} {pv:Value} {u:UZ} {B:Nat} (d:Below w.heap.size w x) (I:zbI B x pv u.path) (o:w.heap.size<B) (C j D f E G H A m i:Value):
  zbI w.heap.size ((((((((((x.setCell ⟨w.heap.size,0,none⟩ C).setCell ⟨w.heap.size,1,none⟩ j).setCell ⟨w.heap.size,2,none⟩ D).setCell ⟨w.heap.size,3,none⟩ f).setCell ⟨w.heap.size,4,none⟩ E).setCell ⟨w.heap.size,5,none⟩ G).setCell ⟨w.heap.size,6,none⟩ H).setCell ⟨w.heap.size,7,none⟩ A).setCell ⟨w.heap.size,8,none⟩ m).setCell ⟨w.heap.size,9,none⟩ i) pv u.path∧
  Below w.heap.size w ((((((((((x.setCell ⟨w.heap.size,0,none⟩ C).setCell ⟨w.heap.size,1,none⟩ j).setCell ⟨w.heap.size,2,none⟩ D).setCell ⟨w.heap.size,3,none⟩ f).setCell ⟨w.heap.size,4,none⟩ E).setCell ⟨w.heap.size,5,none⟩ G).setCell ⟨w.heap.size,6,none⟩ H).setCell ⟨w.heap.size,7,none⟩ A).setCell ⟨w.heap.size,8,none⟩ m).setCell ⟨w.heap.size,9,none⟩ i):=
 ⟨zpI (I.only (zhW (g:=w.heap.size) (F:=[w.heap.size]) (Only.refl _ _) (.inl (ylT ..)) _ _ _ _ _ _ _ _ _ _) (fun b d=>by rw [List.mem_singleton.1 d];exact o)) (Nat.le_of_lt o),zdV d (ylP _) _ _ _ _ _ _ _ _ _ _⟩
theorem zwC (t:List UInt8) (w:World) (U:MaxVar w):
  Calls Tryz.prog 38 #[.string ⟨t.toArray⟩,.pointer none] w (RetP w (zfC t none)):=by
 obtain ⟨x0,C⟩: ∃y,y=w.alloc (.cells zcH 27):=⟨_,rfl⟩
 have qb:Below w.heap.size w x0:=by rw [C];exact zcD w _
 have qd:Hid (RB x0 w.heap.size):=by show RB _ _;rw [C];exact RB.new w
 have hz:=zaI t
 unfold zcH at C
 have HX:=ylO (fun x (h:Below w.heap.size w x)=>zaA U h)
 by_cases G:4096<t.length
 ·have HF:=ylO (z2J (b:=none) G)
  have hd:decide (4096<(t.length:Int))=true:=ylQ (by omega)
  have qz:Below w.heap.size w (w.alloc (.cells zcH 27)):=zcD w _
  unfold zcH at qz
  clear qd qb C HX
  go_enter Tryz.func38,Tryz.ntmps38
  go_wp2
  refine bodyPost_ret (v:= .tuple #[.agg zcH,.int .i64 3]) (by simp [results,Tryz.results38,go_sem,zcH]) rfl ?_
  rw [HF.out]
  exact ⟨.slice none 0 0,rfl,zbI.nil _ _,qz⟩
 have hd:decide (4096<(t.length:Int))=false:=decide_eq_false (by omega)
 have HF:=ylO (z2P (b:=none) (fun u e=>by cases e) G)
 have h4:t.length≤4096:=by omega
 have hl:t.length≤1000000:=by omega
 have qI:=z8J t
 have qK:(ziR t).length≤t.length:=by
  have h2:=zzM t
  have h3:=(List.dropWhile_suffix (l:=t) zcW).length_le
  omega
 have HT:=ylO (fun W=>ygD ⟨t.toArray⟩ W (by rw [zaI];omega))
 rw [zaQ] at HT
 have HD:=ylO (fun W=>yeG ⟨(ziR t).toArray⟩ W (by rw [zaI];omega))
 rw [zaQ] at HD
 generalize zkD (ziR t)=s at*
 generalize ziR t=t1 at*
 have qy:=ylO qb
 clear U qb G
 go_enter Tryz.func38,Tryz.ntmps38
 go_wp2_with fail
 rw [←C]
 clear C
 refine (HT.out _).mono ?_
 rintro e w' ⟨rfl,rfl⟩
 go_wp2_with fail
 refine (HD.out _).mono ?_
 rintro e V ⟨rfl,qc⟩
 have qp:=ylO (zaJ qy.out qc)
 have K:=ylO (qd.out.below qc)
 clear qc qy qd HT HD hz hd
 obtain ⟨x2,O⟩: ∃y,y=V.alloc (.cells #[.string ⟨s.toArray⟩] 145):=⟨_,rfl⟩
 have qe:Below V.heap.size V x2:=by rw [O];exact (ylR _ _).alloc (ylP _) _
 have qh:=ylO (zaJ qp.out qe)
 have ql:=ylO (K.out.below qe)
 have qA:Hid (MB x2 V.heap.size s):=by show MB _ _ _;rw [O];exact heap_alloc_new V _
 have qm:=ylO (z1I _ s x2 (by omega) qA.out)
 have X:w.heap.size≠V.heap.size:=by have:=K.out.lt;omega
 have qH:w.heap.size<V.heap.size:=K.out.lt
 clear qp K qe qA
 go_wp2_with fail
 rw [←O]
 clear O
 generalize V.heap.size=M at*
 refine qm.out.mono ?_
 rintro e x3 ⟨rfl,j,qf⟩
 have qn:Below w.heap.size x2 x3:=qf.below qh.out.size (fun x hx=>by rw [List.mem_singleton.1 hx];omega)
 have I:=ylO (qh.out.trans qn)
 have E:=ylO (ql.out.only qf (by simp [X]))
 have qG:=zaD j
 clear qm qf qh ql qn
 cases A:schW s with
 |none=>
  obtain ⟨-,i,N⟩:=ybQ (b:=zeE) A
  have H:ownZ (zjC s none)=0:=by rw [i];decide
  rw [A] at j
  obtain ⟨J,qk⟩: ∃J,J=([]:List UInt8):=⟨_,rfl⟩
  rw [←qk] at i
  clear A N
  simp only [Option.map,Option.getD,Option.isSome] at j ⊢
  have o:=ylO (HF.out.trans (zxM H))
  obtain ⟨c0,c1,c2,c3,c4,c5,c6,c7,c8,c9,d⟩:=E.out
  have D:=ylO d
  obtain ⟨k0,k1,k2,k3,k4,k5,k6,k7,k8,k9,kf⟩:=zbX d
  have f:=ylO (zmD D.out (.string ⟨#[]⟩) (.string ⟨#[]⟩) (.string ⟨#[]⟩) .nilIface (.int .i64 0) (.slice none 0 0) (.string ⟨#[]⟩) (.bool false) (.string ⟨#[]⟩) (.bool false))
  have B:=ylO (zdV I.out (ylP _) (.string ⟨#[]⟩) (.string ⟨#[]⟩) (.string ⟨#[]⟩) .nilIface (.int .i64 0) (.slice none 0 0) (.string ⟨#[]⟩) (.bool false) (.string ⟨#[]⟩) (.bool false))
  have m:=ylO (fun W=>zgD ([]:List UInt8) W)
  rw [show ownZ []=0 by decide] at m
  clear d E j H i qk
  go_wp2_with fail
  refine (m.out _).mono ?_
  rintro e w' ⟨rfl,rfl⟩
  go_wp2
  obtain ⟨e0,Y,e2,e3,e4,e5,e6,e7,e8,e9,-⟩:=zbX f.out
  refine bodyPost_ret (v:= .tuple #[.agg zcH,.int .i64 5]) (by simp [results,Tryz.results38,go_sem,e0,Y,e2,e3,e4,e5,e6,e7,e8,e9,zcH]) rfl ?_
  rw [o.out]
  exact ⟨.slice none 0 0,rfl,zbI.nil _ _,B.out⟩
 |some p=>
  obtain ⟨J,lf⟩:=p
  obtain ⟨i,N⟩:=z4L (b:=none) A
  have qJ:=yiI A
  rw [A] at j
  simp only [Option.map,Option.getD,Option.isSome] at j ⊢
  by_cases H:ownZ (zjC s none)=0
  ·have o:=ylO (HF.out.trans (zxM H))
   obtain ⟨c0,c1,c2,c3,c4,c5,c6,c7,c8,c9,d⟩:=E.out
   have D:=ylO d
   obtain ⟨k0,k1,k2,k3,k4,k5,k6,k7,k8,k9,kf⟩:=zbX d
   have f:=ylO (zmD D.out (.string ⟨#[]⟩) (.string ⟨#[]⟩) (.string ⟨#[]⟩) .nilIface (.int .i64 0) (.slice none 0 0) (.string ⟨#[]⟩) (.bool false) (.string ⟨#[]⟩) (.bool false))
   have B:=ylO (zdV I.out (ylP _) (.string ⟨#[]⟩) (.string ⟨#[]⟩) (.string ⟨#[]⟩) .nilIface (.int .i64 0) (.slice none 0 0) (.string ⟨#[]⟩) (.bool false) (.string ⟨#[]⟩) (.bool false))
   have m:=ylO (fun W=>zgD J W)
   rw [i] at H
   rw [H] at m
   clear d E j H i
   go_wp2_with fail
   refine (m.out _).mono ?_
   rintro e w' ⟨rfl,rfl⟩
   go_wp2
   obtain ⟨e0,Y,e2,e3,e4,e5,e6,e7,e8,e9,-⟩:=zbX f.out
   refine bodyPost_ret (v:= .tuple #[.agg zcH,.int .i64 5]) (by simp [results,Tryz.results38,go_sem,e0,Y,e2,e3,e4,e5,e6,e7,e8,e9,zcH]) rfl ?_
   rw [o.out]
   exact ⟨.slice none 0 0,rfl,zbI.nil _ _,B.out⟩
  ·have o:=ylO (HF.out.trans (yeH H))
   rw [i,N] at o
   have qr:=own_80 (n:=J) (by rw [←i];exact H)
   have m:=ylO (fun W=>zgD J W)
   have qD:(ownZ J==(0:Int))=false:=by rw [beq_eq_false_iff_ne,←i];exact H
   generalize qE:ownZ J=oz at*
   have qv:=ylO (zqC M lf x3 j)
   go_wp2_with fail
   refine (m.out _).mono ?_
   rintro e w' ⟨rfl,rfl⟩
   go_wp2_with fail
   refine qv.out.mono ?_
   rintro e xc ⟨rfl,qw,qg⟩
   have qj:Below w.heap.size x3 xc:=qg.below I.out.size (fun x hx=>by rw [List.mem_singleton.1 hx];omega)
   have S:=ylO (I.out.trans qj)
   have Z:=ylO (E.out.only qg (by simp [X]))
   have qB:=ylO qw
   have qF:=yfX (lf)
   clear qv m qg qj qw j I E qD
   generalize ziX lf=lb at*
   clear H i N A
   rw [←qE] at qr
   go_wp2_with fail
   refine (ztJ M lb J _ (by omega) qB.out (HX.out _ S.out) qr).mono ?_
   rintro e x5 ⟨pv,rfl,qx,qi⟩
   have qo:Below w.heap.size xc x5:=qi.below S.out.size (fun x hx=>by rw [List.mem_singleton.1 hx];omega)
   have qs:=ylO (S.out.trans qo)
   have qC:=Z.out.only qi (by simp [X])
   have Q:=ylO qx
   have qq:w.heap.size<xc.heap.size:=Z.out.lt
   clear qi qo qx Z qB S
   generalize zkO J lb=rr at*
   obtain ⟨v,er⟩:=rr
   simp only [UZ.cells] at Q o ⊢
   obtain ⟨sa,sn,sc,rfl⟩:=Q.out.pv.shape
   obtain ⟨c0,c1,c2,c3,c4,c5,c6,c7,c8,c9,d⟩:=qC
   have D:=ylO d
   obtain ⟨k0,k1,k2,k3,k4,k5,k6,k7,k8,k9,kf⟩:=zbX d
   clear d
   rcases v.host.shape with hv|⟨it,iv,hv⟩
   ·have qa:=ylO hv
    rw [hv]
    clear hv
    have f:=ylO (zmD D.out (.string ⟨v.scheme.toArray⟩) (.string ⟨v.user.toArray⟩) (.string ⟨v.pass.toArray⟩) .nilIface (.int .i64 v.port) (.slice sa sn sc) (.string ⟨v.query.toArray⟩) (.bool v.hasQ) (.string ⟨v.frag.toArray⟩) (.bool v.hasF))
    have B:=ylO (zkC qs.out Q.out qq (.string ⟨v.scheme.toArray⟩) (.string ⟨v.user.toArray⟩) (.string ⟨v.pass.toArray⟩) .nilIface (.int .i64 v.port) (.slice sa sn sc) (.string ⟨v.query.toArray⟩) (.bool v.hasQ) (.string ⟨v.frag.toArray⟩) (.bool v.hasF))
    go_wp2
    obtain ⟨e0,Y,e2,e3,e4,e5,e6,e7,e8,e9,-⟩:=zbX f.out
    refine bodyPost_ret (v:= .tuple #[.agg #[.string ⟨v.scheme.toArray⟩,.string ⟨v.user.toArray⟩,.string ⟨v.pass.toArray⟩,.nilIface,.int .i64 v.port,.slice sa sn sc,.string ⟨v.query.toArray⟩,.bool v.hasQ,.string ⟨v.frag.toArray⟩,.bool v.hasF],.int .i64 er]) (by simp [results,Tryz.results38,go_sem,e0,Y,e2,e3,e4,e5,e6,e7,e8,e9]) rfl ?_
    rw [o.out]
    exact ⟨_,by rw [←qa.out];rfl,B.out⟩
   ·have qa:=ylO hv
    rw [hv]
    clear hv
    have f:=ylO (zmD D.out (.string ⟨v.scheme.toArray⟩) (.string ⟨v.user.toArray⟩) (.string ⟨v.pass.toArray⟩) (.iface it iv) (.int .i64 v.port) (.slice sa sn sc) (.string ⟨v.query.toArray⟩) (.bool v.hasQ) (.string ⟨v.frag.toArray⟩) (.bool v.hasF))
    have B:=ylO (zkC qs.out Q.out qq (.string ⟨v.scheme.toArray⟩) (.string ⟨v.user.toArray⟩) (.string ⟨v.pass.toArray⟩) (.iface it iv) (.int .i64 v.port) (.slice sa sn sc) (.string ⟨v.query.toArray⟩) (.bool v.hasQ) (.string ⟨v.frag.toArray⟩) (.bool v.hasF))
    go_wp2
    obtain ⟨e0,Y,e2,e3,e4,e5,e6,e7,e8,e9,-⟩:=zbX f.out
    refine bodyPost_ret (v:= .tuple #[.agg #[.string ⟨v.scheme.toArray⟩,.string ⟨v.user.toArray⟩,.string ⟨v.pass.toArray⟩,(.iface it iv),.int .i64 v.port,.slice sa sn sc,.string ⟨v.query.toArray⟩,.bool v.hasQ,.string ⟨v.frag.toArray⟩,.bool v.hasF],.int .i64 er]) (by simp [results,Tryz.results38,go_sem,e0,Y,e2,e3,e4,e5,e6,e7,e8,e9]) rfl ?_
    rw [o.out]
    exact ⟨_,by rw [←qa.out];rfl,B.out⟩
theorem z9O (t:List UInt8) (w:World) (m:MaxVar w):
  Calls Tryz.prog 9 #[.string ⟨t.toArray⟩] w (RetP w (zfC t none)):=by
 obtain ⟨Q,f⟩: ∃y,y=w.alloc (.cells zcH 27):=⟨_,rfl⟩
 have A:Below w.heap.size w Q:=by rw [f];exact zcD w _
 have D:Hid (RB Q w.heap.size):=by show RB _ _;rw [f];exact RB.new w
 have HP:=ylO (zwC t Q (zaA m A))
 have K:=ylO A
 have N:w.heap.size<Q.heap.size:=D.out.lt
 unfold zcH at f
 clear m A
 generalize zfC t none=rr at*
 obtain ⟨v,er⟩:=rr
 go_enter Tryz.func9,Tryz.ntmps9
 go_wp2_with fail
 rw [←f]
 clear f
 refine HP.out.mono ?_
 rintro e x5 ⟨pv,rfl,J,C⟩
 have O:=ylO (zaJ K.out C)
 have S:=D.out.below C
 have j:=ylO J
 clear HP C J D K
 simp only [UZ.cells] at j ⊢
 obtain ⟨I,H,G,rfl⟩:=j.out.pv.shape
 obtain ⟨c0,c1,c2,c3,c4,c5,c6,c7,c8,c9,d⟩:=S
 have M:=ylO d
 obtain ⟨k0,k1,k2,k3,k4,k5,k6,k7,k8,k9,kf⟩:=zbX d
 clear d
 rcases v.host.shape with E|⟨V,iv,E⟩
 ·have o:=ylO E
  rw [E]
  clear E
  have i:=ylO (zmD M.out (.string ⟨v.scheme.toArray⟩) (.string ⟨v.user.toArray⟩) (.string ⟨v.pass.toArray⟩) .nilIface (.int .i64 v.port) (.slice I H G) (.string ⟨v.query.toArray⟩) (.bool v.hasQ) (.string ⟨v.frag.toArray⟩) (.bool v.hasF))
  have B:=ylO (zkC O.out j.out N (.string ⟨v.scheme.toArray⟩) (.string ⟨v.user.toArray⟩) (.string ⟨v.pass.toArray⟩) .nilIface (.int .i64 v.port) (.slice I H G) (.string ⟨v.query.toArray⟩) (.bool v.hasQ) (.string ⟨v.frag.toArray⟩) (.bool v.hasF))
  go_wp2
  obtain ⟨e0,U,Y,X,e4,e5,Z,e7,e8,e9,-⟩:=zbX i.out
  refine bodyPost_ret (v:= .tuple #[.agg #[.string ⟨v.scheme.toArray⟩,.string ⟨v.user.toArray⟩,.string ⟨v.pass.toArray⟩,.nilIface,.int .i64 v.port,.slice I H G,.string ⟨v.query.toArray⟩,.bool v.hasQ,.string ⟨v.frag.toArray⟩,.bool v.hasF],.int .i64 er]) (by simp [results,Tryz.results9,go_sem,e0,U,Y,X,e4,e5,Z,e7,e8,e9]) rfl ?_
  exact ⟨_,by rw [←o.out];rfl,B.out⟩
 ·have o:=ylO E
  rw [E]
  clear E
  have i:=ylO (zmD M.out (.string ⟨v.scheme.toArray⟩) (.string ⟨v.user.toArray⟩) (.string ⟨v.pass.toArray⟩) (.iface V iv) (.int .i64 v.port) (.slice I H G) (.string ⟨v.query.toArray⟩) (.bool v.hasQ) (.string ⟨v.frag.toArray⟩) (.bool v.hasF))
  have B:=ylO (zkC O.out j.out N (.string ⟨v.scheme.toArray⟩) (.string ⟨v.user.toArray⟩) (.string ⟨v.pass.toArray⟩) (.iface V iv) (.int .i64 v.port) (.slice I H G) (.string ⟨v.query.toArray⟩) (.bool v.hasQ) (.string ⟨v.frag.toArray⟩) (.bool v.hasF))
  go_wp2
  obtain ⟨e0,U,Y,X,e4,e5,Z,e7,e8,e9,-⟩:=zbX i.out
  refine bodyPost_ret (v:= .tuple #[.agg #[.string ⟨v.scheme.toArray⟩,.string ⟨v.user.toArray⟩,.string ⟨v.pass.toArray⟩,.iface V iv,.int .i64 v.port,.slice I H G,.string ⟨v.query.toArray⟩,.bool v.hasQ,.string ⟨v.frag.toArray⟩,.bool v.hasF],.int .i64 er]) (by simp [results,Tryz.results9,go_sem,e0,U,Y,X,e4,e5,Z,e7,e8,e9]) rfl ?_
  exact ⟨_,by rw [←o.out];rfl,B.out⟩
end
end Go.Proofs.YtegmcmgndllmaaaGreatDoor
