/-
  What the law ResolveMeets leans on, and its walk (31 of 46).
-/
import Derived.Maps.AppendAt
import Derived.Deep.RegionHeld3
import Derived.Test.YtmjappnpedjlnaaGreatDoorResolveMeetsPkd
import Derived.Test.YtmjappnpedjlnaaGreatDoorResolveMeetsPkP
import Derived.Test.YtmjappnpedjlnaaGreatDoorResolveMeetsPke
import Derived.Test.YtmjappnpedjlnaaGreatDoorResolveMeetsPkV
import Derived.Test.YtmjappnpedjlnaaGreatDoorResolveMeetsPkU
namespace Go.Proofs.YtmjappnpedjlnaaGreatDoor
set_option maxRecDepth 100000
set_option maxHeartbeats 16000000
theorem tkf {P : Program} {md : Region.Mode} {ops : Array Oper} {Q : Exit → Act → World → Prop} {S : World → Prop} (i : Nat) (s : Option Nat) {op : Op} {ty : TypeId} {pos : String} {af : _} {gd : _} {v : Value} {fuel : Nat} {listed : Array Bool} {a : Act} {w : World} (hi : ops[i]? = some ⟨s, op, ty, pos, af, gd⟩)
 (hy : YieldsIf P ops S ⟨s, op, ty, pos, af, gd⟩ v a) (hS : S w)
 (h : wpAnyH P md ops Q S fuel (listed.setIfInBounds i true) (a.put s v) w)
 (hs : Region.noSelect ops = true := by kernel_rfl) (hf : Region.free md ops listed i = true := by kernel_rfl) (hr : (Region.ready md ops listed).contains i = true := by kernel_rfl)
 (hQ : ∀ c a w, Q (.panic c) (a.put s v) w → Q (.panic c) a w := by exact fun _ _ _ h => h) : wpAnyH P md ops Q S (fuel + 1) listed a w :=
 wpAnyH_take hi hs hf hr hQ hy hS h
theorem tkfa {α : Type _} (l : List α) (i : Nat) (a : α) : l.toArray.setIfInBounds i a = (l.set i a).toArray := List.setIfInBounds_toArray ..
theorem tkfb {α : Type _} (x y : α) (l : List α) : (x :: l).set 0 y = y :: l := rfl
theorem tkfc {α : Type _} (x y : α) (l : List α) (n : Nat) : (x :: l).set (n + 1) y = x :: l.set n y := rfl
abbrev ypV := @Lib.hid
abbrev ypW := @beq_eq_false_iff_ne
abbrev ypX := @Nat.le_refl
abbrev ypY := @decide_eq_false
abbrev ypZ := @decide_eq_true
abbrev yqA := @Go.RowKit.Below.refl
abbrev yqB := @List.mem_singleton
abbrev yqC := @List.mem_cons_self
section
open Go.RowKit
def PV (w:World) (v:Value) (ps:List (List UInt8)):Prop:=(ps=[]∧v= .slice none 0 0)∨ ∃g c,v= .slice (some ⟨g,0,none⟩) ps.length c∧ps.length≤c∧Seen w g ps
theorem PV.keep {w w':World} {v:Value} {ps:List (List UInt8)} (h:PV w v ps) (hb:Below w.heap.size w w'):PV w' v ps:=by
 rcases h with h|⟨g,c,h1,h2,h3⟩
 ·exact .inl h
 ·exact .inr ⟨g,c,h1,h2,h3.keep hb⟩
theorem zbA.cases {B:Nat} {w:World} {v:Value} {ps:List (List UInt8)} (h:zbA B w v ps):(ps=[]∧v= .slice none 0 0)∨ ∃g c,v= .slice (some ⟨g,0,none⟩) ps.length c∧ps.length≤c∧B≤g∧Seen w g ps:=by
 unfold zbA at h
 rcases h.2 with ⟨h1,h2⟩|⟨g,c,cur,h1,h2,h3,h4,h5,h6,h7⟩
 ·exact .inl ⟨List.eq_nil_of_length_eq_zero h2,h1⟩
 ·refine .inr ⟨g,c,h1,h4,h2,zaM h3,fun j hj=> ?_⟩
  have hq:(zjD ps)[j]? =some (.string ⟨(ps.getD j []).toArray⟩):=by
   simp [zjD,strC,List.getD,List.getElem?_eq_getElem hj]
  have:=h.cells (g:=g) (by rw [h1];rfl) j _ hq
  have e:(⟨g,0,none⟩:Addr).add j=⟨g,j,none⟩:=by simp [Addr.add];intro h;omega
  rw [e] at this
  exact this
theorem zbA.pv {B:Nat} {w:World} {v:Value} {ps:List (List UInt8)} (h:zbA B w v ps):PV w v ps:=by
 rcases h.cases with h|⟨g,c,h1,h2,_,h4⟩
 ·exact .inl h
 ·exact .inr ⟨g,c,h1,h2,h4⟩
theorem yeY (ps:List (List UInt8)):(ps.map fun p=>(⟨p.toArray⟩:ByteArray)).map Value.string=zjD ps:=by simp [zjD,strC]
theorem zhM (v:Value) (ps:List (List UInt8)) (w:World) (h:PV w v ps) (hl:ps.length≤1000000):
  Calls Tryz.prog 123 #[v] w fun e w'=> ∃v',e= .returned v'∧zbA w.heap.size w' v' ps∧Below w.heap.size w w':=by
 rcases h with ⟨rfl,rfl⟩|⟨g,c,rfl,_,hs⟩
 ·refine (Tryz.slices_Clone_string_nil 0 0 w).mono ?_
  rintro e w' ⟨rfl,rfl⟩
  exact ⟨_,rfl,zbA.nil _ _,yqA _ _⟩
 ·refine (Tryz.slices_Clone_string g 0 ps.length c (ps.map fun p=>⟨p.toArray⟩) w (by simp) (by omega) (fun j hj=> ?_)).mono ?_
  ·rw [List.length_map] at hj
   rw [Nat.zero_add,hs.2 j hj]
   simp [List.getD,List.getElem?_eq_getElem hj]
  ·rintro e w' ⟨v',rfl,hown,_,hb⟩
   refine ⟨v',rfl,?_,hb⟩
   have e:((ps.map fun p=>(⟨p.toArray⟩:ByteArray)).take ps.length).map Value.string=zjD ps:=by
    rw [List.take_of_length_le (by simp),yeY]
   rw [e] at hown
   exact hown
theorem zqR {B:Nat} {w:World} {g n c:Nat} {ps:List (List UInt8)} (h:zbA B w (.slice (some ⟨g,0,none⟩) n c) ps):zbA B w (.slice (some ⟨g,0,none⟩) (n - 1:Nat) c) ps.dropLast:=by
 unfold zbA at*
 rcases h.2 with ⟨h1,h2⟩|⟨g',c',cur,h1,h2,h3,h4,h5,h6,h7⟩
 ·cases h1
 ·simp only [Value.slice.injEq,Option.some.injEq,Addr.mk.injEq,and_true] at h1
  obtain ⟨rfl,rfl,rfl⟩:=h1
  have e:zjD ps.dropLast=(zjD ps).take (ps.length - 1):=by
   unfold zjD;rw [List.dropLast_eq_take,List.map_take]
  refine ⟨by simp [zjD],.inr ⟨g,c,cur,by simp,h2,h3,by simp;omega,h5,h6,?_⟩⟩
  rw [e,←h7,List.take_take,List.length_dropLast]
  congr 1
  omega
theorem zrA (B:Nat) (v:Value) (ps:List (List UInt8)) (w:World) (h:zbA B w v ps) (hl:ps.length≤10000000):
  Calls Tryz.prog 124 #[v] w fun e w'=> ∃v',e= .returned v'∧zbA B w v' ps.dropLast∧v'.ownBlock=v.ownBlock∧w=w':=by
 rcases h.cases with ⟨rfl,rfl⟩|⟨g,c,rfl,hc,_,_⟩
 ·have hs: ∀W,(Instr.slice 45 (.slice none 0 0) none (some (.int .i64 0)) none).run Tryz.prog W= .ok (.slice none 0 0) W:=fun W=>by
   rw [run_slice_h W 45 none 0 0 (by simp [Program.elem,Tryz.underlying45]) .i64 _ (by omega) (by omega)]
   rfl
  go_enter Tryz.func124,Tryz.ntmps124
  go_wp2
  go_ret
  exact ⟨_,rfl,zbA.nil _ _,rfl,rfl⟩
 ·have HP:=ypV (zqR h)
  clear h
  generalize ps.length=n at*
  have hs: ∀W (k:Nat),k≤c→(Instr.slice 45 (.slice (some ⟨g,0,none⟩) n c) none (some (.int .i64 (k:Int))) none).run Tryz.prog W= .ok (.slice (some ⟨g,0,none⟩) k c) W:=fun W k hk=>by
   rw [run_slice_h W 45 (some ⟨g,0,none⟩) n c (by simp [Program.elem,Tryz.underlying45]) .i64 _ (by omega) (by omega)]
   go_simp
  match n,hc,hl,HP with
  |0,hc,hl,HP=>
   have hs0:=fun W=>hs W 0 (by omega)
   clear hs
   go_enter Tryz.func124,Tryz.ntmps124
   go_wp2
   go_ret
   exact ⟨_,rfl,HP.out,rfl,rfl⟩
  |n+1,hc,hl,HP=>
   have hs0:=fun W=>hs W n (by omega)
   have HP2:Hid (zbA B w (.slice (some ⟨g,0,none⟩) n c) ps.dropLast):=HP.out
   clear hs HP
   by_cases h0:n=0
   ·subst h0
    go_enter Tryz.func124,Tryz.ntmps124
    go_wp2
    go_ret
    exact ⟨_,rfl,HP2.out,rfl,rfl⟩
   ·have hd:0<n:=by omega
    go_enter Tryz.func124,Tryz.ntmps124
    go_wp2
    go_ret
    exact ⟨_,rfl,HP2.out,rfl,rfl⟩
theorem ycI (s old:ByteArray):Lib.countB s old≤s.size+1:=by
 have:=Lib.count_le s.data.toList old.data.toList
 rw [zaN] at this
 exact this
theorem z3W (l:List UInt8) (w:World) (hl:l.length≤1000000000) (hmax:MaxVar w):
  Calls Tryz.prog 171 #[.string ⟨l.toArray⟩,.string ⟨#[37,50,101]⟩,.string ⟨#[46]⟩] w (zdT w (Lib.replaceAll l [37,50,101] [46])):=by
 obtain ⟨m,hm⟩:=hmax
 have hz:=zaB l
 have h1:=ycI ⟨l.toArray⟩ ⟨#[37,50,101]⟩
 have h2:(ByteArray.mk #[46]).size=1:=rfl
 exact Tryz.strings_ReplaceAll ⟨l.toArray⟩ ⟨#[37,50,101]⟩ ⟨#[46]⟩ m w (by omega) hm (by decide) (by rw [h2];omega)
theorem zrZ {P:Program} (w:World) {ops:Array Oper} {rest:List Oper} {o:Oper} {a:Act} {Q:Exit→Act→World→Prop} (hgd:o.guard=none) (s x:Operand) (t:TypeId)
  (ho:o.op= .call {callee:= .builtin .append,args:= #[s,x],argTypes:= #[t,t]})
  (base:Nat) (e:TypeId) (i:TypeInfo) (z:Value) (bytes:Nat) (ht:P.underlying t=some (.slice e)) (hi:P.info? e=some i) (hz:i.zero=some z)
  (hsize:i.size=1) (hby:i.bytes=bytes) (hzs:z.cells.size=1)
  (v:Value) (n:Nat) (xs:List Value) (hs:a.eval s=v) (hown:w.ownsRow base e 1 v n xs) (u:Value) (hx:a.eval x= .slice (some ⟨w.heap.size,0,none⟩) 1 1) (hu:u.oneCell'=true)
  (h63:n+1≤9223372036854775807) (hbytes:(n+1)*bytes≤140737488355328) (hbase:base≤w.heap.size)
  (h: ∀v' w',w'.ownsRow base e 1 v' (n+1) (xs++[u])→w.grownBy w' v.ownBlock→(v'.ownBlock=v.ownBlock∨ ∃k,v'.ownBlock=some k∧w.heap.size≤k)→wpList P ops Q rest (a.put o.dst v') w'):wpList P ops Q (o::rest) a (w.alloc (.cells #[u] e)):=by
 refine wpList_append_own_at (w.alloc (.cells #[u] e)) hgd s x t ho base e i z 1 bytes ht hi hz hsize hby hzs (by decide) v n xs hs (hown.alloc _) ⟨w.heap.size,0,none⟩ 1 1 [u] hx rfl (zxX w u e) ?_ h63 hbytes (by simp;omega) ?_
 ·intro y hy;simp at hy;subst hy;exact hu
 ·intro v' w1 hown' hg _ hat
  refine h v' w1 hown' ⟨hg.os,hg.tape,hg.output,Nat.le_trans (by simp) hg.size,fun k hk hne=> ?_⟩ ?_
  ·exact (hg.block k (by simp;omega) hne).trans (((yqA _ w).alloc (ypX _) _).block k hk)
  ·rcases hat with q|q
   ·exact .inl q
   ·exact .inr ⟨_,q,by simp⟩
structure Segs (base:Nat) (x:World) (v0:Value) (y:World) (v:Value) (out:List (List UInt8)):Prop where
 own:zbA base y v out
 grown:x.grownBy y v0.ownBlock
 at_:v.ownBlock=v0.ownBlock∨ ∃b,v.ownBlock=some b∧x.heap.size≤b
theorem Segs.keep {base:Nat} {x:World} {v0:Value} {y z:World} {v:Value} {out:List (List UInt8)} (h:Segs base x v0 y v out) (hb:Below y.heap.size y z):Segs base x v0 z v out:=
 ⟨h.own.below hb,⟨hb.os.trans h.grown.os,hb.tape.trans h.grown.tape,hb.output.trans h.grown.output,Nat.le_trans h.grown.size hb.size,fun k hk hne=>(hb.block k (Nat.lt_of_lt_of_le hk h.grown.size)).trans (h.grown.block k hk hne)⟩,h.at_⟩
theorem Segs.app {base:Nat} {x:World} {v0:Value} {y z:World} {v v':Value} {out:List (List UInt8)} {q:List UInt8} (h:Segs base x v0 y v out) (hown:z.ownsRow base 9 1 v' (out.length+1) (zjD out++[.string ⟨q.toArray⟩])) (hg:y.grownBy z v.ownBlock) (hat:v'.ownBlock=v.ownBlock∨ ∃k,v'.ownBlock=some k∧y.heap.size≤k):Segs base x v0 z v' (out++[q]):=by
 refine ⟨zbA.snoc hown rfl,⟨hg.os.trans h.grown.os,hg.tape.trans h.grown.tape,hg.output.trans h.grown.output,Nat.le_trans h.grown.size hg.size,fun k hk hne=> ?_⟩,?_⟩
 ·refine (hg.block k (Nat.lt_of_lt_of_le hk h.grown.size) (fun e=> ?_)).trans (h.grown.block k hk hne)
  rcases h.at_ with q|⟨b,q,hb⟩
  ·exact hne (e.trans q)
  ·rw [q] at e;have:=Option.some.inj e;omega
 ·rcases hat with q|⟨k,q,hk⟩
  ·rcases h.at_ with r|r
   ·exact .inl (q.trans r)
   ·exact .inr (by rw [q];exact r)
  ·exact .inr ⟨k,q,Nat.le_trans h.grown.size hk⟩
theorem Segs.drop {base:Nat} {x:World} {v0:Value} {y:World} {v v':Value} {out:List (List UInt8)} (h:Segs base x v0 y v out) (hp:zbA base y v' out.dropLast) (hb:v'.ownBlock=v.ownBlock):Segs base x v0 y v' out.dropLast:=
 ⟨hp,h.grown,by rw [hb];exact h.at_⟩
theorem Segs.block {base:Nat} {x:World} {v0:Value} {y:World} {v:Value} {out:List (List UInt8)} (h:Segs base x v0 y v out) (hv: ∀b,v0.ownBlock=some b→base≤b) {k:Nat} (hk:k<base) (hx:base≤x.heap.size):y.heap[k]? =x.heap[k]? :=
 h.grown.block k (by omega) (fun e=>by have:=hv k e.symm;omega)
theorem zpU {B:Nat} {w w':World} {v:Value} {ps:List (List UInt8)} (h:zbA B w v ps) (he: ∀b,v.ownBlock=some b→w'.heap[b]? =w.heap[b]?):zbA B w' v ps:=by
 unfold zbA at*
 refine ⟨h.1,?_⟩
 rcases h.2 with q|⟨g,cap,cur,e,hb,hg,r⟩
 ·exact .inl q
 ·exact .inr ⟨g,cap,cur,e,hb,(he g (by rw [e];rfl)).trans hg,r⟩
theorem zcY {B C:Nat} {w:World} {v:Value} {ps:List (List UInt8)} (h:zbA B w v ps) (hC:C≤B):zbA C w v ps:=by
 unfold zbA at*
 refine ⟨h.1,?_⟩
 rcases h.2 with q|⟨g,cap,cur,e,hb,r⟩
 ·exact .inl q
 ·exact .inr ⟨g,cap,cur,e,Nat.le_trans hC hb,r⟩
theorem zlT {w y:World} (h:MaxVar w) (he:y.heap[2]? =w.heap[2]?):MaxVar y:=by
 obtain ⟨m,hm⟩:=h
 exact ⟨m,(World.cell?_of_block (a:=⟨2,0,none⟩) he).trans hm⟩
theorem zmX {w:World} (h:MaxVar w):2<w.heap.size:=by
 obtain ⟨m,hm⟩:=h
 exact World.block_lt_of_cell? w _ hm
theorem zwT {w:World} {M:Nat} {l:List UInt8} (h:MaxVar w) (hm:MB w M l):2≠M:=fun e=>by
 obtain ⟨m,hm2⟩:=h
 subst e
 rw [hm.cell] at hm2
 cases hm2
theorem zmZ {w y:World} {M:Nat} {l:List UInt8} (h:MaxVar w) (hm:MB w M l) (ho:Only [M] w y):MaxVar y:=
 zlT h (ho.block _ (zmX h) (by rw [yqB];exact zwT h hm))
theorem z8O {p:UInt8→Bool} {l x:List UInt8} (h:x∈zbG p l):x.length≤l.length:=by
 have h2:=(zoE p l).2.1
 have key: ∀(ps:List (List UInt8)),x∈ps→x.length≤zfA ps:=by
  intro ps
  induction ps with
  |nil=>intro h;cases h
  |cons y r ih=>
   intro h
   have e:zfA (y::r)=y.length+zfA r:=by simp [zfA]
   rcases List.mem_cons.1 h with q|q
   ·rw [q,e];omega
   ·have:=ih q;rw [e];omega
 have:=key _ h
 omega
theorem yhY (st:Int) (l:List UInt8):(encW st l).length≤12*l.length:=by
 have h1:=zlV st (scal ⟨l.toArray⟩) (scal ⟨l.toArray⟩).length
 rw [List.take_length] at h1
 have h2:=yjN ⟨l.toArray⟩
 rw [zaB] at h2
 unfold encW
 omega
theorem goW_at {from_ out:List (List UInt8)} {ps:List (List UInt8)} {k:Nat} {p:List UInt8} (hk:k<ps.length) (hp:ps.getD k []=p) (h:goW from_ ps=goW out (ps.drop k)):goW from_ ps=goW (zeD (decide (k+1=ps.length)) out (encW 4 p)) (ps.drop (k+1)):=by
 have e:ps.drop k=p::ps.drop (k+1):=by
  rw [List.drop_eq_getElem_cons hk]
  congr 1
  rw [←hp]
  simp [List.getD,List.getElem?_eq_getElem hk]
 have e2:(ps.drop (k+1)).isEmpty=decide (k+1=ps.length):=by
  rw [Bool.eq_iff_iff,List.isEmpty_iff,List.drop_eq_nil_iff,decide_eq_true_eq]
  omega
 rw [h,e,goW,e2]
theorem ymF {b:Bool} {out:List (List UInt8)} {q:List UInt8} (h:ptsW q=0):zeD b out q=out++[q]:=by unfold zeD;rw [if_pos h]
theorem yiX {out:List (List UInt8)} {q:List UInt8} (h:ptsW q=1):zeD true out q=out++[[]]:=by unfold zeD;rw [if_neg (by omega),if_pos rfl,if_neg (by omega)]
theorem ynZ {out:List (List UInt8)} {q:List UInt8} (h:ptsW q=1):zeD false out q=out:=by unfold zeD;rw [if_neg (by omega),if_neg (by decide),if_neg (by omega)]
theorem yfR {out:List (List UInt8)} {q:List UInt8} (h:ptsW q=2):zeD true out q=out.dropLast++[[]]:=by unfold zeD;rw [if_neg (by omega),if_pos rfl,if_pos h]
theorem ymJ {out:List (List UInt8)} {q:List UInt8} (h:ptsW q=2):zeD false out q=out.dropLast:=by unfold zeD;rw [if_neg (by omega),if_neg (by decide),if_pos h]
theorem yiL {k n:Nat}:((k:Int)==(n:Int) - 1)=decide (k+1=n):=by
 rw [Bool.eq_iff_iff,beq_iff_eq,decide_eq_true_eq];omega
def yoC (w:World) (M:Nat) (ps:List (List UInt8)) (left:List UInt8) (e:Ending) (w':World):Prop:= ∃v',e= .returned v'∧zbA w.heap.size w' v' ps∧MB w' M left∧Only [M] w w'
theorem zrF (M:Nat) (l:List UInt8) (fv:Value) (from_:List (List UInt8)) (w:World) (hl:l.length≤1000000) (hfl:from_.length≤1000000) (hm:MB w M l) (hf:PV w fv from_) (hmax:MaxVar w):
  Calls Tryz.prog 121 #[.pointer (some ⟨M,0,none⟩),fv] w (yoC w M (zhO from_ (l.take (l.findIdx (hasB [63,35])))) (l.drop (l.findIdx (hasB [63,35])))):=by
 obtain ⟨i0,hi,hz0,hz1,hz2⟩:=info_parts Tryz.infoStr
 have hMw:=zaM hm
 have HCL:=ypV (zhM fv from_ w hf hfl)
 have HM:=ypV hm
 have HX:=ypV hmax
 have hptl:(l.take (l.findIdx (hasB [63,35]))).length≤l.length:=by rw [List.length_take];omega
 have HU:=ypV (fun W (h:MB W M l)=>zhV [63,35] (by decide) M l W h)
 generalize l.take (l.findIdx (hasB [63,35]))=part at*
 generalize l.drop (l.findIdx (hasB [63,35]))=left at*
 have HSP:=ypV (fun W=>zdN ⟨part.toArray⟩ ⟨#[47,92]⟩ W (by rw [zaB];omega))
 rw [zaL part,zaL [47,92]] at HSP
 have HPW:Hid (zhO from_ part=goW from_ (zbG (hasB [47,92]) part)):=rfl
 have hsl:=zdK (hasB [47,92]) part
 have HPL:=ypV (fun x (h:x∈zbG (hasB [47,92]) part)=>z8O h)
 have hne:=zqE (hasB [47,92]) part
 generalize zbG (hasB [47,92]) part=ps at*
 clear hm hf hmax
 go_enter Tryz.func121,Tryz.ntmps121
 go_wp2_with fail
 refine HCL.out.mono ?_
 rintro e x1 ⟨v0,rfl,hp0,hb1⟩
 have HU1:=ypV (HU.out _ (HM.out.below hb1))
 go_wp2_with fail
 refine (zoG [63,35] _).mono ?_
 rintro e x2 ⟨rfl,rfl⟩
 go_wp2_with fail
 refine HU1.out.mono ?_
 rintro e x3 ⟨rfl,hm3,ho3⟩
 go_wp2_with fail
 refine (HSP.out _).mono ?_
 rintro e x4 ⟨vp,rfl,hpp,hb4⟩
 obtain ⟨N,hN⟩: ∃N,ps.length=N:=⟨_,rfl⟩
 have hNp:0<N:=by rw [←hN];exact List.length_pos_iff.2 hne
 obtain ⟨gp,cp,rfl,hgB,hgs⟩: ∃gp cp,vp= .slice (some ⟨gp,0,none⟩) N cp∧x3.heap.size≤gp∧Seen x4 gp ps:=by
  rcases zbA.cases hpp with ⟨e,_⟩|⟨g,c,h1,h2,h3,h4⟩
  ·exact absurd e hne
  ·exact ⟨g,c,by rw [h1,hN],h3,h4⟩
 have hv0: ∀b,v0.ownBlock=some b→w.heap.size≤b∧b<x1.heap.size:=fun b hb=>World.ownsRow.lt hp0 b hb
 have hO1:Only [M] w x3:=(Only.of_below (F:=[M]) hb1).trans ho3 (fun x hx=> .inl hx)
 have hO4:Only [M] w x4:=hO1.then_below hb4
 have hs13:=ho3.size
 have hp3:zbA w.heap.size x3 v0 from_:=zpU hp0 (fun b hb=>ho3.block b (hv0 b hb).2 (by have:=(hv0 b hb).1;simp;omega))
 have HS0:Hid (Segs w.heap.size x4 v0 x4 v0 from_):=⟨hp3.below hb4,⟨rfl,rfl,rfl,ypX _,fun _ _ _=>rfl⟩,.inl rfl⟩
 have hw4:w.heap.size≤x4.heap.size:=hO4.size
 have HROW:Hid (∀y v out,Segs w.heap.size x4 v0 y v out→ ∀j,j<N→y.cell? ⟨gp,j,none⟩=some (.string ⟨(ps.getD j []).toArray⟩)):=fun y v out h j hj=>by
  refine (World.cell?_of_block (a:=⟨gp,j,none⟩) (h.grown.block gp hgs.1 (fun e=> ?_))).trans (hgs.2 j (by omega))
  have:=(hv0 gp e.symm).2
  have:=hb1.size
  omega
 have HMAX:Hid (∀y v out,Segs w.heap.size x4 v0 y v out→MaxVar y):=fun y v out h=>by
  refine zlT HX.out ((h.block (fun b hb=>(hv0 b hb).1) (zmX HX.out) hw4).trans (hO4.block _ (zmX HX.out) ?_))
  rw [yqB]
  exact zwT HX.out HM.out
 have HEND:Hid (∀y v out,Segs w.heap.size x4 v0 y v out→MB y M left∧Only [M] w y):=fun y v out h=>
  ⟨(h.block (fun b hb=>(hv0 b hb).1) hMw hw4).trans (hm3.below hb4),h.grown.os.trans hO4.os,h.grown.tape.trans hO4.tape,h.grown.output.trans hO4.output,Nat.le_trans hw4 h.grown.size,fun b hb hn=>(h.block (fun b hb=>(hv0 b hb).1) hb hw4).trans (hO4.block b hb hn)⟩
 rw [hN] at hsl
 have HN:=ypV hN
 clear HX HM HCL HU HU1 HSP hp0 hb1 hm3 ho3 hpp hb4 hgB hgs hv0 hO1 hO4 hs13 hp3 hne hN
 go_wp2
 go_loopw [5,18] (fun v i wr=> ∃(k:Nat) (out:List (List UInt8)),k≤N∧i= .int .i64 k∧Hid (Segs w.heap.size x4 v0 wr v out)∧out.length≤from_.length+k∧Hid (goW from_ ps=goW out (ps.drop k))) (fun _ i _=>N - (intOf i).toNat)
 case atStart=>exact ⟨0,from_,Nat.zero_le _,rfl,HS0,ypX _,rfl⟩
 case round=>
  obtain ⟨k,out,hk,rfl,HSG,hol,HS⟩:=hrel
  by_cases hlt:k<N
  ·have hcell:=HROW.out _ _ _ HSG.out k hlt
   obtain ⟨p,hp⟩: ∃p,ps.getD k []=p:=⟨_,rfl⟩
   rw [hp] at hcell
   have HST:=ypV (goW_at (by rw [HN.out];exact hlt) hp HS.out)
   have hpl:p.length≤part.length:=HPL.out p (by
    have hkl:k<ps.length:=by rw [HN.out];exact hlt
    rw [←hp];simp only [List.getD,List.getElem?_eq_getElem hkl,Option.getD_some];exact List.getElem_mem hkl)
   rw [HN.out] at HST
   have hql:=yhY 4 p
   have HEN:=ypV (fun W=>zgG 4 p W (by decide) (by omega))
   have hp2:=ylH (encW 4 p)
   have hp1:=ynW (encW 4 p)
   have hple:=pts_le (encW 4 p)
   have hbl:((k:Int)==(N:Int) - 1)=decide (k+1=N):=yiL
   clear hp HS
   generalize encW 4 p=q at*
   have HLO:=ypV (fun W=>zmV ⟨q.toArray⟩ W (by rw [zaB];omega))
   rw [zaL] at HLO
   have HRE:=ypV (fun W (h:MaxVar W)=>z3W (zaI q) W (by rw [zhT];omega) h)
   generalize Lib.replaceAll (zaI q) [37,50,101] [46]=t at*
   go_wp2_with fail
   refine (HEN.out _).mono ?_
   rintro e y1 ⟨rfl,hy1⟩
   have HSG1:=ypV (HSG.out.keep hy1)
   clear HEN hy1 HSG
   go_wp2_with fail
   refine (HLO.out _).mono ?_
   rintro e y2 ⟨rfl,hy2⟩
   have HSG2:=ypV (HSG1.out.keep hy2)
   clear HLO hy2 HSG1
   go_wp2_with fail
   refine (HRE.out _ (HMAX.out _ _ _ HSG2.out)).mono ?_
   rintro e y3 ⟨rfl,hy3⟩
   have HSG3:=ypV (HSG2.out.keep hy3)
   have hsz:w.heap.size≤y3.heap.size:=Nat.le_trans hw4 HSG3.out.grown.size
   have hown:=HSG3.out.own
   unfold zbA at hown
   clear HRE hy3 HSG2 hcell
   rcases (show ptsW q=2∨ptsW q=1∨ptsW q=0 by omega) with h2|h1|h0
   ·obtain rfl:=hp2.1 h2
    have e2:(([46,46]:List UInt8)==[46,46])=true:=rfl
    have HWL:=ypV (zrA w.heap.size _ out y3 HSG3.out.own (by omega))
    by_cases hla:k+1=N
    ·rw [ypZ hla] at hbl HST
     rw [yfR h2] at HST
     clear hp2 hp1 h2
     go_wp2_with fail
     refine HWL.out.mono ?_
     rintro e w' ⟨v2,rfl,hpd,hbd,rfl⟩
     have HSG4:=ypV (HSG3.out.drop hpd hbd)
     have hdl:out.dropLast.length≤out.length:=by rw [List.length_dropLast];omega
     unfold zbA at hpd
     go_wp2_with (first|(at_builtin;refine zrZ _ rfl _ _ 45 rfl w.heap.size 9 i0 (.string ⟨#[]⟩) 16 Tryz.underlying45 hi hz0 hz1 hz2 rfl _ _ _ rfl hpd (.string ⟨#[]⟩) rfl rfl (by omega) (by omega) hsz ?_;intro v' w1 hown' hgr' hat')|go_in)
     go_roundw
     case rel=>exact ⟨k+1,out.dropLast++[[]],by omega,by go_num,HSG4.out.app hown' hgr' hat',by simp;omega,HST.out⟩
     case measure=>simp [intOf];omega
    ·rw [ypY hla] at hbl HST
     rw [ymJ h2] at HST
     clear hp2 hp1 h2
     go_wp2_with fail
     refine HWL.out.mono ?_
     rintro e w' ⟨v2,rfl,hpd,hbd,rfl⟩
     have HSG4:=ypV (HSG3.out.drop hpd hbd)
     have hdl:out.dropLast.length≤out.length:=by rw [List.length_dropLast];omega
     go_wp2
     go_roundw
     case rel=>exact ⟨k+1,out.dropLast,by omega,by go_num,HSG4.out,by omega,HST.out⟩
     case measure=>simp [intOf];omega
   ·obtain rfl:=hp1.1 h1
    have e1:(([46]:List UInt8)==[46,46])=false:=rfl
    have e2:(([46]:List UInt8)==[46])=true:=rfl
    by_cases hla:k+1=N
    ·rw [ypZ hla] at hbl HST
     rw [yiX h1] at HST
     clear hp2 hp1 h1
     go_wp2_with (first|(at_builtin;refine zrZ _ rfl _ _ 45 rfl w.heap.size 9 i0 (.string ⟨#[]⟩) 16 Tryz.underlying45 hi hz0 hz1 hz2 rfl _ _ _ rfl hown (.string ⟨#[]⟩) rfl rfl (by omega) (by omega) hsz ?_;intro v' w1 hown' hgr' hat')|go_in)
     go_roundw
     case rel=>exact ⟨k+1,out++[[]],by omega,by go_num,HSG3.out.app hown' hgr' hat',by simp;omega,HST.out⟩
     case measure=>simp [intOf];omega
    ·rw [ypY hla] at hbl HST
     rw [ynZ h1] at HST
     clear hp2 hp1 h1
     go_wp2
     go_roundw
     case rel=>exact ⟨k+1,out,by omega,by go_num,HSG3.out,by omega,HST.out⟩
     case measure=>simp [intOf];omega
   ·have e1:(t==[46,46])=false:=by rw [ypW];intro g;have:=hp2.2 g;omega
    have e2:(t==[46])=false:=by rw [ypW];intro g;have:=hp1.2 g;omega
    rw [ymF h0] at HST
    clear hp2 hp1 h0
    go_wp2_with (first|(at_builtin;refine zrZ _ rfl _ _ 45 rfl w.heap.size 9 i0 (.string ⟨#[]⟩) 16 Tryz.underlying45 hi hz0 hz1 hz2 rfl _ _ _ rfl hown (.string ⟨q.toArray⟩) rfl rfl (by omega) (by omega) hsz ?_;intro v' w1 hown' hgr' hat')|go_in)
    go_roundw
    case rel=>exact ⟨k+1,out++[q],by omega,by go_num,HSG3.out.app hown' hgr' hat',by simp;omega,HST.out⟩
    case measure=>simp [intOf];omega
  ·have hkN:k=N:=by omega
   have HF:Hid (goW from_ ps=out):=by show _=_;rw [HS.out,List.drop_eq_nil_of_le (by rw [HN.out];omega)];rfl
   clear HS
   go_wp2
   go_ret
   exact ⟨_,rfl,by rw [HPW.out,HF.out];exact HSG.out.own,HEND.out _ _ _ HSG.out⟩
theorem zaQ {x:World} {g:Nat} {c0 c1 c2 c3 c4 c5 c6 c7 c8 c9:Value} {t:TypeId} (h:x.heap[g]? =some (.cells #[c0,c1,c2,c3,c4,c5,c6,c7,c8,c9] t (0,0))):x.cell? ⟨g,0,none⟩=some c0∧x.cell? ⟨g,1,none⟩=some c1∧x.cell? ⟨g,2,none⟩=some c2∧x.cell? ⟨g,3,none⟩=some c3∧x.cell? ⟨g,4,none⟩=some c4∧x.cell? ⟨g,5,none⟩=some c5∧x.cell? ⟨g,6,none⟩=some c6∧x.cell? ⟨g,7,none⟩=some c7∧x.cell? ⟨g,8,none⟩=some c8∧x.cell? ⟨g,9,none⟩=some c9∧ ∀i,x.frozen? ⟨g,i,none⟩=false:=by
 refine ⟨?_,?_,?_,?_,?_,?_,?_,?_,?_,?_,zbB h⟩<;>rw [cell_of_row x _ _ _ _ _ h]<;>rfl
theorem zeB {x:World} {g:Nat} {c0 c1 c2 c3 c4 c5 c6 c7 c8 c9:Value} {t:TypeId} (h:x.heap[g]? =some (.cells #[c0,c1,c2,c3,c4,c5,c6,c7,c8,c9] t)) (a0 a1 a2 a3 a4 a5 a6 a7 a8 a9:Value):((((((((((x.setCell ⟨g,0,none⟩ a0).setCell ⟨g,1,none⟩ a1).setCell ⟨g,2,none⟩ a2).setCell ⟨g,3,none⟩ a3).setCell ⟨g,4,none⟩ a4).setCell ⟨g,5,none⟩ a5).setCell ⟨g,6,none⟩ a6).setCell ⟨g,7,none⟩ a7).setCell ⟨g,8,none⟩ a8).setCell ⟨g,9,none⟩ a9).heap[g]? =some (.cells #[a0,a1,a2,a3,a4,a5,a6,a7,a8,a9] t):=by
 have:=zaJ (zaJ (zaJ (zaJ (zaJ (zaJ (zaJ (zaJ (zaJ (zaJ h 0 a0) 1 a1) 2 a2) 3 a3) 4 a4) 5 a5) 6 a6) 7 a7) 8 a8) 9 a9
 simpa using this
theorem zdE {w x:World} {g B:Nat} (h:Below B w x) (hg:B≤g) (a0 a1 a2 a3 a4 a5 a6 a7 a8 a9:Value):Below B w ((((((((((x.setCell ⟨g,0,none⟩ a0).setCell ⟨g,1,none⟩ a1).setCell ⟨g,2,none⟩ a2).setCell ⟨g,3,none⟩ a3).setCell ⟨g,4,none⟩ a4).setCell ⟨g,5,none⟩ a5).setCell ⟨g,6,none⟩ a6).setCell ⟨g,7,none⟩ a7).setCell ⟨g,8,none⟩ a8).setCell ⟨g,9,none⟩ a9):=
 (((((((((h.setCell (p:=⟨g,0,none⟩) hg _).setCell (p:=⟨g,1,none⟩) hg _).setCell (p:=⟨g,2,none⟩) hg _).setCell (p:=⟨g,3,none⟩) hg _).setCell (p:=⟨g,4,none⟩) hg _).setCell (p:=⟨g,5,none⟩) hg _).setCell (p:=⟨g,6,none⟩) hg _).setCell (p:=⟨g,7,none⟩) hg _).setCell (p:=⟨g,8,none⟩) hg _).setCell (p:=⟨g,9,none⟩) hg _
theorem zbO {w x:World} {g:Nat} {F:List Nat} (h:Only F w x) (hg:g∈F∨w.heap.size≤g) (a0 a1 a2 a3 a4 a5 a6 a7 a8 a9:Value):Only F w ((((((((((x.setCell ⟨g,0,none⟩ a0).setCell ⟨g,1,none⟩ a1).setCell ⟨g,2,none⟩ a2).setCell ⟨g,3,none⟩ a3).setCell ⟨g,4,none⟩ a4).setCell ⟨g,5,none⟩ a5).setCell ⟨g,6,none⟩ a6).setCell ⟨g,7,none⟩ a7).setCell ⟨g,8,none⟩ a8).setCell ⟨g,9,none⟩ a9):=
 (((((((((h.setCell (p:=⟨g,0,none⟩) hg _).setCell (p:=⟨g,1,none⟩) hg _).setCell (p:=⟨g,2,none⟩) hg _).setCell (p:=⟨g,3,none⟩) hg _).setCell (p:=⟨g,4,none⟩) hg _).setCell (p:=⟨g,5,none⟩) hg _).setCell (p:=⟨g,6,none⟩) hg _).setCell (p:=⟨g,7,none⟩) hg _).setCell (p:=⟨g,8,none⟩) hg _).setCell (p:=⟨g,9,none⟩) hg _
def zbD:Array Value:= #[.string ⟨#[]⟩,.string ⟨#[]⟩,.string ⟨#[]⟩,.nilIface,.int .i64 0,.slice none 0 0,.string ⟨#[]⟩,.bool false,.string ⟨#[]⟩,.bool false]
theorem zyZ:zcD.cells (.slice none 0 0)=zbD:=rfl
def RetURL (w:World) (x:UZ×Int) (pv:Value) (e:Ending) (w':World):Prop:=e= .returned (.tuple #[.agg (x.1.cells pv),.int .i64 x.2])∧Below w.heap.size w w'
theorem who_at (a:List UInt8): ∃(z:Int) (m r:Nat),Lib.lastIndexByte ⟨a.toArray⟩ 64=z∧max z 0=(m:Int)∧z+1=(r:Int)∧ -1≤z∧m≤a.length∧r≤a.length∧zjK a=encW 5 (Lib.cut (a.take m) [58]).1∧zjR a=encW 5 (Lib.cut (a.take m) [58]).2.1∧zcQ a=a.drop r:=by
 rcases ynM a with ⟨h1,h2⟩|⟨i,hi,h1,h2⟩
 ·obtain ⟨e1,e2,e3⟩:=yeC a h2
  exact ⟨-1,0,0,h1,by omega,rfl,by omega,Nat.zero_le _,Nat.zero_le _,e1,e2,e3⟩
 ·obtain ⟨e1,e2,e3⟩:=yhQ a h2
  exact ⟨i,i,i+1,h1,by omega,by omega,by omega,by omega,by omega,e1,e2,e3⟩
theorem zuJ (l:List UInt8):(Lib.cut l [58]).1.length≤l.length∧(Lib.cut l [58]).2.1.length≤l.length:=by
 rw [zzZ]
 simp only [List.length_take,List.length_drop]
 omega
theorem z6Q: ∀(l:List UInt8) (i:Bool),(hpW i l).1.length≤l.length∧(hpW i l).2.length≤l.length
 |[],i=>by simp [hpW]
 |c::r,i=>by
  rw [zhZ]
  split
  ·simp
  ·have:=z6Q r (if c=91 then true else if c=93 then false else i)
   simp only [List.length_cons]
   omega
theorem yaT (l:List UInt8):(if hd1 [58] (l.drop (zbY zhP false l))=true then (l.drop (zbY zhP false l)).drop 1 else l.drop (zbY zhP false l))=(hpW false l).2:=by
 have h1:=(zgL l false).2.1
 have h2:=(zgL l false).2.2
 generalize zbY zhP false l=n at*
 by_cases hn:n<l.length
 ·rw [znZ,if_pos]
  ·exact h1
  ·rw [List.head?_drop,ypZ (h2 hn)]
 ·have e:l.drop n=[]:=List.drop_eq_nil_of_le (by omega)
  rw [e] at h1 ⊢
  exact h1
theorem yaR {l:List UInt8} (h:(zfI l).2≠0):(zfI l).1= .none:=yjZ h
def RB (w:World) (R:Nat):Prop:= ∃c0 c1 c2 c3 c4 c5 c6 c7 c8 c9,w.heap[R]? =some (.cells #[c0,c1,c2,c3,c4,c5,c6,c7,c8,c9] 47)
theorem RB.below {w w':World} {R:Nat} (h:RB w R) (hb:Below w.heap.size w w'):RB w' R:=by
 obtain ⟨c0,c1,c2,c3,c4,c5,c6,c7,c8,c9,h⟩:=h
 exact ⟨c0,c1,c2,c3,c4,c5,c6,c7,c8,c9,(hb.block R (zaM h)).trans h⟩
theorem RB.lt {w:World} {R:Nat} (h:RB w R):R<w.heap.size:=by
 obtain ⟨c0,c1,c2,c3,c4,c5,c6,c7,c8,c9,h⟩:=h
 exact zaM h
theorem RB.only {w w':World} {R:Nat} {F:List Nat} (h:RB w R) (ho:Only F w w') (hR:R∉F):RB w' R:=by
 obtain ⟨c0,c1,c2,c3,c4,c5,c6,c7,c8,c9,h⟩:=h
 exact ⟨c0,c1,c2,c3,c4,c5,c6,c7,c8,c9,(ho.block R (zaM h) hR).trans h⟩
theorem RB.new (w:World):RB (w.alloc (.cells zbD 47)) w.heap.size:=⟨_,_,_,_,_,_,_,_,_,_,heap_alloc_new w _⟩
theorem UB.who {w:World} {U:Nat} {u:UZ} {pv:Value} (h:UB w U u pv) (a:List UInt8):UB (w.setCell ⟨U,1,none⟩ (.string ⟨a.toArray⟩)) U {u with user:=a} pv:=zaJ h 1 _
theorem UB.pwd {w:World} {U:Nat} {u:UZ} {pv:Value} (h:UB w U u pv) (a:List UInt8):UB (w.setCell ⟨U,2,none⟩ (.string ⟨a.toArray⟩)) U {u with pass:=a} pv:=zaJ h 2 _
theorem UB.pth {w:World} {U:Nat} {u:UZ} {pv:Value} (h:UB w U u pv) (v:Value):UB (w.setCell ⟨U,5,none⟩ v) U u v:=zaJ h 5 _
theorem RB.set {w:World} {R g i:Nat} (h:RB w R) (hne:R≠g) (v:Value):RB (w.setCell ⟨g,i,none⟩ v) R:=by
 obtain ⟨c0,c1,c2,c3,c4,c5,c6,c7,c8,c9,h⟩:=h
 exact ⟨c0,c1,c2,c3,c4,c5,c6,c7,c8,c9,(zbV hne i v).trans h⟩
theorem UB.all {w:World} {U:Nat} {u:UZ} {pv:Value} (h:UB w U u pv):w.cell? ⟨U,0,none⟩=some (.string ⟨u.scheme.toArray⟩)∧w.cell? ⟨U,1,none⟩=some (.string ⟨u.user.toArray⟩)∧w.cell? ⟨U,2,none⟩=some (.string ⟨u.pass.toArray⟩)∧w.cell? ⟨U,3,none⟩=some u.host.val∧w.cell? ⟨U,4,none⟩=some (.int .i64 u.port)∧w.cell? ⟨U,5,none⟩=some pv∧w.cell? ⟨U,6,none⟩=some (.string ⟨u.query.toArray⟩)∧w.cell? ⟨U,7,none⟩=some (.bool u.hasQ)∧w.cell? ⟨U,8,none⟩=some (.string ⟨u.frag.toArray⟩)∧w.cell? ⟨U,9,none⟩=some (.bool u.hasF)∧ ∀i,w.frozen? ⟨U,i,none⟩=false:=zaQ h
theorem UB.new (x:World) (u:UZ) (pv:Value):UB (x.alloc (.cells (u.cells pv) 47)) x.heap.size u pv:=heap_alloc_new x _
theorem zaY (x:World) (cs:Array Value):Below x.heap.size x (x.alloc (.cells cs 47)):=(yqA _ x).alloc (ypX _) _
theorem zvX (a name:List UInt8) (w:World) (hl:a.length≤1000000) (hmax:MaxVar w):
  Calls Tryz.prog 119 #[.string ⟨a.toArray⟩,.string ⟨name.toArray⟩] w (RetURL w (zlL name a) (.slice none 0 0)):=by
 obtain ⟨z,m,r,hz,hzm,hzr,hz1,hm,hr,hu,hp,hb⟩:=who_at a
 have hs1:=zjG a m hm
 have hs2: ∀W,(Instr.slice 9 (.string ⟨a.toArray⟩) (some (.int .i64 (z+1))) none none).run Tryz.prog W= .ok (.string ⟨(a.drop r).toArray⟩) W:=by rw [hzr];exact zdM a r hr
 have hzs:(ByteArray.mk a.toArray).size=a.length:=zaB a
 have HLI:Hid (∀W,Calls Tryz.prog 149 #[.string ⟨a.toArray⟩,.int .u8 64] W fun e w'=>e= .returned (.int .i64 z)∧W=w'):=fun W=>(Tryz.strings_LastIndexByte ⟨a.toArray⟩ 64 (by omega) W).mono (fun e w' h=>⟨by rw [h.1,hz],h.2.symm⟩)
 have htl:(a.take m).length≤a.length:=by rw [List.length_take];omega
 have hc1:=(zuJ (a.take m)).1
 have hc2:=(zuJ (a.take m)).2
 have HCU:Hid (∀W,MaxVar W→Calls Tryz.prog 95 #[.string ⟨(a.take m).toArray⟩,.string ⟨#[58]⟩] W fun e w'=>e= .returned (.tuple #[.string ⟨(Lib.cut (a.take m) [58]).1.toArray⟩,.string ⟨(Lib.cut (a.take m) [58]).2.1.toArray⟩,.bool (Lib.cut (a.take m) [58]).2.2])∧Below W.heap.size W w'):=fun W hW=>by
  obtain ⟨mm,hmm⟩:=hW
  exact (Tryz.strings_Cut ⟨(a.take m).toArray⟩ ⟨#[58]⟩ mm W (by rw [zaB];omega) hmm).mono (fun e w' h=>⟨h.1,by obtain ⟨n,rfl⟩:=h.2;exact zcG (yqA _ _) n⟩)
 have HUS:=ypV (fun W=>zgG 5 (Lib.cut (a.take m) [58]).1 W (by decide) (by omega))
 have HPS:=ypV (fun W=>zgG 5 (Lib.cut (a.take m) [58]).2.1 W (by decide) (by omega))
 rw [←hu] at HUS
 rw [←hp] at HPS
 generalize Lib.cut (a.take m) [58]=cu at*
 generalize a.take m=ta at*
 have hbl:(a.drop r).length≤a.length:=by rw [List.length_drop];omega
 have HRC:Hid (zlL name a=if (zfI (hpW false (a.drop r)).1).2≠0 then (zcD,(zfI (hpW false (a.drop r)).1).2) else if (zhJ name (hpW false (a.drop r)).2).2=false then (zcD,8) else ({zcD with scheme:=name,user:=zjK a,pass:=zjR a,host:=(zfI (hpW false (a.drop r)).1).1,port:=(zhJ name (hpW false (a.drop r)).2).1},0)):=by show _=_;rw [←hb];rfl
 have hh1:=(z6Q (a.drop r) false).1
 have hh2:=(z6Q (a.drop r) false).2
 have HMH:=ypV (fun M W (h:MB W M (a.drop r))=>z9B M (a.drop r) W h)
 have HSK:=ypV (fun M W (h:MB W M ((a.drop r).drop (zbY zhP false (a.drop r))))=>zhI M _ [58] W h)
 rw [yaT] at HSK
 generalize (a.drop r).drop (zbY zhP false (a.drop r))=l1 at*
 generalize hd1 [58] l1=kb at*
 generalize zjK a=us at*
 generalize zjR a=pw at*
 generalize hpW false (a.drop r)=hp2 at*
 generalize a.drop r=bh at*
 have HHP:=ypV (fun W (h:MaxVar W)=>zsQ ⟨hp2.1.toArray⟩ W (by rw [zaB];omega) h)
 rw [zaL] at HHP
 have hhe:=yaR (l:=hp2.1)
 have HRP:=ypV (fun W=>zxB name hp2.2 W)
 have HX:=ypV hmax
 obtain ⟨x0,hx0⟩: ∃y,y=w.alloc (.cells zbD 47):=⟨_,rfl⟩
 have HB0:Hid (Below w.heap.size w x0):=by show Below _ _ _;rw [hx0];exact (yqA _ w).alloc (ypX _) _
 have HR0:Hid (RB x0 w.heap.size):=by show RB _ _;rw [hx0];exact RB.new w
 have HX0:=ypV (zaA hmax HB0.out)
 unfold zbD at hx0
 clear hmax hz hb hu hp hzr
 go_enter Tryz.func119,Tryz.ntmps119
 go_wp2_with fail
 rw [←hx0]
 clear hx0
 refine (HLI.out _).mono ?_
 rintro e w' ⟨rfl,rfl⟩
 go_wp2_with fail
 refine (HCU.out _ HX0.out).mono ?_
 rintro e x1 ⟨rfl,hb1⟩
 have HB1:=ypV (zaF HB0.out hb1)
 have HR1:=ypV (HR0.out.below hb1)
 clear hb1 HB0 HR0 HCU HLI HX0
 obtain ⟨x2,hx2⟩: ∃y,y=x1.alloc (.cells #[.string ⟨bh.toArray⟩] 85):=⟨_,rfl⟩
 have hb2:Below x1.heap.size x1 x2:=by rw [hx2];exact (yqA _ _).alloc (ypX _) _
 have HB2:=ypV (zaF HB1.out hb2)
 have HR2:=ypV (HR1.out.below hb2)
 have hM2:MB x2 x1.heap.size bh:=by rw [hx2];exact heap_alloc_new x1 _
 have HMH2:=ypV (HMH.out _ _ hM2)
 have hRM:w.heap.size≠x1.heap.size:=by have:=HR1.out.lt;omega
 have hwM:w.heap.size≤x1.heap.size:=HB1.out.size
 clear hb2 HB1 HR1 HMH hM2
 go_wp2_with fail
 rw [←hx2]
 clear hx2
 refine HMH2.out.mono ?_
 rintro e x3 ⟨rfl,hm3,ho3⟩
 have HB3:=ypV (HB2.out.trans (ho3.below HB2.out.size (fun x hx=>by rw [List.mem_singleton.1 hx];exact hwM)))
 have HR3:=ypV (HR2.out.only ho3 (by simp [hRM]))
 have HM3:=ypV hm3
 clear ho3 hm3 HMH2 HB2 HR2
 go_wp2_with fail
 refine (HHP.out _ (zaA HX.out HB3.out)).mono ?_
 rintro e x4 ⟨rfl,hb4⟩
 have HB4:=ypV (zaF HB3.out hb4)
 have HR4:=ypV (HR3.out.below hb4)
 have HM4:=ypV (HM3.out.below hb4)
 clear HB3 HR3 HM3 hb4 HHP HX
 have hok:=zsK (l:=hp2.1)
 generalize zfI hp2.1=hz at*
 obtain ⟨h,he⟩:=hz
 simp only at hhe hok HRC ⊢
 by_cases h0:he=0
 ·obtain ⟨it,iv,hiv⟩:=HZ.iface (hok h0).ne
  rw [hiv]
  have HIV:=ypV hiv
  clear hiv hok
  have HRC2:=ypV (HRC.out.trans (if_neg (fun g=>g h0)))
  have hd0:(he !=(0:Int))=false:=by rw [h0];rfl
  clear hhe HRC h0
  have HSK4:=ypV (HSK.out _ _ HM4.out)
  go_wp2_with fail
  refine HSK4.out.mono ?_
  rintro e x5 ⟨rfl,hm5,ho5⟩
  have HB5:=ypV (HB4.out.trans (ho5.below HB4.out.size (fun x hx=>by rw [List.mem_singleton.1 hx];exact hwM)))
  have HR5:=ypV (HR4.out.only ho5 (by simp [hRM]))
  have c5:=hm5.cell
  clear ho5 hm5 HB4 HR4 HM4 HSK HSK4
  go_wp2_with fail
  refine (HRP.out _).mono ?_
  rintro e x6 ⟨rfl,hb6⟩
  have HB6:=ypV (zaF HB5.out hb6)
  have HR6:=ypV (HR5.out.below hb6)
  clear HB5 HR5 hb6 HRP c5
  generalize zhJ name hp2.2=po at*
  obtain ⟨pn,pb⟩:=po
  simp only at HRC2 ⊢
  cases pb with
  |false=>
   have HRC3:=ypV (HRC2.out.trans (if_pos rfl))
   obtain ⟨c0,c1,c2,c3,c4,c5,c6,c7,c8,c9,hrow⟩:=HR6.out
   have HRW:=ypV hrow
   obtain ⟨k0,k1,k2,k3,k4,k5,k6,k7,k8,k9,kf⟩:=zaQ hrow
   clear hrow HR6 HRC2 HUS HPS
   have HEND:=ypV (zeB HRW.out (.string ⟨#[]⟩) (.string ⟨#[]⟩) (.string ⟨#[]⟩) .nilIface (.int .i64 0) (.slice none 0 0) (.string ⟨#[]⟩) (.bool false) (.string ⟨#[]⟩) (.bool false))
   have HEB:=ypV (zdE HB6.out (ypX _) (.string ⟨#[]⟩) (.string ⟨#[]⟩) (.string ⟨#[]⟩) .nilIface (.int .i64 0) (.slice none 0 0) (.string ⟨#[]⟩) (.bool false) (.string ⟨#[]⟩) (.bool false))
   go_wp2
   obtain ⟨e0,e1,e2,e3,e4,e5,e6,e7,e8,e9,-⟩:=zaQ HEND.out
   refine bodyPost_ret (v:= .tuple #[.agg zbD,.int .i64 8]) (by simp [results,Tryz.results119,go_sem,e0,e1,e2,e3,e4,e5,e6,e7,e8,e9,zbD]) rfl ?_
   rw [HRC3.out]
   exact ⟨rfl,HEB.out⟩
  |true=>
   have HRC3:=ypV (HRC2.out.trans (if_neg (by decide)))
   clear HRC2
   obtain ⟨x7,hx7⟩: ∃y,y=x6.alloc (.cells #[.string ⟨name.toArray⟩,.string ⟨#[]⟩,.string ⟨#[]⟩,(.iface it iv),.int .i64 pn,.slice none 0 0,.string ⟨#[]⟩,.bool false,.string ⟨#[]⟩,.bool false] 47):=⟨_,rfl⟩
   have hU7:UB x7 x6.heap.size {zcD with scheme:=name,host:=h,port:=pn} (.slice none 0 0):=by rw [hx7,←HIV.out];exact heap_alloc_new x6 _
   have hb7:Below x6.heap.size x6 x7:=by rw [hx7];exact zaY x6 _
   have HB7:=ypV (zaF HB6.out hb7)
   have HR7:=ypV (HR6.out.below hb7)
   have HU7:=ypV hU7
   have hgw:w.heap.size≤x6.heap.size:=HB6.out.size
   have hgR:w.heap.size≠x6.heap.size:=by have:=HR6.out.lt;omega
   clear HB6 HR6 hb7 hU7
   go_wp2_with fail
   rw [←hx7]
   clear hx7
   generalize x6.heap.size=g at*
   refine (HUS.out _).mono ?_
   rintro e x8 ⟨rfl,hb8⟩
   have HB8:=ypV (zaF HB7.out hb8)
   have HR8:=ypV (HR7.out.below hb8)
   have HU8:=ypV (HU7.out.below hb8)
   obtain ⟨-,c1,-,-,-,-,-,-,-,-,f8⟩:=HU8.out.all
   have f81:=f8 1
   have HB9:=ypV (HB8.out.setCell (p:=⟨g,1,none⟩) hgw (.string ⟨us.toArray⟩))
   have HR9:=ypV (HR8.out.set (i:=1) hgR (.string ⟨us.toArray⟩))
   have HU9:=ypV (HU8.out.who us)
   clear hb8 HB7 HR7 HU7 HB8 HR8 HU8 HUS f8
   go_wp2_with fail
   clear c1 f81
   generalize x8.setCell ⟨g,1,none⟩ (.string ⟨us.toArray⟩)=x9 at*
   refine (HPS.out _).mono ?_
   rintro e y8 ⟨rfl,hb8⟩
   have HB8:=ypV (zaF HB9.out hb8)
   have HR8:=ypV (HR9.out.below hb8)
   have HU8:=ypV (HU9.out.below hb8)
   obtain ⟨-,-,c2,-,-,-,-,-,-,-,f8⟩:=HU8.out.all
   have f82:=f8 2
   have HBA:=ypV (HB8.out.setCell (p:=⟨g,2,none⟩) hgw (.string ⟨pw.toArray⟩))
   have HRA:=HR8.out.set (i:=2) hgR (.string ⟨pw.toArray⟩)
   have HUA:=HU8.out.pwd pw
   have HUL:(y8.setCell ⟨g,2,none⟩ (.string ⟨pw.toArray⟩)).heap[g]? =some (.cells #[.string ⟨name.toArray⟩,.string ⟨us.toArray⟩,.string ⟨pw.toArray⟩,(.iface it iv),.int .i64 pn,.slice none 0 0,.string ⟨#[]⟩,.bool false,.string ⟨#[]⟩,.bool false] 47):=by rw [←HIV.out];exact HUA
   obtain ⟨d0,d1,d2,d3,d4,d5,d6,d7,d8,d9,-⟩:=zaQ HUL
   obtain ⟨c0,c1,c2',c3,c4,c5,c6,c7,c8,c9,hrow⟩:=HRA
   have HRW:=ypV hrow
   obtain ⟨k0,k1,k2,k3,k4,k5,k6,k7,k8,k9,kf⟩:=zaQ hrow
   clear hrow hb8 HB9 HR9 HU9 HB8 HR8 HU8 HPS f8 HUA HUL
   have HEND:=ypV (zeB HRW.out (.string ⟨name.toArray⟩) (.string ⟨us.toArray⟩) (.string ⟨pw.toArray⟩) (.iface it iv) (.int .i64 pn) (.slice none 0 0) (.string ⟨#[]⟩) (.bool false) (.string ⟨#[]⟩) (.bool false))
   have HEB:=ypV (zdE HBA.out (ypX _) (.string ⟨name.toArray⟩) (.string ⟨us.toArray⟩) (.string ⟨pw.toArray⟩) (.iface it iv) (.int .i64 pn) (.slice none 0 0) (.string ⟨#[]⟩) (.bool false) (.string ⟨#[]⟩) (.bool false))
   go_wp2
   obtain ⟨e0,e1,e2,e3,e4,e5,e6,e7,e8,e9,-⟩:=zaQ HEND.out
   refine bodyPost_ret (v:= .tuple #[.agg #[.string ⟨name.toArray⟩,.string ⟨us.toArray⟩,.string ⟨pw.toArray⟩,(.iface it iv),.int .i64 pn,.slice none 0 0,.string ⟨#[]⟩,.bool false,.string ⟨#[]⟩,.bool false],.int .i64 0]) (by simp [results,Tryz.results119,go_sem,e0,e1,e2,e3,e4,e5,e6,e7,e8,e9]) rfl ?_
   rw [HRC3.out]
   exact ⟨by rw [←HIV.out];rfl,HEB.out⟩
 ·have HRC2:=ypV (HRC.out.trans (if_pos h0))
  have hd0:(he !=(0:Int))=true:=by rw [bne_iff_ne];exact h0
  obtain rfl:h= .none:=hhe h0
  obtain ⟨c0,c1,c2,c3,c4,c5,c6,c7,c8,c9,hrow⟩:=HR4.out
  have HRW:=ypV hrow
  obtain ⟨k0,k1,k2,k3,k4,k5,k6,k7,k8,k9,kf⟩:=zaQ hrow
  clear hrow HR4 HRC HUS HPS hhe h0 hok
  have HEND:=ypV (zeB HRW.out (.string ⟨#[]⟩) (.string ⟨#[]⟩) (.string ⟨#[]⟩) .nilIface (.int .i64 0) (.slice none 0 0) (.string ⟨#[]⟩) (.bool false) (.string ⟨#[]⟩) (.bool false))
  have HEB:=ypV (zdE HB4.out (ypX _) (.string ⟨#[]⟩) (.string ⟨#[]⟩) (.string ⟨#[]⟩) .nilIface (.int .i64 0) (.slice none 0 0) (.string ⟨#[]⟩) (.bool false) (.string ⟨#[]⟩) (.bool false))
  go_wp2
  obtain ⟨e0,e1,e2,e3,e4,e5,e6,e7,e8,e9,-⟩:=zaQ HEND.out
  refine bodyPost_ret (v:= .tuple #[.agg zbD,.int .i64 he]) (by simp [results,Tryz.results119,go_sem,e0,e1,e2,e3,e4,e5,e6,e7,e8,e9,zbD]) rfl ?_
  rw [HRC2.out]
  exact ⟨rfl,HEB.out⟩
theorem yfZ (l:List UInt8):(if hd1 [47,92] l=true then l.drop 1 else l)=offW l:=by
 match l with
 |[]=>rfl
 |c::r=>
  have e:hd1 [47,92] (c::r)=zcJ c:=by
   have b: ∀d:UInt8,(d==c)=(c==d):=fun d=>by rw [Bool.eq_iff_iff,beq_iff_eq,beq_iff_eq];exact eq_comm
   have h47:=b 47
   have h92:=b 92
   show hasB [47,92] c=zcJ c
   simp only [hasB,List.any_cons,List.any_nil,Bool.or_false,h47,h92,zcJ]
  rw [e]
  rfl
theorem z7Y (l:List UInt8):l.drop (l.findIdx (hasB [63,35]))=[]∨(l.drop (l.findIdx (hasB [63,35]))).head? =some 63∨(l.drop (l.findIdx (hasB [63,35]))).head? =some 35:=by
 by_cases h:l.findIdx (hasB [63,35])<l.length
 ·have h1:=List.findIdx_getElem (w:=h)
  rw [ztE,dif_pos h]
  have h2:l[l.findIdx (hasB [63,35])]=63∨l[l.findIdx (hasB [63,35])]=35:=by
   have:=h1
   simp only [hasB,List.any_cons,List.any_nil,Bool.or_false,Bool.or_eq_true,beq_iff_eq] at this
   rcases this with g|g
   ·exact .inl g.symm
   ·exact .inr g.symm
  rcases h2 with g|g
  ·exact .inr (.inl (by rw [g]))
  ·exact .inr (.inr (by rw [g]))
 ·exact .inl (List.drop_eq_nil_of_le (by omega))
theorem zlM (u:UZ) (from_:List (List UInt8)) (l:List UInt8):zcV u from_ l=finC {u with path:=zhO from_ (l.take (l.findIdx (hasB [63,35])))} (l.drop (l.findIdx (hasB [63,35]))):=by
 unfold zcV
 exact (zmM _ (z7Y l)).symm
theorem zgO (u:UZ) (l:List UInt8):(finC u l).path=u.path:=by
 unfold finC;repeat' split
 all_goals rfl
theorem zbA.only {B:Nat} {F:List Nat} {w w':World} {v:Value} {ps:List (List UInt8)} (h:zbA B w v ps) (ho:Only F w w') (hF: ∀b∈F,b<B):zbA B w' v ps:=
 zpU h (fun b hb=>ho.block b (World.ownsRow.lt h b hb).2 (fun g=>by have:=hF b g;have:=(World.ownsRow.lt h b hb).1;omega))
def RetUP (w:World) (M:Nat) (x:UZ×Int) (e:Ending) (w':World):Prop:= ∃pv,e= .returned (.tuple #[.agg (x.1.cells pv),.int .i64 x.2])∧zbA w.heap.size w' pv x.1.path∧Only [M] w w'
theorem zgR {w x y:World} {M G:Nat} (hb:Only [M] w x) (hG:w.heap.size≤G) (h:Only [M,G] x y):Only [M] w y:=
 hb.trans h (fun z hz=>by
  rcases List.mem_cons.1 hz with e|e
  ·exact .inl (by rw [e];exact yqC ..)
  ·rw [yqB] at e;exact .inr (by omega))
theorem zgQ (u:UZ) (l:List UInt8):(finC u l).host=u.host:=by
 unfold finC;repeat' split
 all_goals rfl
theorem z5Z {name a:List UInt8} (h:(zlL name a).2=0):(zlL name a).1.host≠ .none:=by
 unfold zlL at*
 split at h
 ·rename_i h1;exact absurd h h1
 ·rename_i h1
  rw [if_neg h1]
  split at h
  ·cases h
  ·rename_i h2
   rw [if_neg h2]
   exact (zsK (Decidable.not_not.1 h1)).ne
theorem PV.shape {w:World} {v:Value} {ps:List (List UInt8)} (h:PV w v ps): ∃a n c,v= .slice a n c:=by
 rcases h with ⟨_,h⟩|⟨g,c,h,_⟩
 ·exact ⟨_,_,_,h⟩
 ·exact ⟨_,_,_,h⟩
theorem ybE {name a:List UInt8} (h:(zlL name a).2≠0):(zlL name a).1=zcD:=by
 unfold zlL at*
 split
 ·rfl
 ·rename_i h1
  rw [if_neg h1] at h
  split
  ·rfl
  ·rename_i h2
   rw [if_neg h2] at h
   exact absurd rfl h
theorem ynJ (l:List UInt8):(offW l).length≤l.length:=by
 match l with
 |[]=>exact ypX _
 |c::r=>
  show (if zcJ c=true then r else c::r).length≤(c::r).length
  split<;>simp
theorem zfZ (M:Nat) (l name:List UInt8) (w:World) (hl:l.length≤100000) (hm:MB w M l) (hmax:MaxVar w) (hn:ownZ name=80∨ownZ name=443):
  Calls Tryz.prog 72 #[.pointer (some ⟨M,0,none⟩),.string ⟨name.toArray⟩] w (RetUP w M (zeR name l)):=by
 have HRES:=ypV (z5J name l hn)
 have HU1:=ypV (fun W (h:MB W M l)=>zhV [47,92,63,35] (by decide) M l W h)
 have hal:(l.take (l.findIdx (hasB [47,92,63,35]))).length≤l.length:=by rw [List.length_take];omega
 have hrl:(l.drop (l.findIdx (hasB [47,92,63,35]))).length≤l.length:=by rw [List.length_drop];omega
 generalize l.take (l.findIdx (hasB [47,92,63,35]))=a at*
 generalize l.drop (l.findIdx (hasB [47,92,63,35]))=rest at*
 have HRA:=ypV (fun W (h:MaxVar W)=>zvX a name W (by omega) h)
 have hRe:=ybE (name:=name) (a:=a)
 have hRh:=z5Z (name:=name) (a:=a)
 generalize zlL name a=rc at*
 obtain ⟨u,er⟩:=rc
 simp only at HRES hRe hRh
 have HSK:=ypV (fun W (h:MB W M rest)=>zhI M rest [47,92] W h)
 rw [yfZ] at HSK
 have hol:=ynJ rest
 have HWF:=ypV (zlM u [] (offW rest))
 generalize hd1 [47,92] rest=kb at*
 generalize offW rest=t at*
 have HPA:=ypV (fun W (h:MB W M t) (hx:MaxVar W)=>zrF M t (.slice none 0 0) [] W (by omega) (by simp) h (.inl ⟨rfl,rfl⟩) hx)
 have hll:(t.drop (t.findIdx (hasB [63,35]))).length≤t.length:=by rw [List.length_drop];omega
 generalize zhO [] (t.take (t.findIdx (hasB [63,35])))=ps at*
 generalize t.drop (t.findIdx (hasB [63,35]))=left at*
 have HX:=ypV hmax
 have HM:=ypV hm
 have hMw:=zaM hm
 obtain ⟨x0,hx0⟩: ∃y,y=w.alloc (.cells zbD 47):=⟨_,rfl⟩
 have hb0:Below w.heap.size w x0:=by rw [hx0];exact zaY w _
 have HR0:Hid (RB x0 w.heap.size):=by show RB _ _;rw [hx0];exact RB.new w
 have hM0:MB x0 M l:=hm.below hb0
 have HU:=ypV (HU1.out x0 hM0)
 have HO0:Hid (Only [M] w x0):=Only.of_below hb0
 unfold zbD at hx0
 clear hmax hm hn hb0 hM0 HU1
 go_enter Tryz.func72,Tryz.ntmps72
 go_wp2_with fail
 rw [←hx0]
 clear hx0
 refine (zoG [47,92,63,35] _).mono ?_
 rintro e x1 ⟨rfl,rfl⟩
 go_wp2_with fail
 refine HU.out.mono ?_
 rintro e x2 ⟨rfl,hm2,ho2⟩
 have hRM:w.heap.size≠M:=by omega
 have HR2:=ypV (HR0.out.only ho2 (by simp [hRM]))
 have HO2:=ypV (HO0.out.trans ho2 (fun x hx=> .inl hx))
 have HM2:=ypV hm2
 have HX2:=ypV (zmZ HX.out HM.out HO2.out)
 clear HU HR0 HO0 ho2 hm2
 go_wp2_with fail
 refine (HRA.out _ HX2.out).mono ?_
 rintro e x3 ⟨rfl,hb3⟩
 have HR3:=ypV (HR2.out.below hb3)
 have HO3:=ypV (HO2.out.then_below hb3)
 have HM3:=ypV (HM2.out.below hb3)
 clear HRA HR2 HO2 HM2 HX2 hb3
 have hw3:w.heap.size≤x3.heap.size:=HO3.out.size
 have hRg:w.heap.size≠x3.heap.size:=by have:=HR3.out.lt;omega
 have hMg:x3.heap.size≠M:=by have:=zaM HM3.out;omega
 by_cases h0:er=0
 ·have hd0:(er !=(0:Int))=false:=by rw [h0];rfl
  have HRES2:=ypV (HRES.out.trans (if_neg (fun k=>k h0)))
  obtain ⟨it,iv,hiv⟩:=HZ.iface (hRh h0)
  clear hRe hRh HRES h0
  obtain ⟨x4,hx4⟩: ∃y,y=x3.alloc (.cells (u.cells (.slice none 0 0)) 47):=⟨_,rfl⟩
  have HU4:Hid (UB x4 x3.heap.size u (.slice none 0 0)):=by show UB _ _ _ _;rw [hx4];exact UB.new x3 u _
  have hb4:Below x3.heap.size x3 x4:=by rw [hx4];exact zaY x3 _
  have HR4:=ypV (HR3.out.below hb4)
  have HO4:=ypV (HO3.out.then_below hb4)
  have HM4:=ypV (HM3.out.below hb4)
  have hg4:x3.heap.size<x4.heap.size:=by have:=zaM HU4.out;exact this
  clear HR3 HO3 HM3 hb4
  simp only [UZ.cells] at hx4 ⊢
  rw [hiv] at hx4 ⊢
  have HIV:=ypV hiv
  clear hiv
  have HS4:=ypV (HSK.out _ HM4.out)
  go_wp2_with fail
  rw [←hx4]
  clear hx4
  generalize x3.heap.size=g at*
  refine HS4.out.mono ?_
  rintro e x5 ⟨rfl,hm5,ho5⟩
  have HR5:=ypV (HR4.out.only ho5 (by simp [hRM]))
  have HU5:=ypV (HU4.out.only ho5 (by simp [hMg]))
  have HO5:=ypV (HO4.out.trans ho5 (fun x hx=> .inl hx))
  have HP5:=ypV (HPA.out _ hm5 (zmZ HX.out HM.out HO5.out))
  have hg5:g<x5.heap.size:=zaM HU5.out
  clear HS4 HSK HPA HR4 HU4 HO4 HM4 hm5 ho5
  go_wp2_with fail
  refine HP5.out.mono ?_
  rintro e x6 ⟨pv,rfl,hp6,hm6,ho6⟩
  obtain ⟨sa,sn,sc,rfl⟩:=hp6.pv.shape
  have HR6:=ypV (HR5.out.only ho6 (by simp [hRM]))
  have HU6:=ypV (HU5.out.only ho6 (by simp [hMg]))
  have HO6:=ypV (HO5.out.trans ho6 (fun x hx=> .inl hx))
  have HP6:=ypV hp6
  have HM6:=ypV hm6
  clear HP5 HR5 HU5 HO5 hp6 hm6 ho6
  obtain ⟨-,-,-,-,-,c5,-,-,-,-,f6⟩:=HU6.out.all
  have f65:=f6 5
  have hset:Only [g] x6 (x6.setCell ⟨g,5,none⟩ (.slice sa sn sc)):=(Only.refl _ _).setCell (p:=⟨g,5,none⟩) (.inl (yqC ..)) _
  have HR7:=ypV (HR6.out.set (i:=5) hRg (.slice sa sn sc))
  have HU7:Hid (UB (x6.setCell ⟨g,5,none⟩ (.slice sa sn sc)) g {u with path:=ps} (.slice sa sn sc)):=HU6.out.pth (.slice sa sn sc)
  have HM7:Hid (MB (x6.setCell ⟨g,5,none⟩ (.slice sa sn sc)) M left):=HM6.out.only hset (by simp [Ne.symm hMg])
  have HO7:Hid (Only [M] w (x6.setCell ⟨g,5,none⟩ (.slice sa sn sc))):=HO6.out.setCell (p:=⟨g,5,none⟩) (.inr hw3) _
  have HP7:=ypV (HP6.out.only hset (fun b hb=>by rw [List.mem_singleton.1 hb];exact hg5))
  have HF7:=ypV (zeZ M g left {u with path:=ps} (.slice sa sn sc) _ (by omega) HM7.out HU7.out)
  clear HR6 HU6 HO6 HP6 HM6 hset f6
  go_wp2_with fail
  clear c5 f65
  generalize x6.setCell ⟨g,5,none⟩ (.slice sa sn sc)=x7 at*
  refine HF7.out.mono ?_
  rintro e x8 ⟨rfl,hu8,ho8⟩
  have HR8:=HR7.out.only ho8 (by simp [hRM,hRg])
  have HO8:=ypV (zgR HO7.out hw3 ho8)
  have HP8:=ypV (HP7.out.only ho8 (fun b hb=>by
   rcases List.mem_cons.1 hb with e|e
   ·rw [e];omega
   ·rw [yqB] at e;omega))
  have HVH:Hid ((finC {u with path:=ps} left).host.val= .iface it iv):=by show _=_;rw [zgQ];exact HIV.out
  have HFP:Hid ((finC {u with path:=ps} left).path=ps):=zgO _ _
  have HWF2:Hid (zcV u [] t=finC {u with path:=ps} left):=HWF.out
  rw [HWF2.out] at HRES2
  clear HWF HWF2 HF7 HR7 HU7 HO7 HP7 HM7 ho8
  generalize finC {u with path:=ps} left=v at*
  obtain ⟨d0,d1,d2,d3,d4,d5,d6,d7,d8,d9,-⟩:=hu8.all
  rw [HVH.out] at d3
  obtain ⟨c0,c1,c2,c3,c4,c5,c6,c7,c8,c9,hrow⟩:=HR8
  have HRW:=ypV hrow
  obtain ⟨k0,k1,k2,k3,k4,k5,k6,k7,k8,k9,kf⟩:=zaQ hrow
  clear hrow hu8
  have HEND:=ypV (zeB HRW.out (.string ⟨v.scheme.toArray⟩) (.string ⟨v.user.toArray⟩) (.string ⟨v.pass.toArray⟩) (.iface it iv) (.int .i64 v.port) (.slice sa sn sc) (.string ⟨v.query.toArray⟩) (.bool v.hasQ) (.string ⟨v.frag.toArray⟩) (.bool v.hasF))
  have HEO:=ypV (zbO (g:=w.heap.size) HO8.out (.inr (ypX _)) (.string ⟨v.scheme.toArray⟩) (.string ⟨v.user.toArray⟩) (.string ⟨v.pass.toArray⟩) (.iface it iv) (.int .i64 v.port) (.slice sa sn sc) (.string ⟨v.query.toArray⟩) (.bool v.hasQ) (.string ⟨v.frag.toArray⟩) (.bool v.hasF))
  have HEP:=ypV (HP8.out.only (zbO (g:=w.heap.size) (F:=[w.heap.size]) (Only.refl _ _) (.inl (yqC ..)) (.string ⟨v.scheme.toArray⟩) (.string ⟨v.user.toArray⟩) (.string ⟨v.pass.toArray⟩) (.iface it iv) (.int .i64 v.port) (.slice sa sn sc) (.string ⟨v.query.toArray⟩) (.bool v.hasQ) (.string ⟨v.frag.toArray⟩) (.bool v.hasF)) (fun b hb=>by rw [List.mem_singleton.1 hb];omega))
  go_wp2
  obtain ⟨e0,e1,e2,e3,e4,e5,e6,e7,e8,e9,-⟩:=zaQ HEND.out
  refine bodyPost_ret (v:= .tuple #[.agg #[.string ⟨v.scheme.toArray⟩,.string ⟨v.user.toArray⟩,.string ⟨v.pass.toArray⟩,.iface it iv,.int .i64 v.port,(.slice sa sn sc),.string ⟨v.query.toArray⟩,.bool v.hasQ,.string ⟨v.frag.toArray⟩,.bool v.hasF],.int .i64 0]) (by simp [results,Tryz.results72,go_sem,e0,e1,e2,e3,e4,e5,e6,e7,e8,e9]) rfl ?_
  rw [HRES2.out]
  exact ⟨(.slice sa sn sc),by rw [←HVH.out];rfl,by rw [show (v,(0:Int)).1.path=ps from HFP.out];exact zcY HEP.out (by omega),HEO.out⟩
 ·have hd0:(er !=(0:Int))=true:=by rw [bne_iff_ne];exact h0
  have HRES2:=ypV (HRES.out.trans (if_pos h0))
  obtain rfl:=hRe h0
  obtain ⟨x4,hx4⟩: ∃y,y=x3.alloc (.cells zbD 47):=⟨_,rfl⟩
  have hb4:Below x3.heap.size x3 x4:=by rw [hx4];exact zaY x3 _
  have HR4:=ypV (HR3.out.below hb4)
  have HO4:=ypV (HO3.out.then_below hb4)
  rw [zyZ]
  unfold zbD at hx4 ⊢
  clear HR3 HO3 HM3 hb4 hRh
  obtain ⟨c0,c1,c2,c3,c4,c5,c6,c7,c8,c9,hrow⟩:=HR4.out
  have HRW:=ypV hrow
  obtain ⟨k0,k1,k2,k3,k4,k5,k6,k7,k8,k9,kf⟩:=zaQ hrow
  clear hrow hRe h0 HR4
  have HEND:=ypV (zeB HRW.out (.string ⟨#[]⟩) (.string ⟨#[]⟩) (.string ⟨#[]⟩) .nilIface (.int .i64 0) (.slice none 0 0) (.string ⟨#[]⟩) (.bool false) (.string ⟨#[]⟩) (.bool false))
  have HEO:=ypV (zbO (g:=w.heap.size) HO4.out (.inr (ypX _)) (.string ⟨#[]⟩) (.string ⟨#[]⟩) (.string ⟨#[]⟩) .nilIface (.int .i64 0) (.slice none 0 0) (.string ⟨#[]⟩) (.bool false) (.string ⟨#[]⟩) (.bool false))
  rw [hx4] at k0 k1 k2 k3 k4 k5 k6 k7 k8 k9 kf HEND HEO
  clear hx4
  go_wp2
  obtain ⟨e0,e1,e2,e3,e4,e5,e6,e7,e8,e9,-⟩:=zaQ HEND.out
  refine bodyPost_ret (v:= .tuple #[.agg zbD,.int .i64 er]) (by simp [results,Tryz.results72,go_sem,e0,e1,e2,e3,e4,e5,e6,e7,e8,e9,zbD]) rfl ?_
  rw [HRES2.out]
  exact ⟨.slice none 0 0,rfl,zbA.nil _ _,HEO.out⟩
theorem znW {w x2:World} {b:UZ} {pv:Value} (h:x2=((w.alloc (.cells (b.cells pv) 47)).alloc (.cells zbD 47)).alloc (.cells ((zbS b).cells (.slice none 0 0)) 47)):
  UB x2 w.heap.size b pv∧RB x2 (w.heap.size+1)∧UB x2 (w.heap.size+2) (zbS b) (.slice none 0 0)∧Below w.heap.size w x2∧x2.heap.size=w.heap.size+3:=by
 have b0:=zaY w (b.cells pv)
 have u0:=UB.new w b pv
 have s0:(w.alloc (.cells (b.cells pv) 47)).heap.size=w.heap.size+1:=by simp
 generalize w.alloc (.cells (b.cells pv) 47)=x0 at*
 have b1:=zaY x0 zbD
 have r1:=RB.new x0
 have s1:(x0.alloc (.cells zbD 47)).heap.size=x0.heap.size+1:=by simp
 generalize x0.alloc (.cells zbD 47)=x1 at*
 have b2:=zaY x1 ((zbS b).cells (.slice none 0 0))
 have u2:=UB.new x1 (zbS b) (.slice none 0 0)
 have s2:(x1.alloc (.cells ((zbS b).cells (.slice none 0 0)) 47)).heap.size=x1.heap.size+1:=by simp
 rw [←h] at b2 u2 s2
 rw [s0] at r1
 rw [s1,s0] at u2
 exact ⟨(u0.below b1).below b2,r1.below b2,u2,zaF (zaF b0 b1) b2,by omega⟩
def zrY (w:World) (M:Nat) (x:UZ) (e:Ending) (w':World):Prop:= ∃pv,e= .returned (.agg (x.cells pv))∧zbA w.heap.size w' pv x.path∧Only [M] w w'
theorem UB.three {w:World} {U:Nat} {u:UZ} {pv:Value} (h:UB w U u pv) (v:Value) (q:List UInt8) (hq:Bool):UB (((w.setCell ⟨U,5,none⟩ v).setCell ⟨U,6,none⟩ (.string ⟨q.toArray⟩)).setCell ⟨U,7,none⟩ (.bool hq)) U {u with query:=q,hasQ:=hq} v:=zaJ (zaJ (zaJ h 5 _) 6 _) 7 _
theorem zoR (M:Nat) (l:List UInt8) (b:UZ) (bpv:Value) (w:World) (hl:l.length≤100000) (_hpl:b.path.length≤1000000) (hbh:b.host≠ .none) (hm:MB w M l) (hpv:PV w bpv b.path) (hmax:MaxVar w):
  Calls Tryz.prog 73 #[.pointer (some ⟨M,0,none⟩),.agg (b.cells bpv),.bool true] w (zrY w M (relC b true l)):=by
 have HRES:Hid (relC b true l=zcV (zbS b) [] l):=by show _=_;rfl
 have HW:=HRES.out.trans (zlM (zbS b) [] l)
 clear HRES
 have HRES:=ypV HW
 clear HW
 have hll:(l.drop (l.findIdx (hasB [63,35]))).length≤l.length:=by rw [List.length_drop];omega
 have HPA:=ypV (fun fv (from_:List (List UInt8)) W (h:MB W M l) (hf:PV W fv from_) (h2:from_.length≤1000000) (hx:MaxVar W)=>zrF M l fv from_ W (by omega) h2 h hf hx)
 generalize l.drop (l.findIdx (hasB [63,35]))=left at*
 have HPB:=ypV (fun W (h:MB W M l) (hx:MaxVar W)=>HPA.out (.slice none 0 0) [] W h (.inl ⟨rfl,rfl⟩) (by simp) hx)
 clear HPA
 generalize zhO [] (l.take (l.findIdx (hasB [63,35])))=ps at*
 obtain ⟨ba,bn,bc,rfl⟩:=hpv.shape
 obtain ⟨it,iv,hiv⟩:=HZ.iface hbh
 have HX:=ypV hmax
 have HM:=ypV hm
 have HPV:=ypV hpv
 have hMw:=zaM hm
 obtain ⟨x2,hx2⟩: ∃y,y=((w.alloc (.cells (b.cells (.slice ba bn bc)) 47)).alloc (.cells zbD 47)).alloc (.cells ((zbS b).cells (.slice none 0 0)) 47):=⟨_,rfl⟩
 obtain ⟨hk,hr,hu,hbw,hsz⟩:=znW hx2
 have HK2:=ypV hk
 have HR2:=ypV hr
 have HU2:=ypV hu
 have HO2:Hid (Only [M] w x2):=Only.of_below hbw
 have HM2:=ypV (hm.below hbw)
 have HP2:=ypV (hpv.keep hbw)
 have HX2:=ypV (zaA hmax hbw)
 obtain ⟨-,-,-,-,-,b5,b6,b7,-,-,bf⟩:=hk.all
 have hc2:=HM2.out.cell
 have b3:=hk.all.2.2.2.1
 simp only [UZ.cells,zbS,zcD,zbD] at hx2
 rw [hiv] at hx2 b3
 have HIV:=ypV hiv
 clear hm hmax hpv hk hr hu hbw bf hbh
 go_enter Tryz.func73,Tryz.ntmps73
 simp only [UZ.cells]
 rw [hiv]
 clear hiv b3
 go_wp2_with fail
 rw [←hx2]
 clear hx2
 refine (HPB.out _ HM2.out HX2.out).mono ?_
 rintro e x6 ⟨pv,rfl,hp6,hm6,ho6⟩
 obtain ⟨sa,sn,sc,rfl⟩:=hp6.pv.shape
 have HR6:=ypV (HR2.out.only ho6 (by simp;omega))
 have HU6:=ypV (HU2.out.only ho6 (by simp;omega))
 have HO6:=ypV (HO2.out.trans ho6 (fun x hx=> .inl hx))
 have HP6:=ypV hp6
 have HM6:=ypV hm6
 clear HR2 HU2 HO2 HM2 HP2 HX2 HK2 hp6 hm6 ho6 b5 b6 b7 hc2
 obtain ⟨-,-,-,-,-,c5,-,-,-,-,f6⟩:=HU6.out.all
 have f65:=f6 5
 have hset:Only [w.heap.size+2] x6 (x6.setCell ⟨w.heap.size+2,5,none⟩ (.slice sa sn sc)):=(Only.refl _ _).setCell (p:=⟨w.heap.size+2,5,none⟩) (.inl (yqC ..)) _
 have HR7:=ypV (HR6.out.set (g:=w.heap.size+2) (i:=5) (by omega) (.slice sa sn sc))
 have HU7:Hid (UB (x6.setCell ⟨w.heap.size+2,5,none⟩ (.slice sa sn sc)) (w.heap.size+2) {zbS b with path:=ps} (.slice sa sn sc)):=HU6.out.pth (.slice sa sn sc)
 have HM7:Hid (MB (x6.setCell ⟨w.heap.size+2,5,none⟩ (.slice sa sn sc)) M left):=HM6.out.only hset (by simp;omega)
 have HO7:Hid (Only [M] w (x6.setCell ⟨w.heap.size+2,5,none⟩ (.slice sa sn sc))):=HO6.out.setCell (p:=⟨w.heap.size+2,5,none⟩) (.inr (by show w.heap.size≤w.heap.size+2;omega)) _
 have HP7:=ypV (HP6.out.only hset (fun b hb=>by rw [List.mem_singleton.1 hb];omega))
 have HF7:=ypV (zeZ M (w.heap.size+2) left {zbS b with path:=ps} (.slice sa sn sc) _ (by omega) HM7.out HU7.out)
 clear HR6 HU6 HO6 HP6 HM6 hset f6
 go_wp2_with fail
 clear c5 f65
 generalize x6.setCell ⟨w.heap.size+2,5,none⟩ (.slice sa sn sc)=x7 at*
 refine HF7.out.mono ?_
 rintro e x8 ⟨rfl,hu8,ho8⟩
 have HR8:=HR7.out.only ho8 (by simp;omega)
 have HO8:=ypV (zgR HO7.out (by omega) ho8)
 have HP8:=ypV (HP7.out.only ho8 (fun b hb=>by
  rcases List.mem_cons.1 hb with e|e
  ·rw [e];omega
  ·rw [yqB] at e;omega))
 have HFP:Hid ((finC ({zbS b with path:=ps}) left).path=ps):=zgO _ _
 have HVH:Hid ((finC ({zbS b with path:=ps}) left).host.val= .iface it iv):=by show _=_;rw [zgQ];exact HIV.out
 clear HF7 HR7 HU7 HO7 HP7 HM7 ho8
 generalize finC ({zbS b with path:=ps}) left=v at*
 obtain ⟨d0,d1,d2,d3,d4,d5,d6,d7,d8,d9,-⟩:=hu8.all
 rw [HVH.out] at d3
 obtain ⟨c0,c1,c2,c3,c4,c5,c6,c7,c8,c9,hrow⟩:=HR8
 have HRW:=ypV hrow
 obtain ⟨k0,k1,k2,k3,k4,k5,k6,k7,k8,k9,kf⟩:=zaQ hrow
 clear hrow hu8
 have HEND:=ypV (zeB HRW.out (.string ⟨v.scheme.toArray⟩) (.string ⟨v.user.toArray⟩) (.string ⟨v.pass.toArray⟩) (.iface it iv) (.int .i64 v.port) (.slice sa sn sc) (.string ⟨v.query.toArray⟩) (.bool v.hasQ) (.string ⟨v.frag.toArray⟩) (.bool v.hasF))
 have HEO:=ypV (zbO (g:=w.heap.size+1) HO8.out (.inr (Nat.le_succ _)) (.string ⟨v.scheme.toArray⟩) (.string ⟨v.user.toArray⟩) (.string ⟨v.pass.toArray⟩) (.iface it iv) (.int .i64 v.port) (.slice sa sn sc) (.string ⟨v.query.toArray⟩) (.bool v.hasQ) (.string ⟨v.frag.toArray⟩) (.bool v.hasF))
 have HEP:=ypV (HP8.out.only (zbO (g:=w.heap.size+1) (F:=[w.heap.size+1]) (Only.refl _ _) (.inl (yqC ..)) (.string ⟨v.scheme.toArray⟩) (.string ⟨v.user.toArray⟩) (.string ⟨v.pass.toArray⟩) (.iface it iv) (.int .i64 v.port) (.slice sa sn sc) (.string ⟨v.query.toArray⟩) (.bool v.hasQ) (.string ⟨v.frag.toArray⟩) (.bool v.hasF)) (fun b hb=>by rw [List.mem_singleton.1 hb];omega))
 go_wp2
 obtain ⟨e0,e1,e2,e3,e4,e5,e6,e7,e8,e9,-⟩:=zaQ HEND.out
 refine bodyPost_ret (v:= .agg #[.string ⟨v.scheme.toArray⟩,.string ⟨v.user.toArray⟩,.string ⟨v.pass.toArray⟩,.iface it iv,.int .i64 v.port,.slice sa sn sc,.string ⟨v.query.toArray⟩,.bool v.hasQ,.string ⟨v.frag.toArray⟩,.bool v.hasF]) (by simp [results,Tryz.results73,go_sem,e0,e1,e2,e3,e4,e5,e6,e7,e8,e9]) rfl ?_
 rw [HRES.out]
 exact ⟨(.slice sa sn sc),by rw [←HVH.out];rfl,by rw [HFP.out];exact zcY HEP.out (by omega),HEO.out⟩
theorem zlC {c:UInt8} {n:Nat} (hn:n<256):(((c.toNat:Int))==(n:Int))=decide (c=UInt8.ofNat n):=by
 rw [Bool.eq_iff_iff,beq_iff_eq,decide_eq_true_eq,←UInt8.toNat_inj,UInt8.toNat_ofNat_of_lt' (by simpa using hn)]
 omega
theorem ylD {w:World} {g n c:Nat} {ps:List (List UInt8)} (hn:ps.length=n) (hc:n≤c) (h:Seen w g ps):PV w (.slice (some ⟨g,0,none⟩) (n - 1:Nat) c) ps.dropLast:=by
 refine .inr ⟨g,c,by rw [List.length_dropLast,hn],by rw [List.length_dropLast];omega,h.1,fun j hj=> ?_⟩
 rw [List.length_dropLast] at hj
 rw [h.2 j (by omega)]
 have hj2:j<ps.length:=by omega
 simp [List.getD,hj,List.getElem?_eq_getElem hj2]
theorem ztV (v:Value) (ps:List (List UInt8)) (w:World) (h:PV w v ps) (hl:ps.length≤10000000):
  Calls Tryz.prog 124 #[v] w fun e w'=> ∃v',e= .returned v'∧PV w v' ps.dropLast∧w=w':=by
 rcases h with ⟨rfl,rfl⟩|⟨g,c,rfl,hc,hs⟩
 ·have hs: ∀W,(Instr.slice 45 (.slice none 0 0) none (some (.int .i64 0)) none).run Tryz.prog W= .ok (.slice none 0 0) W:=fun W=>by
   rw [run_slice_h W 45 none 0 0 (by simp [Program.elem,Tryz.underlying45]) .i64 _ (by omega) (by omega)]
   rfl
  go_enter Tryz.func124,Tryz.ntmps124
  go_wp2
  go_ret
  exact ⟨_,rfl,.inl ⟨rfl,rfl⟩,rfl⟩
 ·obtain ⟨n,hn⟩: ∃n,ps.length=n:=⟨_,rfl⟩
  have HP:=ypV (ylD (c:=c) hn (by omega) hs)
  rw [hn] at hc hl ⊢
  clear hs hn
  have hs: ∀W (k:Nat),k≤c→(Instr.slice 45 (.slice (some ⟨g,0,none⟩) n c) none (some (.int .i64 (k:Int))) none).run Tryz.prog W= .ok (.slice (some ⟨g,0,none⟩) k c) W:=fun W k hk=>by
   rw [run_slice_h W 45 (some ⟨g,0,none⟩) n c (by simp [Program.elem,Tryz.underlying45]) .i64 _ (by omega) (by omega)]
   go_simp
  match n,hc,hl,HP with
  |0,hc,hl,HP=>
   have hs0:=fun W=>hs W 0 (by omega)
   clear hs
   go_enter Tryz.func124,Tryz.ntmps124
   go_wp2
   go_ret
   exact ⟨_,rfl,HP.out,rfl⟩
  |n+1,hc,hl,HP=>
   have hs0:=fun W=>hs W n (by omega)
   have HP2:Hid (PV w (.slice (some ⟨g,0,none⟩) n c) ps.dropLast):=HP.out
   clear hs HP
   by_cases h0:n=0
   ·subst h0
    go_enter Tryz.func124,Tryz.ntmps124
    go_wp2
    go_ret
    exact ⟨_,rfl,HP2.out,rfl⟩
   ·have hd:0<n:=by omega
    go_enter Tryz.func124,Tryz.ntmps124
    go_wp2
    go_ret
    exact ⟨_,rfl,HP2.out,rfl⟩
theorem zrU (M:Nat) (l:List UInt8) (b:UZ) (bpv:Value) (w:World) (hl:l.length≤100000) (hpl:b.path.length≤1000000) (hbh:b.host≠ .none) (hm:MB w M l) (hpv:PV w bpv b.path) (hmax:MaxVar w) (hne:l≠[]) (hd35:l.head? ≠some 35) (hd63:l.head? ≠some 63):
  Calls Tryz.prog 73 #[.pointer (some ⟨M,0,none⟩),.agg (b.cells bpv),.bool false] w (zrY w M (relC b false l)):=by
 have HRES:Hid (relC b false l=zcV (zbS b) b.path.dropLast l):=by show _=_;unfold relC;rw [if_neg (by decide),if_neg (by rintro (g|g);exact hne g;exact hd35 g),if_neg hd63]
 have HW:=HRES.out.trans (zlM (zbS b) b.path.dropLast l)
 clear HRES
 have HRES:=ypV HW
 clear HW
 have hll:(l.drop (l.findIdx (hasB [63,35]))).length≤l.length:=by rw [List.length_drop];omega
 have HPA:=ypV (fun fv (from_:List (List UInt8)) W (h:MB W M l) (hf:PV W fv from_) (h2:from_.length≤1000000) (hx:MaxVar W)=>zrF M l fv from_ W (by omega) h2 h hf hx)
 generalize l.drop (l.findIdx (hasB [63,35]))=left at*
 have hdl:b.path.dropLast.length≤b.path.length:=by rw [List.length_dropLast];omega
 have HPB:=ypV (fun fv W (h:MB W M l) (hf:PV W fv b.path.dropLast) (hx:MaxVar W)=>HPA.out fv b.path.dropLast W h hf (by omega) hx)
 clear HPA
 generalize zhO b.path.dropLast (l.take (l.findIdx (hasB [63,35])))=ps at*
 obtain ⟨c,r,hlc⟩: ∃c r,l=c::r:=by
  match l,hne with
  |c::r,_=>exact ⟨c,r,rfl⟩
 have hz:(ByteArray.mk l.toArray).size=r.length+1:=by rw [hlc];simp [ByteArray.size]
 have h0:0<(ByteArray.mk l.toArray).size:=by rw [hz];omega
 have hb0:(ByteArray.mk l.toArray)[0]=c:=by subst hlc;rfl
 have hqe:l.isEmpty=false:=by rw [hlc];rfl
 have e35:((c.toNat:Int)==35)=decide (c=35):=zlC (c:=c) (n:=35) (by omega)
 have e63:((c.toNat:Int)==63)=decide (c=63):=zlC (c:=c) (n:=63) (by omega)
 have n35:c≠35:=fun g=>hd35 (by rw [hlc,g];rfl)
 have n63:c≠63:=fun g=>hd63 (by rw [hlc,g];rfl)
 rw [ypY n35] at e35
 rw [ypY n63] at e63
 clear hlc hne hd35 hd63 n35 n63
 obtain ⟨ba,bn,bc,rfl⟩:=hpv.shape
 obtain ⟨it,iv,hiv⟩:=HZ.iface hbh
 have HX:=ypV hmax
 have HM:=ypV hm
 have HPV:=ypV hpv
 have hMw:=zaM hm
 obtain ⟨x2,hx2⟩: ∃y,y=((w.alloc (.cells (b.cells (.slice ba bn bc)) 47)).alloc (.cells zbD 47)).alloc (.cells ((zbS b).cells (.slice none 0 0)) 47):=⟨_,rfl⟩
 obtain ⟨hk,hr,hu,hbw,hsz⟩:=znW hx2
 have HK2:=ypV hk
 have HR2:=ypV hr
 have HU2:=ypV hu
 have HO2:Hid (Only [M] w x2):=Only.of_below hbw
 have HM2:=ypV (hm.below hbw)
 have HP2:=ypV (hpv.keep hbw)
 have HX2:=ypV (zaA hmax hbw)
 obtain ⟨-,-,-,-,-,b5,b6,b7,-,-,bf⟩:=hk.all
 have hc2:=HM2.out.cell
 have b3:=hk.all.2.2.2.1
 simp only [UZ.cells,zbS,zcD,zbD] at hx2
 rw [hiv] at hx2 b3
 have HIV:=ypV hiv
 clear hm hmax hpv hk hr hu hbw bf hbh
 go_enter Tryz.func73,Tryz.ntmps73
 simp only [UZ.cells]
 rw [hiv]
 clear hiv b3
 rw [hx2] at hc2 b5 b6 b7
 go_wp2_with fail
 rw [←hx2] at hc2 b5 b6 b7 ⊢
 clear hx2
 refine (ztV (.slice ba bn bc) b.path _ HP2.out (by omega)).mono ?_
 rintro e y ⟨v2,rfl,hp2,rfl⟩
 have HPD:=ypV hp2
 clear hp2
 go_wp2_with fail
 refine (HPB.out _ _ HM2.out HPD.out HX2.out).mono ?_
 rintro e x6 ⟨pv,rfl,hp6,hm6,ho6⟩
 obtain ⟨sa,sn,sc,rfl⟩:=hp6.pv.shape
 have HR6:=ypV (HR2.out.only ho6 (by simp;omega))
 have HU6:=ypV (HU2.out.only ho6 (by simp;omega))
 have HO6:=ypV (HO2.out.trans ho6 (fun x hx=> .inl hx))
 have HP6:=ypV hp6
 have HM6:=ypV hm6
 clear HR2 HU2 HO2 HM2 HP2 HX2 HK2 hp6 hm6 ho6 b5 b6 b7 hc2
 obtain ⟨-,-,-,-,-,c5,-,-,-,-,f6⟩:=HU6.out.all
 have f65:=f6 5
 have hset:Only [w.heap.size+2] x6 (x6.setCell ⟨w.heap.size+2,5,none⟩ (.slice sa sn sc)):=(Only.refl _ _).setCell (p:=⟨w.heap.size+2,5,none⟩) (.inl (yqC ..)) _
 have HR7:=ypV (HR6.out.set (g:=w.heap.size+2) (i:=5) (by omega) (.slice sa sn sc))
 have HU7:Hid (UB (x6.setCell ⟨w.heap.size+2,5,none⟩ (.slice sa sn sc)) (w.heap.size+2) {zbS b with path:=ps} (.slice sa sn sc)):=HU6.out.pth (.slice sa sn sc)
 have HM7:Hid (MB (x6.setCell ⟨w.heap.size+2,5,none⟩ (.slice sa sn sc)) M left):=HM6.out.only hset (by simp;omega)
 have HO7:Hid (Only [M] w (x6.setCell ⟨w.heap.size+2,5,none⟩ (.slice sa sn sc))):=HO6.out.setCell (p:=⟨w.heap.size+2,5,none⟩) (.inr (by show w.heap.size≤w.heap.size+2;omega)) _
 have HP7:=ypV (HP6.out.only hset (fun b hb=>by rw [List.mem_singleton.1 hb];omega))
 have HF7:=ypV (zeZ M (w.heap.size+2) left {zbS b with path:=ps} (.slice sa sn sc) _ (by omega) HM7.out HU7.out)
 clear HR6 HU6 HO6 HP6 HM6 hset f6
 go_wp2_with fail
 clear c5 f65
 generalize x6.setCell ⟨w.heap.size+2,5,none⟩ (.slice sa sn sc)=x7 at*
 refine HF7.out.mono ?_
 rintro e x8 ⟨rfl,hu8,ho8⟩
 have HR8:=HR7.out.only ho8 (by simp;omega)
 have HO8:=ypV (zgR HO7.out (by omega) ho8)
 have HP8:=ypV (HP7.out.only ho8 (fun b hb=>by
  rcases List.mem_cons.1 hb with e|e
  ·rw [e];omega
  ·rw [yqB] at e;omega))
 have HFP:Hid ((finC ({zbS b with path:=ps}) left).path=ps):=zgO _ _
 have HVH:Hid ((finC ({zbS b with path:=ps}) left).host.val= .iface it iv):=by show _=_;rw [zgQ];exact HIV.out
 clear HF7 HR7 HU7 HO7 HP7 HM7 ho8
 generalize finC ({zbS b with path:=ps}) left=v at*
 obtain ⟨d0,d1,d2,d3,d4,d5,d6,d7,d8,d9,-⟩:=hu8.all
 rw [HVH.out] at d3
 obtain ⟨c0,c1,c2,c3,c4,c5,c6,c7,c8,c9,hrow⟩:=HR8
 have HRW:=ypV hrow
 obtain ⟨k0,k1,k2,k3,k4,k5,k6,k7,k8,k9,kf⟩:=zaQ hrow
 clear hrow hu8
 have HEND:=ypV (zeB HRW.out (.string ⟨v.scheme.toArray⟩) (.string ⟨v.user.toArray⟩) (.string ⟨v.pass.toArray⟩) (.iface it iv) (.int .i64 v.port) (.slice sa sn sc) (.string ⟨v.query.toArray⟩) (.bool v.hasQ) (.string ⟨v.frag.toArray⟩) (.bool v.hasF))
 have HEO:=ypV (zbO (g:=w.heap.size+1) HO8.out (.inr (Nat.le_succ _)) (.string ⟨v.scheme.toArray⟩) (.string ⟨v.user.toArray⟩) (.string ⟨v.pass.toArray⟩) (.iface it iv) (.int .i64 v.port) (.slice sa sn sc) (.string ⟨v.query.toArray⟩) (.bool v.hasQ) (.string ⟨v.frag.toArray⟩) (.bool v.hasF))
 have HEP:=ypV (HP8.out.only (zbO (g:=w.heap.size+1) (F:=[w.heap.size+1]) (Only.refl _ _) (.inl (yqC ..)) (.string ⟨v.scheme.toArray⟩) (.string ⟨v.user.toArray⟩) (.string ⟨v.pass.toArray⟩) (.iface it iv) (.int .i64 v.port) (.slice sa sn sc) (.string ⟨v.query.toArray⟩) (.bool v.hasQ) (.string ⟨v.frag.toArray⟩) (.bool v.hasF)) (fun b hb=>by rw [List.mem_singleton.1 hb];omega))
 go_wp2
 obtain ⟨e0,e1,e2,e3,e4,e5,e6,e7,e8,e9,-⟩:=zaQ HEND.out
 refine bodyPost_ret (v:= .agg #[.string ⟨v.scheme.toArray⟩,.string ⟨v.user.toArray⟩,.string ⟨v.pass.toArray⟩,.iface it iv,.int .i64 v.port,.slice sa sn sc,.string ⟨v.query.toArray⟩,.bool v.hasQ,.string ⟨v.frag.toArray⟩,.bool v.hasF]) (by simp [results,Tryz.results73,go_sem,e0,e1,e2,e3,e4,e5,e6,e7,e8,e9]) rfl ?_
 rw [HRES.out]
 exact ⟨(.slice sa sn sc),by rw [←HVH.out];rfl,by rw [HFP.out];exact zcY HEP.out (by omega),HEO.out⟩
theorem zoY (M:Nat) (l:List UInt8) (b:UZ) (bpv:Value) (w:World) (hl:l.length≤100000) (hpl:b.path.length≤1000000) (hbh:b.host≠ .none) (hm:MB w M l) (hpv:PV w bpv b.path) (hmax:MaxVar w) (hd63:l.head? =some 63):
  Calls Tryz.prog 73 #[.pointer (some ⟨M,0,none⟩),.agg (b.cells bpv),.bool false] w (zrY w M (relC b false l)):=by
 have HRES:Hid (relC b false l=ziY {zbS b with path:=b.path} l):=by show _=_;unfold relC;rw [if_neg (by decide),if_neg (by rintro (g|g);rw [g] at hd63;cases hd63;rw [g] at hd63;cases hd63),if_pos hd63]
 have HW:=HRES.out.trans (zmM _ (.inr (.inl hd63))).symm
 clear HRES
 have HRES:=ypV HW
 clear HW
 have hne:l≠[]:=fun g=>by rw [g] at hd63;cases hd63
 obtain ⟨c,r,hlc⟩: ∃c r,l=c::r:=by
  match l,hne with
  |c::r,_=>exact ⟨c,r,rfl⟩
 have hz:(ByteArray.mk l.toArray).size=r.length+1:=by rw [hlc];simp [ByteArray.size]
 have h0:0<(ByteArray.mk l.toArray).size:=by rw [hz];omega
 have hb0:(ByteArray.mk l.toArray)[0]=c:=by subst hlc;rfl
 have hqe:l.isEmpty=false:=by rw [hlc];rfl
 have e35:((c.toNat:Int)==35)=decide (c=35):=zlC (c:=c) (n:=35) (by omega)
 have e63:((c.toNat:Int)==63)=decide (c=63):=zlC (c:=c) (n:=63) (by omega)
 have n63:c=63:=by rw [hlc] at hd63;simpa using hd63
 rw [ypY (show ¬c=35 by rw [n63];decide)] at e35
 rw [ypZ n63] at e63
 clear hlc hne hd63 n63
 obtain ⟨ba,bn,bc,rfl⟩:=hpv.shape
 obtain ⟨it,iv,hiv⟩:=HZ.iface hbh
 have HX:=ypV hmax
 have HM:=ypV hm
 have HPV:=ypV hpv
 have hMw:=zaM hm
 obtain ⟨x2,hx2⟩: ∃y,y=((w.alloc (.cells (b.cells (.slice ba bn bc)) 47)).alloc (.cells zbD 47)).alloc (.cells ((zbS b).cells (.slice none 0 0)) 47):=⟨_,rfl⟩
 obtain ⟨hk,hr,hu,hbw,hsz⟩:=znW hx2
 have HK2:=ypV hk
 have HR2:=ypV hr
 have HU2:=ypV hu
 have HO2:Hid (Only [M] w x2):=Only.of_below hbw
 have HM2:=ypV (hm.below hbw)
 have HP2:=ypV (hpv.keep hbw)
 have HX2:=ypV (zaA hmax hbw)
 obtain ⟨-,-,-,-,-,b5,b6,b7,-,-,bf⟩:=hk.all
 have hc2:=HM2.out.cell
 have b3:=hk.all.2.2.2.1
 simp only [UZ.cells,zbS,zcD,zbD] at hx2
 rw [hiv] at hx2 b3
 have HIV:=ypV hiv
 clear hm hmax hpv hk hr hu hbw bf hbh
 go_enter Tryz.func73,Tryz.ntmps73
 simp only [UZ.cells]
 rw [hiv]
 clear hiv b3
 rw [hx2] at hc2 b5 b6 b7
 go_wp2_with fail
 rw [←hx2] at hc2 b5 b6 b7 ⊢
 clear hx2
 refine (zhM (.slice ba bn bc) b.path _ HP2.out hpl).mono ?_
 rintro e x6 ⟨pv,rfl,hp6,hb6⟩
 obtain ⟨sa,sn,sc,rfl⟩:=hp6.pv.shape
 have HM7:=ypV (HM2.out.below hb6)
 have HR6:=ypV (HR2.out.below hb6)
 have HU6:=ypV (HU2.out.below hb6)
 have HO6:=ypV (HO2.out.then_below hb6)
 have HP6:=ypV hp6
 clear HR2 HU2 HO2 HM2 HP2 HX2 HK2 hp6 hb6 b5 b6 b7 hc2
 obtain ⟨-,-,-,-,-,c5,-,-,-,-,f6⟩:=HU6.out.all
 have f65:=f6 5
 have hset:Only [w.heap.size+2] x6 (x6.setCell ⟨w.heap.size+2,5,none⟩ (.slice sa sn sc)):=(Only.refl _ _).setCell (p:=⟨w.heap.size+2,5,none⟩) (.inl (yqC ..)) _
 have HR7:=ypV (HR6.out.set (g:=w.heap.size+2) (i:=5) (by omega) (.slice sa sn sc))
 have HU7:Hid (UB (x6.setCell ⟨w.heap.size+2,5,none⟩ (.slice sa sn sc)) (w.heap.size+2) {zbS b with path:=b.path} (.slice sa sn sc)):=HU6.out.pth (.slice sa sn sc)
 have HM8:Hid (MB (x6.setCell ⟨w.heap.size+2,5,none⟩ (.slice sa sn sc)) M l):=HM7.out.only hset (by simp;omega)
 clear HM7
 have HM7:=ypV HM8.out
 clear HM8
 have HO7:Hid (Only [M] w (x6.setCell ⟨w.heap.size+2,5,none⟩ (.slice sa sn sc))):=HO6.out.setCell (p:=⟨w.heap.size+2,5,none⟩) (.inr (by show w.heap.size≤w.heap.size+2;omega)) _
 have HP7:=ypV (HP6.out.only hset (fun b hb=>by rw [List.mem_singleton.1 hb];omega))
 have HF7:=ypV (zeZ M (w.heap.size+2) l {zbS b with path:=b.path} (.slice sa sn sc) _ (by omega) HM7.out HU7.out)
 clear HR6 HU6 HO6 HP6 hset f6
 go_wp2_with fail
 clear c5 f65
 generalize x6.setCell ⟨w.heap.size+2,5,none⟩ (.slice sa sn sc)=x7 at*
 refine HF7.out.mono ?_
 rintro e x8 ⟨rfl,hu8,ho8⟩
 have HR8:=HR7.out.only ho8 (by simp;omega)
 have HO8:=ypV (zgR HO7.out (by omega) ho8)
 have HP8:=ypV (HP7.out.only ho8 (fun b hb=>by
  rcases List.mem_cons.1 hb with e|e
  ·rw [e];omega
  ·rw [yqB] at e;omega))
 have HFP:Hid ((finC ({zbS b with path:=b.path}) l).path=b.path):=zgO _ _
 have HVH:Hid ((finC ({zbS b with path:=b.path}) l).host.val= .iface it iv):=by show _=_;rw [zgQ];exact HIV.out
 clear HF7 HR7 HU7 HO7 HP7 HM7 ho8
 generalize finC ({zbS b with path:=b.path}) l=v at*
 obtain ⟨d0,d1,d2,d3,d4,d5,d6,d7,d8,d9,-⟩:=hu8.all
 rw [HVH.out] at d3
 obtain ⟨c0,c1,c2,c3,c4,c5,c6,c7,c8,c9,hrow⟩:=HR8
 have HRW:=ypV hrow
 obtain ⟨k0,k1,k2,k3,k4,k5,k6,k7,k8,k9,kf⟩:=zaQ hrow
 clear hrow hu8
 have HEND:=ypV (zeB HRW.out (.string ⟨v.scheme.toArray⟩) (.string ⟨v.user.toArray⟩) (.string ⟨v.pass.toArray⟩) (.iface it iv) (.int .i64 v.port) (.slice sa sn sc) (.string ⟨v.query.toArray⟩) (.bool v.hasQ) (.string ⟨v.frag.toArray⟩) (.bool v.hasF))
 have HEO:=ypV (zbO (g:=w.heap.size+1) HO8.out (.inr (Nat.le_succ _)) (.string ⟨v.scheme.toArray⟩) (.string ⟨v.user.toArray⟩) (.string ⟨v.pass.toArray⟩) (.iface it iv) (.int .i64 v.port) (.slice sa sn sc) (.string ⟨v.query.toArray⟩) (.bool v.hasQ) (.string ⟨v.frag.toArray⟩) (.bool v.hasF))
 have HEP:=ypV (HP8.out.only (zbO (g:=w.heap.size+1) (F:=[w.heap.size+1]) (Only.refl _ _) (.inl (yqC ..)) (.string ⟨v.scheme.toArray⟩) (.string ⟨v.user.toArray⟩) (.string ⟨v.pass.toArray⟩) (.iface it iv) (.int .i64 v.port) (.slice sa sn sc) (.string ⟨v.query.toArray⟩) (.bool v.hasQ) (.string ⟨v.frag.toArray⟩) (.bool v.hasF)) (fun b hb=>by rw [List.mem_singleton.1 hb];omega))
 go_wp2
 obtain ⟨e0,e1,e2,e3,e4,e5,e6,e7,e8,e9,-⟩:=zaQ HEND.out
 refine bodyPost_ret (v:= .agg #[.string ⟨v.scheme.toArray⟩,.string ⟨v.user.toArray⟩,.string ⟨v.pass.toArray⟩,.iface it iv,.int .i64 v.port,.slice sa sn sc,.string ⟨v.query.toArray⟩,.bool v.hasQ,.string ⟨v.frag.toArray⟩,.bool v.hasF]) (by simp [results,Tryz.results73,go_sem,e0,e1,e2,e3,e4,e5,e6,e7,e8,e9]) rfl ?_
 rw [HRES.out]
 exact ⟨(.slice sa sn sc),by rw [←HVH.out];rfl,by rw [HFP.out];exact zcY HEP.out (by omega),HEO.out⟩
theorem zcL {x y:World} {K:Nat} {a b c:Value} (h:y.heap[K]? =x.heap[K]?) (hx:x.cell? ⟨K,5,none⟩=some a∧x.cell? ⟨K,6,none⟩=some b∧x.cell? ⟨K,7,none⟩=some c):y.cell? ⟨K,5,none⟩=some a∧y.cell? ⟨K,6,none⟩=some b∧y.cell? ⟨K,7,none⟩=some c:=
 ⟨(World.cell?_of_block (a:=⟨K,5,none⟩) h).trans hx.1,(World.cell?_of_block (a:=⟨K,6,none⟩) h).trans hx.2.1,(World.cell?_of_block (a:=⟨K,7,none⟩) h).trans hx.2.2⟩
theorem zqZ (M:Nat) (l:List UInt8) (b:UZ) (bpv:Value) (w:World) (hl:l.length≤100000) (hpl:b.path.length≤1000000) (hbh:b.host≠ .none) (hm:MB w M l) (hpv:PV w bpv b.path) (hmax:MaxVar w) (hd35:l.head? =some 35):
  Calls Tryz.prog 73 #[.pointer (some ⟨M,0,none⟩),.agg (b.cells bpv),.bool false] w (zrY w M (relC b false l)):=by
 have HRES:Hid (relC b false l=ziY {zbS b with path:=b.path,query:=b.query,hasQ:=b.hasQ} l):=by show _=_;unfold relC;rw [if_neg (by decide),if_pos (.inr hd35)]
 have HW:=HRES.out.trans (zmM _ (.inr (.inr hd35))).symm
 clear HRES
 have HRES:=ypV HW
 clear HW
 have hne:l≠[]:=fun g=>by rw [g] at hd35;cases hd35
 obtain ⟨c,r,hlc⟩: ∃c r,l=c::r:=by
  match l,hne with
  |c::r,_=>exact ⟨c,r,rfl⟩
 have hz:(ByteArray.mk l.toArray).size=r.length+1:=by rw [hlc];simp [ByteArray.size]
 have h0:0<(ByteArray.mk l.toArray).size:=by rw [hz];omega
 have hb0:(ByteArray.mk l.toArray)[0]=c:=by subst hlc;rfl
 have hqe:l.isEmpty=false:=by rw [hlc];rfl
 have e35:((c.toNat:Int)==35)=decide (c=35):=zlC (c:=c) (n:=35) (by omega)
 have e63:((c.toNat:Int)==63)=decide (c=63):=zlC (c:=c) (n:=63) (by omega)
 have n35:c=35:=by rw [hlc] at hd35;simpa using hd35
 rw [ypZ n35] at e35
 clear hlc hne hd35 n35 e63
 obtain ⟨ba,bn,bc,rfl⟩:=hpv.shape
 obtain ⟨it,iv,hiv⟩:=HZ.iface hbh
 have HX:=ypV hmax
 have HM:=ypV hm
 have HPV:=ypV hpv
 have hMw:=zaM hm
 obtain ⟨x2,hx2⟩: ∃y,y=((w.alloc (.cells (b.cells (.slice ba bn bc)) 47)).alloc (.cells zbD 47)).alloc (.cells ((zbS b).cells (.slice none 0 0)) 47):=⟨_,rfl⟩
 obtain ⟨hk,hr,hu,hbw,hsz⟩:=znW hx2
 have HK2:=ypV hk
 have HR2:=ypV hr
 have HU2:=ypV hu
 have HO2:Hid (Only [M] w x2):=Only.of_below hbw
 have HM2:=ypV (hm.below hbw)
 have HP2:=ypV (hpv.keep hbw)
 have HX2:=ypV (zaA hmax hbw)
 obtain ⟨-,-,-,-,-,b5,b6,b7,-,-,bf⟩:=hk.all
 have hc2:=HM2.out.cell
 have b3:=hk.all.2.2.2.1
 simp only [UZ.cells,zbS,zcD,zbD] at hx2
 rw [hiv] at hx2 b3
 have HIV:=ypV hiv
 clear hm hmax hpv hk hr hu hbw bf hbh
 have hKs:w.heap.size<x2.heap.size:=by omega
 have HKK:Hid (∀x,Below x2.heap.size x2 x→(x.cell? ⟨w.heap.size,5,none⟩=some (.slice ba bn bc)∧x.cell? ⟨w.heap.size,6,none⟩=some (.string ⟨b.query.toArray⟩)∧x.cell? ⟨w.heap.size,7,none⟩=some (.bool b.hasQ))):=fun x hb=>zcL (hb.block _ hKs) ⟨b5,b6,b7⟩
 have HS1:Hid (∀x,Below x2.heap.size x2 x→ ∀v,((x.setCell ⟨w.heap.size+2,5,none⟩ v).cell? ⟨w.heap.size,5,none⟩=some (.slice ba bn bc)∧(x.setCell ⟨w.heap.size+2,5,none⟩ v).cell? ⟨w.heap.size,6,none⟩=some (.string ⟨b.query.toArray⟩)∧(x.setCell ⟨w.heap.size+2,5,none⟩ v).cell? ⟨w.heap.size,7,none⟩=some (.bool b.hasQ))∧(((x.setCell ⟨w.heap.size+2,5,none⟩ v).setCell ⟨w.heap.size+2,6,none⟩ (.string ⟨b.query.toArray⟩)).cell? ⟨w.heap.size,5,none⟩=some (.slice ba bn bc)∧((x.setCell ⟨w.heap.size+2,5,none⟩ v).setCell ⟨w.heap.size+2,6,none⟩ (.string ⟨b.query.toArray⟩)).cell? ⟨w.heap.size,6,none⟩=some (.string ⟨b.query.toArray⟩)∧((x.setCell ⟨w.heap.size+2,5,none⟩ v).setCell ⟨w.heap.size+2,6,none⟩ (.string ⟨b.query.toArray⟩)).cell? ⟨w.heap.size,7,none⟩=some (.bool b.hasQ))∧((((x.setCell ⟨w.heap.size+2,5,none⟩ v).setCell ⟨w.heap.size+2,6,none⟩ (.string ⟨b.query.toArray⟩)).setCell ⟨w.heap.size+2,7,none⟩ (.bool b.hasQ)).cell? ⟨w.heap.size,5,none⟩=some (.slice ba bn bc)∧(((x.setCell ⟨w.heap.size+2,5,none⟩ v).setCell ⟨w.heap.size+2,6,none⟩ (.string ⟨b.query.toArray⟩)).setCell ⟨w.heap.size+2,7,none⟩ (.bool b.hasQ)).cell? ⟨w.heap.size,6,none⟩=some (.string ⟨b.query.toArray⟩)∧(((x.setCell ⟨w.heap.size+2,5,none⟩ v).setCell ⟨w.heap.size+2,6,none⟩ (.string ⟨b.query.toArray⟩)).setCell ⟨w.heap.size+2,7,none⟩ (.bool b.hasQ)).cell? ⟨w.heap.size,7,none⟩=some (.bool b.hasQ))):=fun x hb v=>by
  have h:=zcL (hb.block _ hKs) ⟨b5,b6,b7⟩
  have k1:=zcL (y:=(x.setCell ⟨w.heap.size+2,5,none⟩ v)) (zbV (by omega) _ _) h
  have k2:=zcL (y:=((x.setCell ⟨w.heap.size+2,5,none⟩ v).setCell ⟨w.heap.size+2,6,none⟩ (.string ⟨b.query.toArray⟩))) (zbV (by omega) _ _) k1
  exact ⟨k1,k2,zcL (zbV (by omega) _ _) k2⟩
 have HST:Hid (∀x,Below x2.heap.size x2 x→ ∀v,x.cell? ⟨w.heap.size+2,5,none⟩=some (.slice none 0 0)∧(x.setCell ⟨w.heap.size+2,5,none⟩ v).cell? ⟨w.heap.size+2,6,none⟩=some (.string ⟨#[]⟩)∧((x.setCell ⟨w.heap.size+2,5,none⟩ v).setCell ⟨w.heap.size+2,6,none⟩ (.string ⟨b.query.toArray⟩)).cell? ⟨w.heap.size+2,7,none⟩=some (.bool false)∧x.frozen? ⟨w.heap.size+2,5,none⟩=false∧(x.setCell ⟨w.heap.size+2,5,none⟩ v).frozen? ⟨w.heap.size+2,6,none⟩=false∧((x.setCell ⟨w.heap.size+2,5,none⟩ v).setCell ⟨w.heap.size+2,6,none⟩ (.string ⟨b.query.toArray⟩)).frozen? ⟨w.heap.size+2,7,none⟩=false):=fun x hb v=>by
  have h:=HU2.out.below hb
  obtain ⟨-,-,-,-,-,q5,-,-,-,-,qf⟩:=h.all
  refine ⟨q5,zaH (zaJ h 5 v) 6,zaH (zaJ (zaJ h 5 v) 6 _) 7,qf 5,zaP (zaJ h 5 v) 6,zaP (zaJ (zaJ h 5 v) 6 _) 7⟩
 have HCL:Hid (∀W,Below x2.heap.size x2 W→Calls Tryz.prog 123 #[(.slice ba bn bc)] W fun e w'=> ∃v',e= .returned v'∧zbA x2.heap.size w' v' b.path∧Below x2.heap.size x2 w'):=fun W hW=>(zhM (.slice ba bn bc) b.path W (HP2.out.keep hW) hpl).mono (fun e w' h=>by
  obtain ⟨v',h1,h2,h3⟩:=h
  exact ⟨v',h1,zcY h2 hW.size,zaF hW h3⟩)
 go_enter Tryz.func73,Tryz.ntmps73
 simp only [UZ.cells]
 rw [hiv]
 clear hiv b3
 rw [hx2] at hc2 b5 b6 b7
 go_wp2_with fail
 rw [←hx2] at hc2 b5 b6 b7 ⊢
 clear hx2
 refine wp_region_held_drew (S:=fun W=>W.cell? ⟨w.heap.size,5,none⟩=some (.slice ba bn bc)∧W.cell? ⟨w.heap.size,6,none⟩=some (.string ⟨b.query.toArray⟩)∧W.cell? ⟨w.heap.size,7,none⟩=some (.bool b.hasQ)) (by kernel_rfl) ?_ (fun hHeld=> ?_)
 ·exact ⟨b5,b6,b7⟩
 refine tkf 0 (some 44) (v:= ?_) rfl (.inl ⟨by rfl,?_⟩) hHeld ?_;rotate_left;·intro w hSw;(try dsimp only at hSw);go_simp;try with_reducible rfl
 try simp only [Act.put,tkfa,tkfb,tkfc]
 refine tkf 1 (some 45) (v:= ?_) rfl (.inl ⟨by rfl,?_⟩) hHeld ?_;rotate_left;·intro w hSw;(try dsimp only at hSw);go_simp;try with_reducible rfl
 try simp only [Act.put,tkfa,tkfb,tkfc]
 refine tkf 3 (some 47) (v:= ?_) rfl (.inl ⟨by rfl,?_⟩) hHeld ?_;rotate_left;·intro w hSw;(try dsimp only at hSw);go_simp;try with_reducible rfl
 try simp only [Act.put,tkfa,tkfb,tkfc]
 refine tkf 4 (some 48) (v:= ?_) rfl (.inl ⟨by rfl,?_⟩) hHeld ?_;rotate_left;·intro w hSw;(try dsimp only at hSw);go_simp;try with_reducible rfl
 try simp only [Act.put,tkfa,tkfb,tkfc]
 refine tkf 5 (some 49) (v:= ?_) rfl (.inl ⟨by rfl,?_⟩) hHeld ?_;rotate_left;·intro w hSw;(try dsimp only at hSw);go_simp;try with_reducible rfl
 try simp only [Act.put,tkfa,tkfb,tkfc]
 refine tkf 6 (some 50) (v:= ?_) rfl (.inl ⟨by rfl,?_⟩) hHeld ?_;rotate_left;·intro w hSw;(try dsimp only at hSw);go_simp;try with_reducible rfl
 try simp only [Act.put,tkfa,tkfb,tkfc]
 refine wpAnyH_ready (rs:=[2]) (by kernel_rfl) (by simp) ?_
 refine AllReadyH.cons (o:=⟨some 46,_,_,_,_,_⟩) rfl (fun K hK=> ?_) AllReadyH.nil
 go_simp
 go_at_call 123
 refine (HCL.out _ (zaG _)).mono ?_
 rintro e x6 ⟨pv,rfl,hp6,hb6⟩
 obtain ⟨sa,sn,sc,rfl⟩:=hp6.pv.shape
 obtain ⟨c5,c6,c7,f5,f6,f7⟩:=HST.out _ hb6 (.slice sa sn sc)
 (try go_wp2_with fail)
 refine hK.out _ _ ?_ (fun hHeld1=> ?_)
 ·exact (HKK.out _ hb6)
 clear hK K
 try simp only [Act.put,tkfa,tkfb,tkfc]
 refine tkf 7 (some 51) (v:= ?_) rfl (.inl ⟨by rfl,?_⟩) hHeld1 ?_;rotate_left;·intro w hSw;(try dsimp only at hSw);go_simp;try with_reducible rfl
 try simp only [Act.put,tkfa,tkfb,tkfc]
 refine wpAnyH_ready (rs:=[8]) (by kernel_rfl) (by simp) ?_
 refine AllReadyH.cons (o:=⟨none,_,_,_,_,_⟩) rfl (fun K hK=> ?_) AllReadyH.nil
 go_simp
 refine hK.out _ _ ?_ (fun hHeld2=> ?_)
 ·exact (HS1.out _ hb6 (.slice sa sn sc)).1
 clear hK K
 try simp only [Act.put,tkfa,tkfb,tkfc]
 refine tkf 9 (some 52) (v:= ?_) rfl (.inl ⟨by rfl,?_⟩) hHeld2 ?_;rotate_left;·intro w hSw;(try dsimp only at hSw);go_simp;try with_reducible rfl
 try simp only [Act.put,tkfa,tkfb,tkfc]
 refine wpAnyH_ready (rs:=[10]) (by kernel_rfl) (by simp) ?_
 refine AllReadyH.cons (o:=⟨none,_,_,_,_,_⟩) rfl (fun K hK=> ?_) AllReadyH.nil
 go_simp
 refine hK.out _ _ ?_ (fun hHeld3=> ?_)
 ·exact (HS1.out _ hb6 (.slice sa sn sc)).2.1
 clear hK K
 try simp only [Act.put,tkfa,tkfb,tkfc]
 refine tkf 11 (some 53) (v:= ?_) rfl (.inl ⟨by rfl,?_⟩) hHeld3 ?_;rotate_left;·intro w hSw;(try dsimp only at hSw);go_simp;try with_reducible rfl
 try simp only [Act.put,tkfa,tkfb,tkfc]
 refine wpAnyH_ready (rs:=[12]) (by kernel_rfl) (by simp) ?_
 refine AllReadyH.cons (o:=⟨none,_,_,_,_,_⟩) rfl (fun K hK=> ?_) AllReadyH.nil
 go_simp
 refine hK.out _ _ ?_ (fun hHeld4=> ?_)
 ·exact (HS1.out _ hb6 (.slice sa sn sc)).2.2
 clear hK K
 try simp only [Act.put,tkfa,tkfb,tkfc]
 refine wpAnyH_done (by kernel_rfl) ?_ _
 have HR7:=ypV (((((HR2.out.below hb6).set (g:=w.heap.size+2) (i:=5) (by omega) (.slice sa sn sc))).set (g:=w.heap.size+2) (i:=6) (by omega) (.string ⟨b.query.toArray⟩)).set (g:=w.heap.size+2) (i:=7) (by omega) (.bool b.hasQ))
 have HU7:Hid (UB (((x6.setCell ⟨w.heap.size+2,5,none⟩ (.slice sa sn sc)).setCell ⟨w.heap.size+2,6,none⟩ (.string ⟨b.query.toArray⟩)).setCell ⟨w.heap.size+2,7,none⟩ (.bool b.hasQ)) (w.heap.size+2) {zbS b with path:=b.path,query:=b.query,hasQ:=b.hasQ} (.slice sa sn sc)):=(HU2.out.below hb6).three (.slice sa sn sc) b.query b.hasQ
 have hset:Only [w.heap.size+2] x6 (((x6.setCell ⟨w.heap.size+2,5,none⟩ (.slice sa sn sc)).setCell ⟨w.heap.size+2,6,none⟩ (.string ⟨b.query.toArray⟩)).setCell ⟨w.heap.size+2,7,none⟩ (.bool b.hasQ)):=(((Only.refl _ _).setCell (p:=⟨w.heap.size+2,5,none⟩) (.inl (yqC ..)) _).setCell (p:=⟨w.heap.size+2,6,none⟩) (.inl (yqC ..)) _).setCell (p:=⟨w.heap.size+2,7,none⟩) (.inl (yqC ..)) _
 have HM7:=ypV ((HM2.out.below hb6).only hset (by simp;omega))
 have HO7:=ypV ((HO2.out.then_below hb6).trans hset (fun x hx=>by rw [List.mem_singleton.1 hx];exact .inr (by omega)))
 have HP7:=ypV (hp6.only hset (fun b hb=>by rw [List.mem_singleton.1 hb];omega))
 have HF7:=ypV (zeZ M (w.heap.size+2) l {zbS b with path:=b.path,query:=b.query,hasQ:=b.hasQ} (.slice sa sn sc) _ (by omega) HM7.out HU7.out)
 clear HR2 HU2 HO2 HM2 HP2 HX2 HK2 HKK HS1 HST HCL hp6 b5 b6 b7 hc2 c5 c6 c7 f5 f6 f7 hset
 generalize ((x6.setCell ⟨w.heap.size+2,5,none⟩ (.slice sa sn sc)).setCell ⟨w.heap.size+2,6,none⟩ (.string ⟨b.query.toArray⟩)).setCell ⟨w.heap.size+2,7,none⟩ (.bool b.hasQ)=x7 at*
 go_wp2_with fail
 refine HF7.out.mono ?_
 rintro e x8 ⟨rfl,hu8,ho8⟩
 have HR8:=HR7.out.only ho8 (by simp;omega)
 have HO8:=ypV (zgR HO7.out (by omega) ho8)
 have HP8:=ypV (HP7.out.only ho8 (fun b hb=>by
  rcases List.mem_cons.1 hb with e|e
  ·rw [e];omega
  ·rw [yqB] at e;omega))
 have HFP:Hid ((finC ({zbS b with path:=b.path,query:=b.query,hasQ:=b.hasQ}) l).path=b.path):=zgO _ _
 have HVH:Hid ((finC ({zbS b with path:=b.path,query:=b.query,hasQ:=b.hasQ}) l).host.val= .iface it iv):=by show _=_;rw [zgQ];exact HIV.out
 clear HF7 HR7 HU7 HO7 HP7 HM7 ho8
 generalize finC ({zbS b with path:=b.path,query:=b.query,hasQ:=b.hasQ}) l=v at*
 obtain ⟨d0,d1,d2,d3,d4,d5,d6,d7,d8,d9,-⟩:=hu8.all
 rw [HVH.out] at d3
 obtain ⟨c0,c1,c2,c3,c4,c5,c6,c7,c8,c9,hrow⟩:=HR8
 have HRW:=ypV hrow
 obtain ⟨k0,k1,k2,k3,k4,k5,k6,k7,k8,k9,kf⟩:=zaQ hrow
 clear hrow hu8
 have HEND:=ypV (zeB HRW.out (.string ⟨v.scheme.toArray⟩) (.string ⟨v.user.toArray⟩) (.string ⟨v.pass.toArray⟩) (.iface it iv) (.int .i64 v.port) (.slice sa sn sc) (.string ⟨v.query.toArray⟩) (.bool v.hasQ) (.string ⟨v.frag.toArray⟩) (.bool v.hasF))
 have HEO:=ypV (zbO (g:=w.heap.size+1) HO8.out (.inr (Nat.le_succ _)) (.string ⟨v.scheme.toArray⟩) (.string ⟨v.user.toArray⟩) (.string ⟨v.pass.toArray⟩) (.iface it iv) (.int .i64 v.port) (.slice sa sn sc) (.string ⟨v.query.toArray⟩) (.bool v.hasQ) (.string ⟨v.frag.toArray⟩) (.bool v.hasF))
 have HEP:=ypV (HP8.out.only (zbO (g:=w.heap.size+1) (F:=[w.heap.size+1]) (Only.refl _ _) (.inl (yqC ..)) (.string ⟨v.scheme.toArray⟩) (.string ⟨v.user.toArray⟩) (.string ⟨v.pass.toArray⟩) (.iface it iv) (.int .i64 v.port) (.slice sa sn sc) (.string ⟨v.query.toArray⟩) (.bool v.hasQ) (.string ⟨v.frag.toArray⟩) (.bool v.hasF)) (fun b hb=>by rw [List.mem_singleton.1 hb];omega))
 go_wp2
 obtain ⟨e0,e1,e2,e3,e4,e5,e6,e7,e8,e9,-⟩:=zaQ HEND.out
 refine bodyPost_ret (v:= .agg #[.string ⟨v.scheme.toArray⟩,.string ⟨v.user.toArray⟩,.string ⟨v.pass.toArray⟩,.iface it iv,.int .i64 v.port,.slice sa sn sc,.string ⟨v.query.toArray⟩,.bool v.hasQ,.string ⟨v.frag.toArray⟩,.bool v.hasF]) (by simp [results,Tryz.results73,go_sem,e0,e1,e2,e3,e4,e5,e6,e7,e8,e9]) rfl ?_
 rw [HRES.out]
 exact ⟨(.slice sa sn sc),by rw [←HVH.out];rfl,by rw [HFP.out];exact zcY HEP.out (by omega),HEO.out⟩
theorem ztM (M:Nat) (l:List UInt8) (b:UZ) (bpv:Value) (w:World) (hl:l.length≤100000) (hpl:b.path.length≤1000000) (hbh:b.host≠ .none) (hm:MB w M l) (hpv:PV w bpv b.path) (hmax:MaxVar w) (hn:l=[]):
  Calls Tryz.prog 73 #[.pointer (some ⟨M,0,none⟩),.agg (b.cells bpv),.bool false] w (zrY w M (relC b false l)):=by
 have HRES:Hid (relC b false l=ziY {zbS b with path:=b.path,query:=b.query,hasQ:=b.hasQ} l):=by show _=_;unfold relC;rw [if_neg (by decide),if_pos (.inl hn)]
 have HW:=HRES.out.trans (zmM _ (.inl hn)).symm
 clear HRES
 have HRES:=ypV HW
 clear HW
 have hqe:l.isEmpty=true:=by rw [hn];rfl
 clear hn
 obtain ⟨ba,bn,bc,rfl⟩:=hpv.shape
 obtain ⟨it,iv,hiv⟩:=HZ.iface hbh
 have HX:=ypV hmax
 have HM:=ypV hm
 have HPV:=ypV hpv
 have hMw:=zaM hm
 obtain ⟨x2,hx2⟩: ∃y,y=((w.alloc (.cells (b.cells (.slice ba bn bc)) 47)).alloc (.cells zbD 47)).alloc (.cells ((zbS b).cells (.slice none 0 0)) 47):=⟨_,rfl⟩
 obtain ⟨hk,hr,hu,hbw,hsz⟩:=znW hx2
 have HK2:=ypV hk
 have HR2:=ypV hr
 have HU2:=ypV hu
 have HO2:Hid (Only [M] w x2):=Only.of_below hbw
 have HM2:=ypV (hm.below hbw)
 have HP2:=ypV (hpv.keep hbw)
 have HX2:=ypV (zaA hmax hbw)
 obtain ⟨-,-,-,-,-,b5,b6,b7,-,-,bf⟩:=hk.all
 have hc2:=HM2.out.cell
 have b3:=hk.all.2.2.2.1
 simp only [UZ.cells,zbS,zcD,zbD] at hx2
 rw [hiv] at hx2 b3
 have HIV:=ypV hiv
 clear hm hmax hpv hk hr hu hbw bf hbh
 have hKs:w.heap.size<x2.heap.size:=by omega
 have HKK:Hid (∀x,Below x2.heap.size x2 x→(x.cell? ⟨w.heap.size,5,none⟩=some (.slice ba bn bc)∧x.cell? ⟨w.heap.size,6,none⟩=some (.string ⟨b.query.toArray⟩)∧x.cell? ⟨w.heap.size,7,none⟩=some (.bool b.hasQ))):=fun x hb=>zcL (hb.block _ hKs) ⟨b5,b6,b7⟩
 have HS1:Hid (∀x,Below x2.heap.size x2 x→ ∀v,((x.setCell ⟨w.heap.size+2,5,none⟩ v).cell? ⟨w.heap.size,5,none⟩=some (.slice ba bn bc)∧(x.setCell ⟨w.heap.size+2,5,none⟩ v).cell? ⟨w.heap.size,6,none⟩=some (.string ⟨b.query.toArray⟩)∧(x.setCell ⟨w.heap.size+2,5,none⟩ v).cell? ⟨w.heap.size,7,none⟩=some (.bool b.hasQ))∧(((x.setCell ⟨w.heap.size+2,5,none⟩ v).setCell ⟨w.heap.size+2,6,none⟩ (.string ⟨b.query.toArray⟩)).cell? ⟨w.heap.size,5,none⟩=some (.slice ba bn bc)∧((x.setCell ⟨w.heap.size+2,5,none⟩ v).setCell ⟨w.heap.size+2,6,none⟩ (.string ⟨b.query.toArray⟩)).cell? ⟨w.heap.size,6,none⟩=some (.string ⟨b.query.toArray⟩)∧((x.setCell ⟨w.heap.size+2,5,none⟩ v).setCell ⟨w.heap.size+2,6,none⟩ (.string ⟨b.query.toArray⟩)).cell? ⟨w.heap.size,7,none⟩=some (.bool b.hasQ))∧((((x.setCell ⟨w.heap.size+2,5,none⟩ v).setCell ⟨w.heap.size+2,6,none⟩ (.string ⟨b.query.toArray⟩)).setCell ⟨w.heap.size+2,7,none⟩ (.bool b.hasQ)).cell? ⟨w.heap.size,5,none⟩=some (.slice ba bn bc)∧(((x.setCell ⟨w.heap.size+2,5,none⟩ v).setCell ⟨w.heap.size+2,6,none⟩ (.string ⟨b.query.toArray⟩)).setCell ⟨w.heap.size+2,7,none⟩ (.bool b.hasQ)).cell? ⟨w.heap.size,6,none⟩=some (.string ⟨b.query.toArray⟩)∧(((x.setCell ⟨w.heap.size+2,5,none⟩ v).setCell ⟨w.heap.size+2,6,none⟩ (.string ⟨b.query.toArray⟩)).setCell ⟨w.heap.size+2,7,none⟩ (.bool b.hasQ)).cell? ⟨w.heap.size,7,none⟩=some (.bool b.hasQ))):=fun x hb v=>by
  have h:=zcL (hb.block _ hKs) ⟨b5,b6,b7⟩
  have k1:=zcL (y:=(x.setCell ⟨w.heap.size+2,5,none⟩ v)) (zbV (by omega) _ _) h
  have k2:=zcL (y:=((x.setCell ⟨w.heap.size+2,5,none⟩ v).setCell ⟨w.heap.size+2,6,none⟩ (.string ⟨b.query.toArray⟩))) (zbV (by omega) _ _) k1
  exact ⟨k1,k2,zcL (zbV (by omega) _ _) k2⟩
 have HST:Hid (∀x,Below x2.heap.size x2 x→ ∀v,x.cell? ⟨w.heap.size+2,5,none⟩=some (.slice none 0 0)∧(x.setCell ⟨w.heap.size+2,5,none⟩ v).cell? ⟨w.heap.size+2,6,none⟩=some (.string ⟨#[]⟩)∧((x.setCell ⟨w.heap.size+2,5,none⟩ v).setCell ⟨w.heap.size+2,6,none⟩ (.string ⟨b.query.toArray⟩)).cell? ⟨w.heap.size+2,7,none⟩=some (.bool false)∧x.frozen? ⟨w.heap.size+2,5,none⟩=false∧(x.setCell ⟨w.heap.size+2,5,none⟩ v).frozen? ⟨w.heap.size+2,6,none⟩=false∧((x.setCell ⟨w.heap.size+2,5,none⟩ v).setCell ⟨w.heap.size+2,6,none⟩ (.string ⟨b.query.toArray⟩)).frozen? ⟨w.heap.size+2,7,none⟩=false):=fun x hb v=>by
  have h:=HU2.out.below hb
  obtain ⟨-,-,-,-,-,q5,-,-,-,-,qf⟩:=h.all
  refine ⟨q5,zaH (zaJ h 5 v) 6,zaH (zaJ (zaJ h 5 v) 6 _) 7,qf 5,zaP (zaJ h 5 v) 6,zaP (zaJ (zaJ h 5 v) 6 _) 7⟩
 have HCL:Hid (∀W,Below x2.heap.size x2 W→Calls Tryz.prog 123 #[(.slice ba bn bc)] W fun e w'=> ∃v',e= .returned v'∧zbA x2.heap.size w' v' b.path∧Below x2.heap.size x2 w'):=fun W hW=>(zhM (.slice ba bn bc) b.path W (HP2.out.keep hW) hpl).mono (fun e w' h=>by
  obtain ⟨v',h1,h2,h3⟩:=h
  exact ⟨v',h1,zcY h2 hW.size,zaF hW h3⟩)
 go_enter Tryz.func73,Tryz.ntmps73
 simp only [UZ.cells]
 rw [hiv]
 clear hiv b3
 rw [hx2] at hc2 b5 b6 b7
 go_wp2_with fail
 rw [←hx2] at hc2 b5 b6 b7 ⊢
 clear hx2
 refine wp_region_held_drew (S:=fun W=>W.cell? ⟨w.heap.size,5,none⟩=some (.slice ba bn bc)∧W.cell? ⟨w.heap.size,6,none⟩=some (.string ⟨b.query.toArray⟩)∧W.cell? ⟨w.heap.size,7,none⟩=some (.bool b.hasQ)) (by kernel_rfl) ?_ (fun hHeld=> ?_)
 ·exact ⟨b5,b6,b7⟩
 refine tkf 0 (some 44) (v:= ?_) rfl (.inl ⟨by rfl,?_⟩) hHeld ?_;rotate_left;·intro w hSw;(try dsimp only at hSw);go_simp;try with_reducible rfl
 try simp only [Act.put,tkfa,tkfb,tkfc]
 refine tkf 1 (some 45) (v:= ?_) rfl (.inl ⟨by rfl,?_⟩) hHeld ?_;rotate_left;·intro w hSw;(try dsimp only at hSw);go_simp;try with_reducible rfl
 try simp only [Act.put,tkfa,tkfb,tkfc]
 refine tkf 3 (some 47) (v:= ?_) rfl (.inl ⟨by rfl,?_⟩) hHeld ?_;rotate_left;·intro w hSw;(try dsimp only at hSw);go_simp;try with_reducible rfl
 try simp only [Act.put,tkfa,tkfb,tkfc]
 refine tkf 4 (some 48) (v:= ?_) rfl (.inl ⟨by rfl,?_⟩) hHeld ?_;rotate_left;·intro w hSw;(try dsimp only at hSw);go_simp;try with_reducible rfl
 try simp only [Act.put,tkfa,tkfb,tkfc]
 refine tkf 5 (some 49) (v:= ?_) rfl (.inl ⟨by rfl,?_⟩) hHeld ?_;rotate_left;·intro w hSw;(try dsimp only at hSw);go_simp;try with_reducible rfl
 try simp only [Act.put,tkfa,tkfb,tkfc]
 refine tkf 6 (some 50) (v:= ?_) rfl (.inl ⟨by rfl,?_⟩) hHeld ?_;rotate_left;·intro w hSw;(try dsimp only at hSw);go_simp;try with_reducible rfl
 try simp only [Act.put,tkfa,tkfb,tkfc]
 refine wpAnyH_ready (rs:=[2]) (by kernel_rfl) (by simp) ?_
 refine AllReadyH.cons (o:=⟨some 46,_,_,_,_,_⟩) rfl (fun K hK=> ?_) AllReadyH.nil
 go_simp
 go_at_call 123
 refine (HCL.out _ (zaG _)).mono ?_
 rintro e x6 ⟨pv,rfl,hp6,hb6⟩
 obtain ⟨sa,sn,sc,rfl⟩:=hp6.pv.shape
 obtain ⟨c5,c6,c7,f5,f6,f7⟩:=HST.out _ hb6 (.slice sa sn sc)
 (try go_wp2_with fail)
 refine hK.out _ _ ?_ (fun hHeld1=> ?_)
 ·exact (HKK.out _ hb6)
 clear hK K
 try simp only [Act.put,tkfa,tkfb,tkfc]
 refine tkf 7 (some 51) (v:= ?_) rfl (.inl ⟨by rfl,?_⟩) hHeld1 ?_;rotate_left;·intro w hSw;(try dsimp only at hSw);go_simp;try with_reducible rfl
 try simp only [Act.put,tkfa,tkfb,tkfc]
 refine wpAnyH_ready (rs:=[8]) (by kernel_rfl) (by simp) ?_
 refine AllReadyH.cons (o:=⟨none,_,_,_,_,_⟩) rfl (fun K hK=> ?_) AllReadyH.nil
 go_simp
 refine hK.out _ _ ?_ (fun hHeld2=> ?_)
 ·exact (HS1.out _ hb6 (.slice sa sn sc)).1
 clear hK K
 try simp only [Act.put,tkfa,tkfb,tkfc]
 refine tkf 9 (some 52) (v:= ?_) rfl (.inl ⟨by rfl,?_⟩) hHeld2 ?_;rotate_left;·intro w hSw;(try dsimp only at hSw);go_simp;try with_reducible rfl
 try simp only [Act.put,tkfa,tkfb,tkfc]
 refine wpAnyH_ready (rs:=[10]) (by kernel_rfl) (by simp) ?_
 refine AllReadyH.cons (o:=⟨none,_,_,_,_,_⟩) rfl (fun K hK=> ?_) AllReadyH.nil
 go_simp
 refine hK.out _ _ ?_ (fun hHeld3=> ?_)
 ·exact (HS1.out _ hb6 (.slice sa sn sc)).2.1
 clear hK K
 try simp only [Act.put,tkfa,tkfb,tkfc]
 refine tkf 11 (some 53) (v:= ?_) rfl (.inl ⟨by rfl,?_⟩) hHeld3 ?_;rotate_left;·intro w hSw;(try dsimp only at hSw);go_simp;try with_reducible rfl
 try simp only [Act.put,tkfa,tkfb,tkfc]
 refine wpAnyH_ready (rs:=[12]) (by kernel_rfl) (by simp) ?_
 refine AllReadyH.cons (o:=⟨none,_,_,_,_,_⟩) rfl (fun K hK=> ?_) AllReadyH.nil
 go_simp
 refine hK.out _ _ ?_ (fun hHeld4=> ?_)
 ·exact (HS1.out _ hb6 (.slice sa sn sc)).2.2
 clear hK K
 try simp only [Act.put,tkfa,tkfb,tkfc]
 refine wpAnyH_done (by kernel_rfl) ?_ _
 have HR7:=ypV (((((HR2.out.below hb6).set (g:=w.heap.size+2) (i:=5) (by omega) (.slice sa sn sc))).set (g:=w.heap.size+2) (i:=6) (by omega) (.string ⟨b.query.toArray⟩)).set (g:=w.heap.size+2) (i:=7) (by omega) (.bool b.hasQ))
 have HU7:Hid (UB (((x6.setCell ⟨w.heap.size+2,5,none⟩ (.slice sa sn sc)).setCell ⟨w.heap.size+2,6,none⟩ (.string ⟨b.query.toArray⟩)).setCell ⟨w.heap.size+2,7,none⟩ (.bool b.hasQ)) (w.heap.size+2) {zbS b with path:=b.path,query:=b.query,hasQ:=b.hasQ} (.slice sa sn sc)):=(HU2.out.below hb6).three (.slice sa sn sc) b.query b.hasQ
 have hset:Only [w.heap.size+2] x6 (((x6.setCell ⟨w.heap.size+2,5,none⟩ (.slice sa sn sc)).setCell ⟨w.heap.size+2,6,none⟩ (.string ⟨b.query.toArray⟩)).setCell ⟨w.heap.size+2,7,none⟩ (.bool b.hasQ)):=(((Only.refl _ _).setCell (p:=⟨w.heap.size+2,5,none⟩) (.inl (yqC ..)) _).setCell (p:=⟨w.heap.size+2,6,none⟩) (.inl (yqC ..)) _).setCell (p:=⟨w.heap.size+2,7,none⟩) (.inl (yqC ..)) _
 have HM7:=ypV ((HM2.out.below hb6).only hset (by simp;omega))
 have HO7:=ypV ((HO2.out.then_below hb6).trans hset (fun x hx=>by rw [List.mem_singleton.1 hx];exact .inr (by omega)))
 have HP7:=ypV (hp6.only hset (fun b hb=>by rw [List.mem_singleton.1 hb];omega))
 have HF7:=ypV (zeZ M (w.heap.size+2) l {zbS b with path:=b.path,query:=b.query,hasQ:=b.hasQ} (.slice sa sn sc) _ (by omega) HM7.out HU7.out)
 clear HR2 HU2 HO2 HM2 HP2 HX2 HK2 HKK HS1 HST HCL hp6 b5 b6 b7 hc2 c5 c6 c7 f5 f6 f7 hset
 generalize ((x6.setCell ⟨w.heap.size+2,5,none⟩ (.slice sa sn sc)).setCell ⟨w.heap.size+2,6,none⟩ (.string ⟨b.query.toArray⟩)).setCell ⟨w.heap.size+2,7,none⟩ (.bool b.hasQ)=x7 at*
 go_wp2_with fail
 refine HF7.out.mono ?_
 rintro e x8 ⟨rfl,hu8,ho8⟩
 have HR8:=HR7.out.only ho8 (by simp;omega)
 have HO8:=ypV (zgR HO7.out (by omega) ho8)
 have HP8:=ypV (HP7.out.only ho8 (fun b hb=>by
  rcases List.mem_cons.1 hb with e|e
  ·rw [e];omega
  ·rw [yqB] at e;omega))
 have HFP:Hid ((finC ({zbS b with path:=b.path,query:=b.query,hasQ:=b.hasQ}) l).path=b.path):=zgO _ _
 have HVH:Hid ((finC ({zbS b with path:=b.path,query:=b.query,hasQ:=b.hasQ}) l).host.val= .iface it iv):=by show _=_;rw [zgQ];exact HIV.out
 clear HF7 HR7 HU7 HO7 HP7 HM7 ho8
 generalize finC ({zbS b with path:=b.path,query:=b.query,hasQ:=b.hasQ}) l=v at*
 obtain ⟨d0,d1,d2,d3,d4,d5,d6,d7,d8,d9,-⟩:=hu8.all
 rw [HVH.out] at d3
 obtain ⟨c0,c1,c2,c3,c4,c5,c6,c7,c8,c9,hrow⟩:=HR8
 have HRW:=ypV hrow
 obtain ⟨k0,k1,k2,k3,k4,k5,k6,k7,k8,k9,kf⟩:=zaQ hrow
 clear hrow hu8
 have HEND:=ypV (zeB HRW.out (.string ⟨v.scheme.toArray⟩) (.string ⟨v.user.toArray⟩) (.string ⟨v.pass.toArray⟩) (.iface it iv) (.int .i64 v.port) (.slice sa sn sc) (.string ⟨v.query.toArray⟩) (.bool v.hasQ) (.string ⟨v.frag.toArray⟩) (.bool v.hasF))
 have HEO:=ypV (zbO (g:=w.heap.size+1) HO8.out (.inr (Nat.le_succ _)) (.string ⟨v.scheme.toArray⟩) (.string ⟨v.user.toArray⟩) (.string ⟨v.pass.toArray⟩) (.iface it iv) (.int .i64 v.port) (.slice sa sn sc) (.string ⟨v.query.toArray⟩) (.bool v.hasQ) (.string ⟨v.frag.toArray⟩) (.bool v.hasF))
 have HEP:=ypV (HP8.out.only (zbO (g:=w.heap.size+1) (F:=[w.heap.size+1]) (Only.refl _ _) (.inl (yqC ..)) (.string ⟨v.scheme.toArray⟩) (.string ⟨v.user.toArray⟩) (.string ⟨v.pass.toArray⟩) (.iface it iv) (.int .i64 v.port) (.slice sa sn sc) (.string ⟨v.query.toArray⟩) (.bool v.hasQ) (.string ⟨v.frag.toArray⟩) (.bool v.hasF)) (fun b hb=>by rw [List.mem_singleton.1 hb];omega))
 go_wp2
 obtain ⟨e0,e1,e2,e3,e4,e5,e6,e7,e8,e9,-⟩:=zaQ HEND.out
 refine bodyPost_ret (v:= .agg #[.string ⟨v.scheme.toArray⟩,.string ⟨v.user.toArray⟩,.string ⟨v.pass.toArray⟩,.iface it iv,.int .i64 v.port,.slice sa sn sc,.string ⟨v.query.toArray⟩,.bool v.hasQ,.string ⟨v.frag.toArray⟩,.bool v.hasF]) (by simp [results,Tryz.results73,go_sem,e0,e1,e2,e3,e4,e5,e6,e7,e8,e9]) rfl ?_
 rw [HRES.out]
 exact ⟨(.slice sa sn sc),by rw [←HVH.out];rfl,by rw [HFP.out];exact zcY HEP.out (by omega),HEO.out⟩
theorem ztD (M:Nat) (l:List UInt8) (b:UZ) (bpv:Value) (rooted:Bool) (w:World) (hl:l.length≤100000) (hpl:b.path.length≤1000000) (hbh:b.host≠ .none) (hm:MB w M l) (hpv:PV w bpv b.path) (hmax:MaxVar w):
  Calls Tryz.prog 73 #[.pointer (some ⟨M,0,none⟩),.agg (b.cells bpv),.bool rooted] w (zrY w M (relC b rooted l)):=by
 cases rooted with
 |true=>exact zoR M l b bpv w hl hpl hbh hm hpv hmax
 |false=>
  by_cases h0:l=[]
  ·exact ztM M l b bpv w hl hpl hbh hm hpv hmax h0
  by_cases h35:l.head? =some 35
  ·exact zqZ M l b bpv w hl hpl hbh hm hpv hmax h35
  by_cases h63:l.head? =some 63
  ·exact zoY M l b bpv w hl hpl hbh hm hpv hmax h63
  exact zrU M l b bpv w hl hpl hbh hm hpv hmax h0 h35 h63
def RetP (w:World) (x:UZ×Int) (e:Ending) (w':World):Prop:= ∃pv,e= .returned (.tuple #[.agg (x.1.cells pv),.int .i64 x.2])∧zbA w.heap.size w' pv x.1.path∧Below w.heap.size w w'
theorem HZ.shape (h:HZ):h.val= .nilIface∨ ∃t v,h.val= .iface t v:=by
 cases h with
 |none=>exact .inl rfl
 |name l=>exact .inr ⟨_,_,rfl⟩
 |addr a=>cases a<;>exact .inr ⟨_,_,rfl⟩
theorem z9V {n:List UInt8} (h:ownZ n≠0):ownZ n=80∨ownZ n=443:=by
 unfold ownZ at*
 split at h
 ·exact .inl (by rename_i g;rw [if_pos g])
 ·rename_i g
  rw [if_neg g] at*
  split at h
  ·rename_i g2;exact .inr (by rw [if_pos g2])
  ·exact absurd rfl h
theorem zqM {t:List UInt8} {b:Option UZ} (hb: ∀u,b=some u→u.scheme=zjL∨u.scheme=zfH) (h: ¬4096<t.length):zbF t b=zxH (zeQ (zdU t)) b:=by
 unfold zbF
 rw [if_neg h,z8L _ b hb]
theorem zqU {t:List UInt8} {b:Option UZ} (h:4096<t.length):zbF t b=(zcD,3):=if_pos h
theorem zkR (t:List UInt8):(zeQ (zdU t)).length≤t.length:=by
 have h1:=yfI (zdU t)
 have h2:=zsO t
 have h3:=(List.dropWhile_suffix (l:=t) zcO).length_le
 omega
theorem zrM {s:List UInt8} {b:Option UZ} (h:ownZ (zfN s b)=0):zxH s b=(zcD,5):=if_pos h
theorem yiN {s:List UInt8} (h: ¬ownZ (zfN s none)=0):zxH s none=zeR (zfN s none) (zeO (zfD s)):=if_neg h
theorem zsU {s:List UInt8} {b:UZ} (h: ¬ownZ (zfN s (some b))=0) (h2:b.scheme≠zfN s (some b)∨1<zbE (zfD s)):zxH s (some b)=zeR (zfN s (some b)) (zeO (zfD s)):=(if_neg h).trans (if_pos h2)
theorem z2L {s:List UInt8} {b:UZ} (h: ¬ownZ (zfN s (some b))=0) (h2: ¬(b.scheme≠zfN s (some b)∨1<zbE (zfD s))):zxH s (some b)=(relC b (decide (zbE (zfD s)≠0)) (zeO (zfD s)),0):=(if_neg h).trans (if_neg h2)
theorem zwS {s n r:List UInt8} {b:Option UZ} (h:schW s=some (n,r)):zfN s b=n∧zfD s=r:=by
 unfold zfN zfD;rw [h];exact ⟨rfl,rfl⟩
theorem zuE {s:List UInt8} {b:UZ} (h:schW s=none):zfN s (some b)=b.scheme∧zfN s none=[]∧zfD s=s:=by
 unfold zfN zfD;rw [h];exact ⟨rfl,rfl,rfl⟩
theorem zkD (l:List UInt8):(zeO l).length≤l.length:=(List.dropWhile_suffix (l:=l) zcJ).length_le
theorem z2R (l:List UInt8):zbE l≤l.length:=zsP _ l ()
theorem zsC {s n r:List UInt8} (h:schW s=some (n,r)):r.length≤s.length:=by
 rw [zvP] at h
 split at h
 ·have:=(Prod.mk.inj (Option.some.inj h)).2
  rw [←this,List.length_drop];omega
 ·cases h
theorem yhK (s:List UInt8):(zfD s).length≤s.length:=by
 unfold zfD
 cases h:schW s with
 |none=>exact ypX _
 |some p=>
  obtain ⟨n,r⟩:=p
  exact zsC h
def RelAt (t:List UInt8):Prop:=t.length≤4096→ ∀(b:UZ) (bpv:Value) (M:Nat) (W:World),b.host≠ .none→b.path.length≤1000000→MB W M (zeO (zfD (zeQ (zdU t))))→PV W bpv b.path→MaxVar W→
 Calls Tryz.prog 73 #[.pointer (some ⟨M,0,none⟩),.agg (b.cells bpv),.bool (decide (zbE (zfD (zeQ (zdU t)))≠0))] W (zrY W M (relC b (decide (zbE (zfD (zeQ (zdU t)))≠0)) (zeO (zfD (zeQ (zdU t))))))
theorem zvL (t:List UInt8):RelAt t:=fun h b bpv M W h1 h2 h3 h4 h5=>ztD M _ b bpv _ W (by have:=zkD (zfD (zeQ (zdU t)));have:=yhK (zeQ (zdU t));have:=zkR t;omega) h2 h1 h3 h4 h5
theorem zcB {w x:World} {pv:Value} {u:UZ} {B:Nat} (hb:Below w.heap.size w x) (hp:zbA B x pv u.path) (hB:w.heap.size<B) (c0 c1 c2 c3 c4 c5 c6 c7 c8 c9:Value):
  zbA w.heap.size ((((((((((x.setCell ⟨w.heap.size,0,none⟩ c0).setCell ⟨w.heap.size,1,none⟩ c1).setCell ⟨w.heap.size,2,none⟩ c2).setCell ⟨w.heap.size,3,none⟩ c3).setCell ⟨w.heap.size,4,none⟩ c4).setCell ⟨w.heap.size,5,none⟩ c5).setCell ⟨w.heap.size,6,none⟩ c6).setCell ⟨w.heap.size,7,none⟩ c7).setCell ⟨w.heap.size,8,none⟩ c8).setCell ⟨w.heap.size,9,none⟩ c9) pv u.path∧
  Below w.heap.size w ((((((((((x.setCell ⟨w.heap.size,0,none⟩ c0).setCell ⟨w.heap.size,1,none⟩ c1).setCell ⟨w.heap.size,2,none⟩ c2).setCell ⟨w.heap.size,3,none⟩ c3).setCell ⟨w.heap.size,4,none⟩ c4).setCell ⟨w.heap.size,5,none⟩ c5).setCell ⟨w.heap.size,6,none⟩ c6).setCell ⟨w.heap.size,7,none⟩ c7).setCell ⟨w.heap.size,8,none⟩ c8).setCell ⟨w.heap.size,9,none⟩ c9):=
 ⟨zcY (hp.only (zbO (g:=w.heap.size) (F:=[w.heap.size]) (Only.refl _ _) (.inl (yqC ..)) _ _ _ _ _ _ _ _ _ _) (fun b hb=>by rw [List.mem_singleton.1 hb];exact hB)) (Nat.le_of_lt hB),zdE hb (ypX _) _ _ _ _ _ _ _ _ _ _⟩
theorem zxV (t:List UInt8) (w:World) (hmax:MaxVar w):
  Calls Tryz.prog 27 #[.string ⟨t.toArray⟩,.pointer none] w (RetP w (zbF t none)):=by
 obtain ⟨x0,hx0⟩: ∃y,y=w.alloc (.cells zbD 47):=⟨_,rfl⟩
 have hb0:Below w.heap.size w x0:=by rw [hx0];exact zaY w _
 have HR0:Hid (RB x0 w.heap.size):=by show RB _ _;rw [hx0];exact RB.new w
 have hz:=zaB t
 unfold zbD at hx0
 have HX:=ypV (fun x (h:Below w.heap.size w x)=>zaA hmax h)
 by_cases hbig:4096<t.length
 ·have HF:=ypV (zqU (b:=none) hbig)
  have hd:decide (4096<(t.length:Int))=true:=ypZ (by omega)
  have hbb:Below w.heap.size w (w.alloc (.cells zbD 47)):=zaY w _
  unfold zbD at hbb
  clear HR0 hb0 hx0 HX
  go_enter Tryz.func27,Tryz.ntmps27
  go_wp2
  refine bodyPost_ret (v:= .tuple #[.agg zbD,.int .i64 3]) (by simp [results,Tryz.results27,go_sem,zbD]) rfl ?_
  rw [HF.out]
  exact ⟨.slice none 0 0,rfl,zbA.nil _ _,hbb⟩
 have hd:decide (4096<(t.length:Int))=false:=ypY (by omega)
 have HF:=ypV (zqM (b:=none) (fun u e=>by cases e) hbig)
 have h4:t.length≤4096:=by omega
 have hl:t.length≤1000000:=by omega
 have hcl:=zkR t
 have htl:(zdU t).length≤t.length:=by
  have h2:=zsO t
  have h3:=(List.dropWhile_suffix (l:=t) zcO).length_le
  omega
 have HT:=ypV (fun W=>z1F ⟨t.toArray⟩ W (by rw [zaB];omega))
 rw [zaL] at HT
 have HD:=ypV (fun W=>zzU ⟨(zdU t).toArray⟩ W (by rw [zaB];omega))
 rw [zaL] at HD
 generalize zeQ (zdU t)=s at*
 generalize zdU t=t1 at*
 have HB0:=ypV hb0
 clear hmax hb0 hbig
 go_enter Tryz.func27,Tryz.ntmps27
 go_wp2_with fail
 rw [←hx0]
 clear hx0
 refine (HT.out _).mono ?_
 rintro e w' ⟨rfl,rfl⟩
 go_wp2_with fail
 refine (HD.out _).mono ?_
 rintro e x1 ⟨rfl,hb1⟩
 have HB1:=ypV (zaF HB0.out hb1)
 have HR1:=ypV (HR0.out.below hb1)
 clear hb1 HB0 HR0 HT HD hz hd
 obtain ⟨x2,hx2⟩: ∃y,y=x1.alloc (.cells #[.string ⟨s.toArray⟩] 85):=⟨_,rfl⟩
 have hb2:Below x1.heap.size x1 x2:=by rw [hx2];exact (yqA _ _).alloc (ypX _) _
 have HB2:=ypV (zaF HB1.out hb2)
 have HR2:=ypV (HR1.out.below hb2)
 have HM2:Hid (MB x2 x1.heap.size s):=by show MB _ _ _;rw [hx2];exact heap_alloc_new x1 _
 have HS2:=ypV (zpT _ s x2 (by omega) HM2.out)
 have hRM:w.heap.size≠x1.heap.size:=by have:=HR1.out.lt;omega
 have hwM:w.heap.size<x1.heap.size:=HR1.out.lt
 clear HB1 HR1 hb2 HM2
 go_wp2_with fail
 rw [←hx2]
 clear hx2
 generalize x1.heap.size=M at*
 refine HS2.out.mono ?_
 rintro e x3 ⟨rfl,hm3,ho3⟩
 have hb3:Below w.heap.size x2 x3:=ho3.below HB2.out.size (fun x hx=>by rw [List.mem_singleton.1 hx];omega)
 have HB3:=ypV (HB2.out.trans hb3)
 have HR3:=ypV (HR2.out.only ho3 (by simp [hRM]))
 have hMx3:=zaM hm3
 clear HS2 ho3 HB2 HR2 hb3
 cases hsc:schW s with
 |none=>
  obtain ⟨-,hnm,hlf⟩:=zuE (b:=zcD) hsc
  have h0:ownZ (zfN s none)=0:=by rw [hnm];decide
  rw [hsc] at hm3
  obtain ⟨nm,hnn⟩: ∃nm,nm=([]:List UInt8):=⟨_,rfl⟩
  rw [←hnn] at hnm
  clear hsc hlf
  simp only [Option.map,Option.getD,Option.isSome] at hm3 ⊢
  have HF2:=ypV (HF.out.trans (zrM h0))
  obtain ⟨c0,c1,c2,c3,c4,c5,c6,c7,c8,c9,hrow⟩:=HR3.out
  have HRW:=ypV hrow
  obtain ⟨k0,k1,k2,k3,k4,k5,k6,k7,k8,k9,kf⟩:=zaQ hrow
  have HEND:=ypV (zeB HRW.out (.string ⟨#[]⟩) (.string ⟨#[]⟩) (.string ⟨#[]⟩) .nilIface (.int .i64 0) (.slice none 0 0) (.string ⟨#[]⟩) (.bool false) (.string ⟨#[]⟩) (.bool false))
  have HEB:=ypV (zdE HB3.out (ypX _) (.string ⟨#[]⟩) (.string ⟨#[]⟩) (.string ⟨#[]⟩) .nilIface (.int .i64 0) (.slice none 0 0) (.string ⟨#[]⟩) (.bool false) (.string ⟨#[]⟩) (.bool false))
  have HOW:=ypV (fun W=>zfK ([]:List UInt8) W)
  rw [show ownZ []=0 by decide] at HOW
  clear hrow HR3 hm3 h0 hnm hnn
  go_wp2_with fail
  refine (HOW.out _).mono ?_
  rintro e w' ⟨rfl,rfl⟩
  go_wp2
  obtain ⟨e0,e1,e2,e3,e4,e5,e6,e7,e8,e9,-⟩:=zaQ HEND.out
  refine bodyPost_ret (v:= .tuple #[.agg zbD,.int .i64 5]) (by simp [results,Tryz.results27,go_sem,e0,e1,e2,e3,e4,e5,e6,e7,e8,e9,zbD]) rfl ?_
  rw [HF2.out]
  exact ⟨.slice none 0 0,rfl,zbA.nil _ _,HEB.out⟩
 |some p=>
  obtain ⟨nm,lf⟩:=p
  obtain ⟨hnm,hlf⟩:=zwS (b:=none) hsc
  have hsl:=zsC hsc
  rw [hsc] at hm3
  simp only [Option.map,Option.getD,Option.isSome] at hm3 ⊢
  by_cases h0:ownZ (zfN s none)=0
  ·have HF2:=ypV (HF.out.trans (zrM h0))
   obtain ⟨c0,c1,c2,c3,c4,c5,c6,c7,c8,c9,hrow⟩:=HR3.out
   have HRW:=ypV hrow
   obtain ⟨k0,k1,k2,k3,k4,k5,k6,k7,k8,k9,kf⟩:=zaQ hrow
   have HEND:=ypV (zeB HRW.out (.string ⟨#[]⟩) (.string ⟨#[]⟩) (.string ⟨#[]⟩) .nilIface (.int .i64 0) (.slice none 0 0) (.string ⟨#[]⟩) (.bool false) (.string ⟨#[]⟩) (.bool false))
   have HEB:=ypV (zdE HB3.out (ypX _) (.string ⟨#[]⟩) (.string ⟨#[]⟩) (.string ⟨#[]⟩) .nilIface (.int .i64 0) (.slice none 0 0) (.string ⟨#[]⟩) (.bool false) (.string ⟨#[]⟩) (.bool false))
   have HOW:=ypV (fun W=>zfK nm W)
   rw [hnm] at h0
   rw [h0] at HOW
   clear hrow HR3 hm3 h0 hnm
   go_wp2_with fail
   refine (HOW.out _).mono ?_
   rintro e w' ⟨rfl,rfl⟩
   go_wp2
   obtain ⟨e0,e1,e2,e3,e4,e5,e6,e7,e8,e9,-⟩:=zaQ HEND.out
   refine bodyPost_ret (v:= .tuple #[.agg zbD,.int .i64 5]) (by simp [results,Tryz.results27,go_sem,e0,e1,e2,e3,e4,e5,e6,e7,e8,e9,zbD]) rfl ?_
   rw [HF2.out]
   exact ⟨.slice none 0 0,rfl,zbA.nil _ _,HEB.out⟩
  ·have HF2:=ypV (HF.out.trans (yiN h0))
   rw [hnm,hlf] at HF2
   have hon:=z9V (n:=nm) (by rw [←hnm];exact h0)
   have HOW:=ypV (fun W=>zfK nm W)
   have hne:(ownZ nm==(0:Int))=false:=by rw [ypW,←hnm];exact h0
   generalize hoz:ownZ nm=oz at*
   have HUN:=ypV (zhF M lf x3 hm3)
   go_wp2_with fail
   refine (HOW.out _).mono ?_
   rintro e w' ⟨rfl,rfl⟩
   go_wp2_with fail
   refine HUN.out.mono ?_
   rintro e xc ⟨rfl,hmc,hoc⟩
   have hbc:Below w.heap.size x3 xc:=hoc.below HB3.out.size (fun x hx=>by rw [List.mem_singleton.1 hx];omega)
   have HBC:=ypV (HB3.out.trans hbc)
   have HRC:=ypV (HR3.out.only hoc (by simp [hRM]))
   have HMC:=ypV hmc
   have hbl2:=zkD (lf)
   clear HUN HOW hoc hbc hmc hm3 HB3 HR3 hne
   generalize zeO lf=lb at*
   clear h0 hnm hlf hsc
   rw [←hoz] at hon
   go_wp2_with fail
   refine (zfZ M lb nm _ (by omega) HMC.out (HX.out _ HBC.out) hon).mono ?_
   rintro e x5 ⟨pv,rfl,hp5,ho5⟩
   have hb5:Below w.heap.size xc x5:=ho5.below HBC.out.size (fun x hx=>by rw [List.mem_singleton.1 hx];omega)
   have HB5:=ypV (HBC.out.trans hb5)
   have HR5:=HRC.out.only ho5 (by simp [hRM])
   have HP5:=ypV hp5
   have hBs:w.heap.size<xc.heap.size:=HRC.out.lt
   clear ho5 hb5 hp5 HRC HMC HBC
   generalize zeR nm lb=rr at*
   obtain ⟨v,er⟩:=rr
   simp only [UZ.cells] at HP5 HF2 ⊢
   obtain ⟨sa,sn,sc,rfl⟩:=HP5.out.pv.shape
   obtain ⟨c0,c1,c2,c3,c4,c5,c6,c7,c8,c9,hrow⟩:=HR5
   have HRW:=ypV hrow
   obtain ⟨k0,k1,k2,k3,k4,k5,k6,k7,k8,k9,kf⟩:=zaQ hrow
   clear hrow
   rcases v.host.shape with hv|⟨it,iv,hv⟩
   ·have HVH:=ypV hv
    rw [hv]
    clear hv
    have HEND:=ypV (zeB HRW.out (.string ⟨v.scheme.toArray⟩) (.string ⟨v.user.toArray⟩) (.string ⟨v.pass.toArray⟩) .nilIface (.int .i64 v.port) (.slice sa sn sc) (.string ⟨v.query.toArray⟩) (.bool v.hasQ) (.string ⟨v.frag.toArray⟩) (.bool v.hasF))
    have HEB:=ypV (zcB HB5.out HP5.out hBs (.string ⟨v.scheme.toArray⟩) (.string ⟨v.user.toArray⟩) (.string ⟨v.pass.toArray⟩) .nilIface (.int .i64 v.port) (.slice sa sn sc) (.string ⟨v.query.toArray⟩) (.bool v.hasQ) (.string ⟨v.frag.toArray⟩) (.bool v.hasF))
    go_wp2
    obtain ⟨e0,e1,e2,e3,e4,e5,e6,e7,e8,e9,-⟩:=zaQ HEND.out
    refine bodyPost_ret (v:= .tuple #[.agg #[.string ⟨v.scheme.toArray⟩,.string ⟨v.user.toArray⟩,.string ⟨v.pass.toArray⟩,.nilIface,.int .i64 v.port,.slice sa sn sc,.string ⟨v.query.toArray⟩,.bool v.hasQ,.string ⟨v.frag.toArray⟩,.bool v.hasF],.int .i64 er]) (by simp [results,Tryz.results27,go_sem,e0,e1,e2,e3,e4,e5,e6,e7,e8,e9]) rfl ?_
    rw [HF2.out]
    exact ⟨_,by rw [←HVH.out];rfl,HEB.out⟩
   ·have HVH:=ypV hv
    rw [hv]
    clear hv
    have HEND:=ypV (zeB HRW.out (.string ⟨v.scheme.toArray⟩) (.string ⟨v.user.toArray⟩) (.string ⟨v.pass.toArray⟩) (.iface it iv) (.int .i64 v.port) (.slice sa sn sc) (.string ⟨v.query.toArray⟩) (.bool v.hasQ) (.string ⟨v.frag.toArray⟩) (.bool v.hasF))
    have HEB:=ypV (zcB HB5.out HP5.out hBs (.string ⟨v.scheme.toArray⟩) (.string ⟨v.user.toArray⟩) (.string ⟨v.pass.toArray⟩) (.iface it iv) (.int .i64 v.port) (.slice sa sn sc) (.string ⟨v.query.toArray⟩) (.bool v.hasQ) (.string ⟨v.frag.toArray⟩) (.bool v.hasF))
    go_wp2
    obtain ⟨e0,e1,e2,e3,e4,e5,e6,e7,e8,e9,-⟩:=zaQ HEND.out
    refine bodyPost_ret (v:= .tuple #[.agg #[.string ⟨v.scheme.toArray⟩,.string ⟨v.user.toArray⟩,.string ⟨v.pass.toArray⟩,(.iface it iv),.int .i64 v.port,.slice sa sn sc,.string ⟨v.query.toArray⟩,.bool v.hasQ,.string ⟨v.frag.toArray⟩,.bool v.hasF],.int .i64 er]) (by simp [results,Tryz.results27,go_sem,e0,e1,e2,e3,e4,e5,e6,e7,e8,e9]) rfl ?_
    rw [HF2.out]
    exact ⟨_,by rw [←HVH.out];rfl,HEB.out⟩
theorem zlS (t:List UInt8) (U:Nat) (b:UZ) (bpv:Value) (w:World) (hmax:MaxVar w) (hl:t.length≤1000000) (hs:b.scheme=zjL∨b.scheme=zfH) (hbh:b.host≠ .none) (hbl:b.path.length≤1000000) (hub:UB w U b bpv) (hpv:PV w bpv b.path) (hrel:RelAt t):
  Calls Tryz.prog 27 #[.string ⟨t.toArray⟩,.pointer (some ⟨U,0,none⟩)] w (RetP w (zbF t (some b))):=by
 obtain ⟨x0,hx0⟩: ∃y,y=w.alloc (.cells zbD 47):=⟨_,rfl⟩
 have hb0:Below w.heap.size w x0:=by rw [hx0];exact zaY w _
 have HR0:Hid (RB x0 w.heap.size):=by show RB _ _;rw [hx0];exact RB.new w
 have hz:=zaB t
 unfold zbD at hx0
 have HUB:=ypV (fun x (h:Below w.heap.size w x)=>hub.below h)
 have HPV:=ypV (fun x (h:Below w.heap.size w x)=>hpv.keep h)
 have hUw:=zaM hub
 have HX:=ypV (fun x (h:Below w.heap.size w x)=>zaA hmax h)
 by_cases hbig:4096<t.length
 ·have HF:=ypV (zqU (b:=(some b)) hbig)
  have hd:decide (4096<(t.length:Int))=true:=ypZ (by omega)
  have hbb:Below w.heap.size w (w.alloc (.cells zbD 47)):=zaY w _
  unfold zbD at hbb
  clear HR0 hb0 hx0 HX
  go_enter Tryz.func27,Tryz.ntmps27
  go_wp2
  refine bodyPost_ret (v:= .tuple #[.agg zbD,.int .i64 3]) (by simp [results,Tryz.results27,go_sem,zbD]) rfl ?_
  rw [HF.out]
  exact ⟨.slice none 0 0,rfl,zbA.nil _ _,hbb⟩
 have hd:decide (4096<(t.length:Int))=false:=ypY (by omega)
 have HF:=ypV (zqM (b:=(some b)) (fun u e=>by rw [←Option.some.inj e];exact hs) hbig)
 have h4:t.length≤4096:=by omega
 have HREL:=ypV (hrel h4 b bpv)
 have hcl:=zkR t
 have htl:(zdU t).length≤t.length:=by
  have h2:=zsO t
  have h3:=(List.dropWhile_suffix (l:=t) zcO).length_le
  omega
 have HT:=ypV (fun W=>z1F ⟨t.toArray⟩ W (by rw [zaB];omega))
 rw [zaL] at HT
 have HD:=ypV (fun W=>zzU ⟨(zdU t).toArray⟩ W (by rw [zaB];omega))
 rw [zaL] at HD
 generalize zeQ (zdU t)=s at*
 generalize zdU t=t1 at*
 have HB0:=ypV hb0
 clear hmax hb0 hbig hub hpv hrel
 go_enter Tryz.func27,Tryz.ntmps27
 go_wp2_with fail
 rw [←hx0]
 clear hx0
 refine (HT.out _).mono ?_
 rintro e w' ⟨rfl,rfl⟩
 go_wp2_with fail
 refine (HD.out _).mono ?_
 rintro e x1 ⟨rfl,hb1⟩
 have HB1:=ypV (zaF HB0.out hb1)
 have HR1:=ypV (HR0.out.below hb1)
 clear hb1 HB0 HR0 HT HD hz hd
 obtain ⟨x2,hx2⟩: ∃y,y=x1.alloc (.cells #[.string ⟨s.toArray⟩] 85):=⟨_,rfl⟩
 have hb2:Below x1.heap.size x1 x2:=by rw [hx2];exact (yqA _ _).alloc (ypX _) _
 have HB2:=ypV (zaF HB1.out hb2)
 have HR2:=ypV (HR1.out.below hb2)
 have HM2:Hid (MB x2 x1.heap.size s):=by show MB _ _ _;rw [hx2];exact heap_alloc_new x1 _
 have HS2:=ypV (zpT _ s x2 (by omega) HM2.out)
 have hRM:w.heap.size≠x1.heap.size:=by have:=HR1.out.lt;omega
 have hwM:w.heap.size<x1.heap.size:=HR1.out.lt
 clear HB1 HR1 hb2 HM2
 go_wp2_with fail
 rw [←hx2]
 clear hx2
 generalize x1.heap.size=M at*
 refine HS2.out.mono ?_
 rintro e x3 ⟨rfl,hm3,ho3⟩
 have hb3:Below w.heap.size x2 x3:=ho3.below HB2.out.size (fun x hx=>by rw [List.mem_singleton.1 hx];omega)
 have HB3:=ypV (HB2.out.trans hb3)
 have HR3:=ypV (HR2.out.only ho3 (by simp [hRM]))
 have hMx3:=zaM hm3
 clear HS2 ho3 HB2 HR2 hb3
 cases hsc:schW s with
 |none=>
  obtain ⟨hnm',-,hlf⟩:=zuE (b:=b) hsc
  rw [hsc] at hm3
  simp only [Option.map,Option.getD,Option.isSome] at hm3 ⊢
  obtain ⟨nm,hbn⟩: ∃nm,b.scheme=nm:=⟨_,rfl⟩
  have hnm:zfN s (some b)=nm:=hnm'.trans hbn
  have h0: ¬ownZ (zfN s (some b))=0:=fun g=>z5M.1 (by rw [hnm'] at g;exact g) hs
  have hUd:=(HUB.out _ HB3.out).all.1
  rw [hbn] at hUd
  have hon:=z9V (n:=nm) (by rw [←hnm];exact h0)
  have HOW:=ypV (fun W=>zfK nm W)
  have hne:(ownZ nm==(0:Int))=false:=by rw [ypW,←hnm];exact h0
  generalize hoz:ownZ nm=oz at*
  have HUN:=ypV (zhF M s x3 hm3)
  go_wp2_with fail
  refine (HOW.out _).mono ?_
  rintro e w' ⟨rfl,rfl⟩
  go_wp2_with fail
  refine HUN.out.mono ?_
  rintro e xc ⟨rfl,hmc,hoc⟩
  have hbc:Below w.heap.size x3 xc:=hoc.below HB3.out.size (fun x hx=>by rw [List.mem_singleton.1 hx];omega)
  have HBC:=ypV (HB3.out.trans hbc)
  have HRC:=ypV (HR3.out.only hoc (by simp [hRM]))
  have HMC:=ypV hmc
  have hbl2:=zkD (s)
  clear HUN HOW hoc hbc hmc hm3 HB3 HR3 hne
  clear hUd
  obtain ⟨u0,hu0⟩: ∃f:List UInt8,b.scheme=f:=⟨_,rfl⟩
  have hsn:=z2R (s)
  have hUc:=(HUB.out _ HBC.out).all.1
  have hal:((s).take (zbE (s))).length=zbE (s):=by rw [List.length_take];omega
  by_cases hbs:b.scheme=nm
  ·have hqb:(b.scheme==nm)=true:=by rw [beq_iff_eq];exact hbs
   by_cases h1:1<zbE (s)
   ·have HF2:=ypV (HF.out.trans (zsU h0 (.inr (by rw [hlf];exact h1))))
    rw [hnm,hlf] at HF2
    have hd1:decide (1<(zbE (s):Int))=true:=ypZ (by omega)
    generalize (s).take (zbE (s))=ah at*
    generalize zbE (s)=sn2 at*
    generalize zeO (s)=lb at*
    have hzz:=zaB ah
    rw [hal] at hzz
    rw [←hoz] at hon
    clear hu0
    go_wp2_with fail
    refine (zfZ M lb nm _ (by omega) HMC.out (HX.out _ HBC.out) hon).mono ?_
    rintro e x5 ⟨pv,rfl,hp5,ho5⟩
    have hb5:Below w.heap.size xc x5:=ho5.below HBC.out.size (fun x hx=>by rw [List.mem_singleton.1 hx];omega)
    have HB5:=ypV (HBC.out.trans hb5)
    have HR5:=HRC.out.only ho5 (by simp [hRM])
    have HP5:=ypV hp5
    have hBs:w.heap.size<xc.heap.size:=HRC.out.lt
    clear ho5 hb5 hp5 HRC HMC HBC
    generalize zeR nm lb=rr at*
    obtain ⟨v,er⟩:=rr
    simp only [UZ.cells] at HP5 HF2 ⊢
    obtain ⟨sa,sn,sc,rfl⟩:=HP5.out.pv.shape
    obtain ⟨c0,c1,c2,c3,c4,c5,c6,c7,c8,c9,hrow⟩:=HR5
    have HRW:=ypV hrow
    obtain ⟨k0,k1,k2,k3,k4,k5,k6,k7,k8,k9,kf⟩:=zaQ hrow
    clear hrow
    rcases v.host.shape with hv|⟨it,iv,hv⟩
    ·have HVH:=ypV hv
     rw [hv]
     clear hv
     have HEND:=ypV (zeB HRW.out (.string ⟨v.scheme.toArray⟩) (.string ⟨v.user.toArray⟩) (.string ⟨v.pass.toArray⟩) .nilIface (.int .i64 v.port) (.slice sa sn sc) (.string ⟨v.query.toArray⟩) (.bool v.hasQ) (.string ⟨v.frag.toArray⟩) (.bool v.hasF))
     have HEB:=ypV (zcB HB5.out HP5.out hBs (.string ⟨v.scheme.toArray⟩) (.string ⟨v.user.toArray⟩) (.string ⟨v.pass.toArray⟩) .nilIface (.int .i64 v.port) (.slice sa sn sc) (.string ⟨v.query.toArray⟩) (.bool v.hasQ) (.string ⟨v.frag.toArray⟩) (.bool v.hasF))
     go_wp2
     obtain ⟨e0,e1,e2,e3,e4,e5,e6,e7,e8,e9,-⟩:=zaQ HEND.out
     refine bodyPost_ret (v:= .tuple #[.agg #[.string ⟨v.scheme.toArray⟩,.string ⟨v.user.toArray⟩,.string ⟨v.pass.toArray⟩,.nilIface,.int .i64 v.port,.slice sa sn sc,.string ⟨v.query.toArray⟩,.bool v.hasQ,.string ⟨v.frag.toArray⟩,.bool v.hasF],.int .i64 er]) (by simp [results,Tryz.results27,go_sem,e0,e1,e2,e3,e4,e5,e6,e7,e8,e9]) rfl ?_
     rw [HF2.out]
     exact ⟨_,by rw [←HVH.out];rfl,HEB.out⟩
    ·have HVH:=ypV hv
     rw [hv]
     clear hv
     have HEND:=ypV (zeB HRW.out (.string ⟨v.scheme.toArray⟩) (.string ⟨v.user.toArray⟩) (.string ⟨v.pass.toArray⟩) (.iface it iv) (.int .i64 v.port) (.slice sa sn sc) (.string ⟨v.query.toArray⟩) (.bool v.hasQ) (.string ⟨v.frag.toArray⟩) (.bool v.hasF))
     have HEB:=ypV (zcB HB5.out HP5.out hBs (.string ⟨v.scheme.toArray⟩) (.string ⟨v.user.toArray⟩) (.string ⟨v.pass.toArray⟩) (.iface it iv) (.int .i64 v.port) (.slice sa sn sc) (.string ⟨v.query.toArray⟩) (.bool v.hasQ) (.string ⟨v.frag.toArray⟩) (.bool v.hasF))
     go_wp2
     obtain ⟨e0,e1,e2,e3,e4,e5,e6,e7,e8,e9,-⟩:=zaQ HEND.out
     refine bodyPost_ret (v:= .tuple #[.agg #[.string ⟨v.scheme.toArray⟩,.string ⟨v.user.toArray⟩,.string ⟨v.pass.toArray⟩,(.iface it iv),.int .i64 v.port,.slice sa sn sc,.string ⟨v.query.toArray⟩,.bool v.hasQ,.string ⟨v.frag.toArray⟩,.bool v.hasF],.int .i64 er]) (by simp [results,Tryz.results27,go_sem,e0,e1,e2,e3,e4,e5,e6,e7,e8,e9]) rfl ?_
     rw [HF2.out]
     exact ⟨_,by rw [←HVH.out];rfl,HEB.out⟩
   ·have HF2:=ypV (HF.out.trans (z2L h0 (by rw [hnm,hlf];rintro (g|g);exact g hbs;exact h1 g)))
    rw [hlf] at HF2 HREL
    have hd1:decide (1<(zbE (s):Int))=false:=ypY (by omega)
    have hemp:((s).take (zbE (s))).isEmpty= !decide (zbE (s)≠0):=by
     rw [Bool.eq_iff_iff,List.isEmpty_iff,←List.length_eq_zero_iff,hal];simp
    generalize decide (zbE (s)≠0)=rt at*
    generalize (s).take (zbE (s))=ah at*
    generalize zbE (s)=sn2 at*
    generalize zeO (s)=lb at*
    have hzz:=zaB ah
    rw [hal] at hzz
    have HRL:=ypV (fun W (h:MB W M lb) (hp:PV W bpv b.path) (hx:MaxVar W)=>HREL.out M W hbh hbl h hp hx)
    obtain ⟨ba,bn,bc,hbpv⟩:=(HPV.out _ HBC.out).shape
    obtain ⟨d0,d1,d2,d3,d4,d5,d6,d7,d8,d9,-⟩:=(HUB.out _ HBC.out).all
    obtain ⟨jt,jv,hjv⟩:=HZ.iface hbh
    have HJV:=ypV hjv
    have HRL2:Hid (Calls Tryz.prog 73 #[.pointer (some ⟨M,0,none⟩),.agg #[.string ⟨b.scheme.toArray⟩,.string ⟨b.user.toArray⟩,.string ⟨b.pass.toArray⟩,.iface jt jv,.int .i64 b.port,bpv,.string ⟨b.query.toArray⟩,.bool b.hasQ,.string ⟨b.frag.toArray⟩,.bool b.hasF],.bool rt] xc (zrY xc M (relC b rt lb))):=by
     have:=HRL.out _ HMC.out (HPV.out _ HBC.out) (HX.out _ HBC.out)
     simp only [UZ.cells] at this
     rw [hjv] at this
     exact this
    rw [hbs,hbpv] at HRL2
    rw [hjv] at d3
    clear hu0 HRL hjv
    go_wp2_with fail
    refine HRL2.out.mono ?_
    rintro e x5 ⟨pv,rfl,hp5,ho5⟩
    have hb5:Below w.heap.size xc x5:=ho5.below HBC.out.size (fun x hx=>by rw [List.mem_singleton.1 hx];omega)
    have HB5:=ypV (HBC.out.trans hb5)
    have HR5:=HRC.out.only ho5 (by simp [hRM])
    have HP5:=ypV hp5
    have hBs:w.heap.size<xc.heap.size:=HRC.out.lt
    clear ho5 hb5 hp5 HRC HMC HBC HRL2 d0 d1 d2 d3 d4 d5 d6 d7 d8 d9
    generalize relC b rt lb=v at*
    simp only [UZ.cells]
    obtain ⟨sa,sn,sc,rfl⟩:=HP5.out.pv.shape
    obtain ⟨c0,c1,c2,c3,c4,c5,c6,c7,c8,c9,hrow⟩:=HR5
    have HRW:=ypV hrow
    obtain ⟨k0,k1,k2,k3,k4,k5,k6,k7,k8,k9,kf⟩:=zaQ hrow
    clear hrow
    rcases v.host.shape with hv|⟨it,iv,hv⟩
    ·have HVH:=ypV hv
     rw [hv]
     clear hv
     have HEND:=ypV (zeB HRW.out (.string ⟨v.scheme.toArray⟩) (.string ⟨v.user.toArray⟩) (.string ⟨v.pass.toArray⟩) .nilIface (.int .i64 v.port) (.slice sa sn sc) (.string ⟨v.query.toArray⟩) (.bool v.hasQ) (.string ⟨v.frag.toArray⟩) (.bool v.hasF))
     have HEB:=ypV (zcB HB5.out HP5.out hBs (.string ⟨v.scheme.toArray⟩) (.string ⟨v.user.toArray⟩) (.string ⟨v.pass.toArray⟩) .nilIface (.int .i64 v.port) (.slice sa sn sc) (.string ⟨v.query.toArray⟩) (.bool v.hasQ) (.string ⟨v.frag.toArray⟩) (.bool v.hasF))
     go_wp2
     obtain ⟨e0,e1,e2,e3,e4,e5,e6,e7,e8,e9,-⟩:=zaQ HEND.out
     refine bodyPost_ret (v:= .tuple #[.agg #[.string ⟨v.scheme.toArray⟩,.string ⟨v.user.toArray⟩,.string ⟨v.pass.toArray⟩,.nilIface,.int .i64 v.port,.slice sa sn sc,.string ⟨v.query.toArray⟩,.bool v.hasQ,.string ⟨v.frag.toArray⟩,.bool v.hasF],.int .i64 0]) (by simp [results,Tryz.results27,go_sem,e0,e1,e2,e3,e4,e5,e6,e7,e8,e9]) rfl ?_
     rw [HF2.out]
     exact ⟨_,by rw [←HVH.out];rfl,HEB.out⟩
    ·have HVH:=ypV hv
     rw [hv]
     clear hv
     have HEND:=ypV (zeB HRW.out (.string ⟨v.scheme.toArray⟩) (.string ⟨v.user.toArray⟩) (.string ⟨v.pass.toArray⟩) (.iface it iv) (.int .i64 v.port) (.slice sa sn sc) (.string ⟨v.query.toArray⟩) (.bool v.hasQ) (.string ⟨v.frag.toArray⟩) (.bool v.hasF))
     have HEB:=ypV (zcB HB5.out HP5.out hBs (.string ⟨v.scheme.toArray⟩) (.string ⟨v.user.toArray⟩) (.string ⟨v.pass.toArray⟩) (.iface it iv) (.int .i64 v.port) (.slice sa sn sc) (.string ⟨v.query.toArray⟩) (.bool v.hasQ) (.string ⟨v.frag.toArray⟩) (.bool v.hasF))
     go_wp2
     obtain ⟨e0,e1,e2,e3,e4,e5,e6,e7,e8,e9,-⟩:=zaQ HEND.out
     refine bodyPost_ret (v:= .tuple #[.agg #[.string ⟨v.scheme.toArray⟩,.string ⟨v.user.toArray⟩,.string ⟨v.pass.toArray⟩,(.iface it iv),.int .i64 v.port,.slice sa sn sc,.string ⟨v.query.toArray⟩,.bool v.hasQ,.string ⟨v.frag.toArray⟩,.bool v.hasF],.int .i64 0]) (by simp [results,Tryz.results27,go_sem,e0,e1,e2,e3,e4,e5,e6,e7,e8,e9]) rfl ?_
     rw [HF2.out]
     exact ⟨_,by rw [←HVH.out];rfl,HEB.out⟩
  ·exact absurd hbn hbs
 |some p=>
  obtain ⟨nm,lf⟩:=p
  obtain ⟨hnm,hlf⟩:=zwS (b:=some b) hsc
  have hsl:=zsC hsc
  rw [hsc] at hm3
  simp only [Option.map,Option.getD,Option.isSome] at hm3 ⊢
  by_cases h0:ownZ (zfN s (some b))=0
  ·have HF2:=ypV (HF.out.trans (zrM h0))
   obtain ⟨c0,c1,c2,c3,c4,c5,c6,c7,c8,c9,hrow⟩:=HR3.out
   have HRW:=ypV hrow
   obtain ⟨k0,k1,k2,k3,k4,k5,k6,k7,k8,k9,kf⟩:=zaQ hrow
   have HEND:=ypV (zeB HRW.out (.string ⟨#[]⟩) (.string ⟨#[]⟩) (.string ⟨#[]⟩) .nilIface (.int .i64 0) (.slice none 0 0) (.string ⟨#[]⟩) (.bool false) (.string ⟨#[]⟩) (.bool false))
   have HEB:=ypV (zdE HB3.out (ypX _) (.string ⟨#[]⟩) (.string ⟨#[]⟩) (.string ⟨#[]⟩) .nilIface (.int .i64 0) (.slice none 0 0) (.string ⟨#[]⟩) (.bool false) (.string ⟨#[]⟩) (.bool false))
   have HOW:=ypV (fun W=>zfK nm W)
   rw [hnm] at h0
   rw [h0] at HOW
   clear hrow HR3 hm3 h0 hnm
   go_wp2_with fail
   refine (HOW.out _).mono ?_
   rintro e w' ⟨rfl,rfl⟩
   go_wp2
   obtain ⟨e0,e1,e2,e3,e4,e5,e6,e7,e8,e9,-⟩:=zaQ HEND.out
   refine bodyPost_ret (v:= .tuple #[.agg zbD,.int .i64 5]) (by simp [results,Tryz.results27,go_sem,e0,e1,e2,e3,e4,e5,e6,e7,e8,e9,zbD]) rfl ?_
   rw [HF2.out]
   exact ⟨.slice none 0 0,rfl,zbA.nil _ _,HEB.out⟩
  ·have hon:=z9V (n:=nm) (by rw [←hnm];exact h0)
   have HOW:=ypV (fun W=>zfK nm W)
   have hne:(ownZ nm==(0:Int))=false:=by rw [ypW,←hnm];exact h0
   generalize hoz:ownZ nm=oz at*
   have HUN:=ypV (zhF M lf x3 hm3)
   go_wp2_with fail
   refine (HOW.out _).mono ?_
   rintro e w' ⟨rfl,rfl⟩
   go_wp2_with fail
   refine HUN.out.mono ?_
   rintro e xc ⟨rfl,hmc,hoc⟩
   have hbc:Below w.heap.size x3 xc:=hoc.below HB3.out.size (fun x hx=>by rw [List.mem_singleton.1 hx];omega)
   have HBC:=ypV (HB3.out.trans hbc)
   have HRC:=ypV (HR3.out.only hoc (by simp [hRM]))
   have HMC:=ypV hmc
   have hbl2:=zkD (lf)
   clear HUN HOW hoc hbc hmc hm3 HB3 HR3 hne
   obtain ⟨u0,hu0⟩: ∃f:List UInt8,b.scheme=f:=⟨_,rfl⟩
   have hsn:=z2R (lf)
   have hUc:=(HUB.out _ HBC.out).all.1
   have hal:((lf).take (zbE (lf))).length=zbE (lf):=by rw [List.length_take];omega
   by_cases hbs:b.scheme=nm
   ·have hqb:(b.scheme==nm)=true:=by rw [beq_iff_eq];exact hbs
    by_cases h1:1<zbE (lf)
    ·have HF2:=ypV (HF.out.trans (zsU h0 (.inr (by rw [hlf];exact h1))))
     rw [hnm,hlf] at HF2
     have hd1:decide (1<(zbE (lf):Int))=true:=ypZ (by omega)
     generalize (lf).take (zbE (lf))=ah at*
     generalize zbE (lf)=sn2 at*
     generalize zeO (lf)=lb at*
     have hzz:=zaB ah
     rw [hal] at hzz
     rw [←hoz] at hon
     clear hu0
     go_wp2_with fail
     refine (zfZ M lb nm _ (by omega) HMC.out (HX.out _ HBC.out) hon).mono ?_
     rintro e x5 ⟨pv,rfl,hp5,ho5⟩
     have hb5:Below w.heap.size xc x5:=ho5.below HBC.out.size (fun x hx=>by rw [List.mem_singleton.1 hx];omega)
     have HB5:=ypV (HBC.out.trans hb5)
     have HR5:=HRC.out.only ho5 (by simp [hRM])
     have HP5:=ypV hp5
     have hBs:w.heap.size<xc.heap.size:=HRC.out.lt
     clear ho5 hb5 hp5 HRC HMC HBC
     generalize zeR nm lb=rr at*
     obtain ⟨v,er⟩:=rr
     simp only [UZ.cells] at HP5 HF2 ⊢
     obtain ⟨sa,sn,sc,rfl⟩:=HP5.out.pv.shape
     obtain ⟨c0,c1,c2,c3,c4,c5,c6,c7,c8,c9,hrow⟩:=HR5
     have HRW:=ypV hrow
     obtain ⟨k0,k1,k2,k3,k4,k5,k6,k7,k8,k9,kf⟩:=zaQ hrow
     clear hrow
     rcases v.host.shape with hv|⟨it,iv,hv⟩
     ·have HVH:=ypV hv
      rw [hv]
      clear hv
      have HEND:=ypV (zeB HRW.out (.string ⟨v.scheme.toArray⟩) (.string ⟨v.user.toArray⟩) (.string ⟨v.pass.toArray⟩) .nilIface (.int .i64 v.port) (.slice sa sn sc) (.string ⟨v.query.toArray⟩) (.bool v.hasQ) (.string ⟨v.frag.toArray⟩) (.bool v.hasF))
      have HEB:=ypV (zcB HB5.out HP5.out hBs (.string ⟨v.scheme.toArray⟩) (.string ⟨v.user.toArray⟩) (.string ⟨v.pass.toArray⟩) .nilIface (.int .i64 v.port) (.slice sa sn sc) (.string ⟨v.query.toArray⟩) (.bool v.hasQ) (.string ⟨v.frag.toArray⟩) (.bool v.hasF))
      go_wp2
      obtain ⟨e0,e1,e2,e3,e4,e5,e6,e7,e8,e9,-⟩:=zaQ HEND.out
      refine bodyPost_ret (v:= .tuple #[.agg #[.string ⟨v.scheme.toArray⟩,.string ⟨v.user.toArray⟩,.string ⟨v.pass.toArray⟩,.nilIface,.int .i64 v.port,.slice sa sn sc,.string ⟨v.query.toArray⟩,.bool v.hasQ,.string ⟨v.frag.toArray⟩,.bool v.hasF],.int .i64 er]) (by simp [results,Tryz.results27,go_sem,e0,e1,e2,e3,e4,e5,e6,e7,e8,e9]) rfl ?_
      rw [HF2.out]
      exact ⟨_,by rw [←HVH.out];rfl,HEB.out⟩
     ·have HVH:=ypV hv
      rw [hv]
      clear hv
      have HEND:=ypV (zeB HRW.out (.string ⟨v.scheme.toArray⟩) (.string ⟨v.user.toArray⟩) (.string ⟨v.pass.toArray⟩) (.iface it iv) (.int .i64 v.port) (.slice sa sn sc) (.string ⟨v.query.toArray⟩) (.bool v.hasQ) (.string ⟨v.frag.toArray⟩) (.bool v.hasF))
      have HEB:=ypV (zcB HB5.out HP5.out hBs (.string ⟨v.scheme.toArray⟩) (.string ⟨v.user.toArray⟩) (.string ⟨v.pass.toArray⟩) (.iface it iv) (.int .i64 v.port) (.slice sa sn sc) (.string ⟨v.query.toArray⟩) (.bool v.hasQ) (.string ⟨v.frag.toArray⟩) (.bool v.hasF))
      go_wp2
      obtain ⟨e0,e1,e2,e3,e4,e5,e6,e7,e8,e9,-⟩:=zaQ HEND.out
      refine bodyPost_ret (v:= .tuple #[.agg #[.string ⟨v.scheme.toArray⟩,.string ⟨v.user.toArray⟩,.string ⟨v.pass.toArray⟩,(.iface it iv),.int .i64 v.port,.slice sa sn sc,.string ⟨v.query.toArray⟩,.bool v.hasQ,.string ⟨v.frag.toArray⟩,.bool v.hasF],.int .i64 er]) (by simp [results,Tryz.results27,go_sem,e0,e1,e2,e3,e4,e5,e6,e7,e8,e9]) rfl ?_
      rw [HF2.out]
      exact ⟨_,by rw [←HVH.out];rfl,HEB.out⟩
    ·have HF2:=ypV (HF.out.trans (z2L h0 (by rw [hnm,hlf];rintro (g|g);exact g hbs;exact h1 g)))
     rw [hlf] at HF2 HREL
     have hd1:decide (1<(zbE (lf):Int))=false:=ypY (by omega)
     have hemp:((lf).take (zbE (lf))).isEmpty= !decide (zbE (lf)≠0):=by
      rw [Bool.eq_iff_iff,List.isEmpty_iff,←List.length_eq_zero_iff,hal];simp
     generalize decide (zbE (lf)≠0)=rt at*
     generalize (lf).take (zbE (lf))=ah at*
     generalize zbE (lf)=sn2 at*
     generalize zeO (lf)=lb at*
     have hzz:=zaB ah
     rw [hal] at hzz
     have HRL:=ypV (fun W (h:MB W M lb) (hp:PV W bpv b.path) (hx:MaxVar W)=>HREL.out M W hbh hbl h hp hx)
     obtain ⟨ba,bn,bc,hbpv⟩:=(HPV.out _ HBC.out).shape
     obtain ⟨d0,d1,d2,d3,d4,d5,d6,d7,d8,d9,-⟩:=(HUB.out _ HBC.out).all
     obtain ⟨jt,jv,hjv⟩:=HZ.iface hbh
     have HJV:=ypV hjv
     have HRL2:Hid (Calls Tryz.prog 73 #[.pointer (some ⟨M,0,none⟩),.agg #[.string ⟨b.scheme.toArray⟩,.string ⟨b.user.toArray⟩,.string ⟨b.pass.toArray⟩,.iface jt jv,.int .i64 b.port,bpv,.string ⟨b.query.toArray⟩,.bool b.hasQ,.string ⟨b.frag.toArray⟩,.bool b.hasF],.bool rt] xc (zrY xc M (relC b rt lb))):=by
      have:=HRL.out _ HMC.out (HPV.out _ HBC.out) (HX.out _ HBC.out)
      simp only [UZ.cells] at this
      rw [hjv] at this
      exact this
     rw [hbs,hbpv] at HRL2
     rw [hjv] at d3
     clear hu0 HRL hjv
     go_wp2_with fail
     refine HRL2.out.mono ?_
     rintro e x5 ⟨pv,rfl,hp5,ho5⟩
     have hb5:Below w.heap.size xc x5:=ho5.below HBC.out.size (fun x hx=>by rw [List.mem_singleton.1 hx];omega)
     have HB5:=ypV (HBC.out.trans hb5)
     have HR5:=HRC.out.only ho5 (by simp [hRM])
     have HP5:=ypV hp5
     have hBs:w.heap.size<xc.heap.size:=HRC.out.lt
     clear ho5 hb5 hp5 HRC HMC HBC HRL2 d0 d1 d2 d3 d4 d5 d6 d7 d8 d9
     generalize relC b rt lb=v at*
     simp only [UZ.cells]
     obtain ⟨sa,sn,sc,rfl⟩:=HP5.out.pv.shape
     obtain ⟨c0,c1,c2,c3,c4,c5,c6,c7,c8,c9,hrow⟩:=HR5
     have HRW:=ypV hrow
     obtain ⟨k0,k1,k2,k3,k4,k5,k6,k7,k8,k9,kf⟩:=zaQ hrow
     clear hrow
     rcases v.host.shape with hv|⟨it,iv,hv⟩
     ·have HVH:=ypV hv
      rw [hv]
      clear hv
      have HEND:=ypV (zeB HRW.out (.string ⟨v.scheme.toArray⟩) (.string ⟨v.user.toArray⟩) (.string ⟨v.pass.toArray⟩) .nilIface (.int .i64 v.port) (.slice sa sn sc) (.string ⟨v.query.toArray⟩) (.bool v.hasQ) (.string ⟨v.frag.toArray⟩) (.bool v.hasF))
      have HEB:=ypV (zcB HB5.out HP5.out hBs (.string ⟨v.scheme.toArray⟩) (.string ⟨v.user.toArray⟩) (.string ⟨v.pass.toArray⟩) .nilIface (.int .i64 v.port) (.slice sa sn sc) (.string ⟨v.query.toArray⟩) (.bool v.hasQ) (.string ⟨v.frag.toArray⟩) (.bool v.hasF))
      go_wp2
      obtain ⟨e0,e1,e2,e3,e4,e5,e6,e7,e8,e9,-⟩:=zaQ HEND.out
      refine bodyPost_ret (v:= .tuple #[.agg #[.string ⟨v.scheme.toArray⟩,.string ⟨v.user.toArray⟩,.string ⟨v.pass.toArray⟩,.nilIface,.int .i64 v.port,.slice sa sn sc,.string ⟨v.query.toArray⟩,.bool v.hasQ,.string ⟨v.frag.toArray⟩,.bool v.hasF],.int .i64 0]) (by simp [results,Tryz.results27,go_sem,e0,e1,e2,e3,e4,e5,e6,e7,e8,e9]) rfl ?_
      rw [HF2.out]
      exact ⟨_,by rw [←HVH.out];rfl,HEB.out⟩
     ·have HVH:=ypV hv
      rw [hv]
      clear hv
      have HEND:=ypV (zeB HRW.out (.string ⟨v.scheme.toArray⟩) (.string ⟨v.user.toArray⟩) (.string ⟨v.pass.toArray⟩) (.iface it iv) (.int .i64 v.port) (.slice sa sn sc) (.string ⟨v.query.toArray⟩) (.bool v.hasQ) (.string ⟨v.frag.toArray⟩) (.bool v.hasF))
      have HEB:=ypV (zcB HB5.out HP5.out hBs (.string ⟨v.scheme.toArray⟩) (.string ⟨v.user.toArray⟩) (.string ⟨v.pass.toArray⟩) (.iface it iv) (.int .i64 v.port) (.slice sa sn sc) (.string ⟨v.query.toArray⟩) (.bool v.hasQ) (.string ⟨v.frag.toArray⟩) (.bool v.hasF))
      go_wp2
      obtain ⟨e0,e1,e2,e3,e4,e5,e6,e7,e8,e9,-⟩:=zaQ HEND.out
      refine bodyPost_ret (v:= .tuple #[.agg #[.string ⟨v.scheme.toArray⟩,.string ⟨v.user.toArray⟩,.string ⟨v.pass.toArray⟩,(.iface it iv),.int .i64 v.port,.slice sa sn sc,.string ⟨v.query.toArray⟩,.bool v.hasQ,.string ⟨v.frag.toArray⟩,.bool v.hasF],.int .i64 0]) (by simp [results,Tryz.results27,go_sem,e0,e1,e2,e3,e4,e5,e6,e7,e8,e9]) rfl ?_
      rw [HF2.out]
      exact ⟨_,by rw [←HVH.out];rfl,HEB.out⟩
   ·have hqb:(b.scheme==nm)=false:=by rw [ypW];exact hbs
    have HF2:=ypV (HF.out.trans (zsU h0 (.inl (by rw [hnm];exact hbs))))
    rw [hnm,hlf] at HF2
    generalize (lf).take (zbE (lf))=ah at*
    generalize zbE (lf)=sn2 at*
    generalize zeO (lf)=lb at*
    have hzz:=zaB ah
    rw [hal] at hzz
    rw [←hoz] at hon
    clear hu0
    go_wp2_with fail
    refine (zfZ M lb nm _ (by omega) HMC.out (HX.out _ HBC.out) hon).mono ?_
    rintro e x5 ⟨pv,rfl,hp5,ho5⟩
    have hb5:Below w.heap.size xc x5:=ho5.below HBC.out.size (fun x hx=>by rw [List.mem_singleton.1 hx];omega)
    have HB5:=ypV (HBC.out.trans hb5)
    have HR5:=HRC.out.only ho5 (by simp [hRM])
    have HP5:=ypV hp5
    have hBs:w.heap.size<xc.heap.size:=HRC.out.lt
    clear ho5 hb5 hp5 HRC HMC HBC
    generalize zeR nm lb=rr at*
    obtain ⟨v,er⟩:=rr
    simp only [UZ.cells] at HP5 HF2 ⊢
    obtain ⟨sa,sn,sc,rfl⟩:=HP5.out.pv.shape
    obtain ⟨c0,c1,c2,c3,c4,c5,c6,c7,c8,c9,hrow⟩:=HR5
    have HRW:=ypV hrow
    obtain ⟨k0,k1,k2,k3,k4,k5,k6,k7,k8,k9,kf⟩:=zaQ hrow
    clear hrow
    rcases v.host.shape with hv|⟨it,iv,hv⟩
    ·have HVH:=ypV hv
     rw [hv]
     clear hv
     have HEND:=ypV (zeB HRW.out (.string ⟨v.scheme.toArray⟩) (.string ⟨v.user.toArray⟩) (.string ⟨v.pass.toArray⟩) .nilIface (.int .i64 v.port) (.slice sa sn sc) (.string ⟨v.query.toArray⟩) (.bool v.hasQ) (.string ⟨v.frag.toArray⟩) (.bool v.hasF))
     have HEB:=ypV (zcB HB5.out HP5.out hBs (.string ⟨v.scheme.toArray⟩) (.string ⟨v.user.toArray⟩) (.string ⟨v.pass.toArray⟩) .nilIface (.int .i64 v.port) (.slice sa sn sc) (.string ⟨v.query.toArray⟩) (.bool v.hasQ) (.string ⟨v.frag.toArray⟩) (.bool v.hasF))
     go_wp2
     obtain ⟨e0,e1,e2,e3,e4,e5,e6,e7,e8,e9,-⟩:=zaQ HEND.out
     refine bodyPost_ret (v:= .tuple #[.agg #[.string ⟨v.scheme.toArray⟩,.string ⟨v.user.toArray⟩,.string ⟨v.pass.toArray⟩,.nilIface,.int .i64 v.port,.slice sa sn sc,.string ⟨v.query.toArray⟩,.bool v.hasQ,.string ⟨v.frag.toArray⟩,.bool v.hasF],.int .i64 er]) (by simp [results,Tryz.results27,go_sem,e0,e1,e2,e3,e4,e5,e6,e7,e8,e9]) rfl ?_
     rw [HF2.out]
     exact ⟨_,by rw [←HVH.out];rfl,HEB.out⟩
    ·have HVH:=ypV hv
     rw [hv]
     clear hv
     have HEND:=ypV (zeB HRW.out (.string ⟨v.scheme.toArray⟩) (.string ⟨v.user.toArray⟩) (.string ⟨v.pass.toArray⟩) (.iface it iv) (.int .i64 v.port) (.slice sa sn sc) (.string ⟨v.query.toArray⟩) (.bool v.hasQ) (.string ⟨v.frag.toArray⟩) (.bool v.hasF))
     have HEB:=ypV (zcB HB5.out HP5.out hBs (.string ⟨v.scheme.toArray⟩) (.string ⟨v.user.toArray⟩) (.string ⟨v.pass.toArray⟩) (.iface it iv) (.int .i64 v.port) (.slice sa sn sc) (.string ⟨v.query.toArray⟩) (.bool v.hasQ) (.string ⟨v.frag.toArray⟩) (.bool v.hasF))
     go_wp2
     obtain ⟨e0,e1,e2,e3,e4,e5,e6,e7,e8,e9,-⟩:=zaQ HEND.out
     refine bodyPost_ret (v:= .tuple #[.agg #[.string ⟨v.scheme.toArray⟩,.string ⟨v.user.toArray⟩,.string ⟨v.pass.toArray⟩,(.iface it iv),.int .i64 v.port,.slice sa sn sc,.string ⟨v.query.toArray⟩,.bool v.hasQ,.string ⟨v.frag.toArray⟩,.bool v.hasF],.int .i64 er]) (by simp [results,Tryz.results27,go_sem,e0,e1,e2,e3,e4,e5,e6,e7,e8,e9]) rfl ?_
     rw [HF2.out]
     exact ⟨_,by rw [←HVH.out];rfl,HEB.out⟩
theorem z8G (t:List UInt8) (w:World) (hmax:MaxVar w):
  Calls Tryz.prog 25 #[.string ⟨t.toArray⟩] w (RetP w (zbF t none)):=by
 obtain ⟨x0,hx0⟩: ∃y,y=w.alloc (.cells zbD 47):=⟨_,rfl⟩
 have hb0:Below w.heap.size w x0:=by rw [hx0];exact zaY w _
 have HR0:Hid (RB x0 w.heap.size):=by show RB _ _;rw [hx0];exact RB.new w
 have HP:=ypV (zxV t x0 (zaA hmax hb0))
 have HB0:=ypV hb0
 have hRs:w.heap.size<x0.heap.size:=HR0.out.lt
 unfold zbD at hx0
 clear hmax hb0
 generalize zbF t none=rr at*
 obtain ⟨v,er⟩:=rr
 go_enter Tryz.func25,Tryz.ntmps25
 go_wp2_with fail
 rw [←hx0]
 clear hx0
 refine HP.out.mono ?_
 rintro e x5 ⟨pv,rfl,hp5,hb5⟩
 have HB5:=ypV (zaF HB0.out hb5)
 have HR5:=HR0.out.below hb5
 have HP5:=ypV hp5
 clear HP hb5 hp5 HR0 HB0
 simp only [UZ.cells] at HP5 ⊢
 obtain ⟨sa,sn,sc,rfl⟩:=HP5.out.pv.shape
 obtain ⟨c0,c1,c2,c3,c4,c5,c6,c7,c8,c9,hrow⟩:=HR5
 have HRW:=ypV hrow
 obtain ⟨k0,k1,k2,k3,k4,k5,k6,k7,k8,k9,kf⟩:=zaQ hrow
 clear hrow
 rcases v.host.shape with hv|⟨it,iv,hv⟩
 ·have HVH:=ypV hv
  rw [hv]
  clear hv
  have HEND:=ypV (zeB HRW.out (.string ⟨v.scheme.toArray⟩) (.string ⟨v.user.toArray⟩) (.string ⟨v.pass.toArray⟩) .nilIface (.int .i64 v.port) (.slice sa sn sc) (.string ⟨v.query.toArray⟩) (.bool v.hasQ) (.string ⟨v.frag.toArray⟩) (.bool v.hasF))
  have HEB:=ypV (zcB HB5.out HP5.out hRs (.string ⟨v.scheme.toArray⟩) (.string ⟨v.user.toArray⟩) (.string ⟨v.pass.toArray⟩) .nilIface (.int .i64 v.port) (.slice sa sn sc) (.string ⟨v.query.toArray⟩) (.bool v.hasQ) (.string ⟨v.frag.toArray⟩) (.bool v.hasF))
  go_wp2
  obtain ⟨e0,e1,e2,e3,e4,e5,e6,e7,e8,e9,-⟩:=zaQ HEND.out
  refine bodyPost_ret (v:= .tuple #[.agg #[.string ⟨v.scheme.toArray⟩,.string ⟨v.user.toArray⟩,.string ⟨v.pass.toArray⟩,.nilIface,.int .i64 v.port,.slice sa sn sc,.string ⟨v.query.toArray⟩,.bool v.hasQ,.string ⟨v.frag.toArray⟩,.bool v.hasF],.int .i64 er]) (by simp [results,Tryz.results25,go_sem,e0,e1,e2,e3,e4,e5,e6,e7,e8,e9]) rfl ?_
  exact ⟨_,by rw [←HVH.out];rfl,HEB.out⟩
 ·have HVH:=ypV hv
  rw [hv]
  clear hv
  have HEND:=ypV (zeB HRW.out (.string ⟨v.scheme.toArray⟩) (.string ⟨v.user.toArray⟩) (.string ⟨v.pass.toArray⟩) (.iface it iv) (.int .i64 v.port) (.slice sa sn sc) (.string ⟨v.query.toArray⟩) (.bool v.hasQ) (.string ⟨v.frag.toArray⟩) (.bool v.hasF))
  have HEB:=ypV (zcB HB5.out HP5.out hRs (.string ⟨v.scheme.toArray⟩) (.string ⟨v.user.toArray⟩) (.string ⟨v.pass.toArray⟩) (.iface it iv) (.int .i64 v.port) (.slice sa sn sc) (.string ⟨v.query.toArray⟩) (.bool v.hasQ) (.string ⟨v.frag.toArray⟩) (.bool v.hasF))
  go_wp2
  obtain ⟨e0,e1,e2,e3,e4,e5,e6,e7,e8,e9,-⟩:=zaQ HEND.out
  refine bodyPost_ret (v:= .tuple #[.agg #[.string ⟨v.scheme.toArray⟩,.string ⟨v.user.toArray⟩,.string ⟨v.pass.toArray⟩,.iface it iv,.int .i64 v.port,.slice sa sn sc,.string ⟨v.query.toArray⟩,.bool v.hasQ,.string ⟨v.frag.toArray⟩,.bool v.hasF],.int .i64 er]) (by simp [results,Tryz.results25,go_sem,e0,e1,e2,e3,e4,e5,e6,e7,e8,e9]) rfl ?_
  exact ⟨_,by rw [←HVH.out];rfl,HEB.out⟩
end
end Go.Proofs.YtmjappnpedjlnaaGreatDoor
