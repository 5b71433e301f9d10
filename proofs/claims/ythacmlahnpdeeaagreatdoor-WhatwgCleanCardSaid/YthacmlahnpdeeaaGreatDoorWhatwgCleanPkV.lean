/-
  What the law WhatwgClean leans on, and its walk (21 of 31).
-/
import Derived.Maps.AppendAt
import Derived.Deep.RegionHeld3
import Derived.Test.YthacmlahnpdeeaaGreatDoorWhatwgCleanPkT
import Derived.Test.YthacmlahnpdeeaaGreatDoorWhatwgCleanPkD
import Derived.Test.YthacmlahnpdeeaaGreatDoorWhatwgCleanPkU
import Derived.Test.YthacmlahnpdeeaaGreatDoorWhatwgCleanPkN
import Derived.Test.YthacmlahnpdeeaaGreatDoorWhatwgCleanPkJ
namespace Go.Proofs.YthacmlahnpdeeaaGreatDoor
set_option maxRecDepth 100000
set_option maxHeartbeats 16000000
theorem tkV {P : Program} {md : Region.Mode} {ops : Array Oper} {Q : Exit → Act → World → Prop} {S : World → Prop} (i : Nat) (s : Option Nat) {op : Op} {ty : TypeId} {pos : String} {af : _} {gd : _} {v : Value} {fuel : Nat} {listed : Array Bool} {a : Act} {w : World} (hi : ops[i]? = some ⟨s, op, ty, pos, af, gd⟩)
 (hy : YieldsIf P ops S ⟨s, op, ty, pos, af, gd⟩ v a) (hS : S w)
 (h : wpAnyH P md ops Q S fuel (listed.setIfInBounds i true) (a.put s v) w)
 (hs : Region.noSelect ops = true := by kernel_rfl) (hf : Region.free md ops listed i = true := by kernel_rfl) (hr : (Region.ready md ops listed).contains i = true := by kernel_rfl)
 (hQ : ∀ c a w, Q (.panic c) (a.put s v) w → Q (.panic c) a w := by exact fun _ _ _ h => h) : wpAnyH P md ops Q S (fuel + 1) listed a w :=
 wpAnyH_take hi hs hf hr hQ hy hS h
theorem tkVa {α : Type _} (l : List α) (i : Nat) (a : α) : l.toArray.setIfInBounds i a = (l.set i a).toArray := List.setIfInBounds_toArray ..
theorem tkVb {α : Type _} (x y : α) (l : List α) : (x :: l).set 0 y = y :: l := rfl
theorem tkVc {α : Type _} (x y : α) (l : List α) (n : Nat) : (x :: l).set (n + 1) y = x :: l.set n y := rfl
section
open Go.RowKit
/-- a slice of these texts:nil,or a row -/
def PV (w:World) (v:Value) (ps:List (List UInt8)):Prop:=(ps=[]∧v= .slice none 0 0)∨ ∃g c,v= .slice (some ⟨g,0,none⟩) ps.length c∧ps.length≤c∧Seen w g ps
theorem PV.keep {w w':World} {v:Value} {ps:List (List UInt8)} (h:PV w v ps) (hb:Below w.heap.size w w'):PV w' v ps:=by
 rcases h with h|⟨g,c,h1,h2,h3⟩
 ·exact .inl h
 ·exact .inr ⟨g,c,h1,h2,h3.keep hb⟩
theorem zbA.cases {B:Nat} {w:World} {v:Value} {ps:List (List UInt8)} (h:zbA B w v ps):(ps=[]∧v= .slice none 0 0)∨ ∃g c,v= .slice (some ⟨g,0,none⟩) ps.length c∧ps.length≤c∧B≤g∧Seen w g ps:=by
 unfold zbA at h
 rcases h.2 with ⟨h1,h2⟩|⟨g,c,cur,h1,h2,h3,h4,h5,h6,h7⟩
 ·exact .inl ⟨List.eq_nil_of_length_eq_zero h2,h1⟩
 ·refine .inr ⟨g,c,h1,h4,h2,zaC h3,fun j hj=> ?_⟩
  have hq:(zeL ps)[j]? =some (.string ⟨(ps.getD j []).toArray⟩):=by
   simp [zeL,strC,List.getD,List.getElem?_eq_getElem hj]
  have:=h.cells (g:=g) (by rw [h1];rfl) j _ hq
  have e:(⟨g,0,none⟩:Addr).add j=⟨g,j,none⟩:=by simp [Addr.add];intro h;omega
  rw [e] at this
  exact this
theorem zbA.pv {B:Nat} {w:World} {v:Value} {ps:List (List UInt8)} (h:zbA B w v ps):PV w v ps:=by
 rcases h.cases with h|⟨g,c,h1,h2,_,h4⟩
 ·exact .inl h
 ·exact .inr ⟨g,c,h1,h2,h4⟩
theorem yaI (ps:List (List UInt8)):(ps.map fun p=>(⟨p.toArray⟩:ByteArray)).map Value.string=zeL ps:=by simp [zeL,strC]
theorem zhG (v:Value) (ps:List (List UInt8)) (w:World) (h:PV w v ps) (hl:ps.length≤1000000):
  Calls Tryz.prog 78 #[v] w fun e w'=> ∃v',e= .returned v'∧zbA w.heap.size w' v' ps∧Below w.heap.size w w':=by
 rcases h with ⟨rfl,rfl⟩|⟨g,c,rfl,_,hs⟩
 ·refine (Tryz.slices_Clone_string_nil 0 0 w).mono ?_
  rintro e w' ⟨rfl,rfl⟩
  exact ⟨_,rfl,zbA.nil _ _,Below.refl _ _⟩
 ·refine (Tryz.slices_Clone_string g 0 ps.length c (ps.map fun p=>⟨p.toArray⟩) w (by simp) (by omega) (fun j hj=> ?_)).mono ?_
  ·rw [List.length_map] at hj
   rw [Nat.zero_add,hs.2 j hj]
   simp [List.getD,List.getElem?_eq_getElem hj]
  ·rintro e w' ⟨v',rfl,hown,_,hb⟩
   refine ⟨v',rfl,?_,hb⟩
   have e:((ps.map fun p=>(⟨p.toArray⟩:ByteArray)).take ps.length).map Value.string=zeL ps:=by
    rw [List.take_of_length_le (by simp),yaI]
   rw [e] at hown
   exact hown
theorem z3V {B:Nat} {w:World} {g n c:Nat} {ps:List (List UInt8)} (h:zbA B w (.slice (some ⟨g,0,none⟩) n c) ps):zbA B w (.slice (some ⟨g,0,none⟩) (n - 1:Nat) c) ps.dropLast:=by
 unfold zbA at*
 rcases h.2 with ⟨h1,h2⟩|⟨g',c',cur,h1,h2,h3,h4,h5,h6,h7⟩
 ·cases h1
 ·simp only [Value.slice.injEq,Option.some.injEq,Addr.mk.injEq,and_true] at h1
  obtain ⟨rfl,rfl,rfl⟩:=h1
  have e:zeL ps.dropLast=(zeL ps).take (ps.length - 1):=by
   unfold zeL;rw [List.dropLast_eq_take,List.map_take]
  refine ⟨by simp [zeL],.inr ⟨g,c,cur,by simp,h2,h3,by simp;omega,h5,h6,?_⟩⟩
  rw [e,←h7,List.take_take,List.length_dropLast]
  congr 1
  omega
theorem zsD (B:Nat) (v:Value) (ps:List (List UInt8)) (w:World) (h:zbA B w v ps) (hl:ps.length≤10000000):
  Calls Tryz.prog 79 #[v] w fun e w'=> ∃v',e= .returned v'∧zbA B w v' ps.dropLast∧v'.ownBlock=v.ownBlock∧w=w':=by
 rcases h.cases with ⟨rfl,rfl⟩|⟨g,c,rfl,hc,_,_⟩
 ·have hs: ∀W,(Instr.slice 25 (.slice none 0 0) none (some (.int .i64 0)) none).run Tryz.prog W= .ok (.slice none 0 0) W:=fun W=>by
   rw [run_slice_h W 25 none 0 0 (by simp [Program.elem,Tryz.underlying25]) .i64 _ (by omega) (by omega)]
   rfl
  go_enter Tryz.func79,Tryz.ntmps79
  go_wp2
  go_ret
  exact ⟨_,rfl,zbA.nil _ _,rfl,rfl⟩
 ·have HP:=Lib.hid (z3V h)
  clear h
  generalize ps.length=n at*
  have hs: ∀W (k:Nat),k≤c→(Instr.slice 25 (.slice (some ⟨g,0,none⟩) n c) none (some (.int .i64 (k:Int))) none).run Tryz.prog W= .ok (.slice (some ⟨g,0,none⟩) k c) W:=fun W k hk=>by
   rw [run_slice_h W 25 (some ⟨g,0,none⟩) n c (by simp [Program.elem,Tryz.underlying25]) .i64 _ (by omega) (by omega)]
   go_simp
  match n,hc,hl,HP with
  |0,hc,hl,HP=>
   have hs0:=fun W=>hs W 0 (by omega)
   clear hs
   go_enter Tryz.func79,Tryz.ntmps79
   go_wp2
   go_ret
   exact ⟨_,rfl,HP.out,rfl,rfl⟩
  |n+1,hc,hl,HP=>
   have hs0:=fun W=>hs W n (by omega)
   have HP2:Hid (zbA B w (.slice (some ⟨g,0,none⟩) n c) ps.dropLast):=HP.out
   clear hs HP
   by_cases h0:n=0
   ·subst h0
    go_enter Tryz.func79,Tryz.ntmps79
    go_wp2
    go_ret
    exact ⟨_,rfl,HP2.out,rfl,rfl⟩
   ·have hd:0<n:=by omega
    go_enter Tryz.func79,Tryz.ntmps79
    go_wp2
    go_ret
    exact ⟨_,rfl,HP2.out,rfl,rfl⟩
theorem yaM (s old:ByteArray):Lib.countB s old≤s.size+1:=by
 have:=Lib.count_le s.data.toList old.data.toList
 rw [zaU] at this
 exact this
theorem z3B (l:List UInt8) (w:World) (hl:l.length≤1000000000) (hmax:MaxVar w):
  Calls Tryz.prog 122 #[.string ⟨l.toArray⟩,.string ⟨#[37,50,101]⟩,.string ⟨#[46]⟩] w (zeB w (Lib.replaceAll l [37,50,101] [46])):=by
 obtain ⟨m,hm⟩:=hmax
 have hz:=zaJ l
 have h1:=yaM ⟨l.toArray⟩ ⟨#[37,50,101]⟩
 have h2:(ByteArray.mk #[46]).size=1:=rfl
 exact Tryz.strings_ReplaceAll ⟨l.toArray⟩ ⟨#[37,50,101]⟩ ⟨#[46]⟩ m w (by omega) hm (by decide) (by rw [h2];omega)
/-- append of one text,laid in a new block,onto a row of the call's own -/
theorem ztR {P:Program} (w:World) {ops:Array Oper} {rest:List Oper} {o:Oper} {a:Act} {Q:Exit→Act→World→Prop} (hgd:o.guard=none) (s x:Operand) (t:TypeId)
  (ho:o.op= .call {callee:= .builtin .append,args:= #[s,x],argTypes:= #[t,t]})
  (base:Nat) (e:TypeId) (i:TypeInfo) (z:Value) (bytes:Nat) (ht:P.underlying t=some (.slice e)) (hi:P.info? e=some i) (hz:i.zero=some z)
  (hsize:i.size=1) (hby:i.bytes=bytes) (hzs:z.cells.size=1)
  (v:Value) (n:Nat) (xs:List Value) (hs:a.eval s=v) (hown:w.ownsRow base e 1 v n xs) (u:Value) (hx:a.eval x= .slice (some ⟨w.heap.size,0,none⟩) 1 1) (hu:u.oneCell'=true)
  (h63:n+1≤9223372036854775807) (hbytes:(n+1)*bytes≤140737488355328) (hbase:base≤w.heap.size)
  (h: ∀v' w',w'.ownsRow base e 1 v' (n+1) (xs++[u])→w.grownBy w' v.ownBlock→(v'.ownBlock=v.ownBlock∨ ∃k,v'.ownBlock=some k∧w.heap.size≤k)→wpList P ops Q rest (a.put o.dst v') w'):wpList P ops Q (o::rest) a (w.alloc (.cells #[u] e)):=by
 refine wpList_append_own_at (w.alloc (.cells #[u] e)) hgd s x t ho base e i z 1 bytes ht hi hz hsize hby hzs (by decide) v n xs hs (hown.alloc _) ⟨w.heap.size,0,none⟩ 1 1 [u] hx rfl (zsR w u e) ?_ h63 hbytes (by simp;omega) ?_
 ·intro y hy;simp at hy;subst hy;exact hu
 ·intro v' w1 hown' hg _ hat
  refine h v' w1 hown' ⟨hg.os,hg.tape,hg.output,Nat.le_trans (by simp) hg.size,fun k hk hne=> ?_⟩ ?_
  ·exact (hg.block k (by simp;omega) hne).trans (((Below.refl _ w).alloc (Nat.le_refl _) _).block k hk)
  ·rcases hat with q|q
   ·exact .inl q
   ·exact .inr ⟨_,q,by simp⟩
/-- segments under way:'x':the world at the loop's beginning,'v0':the segments there -/
structure Segs (base:Nat) (x:World) (v0:Value) (y:World) (v:Value) (out:List (List UInt8)):Prop where
 own:zbA base y v out
 grown:x.grownBy y v0.ownBlock
 at_:v.ownBlock=v0.ownBlock∨ ∃b,v.ownBlock=some b∧x.heap.size≤b
theorem Segs.keep {base:Nat} {x:World} {v0:Value} {y z:World} {v:Value} {out:List (List UInt8)} (h:Segs base x v0 y v out) (hb:Below y.heap.size y z):Segs base x v0 z v out:=
 ⟨h.own.below hb,⟨hb.os.trans h.grown.os,hb.tape.trans h.grown.tape,hb.output.trans h.grown.output,Nat.le_trans h.grown.size hb.size,fun k hk hne=>(hb.block k (Nat.lt_of_lt_of_le hk h.grown.size)).trans (h.grown.block k hk hne)⟩,h.at_⟩
theorem Segs.app {base:Nat} {x:World} {v0:Value} {y z:World} {v v':Value} {out:List (List UInt8)} {q:List UInt8} (h:Segs base x v0 y v out) (hown:z.ownsRow base 9 1 v' (out.length+1) (zeL out++[.string ⟨q.toArray⟩])) (hg:y.grownBy z v.ownBlock) (hat:v'.ownBlock=v.ownBlock∨ ∃k,v'.ownBlock=some k∧y.heap.size≤k):Segs base x v0 z v' (out++[q]):=by
 refine ⟨zbA.snoc hown rfl,⟨hg.os.trans h.grown.os,hg.tape.trans h.grown.tape,hg.output.trans h.grown.output,Nat.le_trans h.grown.size hg.size,fun k hk hne=> ?_⟩,?_⟩
 ·refine (hg.block k (Nat.lt_of_lt_of_le hk h.grown.size) (fun e=> ?_)).trans (h.grown.block k hk hne)
  rcases h.at_ with q|⟨b,q,hb⟩
  ·exact hne (e.trans q)
  ·rw [q] at e;have:=Option.some.inj e;omega
 ·rcases hat with q|⟨k,q,hk⟩
  ·rcases h.at_ with r|r
   ·exact .inl (q.trans r)
   ·exact .inr (by rw [q];exact r)
  ·exact .inr ⟨k,q,Nat.le_trans h.grown.size hk⟩
theorem Segs.drop {base:Nat} {x:World} {v0:Value} {y:World} {v v':Value} {out:List (List UInt8)} (h:Segs base x v0 y v out) (hp:zbA base y v' out.dropLast) (hb:v'.ownBlock=v.ownBlock):Segs base x v0 y v' out.dropLast:=
 ⟨hp,h.grown,by rw [hb];exact h.at_⟩
theorem Segs.block {base:Nat} {x:World} {v0:Value} {y:World} {v:Value} {out:List (List UInt8)} (h:Segs base x v0 y v out) (hv: ∀b,v0.ownBlock=some b→base≤b) {k:Nat} (hk:k<base) (hx:base≤x.heap.size):y.heap[k]? =x.heap[k]? :=
 h.grown.block k (by omega) (fun e=>by have:=hv k e.symm;omega)
end

section
open Go.RowKit
theorem zqY {B:Nat} {w w':World} {v:Value} {ps:List (List UInt8)} (h:zbA B w v ps) (he: ∀b,v.ownBlock=some b→w'.heap[b]? =w.heap[b]?):zbA B w' v ps:=by
 unfold zbA at*
 refine ⟨h.1,?_⟩
 rcases h.2 with q|⟨g,cap,cur,e,hb,hg,r⟩
 ·exact .inl q
 ·exact .inr ⟨g,cap,cur,e,hb,(he g (by rw [e];rfl)).trans hg,r⟩
theorem zcI {B C:Nat} {w:World} {v:Value} {ps:List (List UInt8)} (h:zbA B w v ps) (hC:C≤B):zbA C w v ps:=by
 unfold zbA at*
 refine ⟨h.1,?_⟩
 rcases h.2 with q|⟨g,cap,cur,e,hb,r⟩
 ·exact .inl q
 ·exact .inr ⟨g,cap,cur,e,Nat.le_trans hC hb,r⟩
theorem zmD {w y:World} (h:MaxVar w) (he:y.heap[2]? =w.heap[2]?):MaxVar y:=by
 obtain ⟨m,hm⟩:=h
 exact ⟨m,(World.cell?_of_block (a:=⟨2,0,none⟩) he).trans hm⟩
theorem zoF {w:World} (h:MaxVar w):2<w.heap.size:=by
 obtain ⟨m,hm⟩:=h
 exact World.block_lt_of_cell? w _ hm
theorem zwW {w:World} {M:Nat} {l:List UInt8} (h:MaxVar w) (hm:MB w M l):2≠M:=fun e=>by
 obtain ⟨m,hm2⟩:=h
 rw [e,hm.cell] at hm2
 cases hm2
theorem znQ {w y:World} {M:Nat} {l:List UInt8} (h:MaxVar w) (hm:MB w M l) (ho:Only [M] w y):MaxVar y:=
 zmD h (ho.block _ (zoF h) (by rw [List.mem_singleton];exact zwW h hm))
theorem ybY {p:UInt8→Bool} {l x:List UInt8} (h:x∈splitB p l):x.length≤l.length:=by
 have h2:=(zyB p l).2.1
 have key: ∀(ps:List (List UInt8)),x∈ps→x.length≤ziH ps:=by
  intro ps
  induction ps with
  |nil=>intro h;cases h
  |cons y r ih=>
   intro h
   have e:ziH (y::r)=y.length+ziH r:=by simp [ziH]
   rcases List.mem_cons.1 h with q|q
   ·rw [q,e];omega
   ·have:=ih q;rw [e];omega
 have:=key _ h
 omega
theorem ydY (st:Int) (l:List UInt8):(encW st l).length≤12*l.length:=by
 have h1:=zmL st (scal ⟨l.toArray⟩) (scal ⟨l.toArray⟩).length
 rw [List.take_length] at h1
 have h2:=yhF ⟨l.toArray⟩
 rw [zaJ] at h2
 unfold encW
 omega
theorem goW_at {from_ out:List (List UInt8)} {ps:List (List UInt8)} {k:Nat} {p:List UInt8} (hk:k<ps.length) (hp:ps.getD k []=p) (h:goW from_ ps=goW out (ps.drop k)):goW from_ ps=goW (zhB (decide (k+1=ps.length)) out (encW 4 p)) (ps.drop (k+1)):=by
 have e:ps.drop k=p::ps.drop (k+1):=by
  rw [List.drop_eq_getElem_cons hk]
  congr 1
  rw [←hp]
  simp [List.getD,List.getElem?_eq_getElem hk]
 have e2:(ps.drop (k+1)).isEmpty=decide (k+1=ps.length):=by
  rw [Bool.eq_iff_iff,List.isEmpty_iff,List.drop_eq_nil_iff,decide_eq_true_eq]
  omega
 rw [h,e,goW,e2]
theorem ykD {b:Bool} {out:List (List UInt8)} {q:List UInt8} (h:ptsW q=0):zhB b out q=out++[q]:=by unfold zhB;rw [if_pos h]
theorem yeB {out:List (List UInt8)} {q:List UInt8} (h:ptsW q=1):zhB true out q=out++[[]]:=by unfold zhB;rw [if_neg (by omega),if_pos rfl,if_neg (by omega)]
theorem yjS {out:List (List UInt8)} {q:List UInt8} (h:ptsW q=1):zhB false out q=out:=by unfold zhB;rw [if_neg (by omega),if_neg (by decide),if_neg (by omega)]
theorem yeU {out:List (List UInt8)} {q:List UInt8} (h:ptsW q=2):zhB true out q=out.dropLast++[[]]:=by unfold zhB;rw [if_neg (by omega),if_pos rfl,if_pos h]
theorem yjW {out:List (List UInt8)} {q:List UInt8} (h:ptsW q=2):zhB false out q=out.dropLast:=by unfold zhB;rw [if_neg (by omega),if_neg (by decide),if_pos h]
theorem ygT {k n:Nat}:((k:Int)==(n:Int) - 1)=decide (k+1=n):=by
 rw [Bool.eq_iff_iff,beq_iff_eq,decide_eq_true_eq];omega
/-- what a path's call leaves -/
def ylS (w:World) (M:Nat) (ps:List (List UInt8)) (left:List UInt8) (e:Ending) (w':World):Prop:= ∃v',e= .returned v'∧zbA w.heap.size w' v' ps∧MB w' M left∧Only [M] w w'
theorem zsS (M:Nat) (l:List UInt8) (fv:Value) (from_:List (List UInt8)) (w:World) (hl:l.length≤1000000) (hfl:from_.length≤1000000) (hm:MB w M l) (hf:PV w fv from_) (hmax:MaxVar w):
  Calls Tryz.prog 76 #[.pointer (some ⟨M,0,none⟩),fv] w (ylS w M (zmP from_ (l.take (l.findIdx (hasB [63,35])))) (l.drop (l.findIdx (hasB [63,35])))):=by
 obtain ⟨i0,hi,hz0,hz1,hz2⟩:=info_parts Tryz.infoStr
 have hMw:=zaC hm
 have HCL:=Lib.hid (zhG fv from_ w hf hfl)
 have HM:=Lib.hid hm
 have HX:=Lib.hid hmax
 have hptl:(l.take (l.findIdx (hasB [63,35]))).length≤l.length:=by rw [List.length_take];omega
 have HU:=Lib.hid (fun W (h:MB W M l)=>ziM [63,35] (by decide) M l W h)
 generalize l.take (l.findIdx (hasB [63,35]))=part at*
 generalize l.drop (l.findIdx (hasB [63,35]))=left at*
 have HSP:=Lib.hid (fun W=>zdV ⟨part.toArray⟩ ⟨#[47,92]⟩ W (by rw [zaJ];omega))
 rw [zaW part,zaW [47,92]] at HSP
 have HPW:Hid (zmP from_ part=goW from_ (splitB (hasB [47,92]) part)):=rfl
 have hsl:=zdE (hasB [47,92]) part
 have HPL:=Lib.hid (fun x (h:x∈splitB (hasB [47,92]) part)=>ybY h)
 have hne:=zqG (hasB [47,92]) part
 generalize splitB (hasB [47,92]) part=ps at*
 clear hm hf hmax
 go_enter Tryz.func76,Tryz.ntmps76
 go_wp2_with fail
 refine HCL.out.mono ?_
 rintro e x1 ⟨v0,rfl,hp0,hb1⟩
 have HU1:=Lib.hid (HU.out _ (HM.out.below hb1))
 go_wp2_with fail
 refine (znT [63,35] _).mono ?_
 rintro e x2 ⟨rfl,rfl⟩
 go_wp2_with fail
 refine HU1.out.mono ?_
 rintro e x3 ⟨rfl,hm3,ho3⟩
 go_wp2_with fail
 refine (HSP.out _).mono ?_
 rintro e x4 ⟨vp,rfl,hpp,hb4⟩
 obtain ⟨N,hN⟩: ∃N,ps.length=N:=⟨_,rfl⟩
 have hNp:0<N:=by rw [←hN];exact List.length_pos_iff.2 hne
 obtain ⟨gp,cp,rfl,hgB,hgs⟩: ∃gp cp,vp= .slice (some ⟨gp,0,none⟩) N cp∧x3.heap.size≤gp∧Seen x4 gp ps:=by
  rcases zbA.cases hpp with ⟨e,_⟩|⟨g,c,h1,h2,h3,h4⟩
  ·exact absurd e hne
  ·exact ⟨g,c,by rw [h1,hN],h3,h4⟩
 have hv0: ∀b,v0.ownBlock=some b→w.heap.size≤b∧b<x1.heap.size:=fun b hb=>World.ownsRow.lt hp0 b hb
 have hO1:Only [M] w x3:=(Only.of_below (F:=[M]) hb1).trans ho3 (fun x hx=> .inl hx)
 have hO4:Only [M] w x4:=hO1.then_below hb4
 have hs13:=ho3.size
 have hp3:zbA w.heap.size x3 v0 from_:=zqY hp0 (fun b hb=>ho3.block b (hv0 b hb).2 (by have:=(hv0 b hb).1;simp;omega))
 have HS0:Hid (Segs w.heap.size x4 v0 x4 v0 from_):=⟨hp3.below hb4,⟨rfl,rfl,rfl,Nat.le_refl _,fun _ _ _=>rfl⟩,.inl rfl⟩
 have hw4:w.heap.size≤x4.heap.size:=hO4.size
 have HROW:Hid (∀y v out,Segs w.heap.size x4 v0 y v out→ ∀j,j<N→y.cell? ⟨gp,j,none⟩=some (.string ⟨(ps.getD j []).toArray⟩)):=fun y v out h j hj=>by
  refine (World.cell?_of_block (a:=⟨gp,j,none⟩) (h.grown.block gp hgs.1 (fun e=> ?_))).trans (hgs.2 j (by omega))
  have:=(hv0 gp e.symm).2
  have:=hb1.size
  omega
 have HMAX:Hid (∀y v out,Segs w.heap.size x4 v0 y v out→MaxVar y):=fun y v out h=>by
  refine zmD HX.out ((h.block (fun b hb=>(hv0 b hb).1) (zoF HX.out) hw4).trans (hO4.block _ (zoF HX.out) ?_))
  rw [List.mem_singleton]
  exact zwW HX.out HM.out
 have HEND:Hid (∀y v out,Segs w.heap.size x4 v0 y v out→MB y M left∧Only [M] w y):=fun y v out h=>
  ⟨(h.block (fun b hb=>(hv0 b hb).1) hMw hw4).trans (hm3.below hb4),h.grown.os.trans hO4.os,h.grown.tape.trans hO4.tape,h.grown.output.trans hO4.output,Nat.le_trans hw4 h.grown.size,fun b hb hn=>(h.block (fun b hb=>(hv0 b hb).1) hb hw4).trans (hO4.block b hb hn)⟩
 rw [hN] at hsl
 have HN:=Lib.hid hN
 clear HX HM HCL HU HU1 HSP hp0 hb1 hm3 ho3 hpp hb4 hgB hgs hv0 hO1 hO4 hs13 hp3 hne hN
 go_wp2
 go_loopw [5,18] (fun v i wr=> ∃(k:Nat) (out:List (List UInt8)),k≤N∧i= .int .i64 k∧Hid (Segs w.heap.size x4 v0 wr v out)∧out.length≤from_.length+k∧Hid (goW from_ ps=goW out (ps.drop k))) (fun _ i _=>N - (intOf i).toNat)
 case atStart=>exact ⟨0,from_,Nat.zero_le _,rfl,HS0,Nat.le_refl _,rfl⟩
 case round=>
  obtain ⟨k,out,hk,rfl,HSG,hol,HS⟩:=hrel
  by_cases hlt:k<N
  ·have hcell:=HROW.out _ _ _ HSG.out k hlt
   obtain ⟨p,hp⟩: ∃p,ps.getD k []=p:=⟨_,rfl⟩
   rw [hp] at hcell
   have HST:=Lib.hid (goW_at (by rw [HN.out];exact hlt) hp HS.out)
   have hpl:p.length≤part.length:=HPL.out p (by
    have hkl:k<ps.length:=by rw [HN.out];exact hlt
    rw [←hp];simp only [List.getD,List.getElem?_eq_getElem hkl,Option.getD_some];exact List.getElem_mem hkl)
   rw [HN.out] at HST
   have hql:=ydY 4 p
   have HEN:=Lib.hid (fun W=>zgR 4 p W (by decide) (by omega))
   have hp2:=ykC (encW 4 p)
   have hp1:=ylQ (encW 4 p)
   have hple:=pts_le (encW 4 p)
   have hbl:((k:Int)==(N:Int) - 1)=decide (k+1=N):=ygT
   clear hp HS
   generalize encW 4 p=q at*
   have HLO:=Lib.hid (fun W=>zvW ⟨q.toArray⟩ W (by rw [zaJ];omega))
   rw [zaW] at HLO
   have HRE:=Lib.hid (fun W (h:MaxVar W)=>z3B (zbF q) W (by rw [zkO];omega) h)
   generalize Lib.replaceAll (zbF q) [37,50,101] [46]=t at*
   go_wp2_with fail
   refine (HEN.out _).mono ?_
   rintro e y1 ⟨rfl,hy1⟩
   have HSG1:=Lib.hid (HSG.out.keep hy1)
   clear HEN hy1 HSG
   go_wp2_with fail
   refine (HLO.out _).mono ?_
   rintro e y2 ⟨rfl,hy2⟩
   have HSG2:=Lib.hid (HSG1.out.keep hy2)
   clear HLO hy2 HSG1
   go_wp2_with fail
   refine (HRE.out _ (HMAX.out _ _ _ HSG2.out)).mono ?_
   rintro e y3 ⟨rfl,hy3⟩
   have HSG3:=Lib.hid (HSG2.out.keep hy3)
   have hsz:w.heap.size≤y3.heap.size:=Nat.le_trans hw4 HSG3.out.grown.size
   have hown:=HSG3.out.own
   unfold zbA at hown
   clear HRE hy3 HSG2 hcell
   rcases (show ptsW q=2∨ptsW q=1∨ptsW q=0 by omega) with h2|h1|h0
   ·obtain rfl:=hp2.1 h2
    have e2:(([46,46]:List UInt8)==[46,46])=true:=rfl
    have HWL:=Lib.hid (zsD w.heap.size _ out y3 HSG3.out.own (by omega))
    by_cases hla:k+1=N
    ·rw [decide_eq_true hla] at hbl HST
     rw [yeU h2] at HST
     clear hp2 hp1 h2
     go_wp2_with fail
     refine HWL.out.mono ?_
     rintro e w' ⟨v2,rfl,hpd,hbd,rfl⟩
     have HSG4:=Lib.hid (HSG3.out.drop hpd hbd)
     have hdl:out.dropLast.length≤out.length:=by rw [List.length_dropLast];omega
     unfold zbA at hpd
     go_wp2_with (first|(at_builtin;refine ztR _ rfl _ _ 25 rfl w.heap.size 9 i0 (.string ⟨#[]⟩) 16 Tryz.underlying25 hi hz0 hz1 hz2 rfl _ _ _ rfl hpd (.string ⟨#[]⟩) rfl rfl (by omega) (by omega) hsz ?_;intro v' w1 hown' hgr' hat')|go_in)
     go_roundw
     case rel=>exact ⟨k+1,out.dropLast++[[]],by omega,by go_num,HSG4.out.app hown' hgr' hat',by simp;omega,HST.out⟩
     case measure=>simp [intOf];omega
    ·rw [decide_eq_false hla] at hbl HST
     rw [yjW h2] at HST
     clear hp2 hp1 h2
     go_wp2_with fail
     refine HWL.out.mono ?_
     rintro e w' ⟨v2,rfl,hpd,hbd,rfl⟩
     have HSG4:=Lib.hid (HSG3.out.drop hpd hbd)
     have hdl:out.dropLast.length≤out.length:=by rw [List.length_dropLast];omega
     go_wp2
     go_roundw
     case rel=>exact ⟨k+1,out.dropLast,by omega,by go_num,HSG4.out,by omega,HST.out⟩
     case measure=>simp [intOf];omega
   ·obtain rfl:=hp1.1 h1
    have e1:(([46]:List UInt8)==[46,46])=false:=rfl
    have e2:(([46]:List UInt8)==[46])=true:=rfl
    by_cases hla:k+1=N
    ·rw [decide_eq_true hla] at hbl HST
     rw [yeB h1] at HST
     clear hp2 hp1 h1
     go_wp2_with (first|(at_builtin;refine ztR _ rfl _ _ 25 rfl w.heap.size 9 i0 (.string ⟨#[]⟩) 16 Tryz.underlying25 hi hz0 hz1 hz2 rfl _ _ _ rfl hown (.string ⟨#[]⟩) rfl rfl (by omega) (by omega) hsz ?_;intro v' w1 hown' hgr' hat')|go_in)
     go_roundw
     case rel=>exact ⟨k+1,out++[[]],by omega,by go_num,HSG3.out.app hown' hgr' hat',by simp;omega,HST.out⟩
     case measure=>simp [intOf];omega
    ·rw [decide_eq_false hla] at hbl HST
     rw [yjS h1] at HST
     clear hp2 hp1 h1
     go_wp2
     go_roundw
     case rel=>exact ⟨k+1,out,by omega,by go_num,HSG3.out,by omega,HST.out⟩
     case measure=>simp [intOf];omega
   ·have e1:(t==[46,46])=false:=by rw [beq_eq_false_iff_ne];intro g;have:=hp2.2 g;omega
    have e2:(t==[46])=false:=by rw [beq_eq_false_iff_ne];intro g;have:=hp1.2 g;omega
    rw [ykD h0] at HST
    clear hp2 hp1 h0
    go_wp2_with (first|(at_builtin;refine ztR _ rfl _ _ 25 rfl w.heap.size 9 i0 (.string ⟨#[]⟩) 16 Tryz.underlying25 hi hz0 hz1 hz2 rfl _ _ _ rfl hown (.string ⟨q.toArray⟩) rfl rfl (by omega) (by omega) hsz ?_;intro v' w1 hown' hgr' hat')|go_in)
    go_roundw
    case rel=>exact ⟨k+1,out++[q],by omega,by go_num,HSG3.out.app hown' hgr' hat',by simp;omega,HST.out⟩
    case measure=>simp [intOf];omega
  ·have hkN:k=N:=by omega
   have HF:Hid (goW from_ ps=out):=by show _=_;rw [HS.out,List.drop_eq_nil_of_le (by rw [HN.out];omega)];rfl
   clear HS
   go_wp2
   go_ret
   exact ⟨_,rfl,by rw [HPW.out,HF.out];exact HSG.out.own,HEND.out _ _ _ HSG.out⟩
end

section
open Go.RowKit
theorem zaS {x:World} {g:Nat} {c0 c1 c2 c3 c4 c5 c6 c7 c8 c9:Value} {t:TypeId} (h:x.heap[g]? =some (.cells #[c0,c1,c2,c3,c4,c5,c6,c7,c8,c9] t (0,0))):x.cell? ⟨g,0,none⟩=some c0∧x.cell? ⟨g,1,none⟩=some c1∧x.cell? ⟨g,2,none⟩=some c2∧x.cell? ⟨g,3,none⟩=some c3∧x.cell? ⟨g,4,none⟩=some c4∧x.cell? ⟨g,5,none⟩=some c5∧x.cell? ⟨g,6,none⟩=some c6∧x.cell? ⟨g,7,none⟩=some c7∧x.cell? ⟨g,8,none⟩=some c8∧x.cell? ⟨g,9,none⟩=some c9∧ ∀i,x.frozen? ⟨g,i,none⟩=false:=by
 refine ⟨?_,?_,?_,?_,?_,?_,?_,?_,?_,?_,zbK h⟩<;>rw [cell_of_row x _ _ _ _ _ h]<;>rfl
theorem zdK {x:World} {g:Nat} {c0 c1 c2 c3 c4 c5 c6 c7 c8 c9:Value} {t:TypeId} (h:x.heap[g]? =some (.cells #[c0,c1,c2,c3,c4,c5,c6,c7,c8,c9] t)) (a0 a1 a2 a3 a4 a5 a6 a7 a8 a9:Value):((((((((((x.setCell ⟨g,0,none⟩ a0).setCell ⟨g,1,none⟩ a1).setCell ⟨g,2,none⟩ a2).setCell ⟨g,3,none⟩ a3).setCell ⟨g,4,none⟩ a4).setCell ⟨g,5,none⟩ a5).setCell ⟨g,6,none⟩ a6).setCell ⟨g,7,none⟩ a7).setCell ⟨g,8,none⟩ a8).setCell ⟨g,9,none⟩ a9).heap[g]? =some (.cells #[a0,a1,a2,a3,a4,a5,a6,a7,a8,a9] t):=by
 have:=zaP (zaP (zaP (zaP (zaP (zaP (zaP (zaP (zaP (zaP h 0 a0) 1 a1) 2 a2) 3 a3) 4 a4) 5 a5) 6 a6) 7 a7) 8 a8) 9 a9
 simpa using this
theorem zcS {w x:World} {g B:Nat} (h:Below B w x) (hg:B≤g) (a0 a1 a2 a3 a4 a5 a6 a7 a8 a9:Value):Below B w ((((((((((x.setCell ⟨g,0,none⟩ a0).setCell ⟨g,1,none⟩ a1).setCell ⟨g,2,none⟩ a2).setCell ⟨g,3,none⟩ a3).setCell ⟨g,4,none⟩ a4).setCell ⟨g,5,none⟩ a5).setCell ⟨g,6,none⟩ a6).setCell ⟨g,7,none⟩ a7).setCell ⟨g,8,none⟩ a8).setCell ⟨g,9,none⟩ a9):=
 (((((((((h.setCell (p:=⟨g,0,none⟩) hg _).setCell (p:=⟨g,1,none⟩) hg _).setCell (p:=⟨g,2,none⟩) hg _).setCell (p:=⟨g,3,none⟩) hg _).setCell (p:=⟨g,4,none⟩) hg _).setCell (p:=⟨g,5,none⟩) hg _).setCell (p:=⟨g,6,none⟩) hg _).setCell (p:=⟨g,7,none⟩) hg _).setCell (p:=⟨g,8,none⟩) hg _).setCell (p:=⟨g,9,none⟩) hg _
theorem zbU {w x:World} {g:Nat} {F:List Nat} (h:Only F w x) (hg:g∈F∨w.heap.size≤g) (a0 a1 a2 a3 a4 a5 a6 a7 a8 a9:Value):Only F w ((((((((((x.setCell ⟨g,0,none⟩ a0).setCell ⟨g,1,none⟩ a1).setCell ⟨g,2,none⟩ a2).setCell ⟨g,3,none⟩ a3).setCell ⟨g,4,none⟩ a4).setCell ⟨g,5,none⟩ a5).setCell ⟨g,6,none⟩ a6).setCell ⟨g,7,none⟩ a7).setCell ⟨g,8,none⟩ a8).setCell ⟨g,9,none⟩ a9):=
 (((((((((h.setCell (p:=⟨g,0,none⟩) hg _).setCell (p:=⟨g,1,none⟩) hg _).setCell (p:=⟨g,2,none⟩) hg _).setCell (p:=⟨g,3,none⟩) hg _).setCell (p:=⟨g,4,none⟩) hg _).setCell (p:=⟨g,5,none⟩) hg _).setCell (p:=⟨g,6,none⟩) hg _).setCell (p:=⟨g,7,none⟩) hg _).setCell (p:=⟨g,8,none⟩) hg _).setCell (p:=⟨g,9,none⟩) hg _
def zbJ:Array Value:= #[.string ⟨#[]⟩,.string ⟨#[]⟩,.string ⟨#[]⟩,.nilIface,.int .i64 0,.slice none 0 0,.string ⟨#[]⟩,.bool false,.string ⟨#[]⟩,.bool false]
theorem zzY:zdM.cells (.slice none 0 0)=zbJ:=rfl
/-- a URL is returned,and an error -/
def RetURL (w:World) (x:UZ×Int) (pv:Value) (e:Ending) (w':World):Prop:=e= .returned (.tuple #[.agg (x.1.cells pv),.int .i64 x.2])∧Below w.heap.size w w'
theorem who_at (a:List UInt8): ∃(z:Int) (m r:Nat),Lib.lastIndexByte ⟨a.toArray⟩ 64=z∧max z 0=(m:Int)∧z+1=(r:Int)∧ -1≤z∧m≤a.length∧r≤a.length∧zqB a=encW 5 (Lib.cut (a.take m) [58]).1∧zpQ a=encW 5 (Lib.cut (a.take m) [58]).2.1∧zdO a=a.drop r:=by
 rcases yjD a with ⟨h1,h2⟩|⟨i,hi,h1,h2⟩
 ·obtain ⟨e1,e2,e3⟩:=z6M a h2
  exact ⟨-1,0,0,h1,by omega,rfl,by omega,Nat.zero_le _,Nat.zero_le _,e1,e2,e3⟩
 ·obtain ⟨e1,e2,e3⟩:=yfA a h2
  exact ⟨i,i,i+1,h1,by omega,by omega,by omega,by omega,by omega,e1,e2,e3⟩
theorem zvO (l:List UInt8):(Lib.cut l [58]).1.length≤l.length∧(Lib.cut l [58]).2.1.length≤l.length:=by
 rw [z2A]
 simp only [List.length_take,List.length_drop]
 omega
theorem z8T: ∀(l:List UInt8) (i:Bool),(hpW i l).1.length≤l.length∧(hpW i l).2.length≤l.length
 |[],i=>by simp [hpW]
 |c::r,i=>by
  rw [ziA]
  split
  ·simp
  ·have:=z8T r (if c=91 then true else if c=93 then false else i)
   simp only [List.length_cons]
   omega
theorem ycL (l:List UInt8):(if hd1 [58] (l.drop (zcM zhT false l))=true then (l.drop (zcM zhT false l)).drop 1 else l.drop (zcM zhT false l))=(hpW false l).2:=by
 have h1:=(zgT l false).2.1
 have h2:=(zgT l false).2.2
 generalize zcM zhT false l=n at*
 by_cases hn:n<l.length
 ·rw [znV,if_pos]
  ·exact h1
  ·rw [List.head?_drop,decide_eq_true (h2 hn)]
 ·have e:l.drop n=[]:=List.drop_eq_nil_of_le (by omega)
  rw [e] at h1 ⊢
  exact h1
theorem z8K {l:List UInt8} (h:(zcR l).2≠0):(zcR l).1= .none:=z1H h
end

section
open Go.RowKit
/-- a result's ten cells are there,whatever they hold -/
def RB (w:World) (R:Nat):Prop:= ∃c0 c1 c2 c3 c4 c5 c6 c7 c8 c9,w.heap[R]? =some (.cells #[c0,c1,c2,c3,c4,c5,c6,c7,c8,c9] 27)
theorem RB.below {w w':World} {R:Nat} (h:RB w R) (hb:Below w.heap.size w w'):RB w' R:=by
 obtain ⟨c0,c1,c2,c3,c4,c5,c6,c7,c8,c9,h⟩:=h
 exact ⟨c0,c1,c2,c3,c4,c5,c6,c7,c8,c9,(hb.block R (zaC h)).trans h⟩
theorem RB.lt {w:World} {R:Nat} (h:RB w R):R<w.heap.size:=by
 obtain ⟨c0,c1,c2,c3,c4,c5,c6,c7,c8,c9,h⟩:=h
 exact zaC h
theorem RB.only {w w':World} {R:Nat} {F:List Nat} (h:RB w R) (ho:Only F w w') (hR:R∉F):RB w' R:=by
 obtain ⟨c0,c1,c2,c3,c4,c5,c6,c7,c8,c9,h⟩:=h
 exact ⟨c0,c1,c2,c3,c4,c5,c6,c7,c8,c9,(ho.block R (zaC h) hR).trans h⟩
theorem UB.rb {w:World} {U:Nat} {u:UZ} {pv:Value} (h:UB w U u pv):RB w U:=⟨_,_,_,_,_,_,_,_,_,_,h⟩
theorem RB.new (w:World):RB (w.alloc (.cells zbJ 27)) w.heap.size:=⟨_,_,_,_,_,_,_,_,_,_,heap_alloc_new w _⟩
/-- two fields of a URL are written -/
theorem UB.who {w:World} {U:Nat} {u:UZ} {pv:Value} (h:UB w U u pv) (a:List UInt8):UB (w.setCell ⟨U,1,none⟩ (.string ⟨a.toArray⟩)) U {u with user:=a} pv:=zaP h 1 _
theorem UB.pwd {w:World} {U:Nat} {u:UZ} {pv:Value} (h:UB w U u pv) (a:List UInt8):UB (w.setCell ⟨U,2,none⟩ (.string ⟨a.toArray⟩)) U {u with pass:=a} pv:=zaP h 2 _
theorem UB.pth {w:World} {U:Nat} {u:UZ} {pv:Value} (h:UB w U u pv) (v:Value):UB (w.setCell ⟨U,5,none⟩ v) U u v:=zaP h 5 _
theorem RB.set {w:World} {R g i:Nat} (h:RB w R) (hne:R≠g) (v:Value):RB (w.setCell ⟨g,i,none⟩ v) R:=by
 obtain ⟨c0,c1,c2,c3,c4,c5,c6,c7,c8,c9,h⟩:=h
 exact ⟨c0,c1,c2,c3,c4,c5,c6,c7,c8,c9,(zbD hne i v).trans h⟩
/-- a URL's ten cells -/
theorem UB.all {w:World} {U:Nat} {u:UZ} {pv:Value} (h:UB w U u pv):w.cell? ⟨U,0,none⟩=some (.string ⟨u.scheme.toArray⟩)∧w.cell? ⟨U,1,none⟩=some (.string ⟨u.user.toArray⟩)∧w.cell? ⟨U,2,none⟩=some (.string ⟨u.pass.toArray⟩)∧w.cell? ⟨U,3,none⟩=some u.host.val∧w.cell? ⟨U,4,none⟩=some (.int .i64 u.port)∧w.cell? ⟨U,5,none⟩=some pv∧w.cell? ⟨U,6,none⟩=some (.string ⟨u.query.toArray⟩)∧w.cell? ⟨U,7,none⟩=some (.bool u.hasQ)∧w.cell? ⟨U,8,none⟩=some (.string ⟨u.frag.toArray⟩)∧w.cell? ⟨U,9,none⟩=some (.bool u.hasF)∧ ∀i,w.frozen? ⟨U,i,none⟩=false:=zaS h
theorem UB.new (x:World) (u:UZ) (pv:Value):UB (x.alloc (.cells (u.cells pv) 27)) x.heap.size u pv:=heap_alloc_new x _
theorem zaI (x:World) (cs:Array Value):Below x.heap.size x (x.alloc (.cells cs 27)):=(Below.refl _ x).alloc (Nat.le_refl _) _
theorem zvS (a name:List UInt8) (w:World) (hl:a.length≤1000000) (hmax:MaxVar w):
  Calls Tryz.prog 74 #[.string ⟨a.toArray⟩,.string ⟨name.toArray⟩] w (RetURL w (zlT name a) (.slice none 0 0)):=by
 obtain ⟨z,m,r,hz,hzm,hzr,hz1,hm,hr,hu,hp,hb⟩:=who_at a
 have hs1:=z2M a m hm
 have hs2: ∀W,(Instr.slice 9 (.string ⟨a.toArray⟩) (some (.int .i64 (z+1))) none none).run Tryz.prog W= .ok (.string ⟨(a.drop r).toArray⟩) W:=by rw [hzr];exact zkR a r hr
 have hzs:(ByteArray.mk a.toArray).size=a.length:=zaJ a
 have HLI:Hid (∀W,Calls Tryz.prog 115 #[.string ⟨a.toArray⟩,.int .u8 64] W fun e w'=>e= .returned (.int .i64 z)∧W=w'):=fun W=>(Tryz.strings_LastIndexByte ⟨a.toArray⟩ 64 (by omega) W).mono (fun e w' h=>⟨by rw [h.1,hz],h.2.symm⟩)
 have htl:(a.take m).length≤a.length:=by rw [List.length_take];omega
 have hc1:=(zvO (a.take m)).1
 have hc2:=(zvO (a.take m)).2
 have HCU:Hid (∀W,MaxVar W→Calls Tryz.prog 116 #[.string ⟨(a.take m).toArray⟩,.string ⟨#[58]⟩] W fun e w'=>e= .returned (.tuple #[.string ⟨(Lib.cut (a.take m) [58]).1.toArray⟩,.string ⟨(Lib.cut (a.take m) [58]).2.1.toArray⟩,.bool (Lib.cut (a.take m) [58]).2.2])∧Below W.heap.size W w'):=fun W hW=>by
  obtain ⟨mm,hmm⟩:=hW
  exact (Tryz.strings_Cut ⟨(a.take m).toArray⟩ ⟨#[58]⟩ mm W (by rw [zaJ];omega) hmm).mono (fun e w' h=>⟨h.1,by obtain ⟨n,rfl⟩:=h.2;exact zbY (Below.refl _ _) n⟩)
 have HUS:=Lib.hid (fun W=>zgR 5 (Lib.cut (a.take m) [58]).1 W (by decide) (by omega))
 have HPS:=Lib.hid (fun W=>zgR 5 (Lib.cut (a.take m) [58]).2.1 W (by decide) (by omega))
 rw [←hu] at HUS
 rw [←hp] at HPS
 generalize Lib.cut (a.take m) [58]=cu at*
 generalize a.take m=ta at*
 have hbl:(a.drop r).length≤a.length:=by rw [List.length_drop];omega
 have HRC:Hid (zlT name a=if (zcR (hpW false (a.drop r)).1).2≠0 then (zdM,(zcR (hpW false (a.drop r)).1).2) else if (zhI name (hpW false (a.drop r)).2).2=false then (zdM,8) else ({zdM with scheme:=name,user:=zqB a,pass:=zpQ a,host:=(zcR (hpW false (a.drop r)).1).1,port:=(zhI name (hpW false (a.drop r)).2).1},0)):=by show _=_;rw [←hb];rfl
 have hh1:=(z8T (a.drop r) false).1
 have hh2:=(z8T (a.drop r) false).2
 have HMH:=Lib.hid (fun M W (h:MB W M (a.drop r))=>z7U M (a.drop r) W h)
 have HSK:=Lib.hid (fun M W (h:MB W M ((a.drop r).drop (zcM zhT false (a.drop r))))=>zhF M _ [58] W h)
 rw [ycL] at HSK
 generalize (a.drop r).drop (zcM zhT false (a.drop r))=l1 at*
 generalize hd1 [58] l1=kb at*
 generalize zqB a=us at*
 generalize zpQ a=pw at*
 generalize hpW false (a.drop r)=hp2 at*
 generalize a.drop r=bh at*
 have HHP:=Lib.hid (fun W (h:MaxVar W)=>zdD ⟨hp2.1.toArray⟩ W (by rw [zaJ];omega) h)
 rw [zaW] at HHP
 have hhe:=z8K (l:=hp2.1)
 have HRP:=Lib.hid (fun W=>zwM name hp2.2 W)
 have HX:=Lib.hid hmax
 obtain ⟨x0,hx0⟩: ∃y,y=w.alloc (.cells zbJ 27):=⟨_,rfl⟩
 have HB0:Hid (Below w.heap.size w x0):=by show Below _ _ _;rw [hx0];exact (Below.refl _ w).alloc (Nat.le_refl _) _
 have HR0:Hid (RB x0 w.heap.size):=by show RB _ _;rw [hx0];exact RB.new w
 have HX0:=Lib.hid (zaB hmax HB0.out)
 unfold zbJ at hx0
 clear hmax hz hb hu hp hzr
 go_enter Tryz.func74,Tryz.ntmps74
 go_wp2_with fail
 rw [←hx0]
 clear hx0
 refine (HLI.out _).mono ?_
 rintro e w' ⟨rfl,rfl⟩
 go_wp2_with fail
 refine (HCU.out _ HX0.out).mono ?_
 rintro e x1 ⟨rfl,hb1⟩
 have HB1:=Lib.hid (zaF HB0.out hb1)
 have HR1:=Lib.hid (HR0.out.below hb1)
 clear hb1 HB0 HR0 HCU HLI HX0
 obtain ⟨x2,hx2⟩: ∃y,y=x1.alloc (.cells #[.string ⟨bh.toArray⟩] 67):=⟨_,rfl⟩
 have hb2:Below x1.heap.size x1 x2:=by rw [hx2];exact (Below.refl _ _).alloc (Nat.le_refl _) _
 have HB2:=Lib.hid (zaF HB1.out hb2)
 have HR2:=Lib.hid (HR1.out.below hb2)
 have hM2:MB x2 x1.heap.size bh:=by rw [hx2];exact heap_alloc_new x1 _
 have HMH2:=Lib.hid (HMH.out _ _ hM2)
 have hRM:w.heap.size≠x1.heap.size:=by have:=HR1.out.lt;omega
 have hwM:w.heap.size≤x1.heap.size:=HB1.out.size
 clear hb2 HB1 HR1 HMH hM2
 go_wp2_with fail
 rw [←hx2]
 clear hx2
 refine HMH2.out.mono ?_
 rintro e x3 ⟨rfl,hm3,ho3⟩
 have HB3:=Lib.hid (HB2.out.trans (ho3.below HB2.out.size (fun x hx=>by rw [List.mem_singleton.1 hx];exact hwM)))
 have HR3:=Lib.hid (HR2.out.only ho3 (by simp [hRM]))
 have HM3:=Lib.hid hm3
 clear ho3 hm3 HMH2 HB2 HR2
 go_wp2_with fail
 refine (HHP.out _ (zaB HX.out HB3.out)).mono ?_
 rintro e x4 ⟨rfl,hb4⟩
 have HB4:=Lib.hid (zaF HB3.out hb4)
 have HR4:=Lib.hid (HR3.out.below hb4)
 have HM4:=Lib.hid (HM3.out.below hb4)
 clear HB3 HR3 HM3 hb4 HHP HX
 have hok:=znA (l:=hp2.1)
 generalize zcR hp2.1=hz at*
 obtain ⟨h,he⟩:=hz
 simp only at hhe hok HRC ⊢
 by_cases h0:he=0
 ·obtain ⟨it,iv,hiv⟩:=HZ.iface (hok h0).ne
  rw [hiv]
  have HIV:=Lib.hid hiv
  clear hiv hok
  have HRC2:=Lib.hid (HRC.out.trans (if_neg (fun g=>g h0)))
  have hd0:(he !=(0:Int))=false:=by rw [h0];rfl
  clear hhe HRC h0
  have HSK4:=Lib.hid (HSK.out _ _ HM4.out)
  go_wp2_with fail
  refine HSK4.out.mono ?_
  rintro e x5 ⟨rfl,hm5,ho5⟩
  have HB5:=Lib.hid (HB4.out.trans (ho5.below HB4.out.size (fun x hx=>by rw [List.mem_singleton.1 hx];exact hwM)))
  have HR5:=Lib.hid (HR4.out.only ho5 (by simp [hRM]))
  have c5:=hm5.cell
  clear ho5 hm5 HB4 HR4 HM4 HSK HSK4
  go_wp2_with fail
  refine (HRP.out _).mono ?_
  rintro e x6 ⟨rfl,hb6⟩
  have HB6:=Lib.hid (zaF HB5.out hb6)
  have HR6:=Lib.hid (HR5.out.below hb6)
  clear HB5 HR5 hb6 HRP c5
  generalize zhI name hp2.2=po at*
  obtain ⟨pn,pb⟩:=po
  simp only at HRC2 ⊢
  cases pb with
  |false=>
   have HRC3:=Lib.hid (HRC2.out.trans (if_pos rfl))
   obtain ⟨c0,c1,c2,c3,c4,c5,c6,c7,c8,c9,hrow⟩:=HR6.out
   have HRW:=Lib.hid hrow
   obtain ⟨k0,k1,k2,k3,k4,k5,k6,k7,k8,k9,kf⟩:=zaS hrow
   clear hrow HR6 HRC2 HUS HPS
   have HEND:=Lib.hid (zdK HRW.out (.string ⟨#[]⟩) (.string ⟨#[]⟩) (.string ⟨#[]⟩) .nilIface (.int .i64 0) (.slice none 0 0) (.string ⟨#[]⟩) (.bool false) (.string ⟨#[]⟩) (.bool false))
   have HEB:=Lib.hid (zcS HB6.out (Nat.le_refl _) (.string ⟨#[]⟩) (.string ⟨#[]⟩) (.string ⟨#[]⟩) .nilIface (.int .i64 0) (.slice none 0 0) (.string ⟨#[]⟩) (.bool false) (.string ⟨#[]⟩) (.bool false))
   go_wp2
   obtain ⟨e0,e1,e2,e3,e4,e5,e6,e7,e8,e9,-⟩:=zaS HEND.out
   refine bodyPost_ret (v:= .tuple #[.agg zbJ,.int .i64 8]) (by simp [results,Tryz.results74,go_sem,e0,e1,e2,e3,e4,e5,e6,e7,e8,e9,zbJ]) rfl ?_
   rw [HRC3.out]
   exact ⟨rfl,HEB.out⟩
  |true=>
   have HRC3:=Lib.hid (HRC2.out.trans (if_neg (by decide)))
   clear HRC2
   obtain ⟨x7,hx7⟩: ∃y,y=x6.alloc (.cells #[.string ⟨name.toArray⟩,.string ⟨#[]⟩,.string ⟨#[]⟩,(.iface it iv),.int .i64 pn,.slice none 0 0,.string ⟨#[]⟩,.bool false,.string ⟨#[]⟩,.bool false] 27):=⟨_,rfl⟩
   have hU7:UB x7 x6.heap.size {zdM with scheme:=name,host:=h,port:=pn} (.slice none 0 0):=by rw [hx7,←HIV.out];exact heap_alloc_new x6 _
   have hb7:Below x6.heap.size x6 x7:=by rw [hx7];exact zaI x6 _
   have HB7:=Lib.hid (zaF HB6.out hb7)
   have HR7:=Lib.hid (HR6.out.below hb7)
   have HU7:=Lib.hid hU7
   have hgw:w.heap.size≤x6.heap.size:=HB6.out.size
   have hgR:w.heap.size≠x6.heap.size:=by have:=HR6.out.lt;omega
   clear HB6 HR6 hb7 hU7
   go_wp2_with fail
   rw [←hx7]
   clear hx7
   generalize x6.heap.size=g at*
   refine (HUS.out _).mono ?_
   rintro e x8 ⟨rfl,hb8⟩
   have HB8:=Lib.hid (zaF HB7.out hb8)
   have HR8:=Lib.hid (HR7.out.below hb8)
   have HU8:=Lib.hid (HU7.out.below hb8)
   obtain ⟨-,c1,-,-,-,-,-,-,-,-,f8⟩:=HU8.out.all
   have f81:=f8 1
   have HB9:=Lib.hid (HB8.out.setCell (p:=⟨g,1,none⟩) hgw (.string ⟨us.toArray⟩))
   have HR9:=Lib.hid (HR8.out.set (i:=1) hgR (.string ⟨us.toArray⟩))
   have HU9:=Lib.hid (HU8.out.who us)
   clear hb8 HB7 HR7 HU7 HB8 HR8 HU8 HUS f8
   go_wp2_with fail
   clear c1 f81
   generalize x8.setCell ⟨g,1,none⟩ (.string ⟨us.toArray⟩)=x9 at*
   refine (HPS.out _).mono ?_
   rintro e y8 ⟨rfl,hb8⟩
   have HB8:=Lib.hid (zaF HB9.out hb8)
   have HR8:=Lib.hid (HR9.out.below hb8)
   have HU8:=Lib.hid (HU9.out.below hb8)
   obtain ⟨-,-,c2,-,-,-,-,-,-,-,f8⟩:=HU8.out.all
   have f82:=f8 2
   have HBA:=Lib.hid (HB8.out.setCell (p:=⟨g,2,none⟩) hgw (.string ⟨pw.toArray⟩))
   have HRA:=HR8.out.set (i:=2) hgR (.string ⟨pw.toArray⟩)
   have HUA:=HU8.out.pwd pw
   have HUL:(y8.setCell ⟨g,2,none⟩ (.string ⟨pw.toArray⟩)).heap[g]? =some (.cells #[.string ⟨name.toArray⟩,.string ⟨us.toArray⟩,.string ⟨pw.toArray⟩,(.iface it iv),.int .i64 pn,.slice none 0 0,.string ⟨#[]⟩,.bool false,.string ⟨#[]⟩,.bool false] 27):=by rw [←HIV.out];exact HUA
   obtain ⟨d0,d1,d2,d3,d4,d5,d6,d7,d8,d9,-⟩:=zaS HUL
   obtain ⟨c0,c1,c2',c3,c4,c5,c6,c7,c8,c9,hrow⟩:=HRA
   have HRW:=Lib.hid hrow
   obtain ⟨k0,k1,k2,k3,k4,k5,k6,k7,k8,k9,kf⟩:=zaS hrow
   clear hrow hb8 HB9 HR9 HU9 HB8 HR8 HU8 HPS f8 HUA HUL
   have HEND:=Lib.hid (zdK HRW.out (.string ⟨name.toArray⟩) (.string ⟨us.toArray⟩) (.string ⟨pw.toArray⟩) (.iface it iv) (.int .i64 pn) (.slice none 0 0) (.string ⟨#[]⟩) (.bool false) (.string ⟨#[]⟩) (.bool false))
   have HEB:=Lib.hid (zcS HBA.out (Nat.le_refl _) (.string ⟨name.toArray⟩) (.string ⟨us.toArray⟩) (.string ⟨pw.toArray⟩) (.iface it iv) (.int .i64 pn) (.slice none 0 0) (.string ⟨#[]⟩) (.bool false) (.string ⟨#[]⟩) (.bool false))
   go_wp2
   obtain ⟨e0,e1,e2,e3,e4,e5,e6,e7,e8,e9,-⟩:=zaS HEND.out
   refine bodyPost_ret (v:= .tuple #[.agg #[.string ⟨name.toArray⟩,.string ⟨us.toArray⟩,.string ⟨pw.toArray⟩,(.iface it iv),.int .i64 pn,.slice none 0 0,.string ⟨#[]⟩,.bool false,.string ⟨#[]⟩,.bool false],.int .i64 0]) (by simp [results,Tryz.results74,go_sem,e0,e1,e2,e3,e4,e5,e6,e7,e8,e9]) rfl ?_
   rw [HRC3.out]
   exact ⟨by rw [←HIV.out];rfl,HEB.out⟩
 ·have HRC2:=Lib.hid (HRC.out.trans (if_pos h0))
  have hd0:(he !=(0:Int))=true:=by rw [bne_iff_ne];exact h0
  obtain rfl:h= .none:=hhe h0
  obtain ⟨c0,c1,c2,c3,c4,c5,c6,c7,c8,c9,hrow⟩:=HR4.out
  have HRW:=Lib.hid hrow
  obtain ⟨k0,k1,k2,k3,k4,k5,k6,k7,k8,k9,kf⟩:=zaS hrow
  clear hrow HR4 HRC HUS HPS hhe h0 hok
  have HEND:=Lib.hid (zdK HRW.out (.string ⟨#[]⟩) (.string ⟨#[]⟩) (.string ⟨#[]⟩) .nilIface (.int .i64 0) (.slice none 0 0) (.string ⟨#[]⟩) (.bool false) (.string ⟨#[]⟩) (.bool false))
  have HEB:=Lib.hid (zcS HB4.out (Nat.le_refl _) (.string ⟨#[]⟩) (.string ⟨#[]⟩) (.string ⟨#[]⟩) .nilIface (.int .i64 0) (.slice none 0 0) (.string ⟨#[]⟩) (.bool false) (.string ⟨#[]⟩) (.bool false))
  go_wp2
  obtain ⟨e0,e1,e2,e3,e4,e5,e6,e7,e8,e9,-⟩:=zaS HEND.out
  refine bodyPost_ret (v:= .tuple #[.agg zbJ,.int .i64 he]) (by simp [results,Tryz.results74,go_sem,e0,e1,e2,e3,e4,e5,e6,e7,e8,e9,zbJ]) rfl ?_
  rw [HRC2.out]
  exact ⟨rfl,HEB.out⟩
end

section
open Go.RowKit
theorem yeM (l:List UInt8):(if hd1 [47,92] l=true then l.drop 1 else l)=offW l:=by
 match l with
 |[]=>rfl
 |c::r=>
  have e:hd1 [47,92] (c::r)=zdL c:=by
   have b: ∀d:UInt8,(d==c)=(c==d):=fun d=>by rw [Bool.eq_iff_iff,beq_iff_eq,beq_iff_eq];exact eq_comm
   have h47:=b 47
   have h92:=b 92
   show hasB [47,92] c=zdL c
   simp only [hasB,List.any_cons,List.any_nil,Bool.or_false,h47,h92,zdL]
  rw [e]
  rfl
theorem ybL (l:List UInt8):l.drop (l.findIdx (hasB [63,35]))=[]∨(l.drop (l.findIdx (hasB [63,35]))).head? =some 63∨(l.drop (l.findIdx (hasB [63,35]))).head? =some 35:=by
 by_cases h:l.findIdx (hasB [63,35])<l.length
 ·have h1:=List.findIdx_getElem (w:=h)
  rw [zxH,dif_pos h]
  have h2:l[l.findIdx (hasB [63,35])]=63∨l[l.findIdx (hasB [63,35])]=35:=by
   have:=h1
   simp only [hasB,List.any_cons,List.any_nil,Bool.or_false,Bool.or_eq_true,beq_iff_eq] at this
   rcases this with g|g
   ·exact .inl g.symm
   ·exact .inr g.symm
  rcases h2 with g|g
  ·exact .inr (.inl (by rw [g]))
  ·exact .inr (.inr (by rw [g]))
 ·exact .inl (List.drop_eq_nil_of_le (by omega))
/-- a path's end,and what stands behind it -/
theorem zlX (u:UZ) (from_:List (List UInt8)) (l:List UInt8):zeM u from_ l=finC {u with path:=zmP from_ (l.take (l.findIdx (hasB [63,35])))} (l.drop (l.findIdx (hasB [63,35]))):=by
 unfold zeM
 exact (zmS _ (ybL l)).symm
theorem zgN (u:UZ) (l:List UInt8):(finC u l).path=u.path:=by
 unfold finC;repeat' split
 all_goals rfl
/-- a slice's block is not among these,and is as it was -/
theorem zbA.only {B:Nat} {F:List Nat} {w w':World} {v:Value} {ps:List (List UInt8)} (h:zbA B w v ps) (ho:Only F w w') (hF: ∀b∈F,b<B):zbA B w' v ps:=
 zqY h (fun b hb=>ho.block b (World.ownsRow.lt h b hb).2 (fun g=>by have:=hF b g;have:=(World.ownsRow.lt h b hb).1;omega))
/-- a URL is returned,and an error,by a machine -/
def RetUP (w:World) (M:Nat) (x:UZ×Int) (e:Ending) (w':World):Prop:= ∃pv,e= .returned (.tuple #[.agg (x.1.cells pv),.int .i64 x.2])∧zbA w.heap.size w' pv x.1.path∧Only [M] w w'
theorem zgZ {w x y:World} {M G:Nat} (hb:Only [M] w x) (hG:w.heap.size≤G) (h:Only [M,G] x y):Only [M] w y:=
 hb.trans h (fun z hz=>by
  rcases List.mem_cons.1 hz with e|e
  ·exact .inl (by rw [e];exact List.mem_cons_self ..)
  ·rw [List.mem_singleton] at e;exact .inr (by omega))
theorem zgV (u:UZ) (l:List UInt8):(finC u l).host=u.host:=by
 unfold finC;repeat' split
 all_goals rfl
theorem z3I {name a:List UInt8} (h:(zlT name a).2=0):(zlT name a).1.host≠ .none:=by
 unfold zlT at*
 split at h
 ·rename_i h1;exact absurd h h1
 ·rename_i h1
  rw [if_neg h1]
  split at h
  ·cases h
  ·rename_i h2
   rw [if_neg h2]
   exact (znA (Decidable.not_not.1 h1)).ne
theorem PV.shape {w:World} {v:Value} {ps:List (List UInt8)} (h:PV w v ps): ∃a n c,v= .slice a n c:=by
 rcases h with ⟨_,h⟩|⟨g,c,h,_⟩
 ·exact ⟨_,_,_,h⟩
 ·exact ⟨_,_,_,h⟩
theorem z9W {name a:List UInt8} (h:(zlT name a).2≠0):(zlT name a).1=zdM:=by
 unfold zlT at*
 split
 ·rfl
 ·rename_i h1
  rw [if_neg h1] at h
  split
  ·rfl
  ·rename_i h2
   rw [if_neg h2] at h
   exact absurd rfl h
theorem yaS (l:List UInt8):(offW l).length≤l.length:=by
 match l with
 |[]=>exact Nat.le_refl _
 |c::r=>
  show (if zdL c=true then r else c::r).length≤(c::r).length
  split<;>simp
theorem zgB (M:Nat) (l name:List UInt8) (w:World) (hl:l.length≤100000) (hm:MB w M l) (hmax:MaxVar w) (hn:ownZ name=80∨ownZ name=443):
  Calls Tryz.prog 41 #[.pointer (some ⟨M,0,none⟩),.string ⟨name.toArray⟩] w (RetUP w M (zfH name l)):=by
 have HRES:=Lib.hid (z3C name l hn)
 have HU1:=Lib.hid (fun W (h:MB W M l)=>ziM [47,92,63,35] (by decide) M l W h)
 have hal:(l.take (l.findIdx (hasB [47,92,63,35]))).length≤l.length:=by rw [List.length_take];omega
 have hrl:(l.drop (l.findIdx (hasB [47,92,63,35]))).length≤l.length:=by rw [List.length_drop];omega
 generalize l.take (l.findIdx (hasB [47,92,63,35]))=a at*
 generalize l.drop (l.findIdx (hasB [47,92,63,35]))=rest at*
 have HRA:=Lib.hid (fun W (h:MaxVar W)=>zvS a name W (by omega) h)
 have hRe:=z9W (name:=name) (a:=a)
 have hRh:=z3I (name:=name) (a:=a)
 generalize zlT name a=rc at*
 obtain ⟨u,er⟩:=rc
 simp only at HRES hRe hRh
 have HSK:=Lib.hid (fun W (h:MB W M rest)=>zhF M rest [47,92] W h)
 rw [yeM] at HSK
 have hol:=yaS rest
 have HWF:=Lib.hid (zlX u [] (offW rest))
 generalize hd1 [47,92] rest=kb at*
 generalize offW rest=t at*
 have HPA:=Lib.hid (fun W (h:MB W M t) (hx:MaxVar W)=>zsS M t (.slice none 0 0) [] W (by omega) (by simp) h (.inl ⟨rfl,rfl⟩) hx)
 have hll:(t.drop (t.findIdx (hasB [63,35]))).length≤t.length:=by rw [List.length_drop];omega
 generalize zmP [] (t.take (t.findIdx (hasB [63,35])))=ps at*
 generalize t.drop (t.findIdx (hasB [63,35]))=left at*
 have HX:=Lib.hid hmax
 have HM:=Lib.hid hm
 have hMw:=zaC hm
 obtain ⟨x0,hx0⟩: ∃y,y=w.alloc (.cells zbJ 27):=⟨_,rfl⟩
 have hb0:Below w.heap.size w x0:=by rw [hx0];exact zaI w _
 have HR0:Hid (RB x0 w.heap.size):=by show RB _ _;rw [hx0];exact RB.new w
 have hM0:MB x0 M l:=hm.below hb0
 have HU:=Lib.hid (HU1.out x0 hM0)
 have HO0:Hid (Only [M] w x0):=Only.of_below hb0
 unfold zbJ at hx0
 clear hmax hm hn hb0 hM0 HU1
 go_enter Tryz.func41,Tryz.ntmps41
 go_wp2_with fail
 rw [←hx0]
 clear hx0
 refine (znT [47,92,63,35] _).mono ?_
 rintro e x1 ⟨rfl,rfl⟩
 go_wp2_with fail
 refine HU.out.mono ?_
 rintro e x2 ⟨rfl,hm2,ho2⟩
 have hRM:w.heap.size≠M:=by omega
 have HR2:=Lib.hid (HR0.out.only ho2 (by simp [hRM]))
 have HO2:=Lib.hid (HO0.out.trans ho2 (fun x hx=> .inl hx))
 have HM2:=Lib.hid hm2
 have HX2:=Lib.hid (znQ HX.out HM.out HO2.out)
 clear HU HR0 HO0 ho2 hm2
 go_wp2_with fail
 refine (HRA.out _ HX2.out).mono ?_
 rintro e x3 ⟨rfl,hb3⟩
 have HR3:=Lib.hid (HR2.out.below hb3)
 have HO3:=Lib.hid (HO2.out.then_below hb3)
 have HM3:=Lib.hid (HM2.out.below hb3)
 clear HRA HR2 HO2 HM2 HX2 hb3
 have hw3:w.heap.size≤x3.heap.size:=HO3.out.size
 have hRg:w.heap.size≠x3.heap.size:=by have:=HR3.out.lt;omega
 have hMg:x3.heap.size≠M:=by have:=zaC HM3.out;omega
 by_cases h0:er=0
 ·have hd0:(er !=(0:Int))=false:=by rw [h0];rfl
  have HRES2:=Lib.hid (HRES.out.trans (if_neg (fun k=>k h0)))
  obtain ⟨it,iv,hiv⟩:=HZ.iface (hRh h0)
  clear hRe hRh HRES h0
  obtain ⟨x4,hx4⟩: ∃y,y=x3.alloc (.cells (u.cells (.slice none 0 0)) 27):=⟨_,rfl⟩
  have HU4:Hid (UB x4 x3.heap.size u (.slice none 0 0)):=by show UB _ _ _ _;rw [hx4];exact UB.new x3 u _
  have hb4:Below x3.heap.size x3 x4:=by rw [hx4];exact zaI x3 _
  have HR4:=Lib.hid (HR3.out.below hb4)
  have HO4:=Lib.hid (HO3.out.then_below hb4)
  have HM4:=Lib.hid (HM3.out.below hb4)
  have hg4:x3.heap.size<x4.heap.size:=by have:=zaC HU4.out;exact this
  clear HR3 HO3 HM3 hb4
  simp only [UZ.cells] at hx4 ⊢
  rw [hiv] at hx4 ⊢
  have HIV:=Lib.hid hiv
  clear hiv
  have HS4:=Lib.hid (HSK.out _ HM4.out)
  go_wp2_with fail
  rw [←hx4]
  clear hx4
  generalize x3.heap.size=g at*
  refine HS4.out.mono ?_
  rintro e x5 ⟨rfl,hm5,ho5⟩
  have HR5:=Lib.hid (HR4.out.only ho5 (by simp [hRM]))
  have HU5:=Lib.hid (HU4.out.only ho5 (by simp [hMg]))
  have HO5:=Lib.hid (HO4.out.trans ho5 (fun x hx=> .inl hx))
  have HP5:=Lib.hid (HPA.out _ hm5 (znQ HX.out HM.out HO5.out))
  have hg5:g<x5.heap.size:=zaC HU5.out
  clear HS4 HSK HPA HR4 HU4 HO4 HM4 hm5 ho5
  go_wp2_with fail
  refine HP5.out.mono ?_
  rintro e x6 ⟨pv,rfl,hp6,hm6,ho6⟩
  obtain ⟨sa,sn,sc,rfl⟩:=hp6.pv.shape
  have HR6:=Lib.hid (HR5.out.only ho6 (by simp [hRM]))
  have HU6:=Lib.hid (HU5.out.only ho6 (by simp [hMg]))
  have HO6:=Lib.hid (HO5.out.trans ho6 (fun x hx=> .inl hx))
  have HP6:=Lib.hid hp6
  have HM6:=Lib.hid hm6
  clear HP5 HR5 HU5 HO5 hp6 hm6 ho6
  obtain ⟨-,-,-,-,-,c5,-,-,-,-,f6⟩:=HU6.out.all
  have f65:=f6 5
  have hset:Only [g] x6 (x6.setCell ⟨g,5,none⟩ (.slice sa sn sc)):=(Only.refl _ _).setCell (p:=⟨g,5,none⟩) (.inl (List.mem_cons_self ..)) _
  have HR7:=Lib.hid (HR6.out.set (i:=5) hRg (.slice sa sn sc))
  have HU7:Hid (UB (x6.setCell ⟨g,5,none⟩ (.slice sa sn sc)) g {u with path:=ps} (.slice sa sn sc)):=HU6.out.pth (.slice sa sn sc)
  have HM7:Hid (MB (x6.setCell ⟨g,5,none⟩ (.slice sa sn sc)) M left):=HM6.out.only hset (by simp [Ne.symm hMg])
  have HO7:Hid (Only [M] w (x6.setCell ⟨g,5,none⟩ (.slice sa sn sc))):=HO6.out.setCell (p:=⟨g,5,none⟩) (.inr hw3) _
  have HP7:=Lib.hid (HP6.out.only hset (fun b hb=>by rw [List.mem_singleton.1 hb];exact hg5))
  have HF7:=Lib.hid (zfB M g left {u with path:=ps} (.slice sa sn sc) _ (by omega) HM7.out HU7.out)
  clear HR6 HU6 HO6 HP6 HM6 hset f6
  go_wp2_with fail
  clear c5 f65
  generalize x6.setCell ⟨g,5,none⟩ (.slice sa sn sc)=x7 at*
  refine HF7.out.mono ?_
  rintro e x8 ⟨rfl,hu8,ho8⟩
  have HR8:=HR7.out.only ho8 (by simp [hRM,hRg])
  have HO8:=Lib.hid (zgZ HO7.out hw3 ho8)
  have HP8:=Lib.hid (HP7.out.only ho8 (fun b hb=>by
   rcases List.mem_cons.1 hb with e|e
   ·rw [e];omega
   ·rw [List.mem_singleton] at e;omega))
  have HVH:Hid ((finC {u with path:=ps} left).host.val= .iface it iv):=by show _=_;rw [zgV];exact HIV.out
  have HFP:Hid ((finC {u with path:=ps} left).path=ps):=zgN _ _
  have HWF2:Hid (zeM u [] t=finC {u with path:=ps} left):=HWF.out
  rw [HWF2.out] at HRES2
  clear HWF HWF2 HF7 HR7 HU7 HO7 HP7 HM7 ho8
  generalize finC {u with path:=ps} left=v at*
  obtain ⟨d0,d1,d2,d3,d4,d5,d6,d7,d8,d9,-⟩:=hu8.all
  rw [HVH.out] at d3
  obtain ⟨c0,c1,c2,c3,c4,c5,c6,c7,c8,c9,hrow⟩:=HR8
  have HRW:=Lib.hid hrow
  obtain ⟨k0,k1,k2,k3,k4,k5,k6,k7,k8,k9,kf⟩:=zaS hrow
  clear hrow hu8
  have HEND:=Lib.hid (zdK HRW.out (.string ⟨v.scheme.toArray⟩) (.string ⟨v.user.toArray⟩) (.string ⟨v.pass.toArray⟩) (.iface it iv) (.int .i64 v.port) (.slice sa sn sc) (.string ⟨v.query.toArray⟩) (.bool v.hasQ) (.string ⟨v.frag.toArray⟩) (.bool v.hasF))
  have HEO:=Lib.hid (zbU (g:=w.heap.size) HO8.out (.inr (Nat.le_refl _)) (.string ⟨v.scheme.toArray⟩) (.string ⟨v.user.toArray⟩) (.string ⟨v.pass.toArray⟩) (.iface it iv) (.int .i64 v.port) (.slice sa sn sc) (.string ⟨v.query.toArray⟩) (.bool v.hasQ) (.string ⟨v.frag.toArray⟩) (.bool v.hasF))
  have HEP:=Lib.hid (HP8.out.only (zbU (g:=w.heap.size) (F:=[w.heap.size]) (Only.refl _ _) (.inl (List.mem_cons_self ..)) (.string ⟨v.scheme.toArray⟩) (.string ⟨v.user.toArray⟩) (.string ⟨v.pass.toArray⟩) (.iface it iv) (.int .i64 v.port) (.slice sa sn sc) (.string ⟨v.query.toArray⟩) (.bool v.hasQ) (.string ⟨v.frag.toArray⟩) (.bool v.hasF)) (fun b hb=>by rw [List.mem_singleton.1 hb];omega))
  go_wp2
  obtain ⟨e0,e1,e2,e3,e4,e5,e6,e7,e8,e9,-⟩:=zaS HEND.out
  refine bodyPost_ret (v:= .tuple #[.agg #[.string ⟨v.scheme.toArray⟩,.string ⟨v.user.toArray⟩,.string ⟨v.pass.toArray⟩,.iface it iv,.int .i64 v.port,(.slice sa sn sc),.string ⟨v.query.toArray⟩,.bool v.hasQ,.string ⟨v.frag.toArray⟩,.bool v.hasF],.int .i64 0]) (by simp [results,Tryz.results41,go_sem,e0,e1,e2,e3,e4,e5,e6,e7,e8,e9]) rfl ?_
  rw [HRES2.out]
  exact ⟨(.slice sa sn sc),by rw [←HVH.out];rfl,by rw [show (v,(0:Int)).1.path=ps from HFP.out];exact zcI HEP.out (by omega),HEO.out⟩
 ·have hd0:(er !=(0:Int))=true:=by rw [bne_iff_ne];exact h0
  have HRES2:=Lib.hid (HRES.out.trans (if_pos h0))
  obtain rfl:=hRe h0
  obtain ⟨x4,hx4⟩: ∃y,y=x3.alloc (.cells zbJ 27):=⟨_,rfl⟩
  have hb4:Below x3.heap.size x3 x4:=by rw [hx4];exact zaI x3 _
  have HR4:=Lib.hid (HR3.out.below hb4)
  have HO4:=Lib.hid (HO3.out.then_below hb4)
  rw [zzY]
  unfold zbJ at hx4 ⊢
  clear HR3 HO3 HM3 hb4 hRh
  obtain ⟨c0,c1,c2,c3,c4,c5,c6,c7,c8,c9,hrow⟩:=HR4.out
  have HRW:=Lib.hid hrow
  obtain ⟨k0,k1,k2,k3,k4,k5,k6,k7,k8,k9,kf⟩:=zaS hrow
  clear hrow hRe h0 HR4
  have HEND:=Lib.hid (zdK HRW.out (.string ⟨#[]⟩) (.string ⟨#[]⟩) (.string ⟨#[]⟩) .nilIface (.int .i64 0) (.slice none 0 0) (.string ⟨#[]⟩) (.bool false) (.string ⟨#[]⟩) (.bool false))
  have HEO:=Lib.hid (zbU (g:=w.heap.size) HO4.out (.inr (Nat.le_refl _)) (.string ⟨#[]⟩) (.string ⟨#[]⟩) (.string ⟨#[]⟩) .nilIface (.int .i64 0) (.slice none 0 0) (.string ⟨#[]⟩) (.bool false) (.string ⟨#[]⟩) (.bool false))
  rw [hx4] at k0 k1 k2 k3 k4 k5 k6 k7 k8 k9 kf HEND HEO
  clear hx4
  go_wp2
  obtain ⟨e0,e1,e2,e3,e4,e5,e6,e7,e8,e9,-⟩:=zaS HEND.out
  refine bodyPost_ret (v:= .tuple #[.agg zbJ,.int .i64 er]) (by simp [results,Tryz.results41,go_sem,e0,e1,e2,e3,e4,e5,e6,e7,e8,e9,zbJ]) rfl ?_
  rw [HRES2.out]
  exact ⟨.slice none 0 0,rfl,zbA.nil _ _,HEO.out⟩
end

section
open Go.RowKit
theorem zoV {w x2:World} {b:UZ} {pv:Value} (h:x2=((w.alloc (.cells (b.cells pv) 27)).alloc (.cells zbJ 27)).alloc (.cells ((zcB b).cells (.slice none 0 0)) 27)):
  UB x2 w.heap.size b pv∧RB x2 (w.heap.size+1)∧UB x2 (w.heap.size+2) (zcB b) (.slice none 0 0)∧Below w.heap.size w x2∧x2.heap.size=w.heap.size+3:=by
 have b0:=zaI w (b.cells pv)
 have u0:=UB.new w b pv
 have s0:(w.alloc (.cells (b.cells pv) 27)).heap.size=w.heap.size+1:=by simp
 generalize w.alloc (.cells (b.cells pv) 27)=x0 at*
 have b1:=zaI x0 zbJ
 have r1:=RB.new x0
 have s1:(x0.alloc (.cells zbJ 27)).heap.size=x0.heap.size+1:=by simp
 generalize x0.alloc (.cells zbJ 27)=x1 at*
 have b2:=zaI x1 ((zcB b).cells (.slice none 0 0))
 have u2:=UB.new x1 (zcB b) (.slice none 0 0)
 have s2:(x1.alloc (.cells ((zcB b).cells (.slice none 0 0)) 27)).heap.size=x1.heap.size+1:=by simp
 rw [←h] at b2 u2 s2
 rw [s0] at r1
 rw [s1,s0] at u2
 exact ⟨(u0.below b1).below b2,r1.below b2,u2,zaF (zaF b0 b1) b2,by omega⟩
/-- a URL is returned,by a machine -/
def zuC (w:World) (M:Nat) (x:UZ) (e:Ending) (w':World):Prop:= ∃pv,e= .returned (.agg (x.cells pv))∧zbA w.heap.size w' pv x.path∧Only [M] w w'
theorem UB.three {w:World} {U:Nat} {u:UZ} {pv:Value} (h:UB w U u pv) (v:Value) (q:List UInt8) (hq:Bool):UB (((w.setCell ⟨U,5,none⟩ v).setCell ⟨U,6,none⟩ (.string ⟨q.toArray⟩)).setCell ⟨U,7,none⟩ (.bool hq)) U {u with query:=q,hasQ:=hq} v:=zaP (zaP (zaP h 5 _) 6 _) 7 _
theorem zoU (M:Nat) (l:List UInt8) (b:UZ) (bpv:Value) (w:World) (hl:l.length≤100000) (_hpl:b.path.length≤1000000) (hbh:b.host≠ .none) (hm:MB w M l) (hpv:PV w bpv b.path) (hmax:MaxVar w):
  Calls Tryz.prog 42 #[.pointer (some ⟨M,0,none⟩),.agg (b.cells bpv),.bool true] w (zuC w M (relC b true l)):=by
 have HRES:Hid (relC b true l=zeM (zcB b) [] l):=by show _=_;rfl
 have HW:=HRES.out.trans (zlX (zcB b) [] l)
 clear HRES
 have HRES:=Lib.hid HW
 clear HW
 have hll:(l.drop (l.findIdx (hasB [63,35]))).length≤l.length:=by rw [List.length_drop];omega
 have HPA:=Lib.hid (fun fv (from_:List (List UInt8)) W (h:MB W M l) (hf:PV W fv from_) (h2:from_.length≤1000000) (hx:MaxVar W)=>zsS M l fv from_ W (by omega) h2 h hf hx)
 generalize l.drop (l.findIdx (hasB [63,35]))=left at*
 have HPB:=Lib.hid (fun W (h:MB W M l) (hx:MaxVar W)=>HPA.out (.slice none 0 0) [] W h (.inl ⟨rfl,rfl⟩) (by simp) hx)
 clear HPA
 generalize zmP [] (l.take (l.findIdx (hasB [63,35])))=ps at*
 obtain ⟨ba,bn,bc,rfl⟩:=hpv.shape
 obtain ⟨it,iv,hiv⟩:=HZ.iface hbh
 have HX:=Lib.hid hmax
 have HM:=Lib.hid hm
 have HPV:=Lib.hid hpv
 have hMw:=zaC hm
 obtain ⟨x2,hx2⟩: ∃y,y=((w.alloc (.cells (b.cells (.slice ba bn bc)) 27)).alloc (.cells zbJ 27)).alloc (.cells ((zcB b).cells (.slice none 0 0)) 27):=⟨_,rfl⟩
 obtain ⟨hk,hr,hu,hbw,hsz⟩:=zoV hx2
 have HK2:=Lib.hid hk
 have HR2:=Lib.hid hr
 have HU2:=Lib.hid hu
 have HO2:Hid (Only [M] w x2):=Only.of_below hbw
 have HM2:=Lib.hid (hm.below hbw)
 have HP2:=Lib.hid (hpv.keep hbw)
 have HX2:=Lib.hid (zaB hmax hbw)
 obtain ⟨-,-,-,-,-,b5,b6,b7,-,-,bf⟩:=hk.all
 have hc2:=HM2.out.cell
 have b3:=hk.all.2.2.2.1
 simp only [UZ.cells,zcB,zdM,zbJ] at hx2
 rw [hiv] at hx2 b3
 have HIV:=Lib.hid hiv
 clear hm hmax hpv hk hr hu hbw bf hbh
 go_enter Tryz.func42,Tryz.ntmps42
 simp only [UZ.cells]
 rw [hiv]
 clear hiv b3
 go_wp2_with fail
 rw [←hx2]
 clear hx2
 refine (HPB.out _ HM2.out HX2.out).mono ?_
 rintro e x6 ⟨pv,rfl,hp6,hm6,ho6⟩
 obtain ⟨sa,sn,sc,rfl⟩:=hp6.pv.shape
 have HR6:=Lib.hid (HR2.out.only ho6 (by simp;omega))
 have HU6:=Lib.hid (HU2.out.only ho6 (by simp;omega))
 have HO6:=Lib.hid (HO2.out.trans ho6 (fun x hx=> .inl hx))
 have HP6:=Lib.hid hp6
 have HM6:=Lib.hid hm6
 clear HR2 HU2 HO2 HM2 HP2 HX2 HK2 hp6 hm6 ho6 b5 b6 b7 hc2
 obtain ⟨-,-,-,-,-,c5,-,-,-,-,f6⟩:=HU6.out.all
 have f65:=f6 5
 have hset:Only [w.heap.size+2] x6 (x6.setCell ⟨w.heap.size+2,5,none⟩ (.slice sa sn sc)):=(Only.refl _ _).setCell (p:=⟨w.heap.size+2,5,none⟩) (.inl (List.mem_cons_self ..)) _
 have HR7:=Lib.hid (HR6.out.set (g:=w.heap.size+2) (i:=5) (by omega) (.slice sa sn sc))
 have HU7:Hid (UB (x6.setCell ⟨w.heap.size+2,5,none⟩ (.slice sa sn sc)) (w.heap.size+2) {zcB b with path:=ps} (.slice sa sn sc)):=HU6.out.pth (.slice sa sn sc)
 have HM7:Hid (MB (x6.setCell ⟨w.heap.size+2,5,none⟩ (.slice sa sn sc)) M left):=HM6.out.only hset (by simp;omega)
 have HO7:Hid (Only [M] w (x6.setCell ⟨w.heap.size+2,5,none⟩ (.slice sa sn sc))):=HO6.out.setCell (p:=⟨w.heap.size+2,5,none⟩) (.inr (by show w.heap.size≤w.heap.size+2;omega)) _
 have HP7:=Lib.hid (HP6.out.only hset (fun b hb=>by rw [List.mem_singleton.1 hb];omega))
 have HF7:=Lib.hid (zfB M (w.heap.size+2) left {zcB b with path:=ps} (.slice sa sn sc) _ (by omega) HM7.out HU7.out)
 clear HR6 HU6 HO6 HP6 HM6 hset f6
 go_wp2_with fail
 clear c5 f65
 generalize x6.setCell ⟨w.heap.size+2,5,none⟩ (.slice sa sn sc)=x7 at*
 refine HF7.out.mono ?_
 rintro e x8 ⟨rfl,hu8,ho8⟩
 have HR8:=HR7.out.only ho8 (by simp;omega)
 have HO8:=Lib.hid (zgZ HO7.out (by omega) ho8)
 have HP8:=Lib.hid (HP7.out.only ho8 (fun b hb=>by
  rcases List.mem_cons.1 hb with e|e
  ·rw [e];omega
  ·rw [List.mem_singleton] at e;omega))
 have HFP:Hid ((finC ({zcB b with path:=ps}) left).path=ps):=zgN _ _
 have HVH:Hid ((finC ({zcB b with path:=ps}) left).host.val= .iface it iv):=by show _=_;rw [zgV];exact HIV.out
 clear HF7 HR7 HU7 HO7 HP7 HM7 ho8
 generalize finC ({zcB b with path:=ps}) left=v at*
 obtain ⟨d0,d1,d2,d3,d4,d5,d6,d7,d8,d9,-⟩:=hu8.all
 rw [HVH.out] at d3
 obtain ⟨c0,c1,c2,c3,c4,c5,c6,c7,c8,c9,hrow⟩:=HR8
 have HRW:=Lib.hid hrow
 obtain ⟨k0,k1,k2,k3,k4,k5,k6,k7,k8,k9,kf⟩:=zaS hrow
 clear hrow hu8
 have HEND:=Lib.hid (zdK HRW.out (.string ⟨v.scheme.toArray⟩) (.string ⟨v.user.toArray⟩) (.string ⟨v.pass.toArray⟩) (.iface it iv) (.int .i64 v.port) (.slice sa sn sc) (.string ⟨v.query.toArray⟩) (.bool v.hasQ) (.string ⟨v.frag.toArray⟩) (.bool v.hasF))
 have HEO:=Lib.hid (zbU (g:=w.heap.size+1) HO8.out (.inr (Nat.le_succ _)) (.string ⟨v.scheme.toArray⟩) (.string ⟨v.user.toArray⟩) (.string ⟨v.pass.toArray⟩) (.iface it iv) (.int .i64 v.port) (.slice sa sn sc) (.string ⟨v.query.toArray⟩) (.bool v.hasQ) (.string ⟨v.frag.toArray⟩) (.bool v.hasF))
 have HEP:=Lib.hid (HP8.out.only (zbU (g:=w.heap.size+1) (F:=[w.heap.size+1]) (Only.refl _ _) (.inl (List.mem_cons_self ..)) (.string ⟨v.scheme.toArray⟩) (.string ⟨v.user.toArray⟩) (.string ⟨v.pass.toArray⟩) (.iface it iv) (.int .i64 v.port) (.slice sa sn sc) (.string ⟨v.query.toArray⟩) (.bool v.hasQ) (.string ⟨v.frag.toArray⟩) (.bool v.hasF)) (fun b hb=>by rw [List.mem_singleton.1 hb];omega))
 go_wp2
 obtain ⟨e0,e1,e2,e3,e4,e5,e6,e7,e8,e9,-⟩:=zaS HEND.out
 refine bodyPost_ret (v:= .agg #[.string ⟨v.scheme.toArray⟩,.string ⟨v.user.toArray⟩,.string ⟨v.pass.toArray⟩,.iface it iv,.int .i64 v.port,.slice sa sn sc,.string ⟨v.query.toArray⟩,.bool v.hasQ,.string ⟨v.frag.toArray⟩,.bool v.hasF]) (by simp [results,Tryz.results42,go_sem,e0,e1,e2,e3,e4,e5,e6,e7,e8,e9]) rfl ?_
 rw [HRES.out]
 exact ⟨(.slice sa sn sc),by rw [←HVH.out];rfl,by rw [HFP.out];exact zcI HEP.out (by omega),HEO.out⟩
theorem zlI {c:UInt8} {n:Nat} (hn:n<256):(((c.toNat:Int))==(n:Int))=decide (c=UInt8.ofNat n):=by
 rw [Bool.eq_iff_iff,beq_iff_eq,decide_eq_true_eq,←UInt8.toNat_inj,UInt8.toNat_ofNat_of_lt' (by simpa using hn)]
 omega
/-- a slice but its last element -/
theorem yjL {w:World} {g n c:Nat} {ps:List (List UInt8)} (hn:ps.length=n) (hc:n≤c) (h:Seen w g ps):PV w (.slice (some ⟨g,0,none⟩) (n - 1:Nat) c) ps.dropLast:=by
 refine .inr ⟨g,c,by rw [List.length_dropLast,hn],by rw [List.length_dropLast];omega,h.1,fun j hj=> ?_⟩
 rw [List.length_dropLast] at hj
 rw [h.2 j (by omega)]
 have hj2:j<ps.length:=by omega
 simp [List.getD,hj,List.getElem?_eq_getElem hj2]
theorem zuB (v:Value) (ps:List (List UInt8)) (w:World) (h:PV w v ps) (hl:ps.length≤10000000):
  Calls Tryz.prog 79 #[v] w fun e w'=> ∃v',e= .returned v'∧PV w v' ps.dropLast∧w=w':=by
 rcases h with ⟨rfl,rfl⟩|⟨g,c,rfl,hc,hs⟩
 ·have hs: ∀W,(Instr.slice 25 (.slice none 0 0) none (some (.int .i64 0)) none).run Tryz.prog W= .ok (.slice none 0 0) W:=fun W=>by
   rw [run_slice_h W 25 none 0 0 (by simp [Program.elem,Tryz.underlying25]) .i64 _ (by omega) (by omega)]
   rfl
  go_enter Tryz.func79,Tryz.ntmps79
  go_wp2
  go_ret
  exact ⟨_,rfl,.inl ⟨rfl,rfl⟩,rfl⟩
 ·obtain ⟨n,hn⟩: ∃n,ps.length=n:=⟨_,rfl⟩
  have HP:=Lib.hid (yjL (c:=c) hn (by omega) hs)
  rw [hn] at hc hl ⊢
  clear hs hn
  have hs: ∀W (k:Nat),k≤c→(Instr.slice 25 (.slice (some ⟨g,0,none⟩) n c) none (some (.int .i64 (k:Int))) none).run Tryz.prog W= .ok (.slice (some ⟨g,0,none⟩) k c) W:=fun W k hk=>by
   rw [run_slice_h W 25 (some ⟨g,0,none⟩) n c (by simp [Program.elem,Tryz.underlying25]) .i64 _ (by omega) (by omega)]
   go_simp
  match n,hc,hl,HP with
  |0,hc,hl,HP=>
   have hs0:=fun W=>hs W 0 (by omega)
   clear hs
   go_enter Tryz.func79,Tryz.ntmps79
   go_wp2
   go_ret
   exact ⟨_,rfl,HP.out,rfl⟩
  |n+1,hc,hl,HP=>
   have hs0:=fun W=>hs W n (by omega)
   have HP2:Hid (PV w (.slice (some ⟨g,0,none⟩) n c) ps.dropLast):=HP.out
   clear hs HP
   by_cases h0:n=0
   ·subst h0
    go_enter Tryz.func79,Tryz.ntmps79
    go_wp2
    go_ret
    exact ⟨_,rfl,HP2.out,rfl⟩
   ·have hd:0<n:=by omega
    go_enter Tryz.func79,Tryz.ntmps79
    go_wp2
    go_ret
    exact ⟨_,rfl,HP2.out,rfl⟩
theorem zsG (M:Nat) (l:List UInt8) (b:UZ) (bpv:Value) (w:World) (hl:l.length≤100000) (hpl:b.path.length≤1000000) (hbh:b.host≠ .none) (hm:MB w M l) (hpv:PV w bpv b.path) (hmax:MaxVar w) (hne:l≠[]) (hd35:l.head? ≠some 35) (hd63:l.head? ≠some 63):
  Calls Tryz.prog 42 #[.pointer (some ⟨M,0,none⟩),.agg (b.cells bpv),.bool false] w (zuC w M (relC b false l)):=by
 have HRES:Hid (relC b false l=zeM (zcB b) b.path.dropLast l):=by show _=_;unfold relC;rw [if_neg (by decide),if_neg (by rintro (g|g);exact hne g;exact hd35 g),if_neg hd63]
 have HW:=HRES.out.trans (zlX (zcB b) b.path.dropLast l)
 clear HRES
 have HRES:=Lib.hid HW
 clear HW
 have hll:(l.drop (l.findIdx (hasB [63,35]))).length≤l.length:=by rw [List.length_drop];omega
 have HPA:=Lib.hid (fun fv (from_:List (List UInt8)) W (h:MB W M l) (hf:PV W fv from_) (h2:from_.length≤1000000) (hx:MaxVar W)=>zsS M l fv from_ W (by omega) h2 h hf hx)
 generalize l.drop (l.findIdx (hasB [63,35]))=left at*
 have hdl:b.path.dropLast.length≤b.path.length:=by rw [List.length_dropLast];omega
 have HPB:=Lib.hid (fun fv W (h:MB W M l) (hf:PV W fv b.path.dropLast) (hx:MaxVar W)=>HPA.out fv b.path.dropLast W h hf (by omega) hx)
 clear HPA
 generalize zmP b.path.dropLast (l.take (l.findIdx (hasB [63,35])))=ps at*
 obtain ⟨c,r,hlc⟩: ∃c r,l=c::r:=by
  match l,hne with
  |c::r,_=>exact ⟨c,r,rfl⟩
 have hz:(ByteArray.mk l.toArray).size=r.length+1:=by rw [hlc];simp [ByteArray.size]
 have h0:0<(ByteArray.mk l.toArray).size:=by rw [hz];omega
 have hb0:(ByteArray.mk l.toArray)[0]=c:=by subst hlc;rfl
 have hqe:l.isEmpty=false:=by rw [hlc];rfl
 have e35:((c.toNat:Int)==35)=decide (c=35):=zlI (c:=c) (n:=35) (by omega)
 have e63:((c.toNat:Int)==63)=decide (c=63):=zlI (c:=c) (n:=63) (by omega)
 have n35:c≠35:=fun g=>hd35 (by rw [hlc,g];rfl)
 have n63:c≠63:=fun g=>hd63 (by rw [hlc,g];rfl)
 rw [decide_eq_false n35] at e35
 rw [decide_eq_false n63] at e63
 clear hlc hne hd35 hd63 n35 n63
 obtain ⟨ba,bn,bc,rfl⟩:=hpv.shape
 obtain ⟨it,iv,hiv⟩:=HZ.iface hbh
 have HX:=Lib.hid hmax
 have HM:=Lib.hid hm
 have HPV:=Lib.hid hpv
 have hMw:=zaC hm
 obtain ⟨x2,hx2⟩: ∃y,y=((w.alloc (.cells (b.cells (.slice ba bn bc)) 27)).alloc (.cells zbJ 27)).alloc (.cells ((zcB b).cells (.slice none 0 0)) 27):=⟨_,rfl⟩
 obtain ⟨hk,hr,hu,hbw,hsz⟩:=zoV hx2
 have HK2:=Lib.hid hk
 have HR2:=Lib.hid hr
 have HU2:=Lib.hid hu
 have HO2:Hid (Only [M] w x2):=Only.of_below hbw
 have HM2:=Lib.hid (hm.below hbw)
 have HP2:=Lib.hid (hpv.keep hbw)
 have HX2:=Lib.hid (zaB hmax hbw)
 obtain ⟨-,-,-,-,-,b5,b6,b7,-,-,bf⟩:=hk.all
 have hc2:=HM2.out.cell
 have b3:=hk.all.2.2.2.1
 simp only [UZ.cells,zcB,zdM,zbJ] at hx2
 rw [hiv] at hx2 b3
 have HIV:=Lib.hid hiv
 clear hm hmax hpv hk hr hu hbw bf hbh
 go_enter Tryz.func42,Tryz.ntmps42
 simp only [UZ.cells]
 rw [hiv]
 clear hiv b3
 rw [hx2] at hc2 b5 b6 b7
 go_wp2_with fail
 rw [←hx2] at hc2 b5 b6 b7 ⊢
 clear hx2
 refine (zuB (.slice ba bn bc) b.path _ HP2.out (by omega)).mono ?_
 rintro e y ⟨v2,rfl,hp2,rfl⟩
 have HPD:=Lib.hid hp2
 clear hp2
 go_wp2_with fail
 refine (HPB.out _ _ HM2.out HPD.out HX2.out).mono ?_
 rintro e x6 ⟨pv,rfl,hp6,hm6,ho6⟩
 obtain ⟨sa,sn,sc,rfl⟩:=hp6.pv.shape
 have HR6:=Lib.hid (HR2.out.only ho6 (by simp;omega))
 have HU6:=Lib.hid (HU2.out.only ho6 (by simp;omega))
 have HO6:=Lib.hid (HO2.out.trans ho6 (fun x hx=> .inl hx))
 have HP6:=Lib.hid hp6
 have HM6:=Lib.hid hm6
 clear HR2 HU2 HO2 HM2 HP2 HX2 HK2 hp6 hm6 ho6 b5 b6 b7 hc2
 obtain ⟨-,-,-,-,-,c5,-,-,-,-,f6⟩:=HU6.out.all
 have f65:=f6 5
 have hset:Only [w.heap.size+2] x6 (x6.setCell ⟨w.heap.size+2,5,none⟩ (.slice sa sn sc)):=(Only.refl _ _).setCell (p:=⟨w.heap.size+2,5,none⟩) (.inl (List.mem_cons_self ..)) _
 have HR7:=Lib.hid (HR6.out.set (g:=w.heap.size+2) (i:=5) (by omega) (.slice sa sn sc))
 have HU7:Hid (UB (x6.setCell ⟨w.heap.size+2,5,none⟩ (.slice sa sn sc)) (w.heap.size+2) {zcB b with path:=ps} (.slice sa sn sc)):=HU6.out.pth (.slice sa sn sc)
 have HM7:Hid (MB (x6.setCell ⟨w.heap.size+2,5,none⟩ (.slice sa sn sc)) M left):=HM6.out.only hset (by simp;omega)
 have HO7:Hid (Only [M] w (x6.setCell ⟨w.heap.size+2,5,none⟩ (.slice sa sn sc))):=HO6.out.setCell (p:=⟨w.heap.size+2,5,none⟩) (.inr (by show w.heap.size≤w.heap.size+2;omega)) _
 have HP7:=Lib.hid (HP6.out.only hset (fun b hb=>by rw [List.mem_singleton.1 hb];omega))
 have HF7:=Lib.hid (zfB M (w.heap.size+2) left {zcB b with path:=ps} (.slice sa sn sc) _ (by omega) HM7.out HU7.out)
 clear HR6 HU6 HO6 HP6 HM6 hset f6
 go_wp2_with fail
 clear c5 f65
 generalize x6.setCell ⟨w.heap.size+2,5,none⟩ (.slice sa sn sc)=x7 at*
 refine HF7.out.mono ?_
 rintro e x8 ⟨rfl,hu8,ho8⟩
 have HR8:=HR7.out.only ho8 (by simp;omega)
 have HO8:=Lib.hid (zgZ HO7.out (by omega) ho8)
 have HP8:=Lib.hid (HP7.out.only ho8 (fun b hb=>by
  rcases List.mem_cons.1 hb with e|e
  ·rw [e];omega
  ·rw [List.mem_singleton] at e;omega))
 have HFP:Hid ((finC ({zcB b with path:=ps}) left).path=ps):=zgN _ _
 have HVH:Hid ((finC ({zcB b with path:=ps}) left).host.val= .iface it iv):=by show _=_;rw [zgV];exact HIV.out
 clear HF7 HR7 HU7 HO7 HP7 HM7 ho8
 generalize finC ({zcB b with path:=ps}) left=v at*
 obtain ⟨d0,d1,d2,d3,d4,d5,d6,d7,d8,d9,-⟩:=hu8.all
 rw [HVH.out] at d3
 obtain ⟨c0,c1,c2,c3,c4,c5,c6,c7,c8,c9,hrow⟩:=HR8
 have HRW:=Lib.hid hrow
 obtain ⟨k0,k1,k2,k3,k4,k5,k6,k7,k8,k9,kf⟩:=zaS hrow
 clear hrow hu8
 have HEND:=Lib.hid (zdK HRW.out (.string ⟨v.scheme.toArray⟩) (.string ⟨v.user.toArray⟩) (.string ⟨v.pass.toArray⟩) (.iface it iv) (.int .i64 v.port) (.slice sa sn sc) (.string ⟨v.query.toArray⟩) (.bool v.hasQ) (.string ⟨v.frag.toArray⟩) (.bool v.hasF))
 have HEO:=Lib.hid (zbU (g:=w.heap.size+1) HO8.out (.inr (Nat.le_succ _)) (.string ⟨v.scheme.toArray⟩) (.string ⟨v.user.toArray⟩) (.string ⟨v.pass.toArray⟩) (.iface it iv) (.int .i64 v.port) (.slice sa sn sc) (.string ⟨v.query.toArray⟩) (.bool v.hasQ) (.string ⟨v.frag.toArray⟩) (.bool v.hasF))
 have HEP:=Lib.hid (HP8.out.only (zbU (g:=w.heap.size+1) (F:=[w.heap.size+1]) (Only.refl _ _) (.inl (List.mem_cons_self ..)) (.string ⟨v.scheme.toArray⟩) (.string ⟨v.user.toArray⟩) (.string ⟨v.pass.toArray⟩) (.iface it iv) (.int .i64 v.port) (.slice sa sn sc) (.string ⟨v.query.toArray⟩) (.bool v.hasQ) (.string ⟨v.frag.toArray⟩) (.bool v.hasF)) (fun b hb=>by rw [List.mem_singleton.1 hb];omega))
 go_wp2
 obtain ⟨e0,e1,e2,e3,e4,e5,e6,e7,e8,e9,-⟩:=zaS HEND.out
 refine bodyPost_ret (v:= .agg #[.string ⟨v.scheme.toArray⟩,.string ⟨v.user.toArray⟩,.string ⟨v.pass.toArray⟩,.iface it iv,.int .i64 v.port,.slice sa sn sc,.string ⟨v.query.toArray⟩,.bool v.hasQ,.string ⟨v.frag.toArray⟩,.bool v.hasF]) (by simp [results,Tryz.results42,go_sem,e0,e1,e2,e3,e4,e5,e6,e7,e8,e9]) rfl ?_
 rw [HRES.out]
 exact ⟨(.slice sa sn sc),by rw [←HVH.out];rfl,by rw [HFP.out];exact zcI HEP.out (by omega),HEO.out⟩
theorem zpR (M:Nat) (l:List UInt8) (b:UZ) (bpv:Value) (w:World) (hl:l.length≤100000) (hpl:b.path.length≤1000000) (hbh:b.host≠ .none) (hm:MB w M l) (hpv:PV w bpv b.path) (hmax:MaxVar w) (hd63:l.head? =some 63):
  Calls Tryz.prog 42 #[.pointer (some ⟨M,0,none⟩),.agg (b.cells bpv),.bool false] w (zuC w M (relC b false l)):=by
 have HRES:Hid (relC b false l=zlF {zcB b with path:=b.path} l):=by show _=_;unfold relC;rw [if_neg (by decide),if_neg (by rintro (g|g);rw [g] at hd63;cases hd63;rw [g] at hd63;cases hd63),if_pos hd63]
 have HW:=HRES.out.trans (zmS _ (.inr (.inl hd63))).symm
 clear HRES
 have HRES:=Lib.hid HW
 clear HW
 have hne:l≠[]:=fun g=>by rw [g] at hd63;cases hd63
 obtain ⟨c,r,hlc⟩: ∃c r,l=c::r:=by
  match l,hne with
  |c::r,_=>exact ⟨c,r,rfl⟩
 have hz:(ByteArray.mk l.toArray).size=r.length+1:=by rw [hlc];simp [ByteArray.size]
 have h0:0<(ByteArray.mk l.toArray).size:=by rw [hz];omega
 have hb0:(ByteArray.mk l.toArray)[0]=c:=by subst hlc;rfl
 have hqe:l.isEmpty=false:=by rw [hlc];rfl
 have e35:((c.toNat:Int)==35)=decide (c=35):=zlI (c:=c) (n:=35) (by omega)
 have e63:((c.toNat:Int)==63)=decide (c=63):=zlI (c:=c) (n:=63) (by omega)
 have n63:c=63:=by rw [hlc] at hd63;simpa using hd63
 rw [decide_eq_false (show ¬c=35 by rw [n63];decide)] at e35
 rw [decide_eq_true n63] at e63
 clear hlc hne hd63 n63
 obtain ⟨ba,bn,bc,rfl⟩:=hpv.shape
 obtain ⟨it,iv,hiv⟩:=HZ.iface hbh
 have HX:=Lib.hid hmax
 have HM:=Lib.hid hm
 have HPV:=Lib.hid hpv
 have hMw:=zaC hm
 obtain ⟨x2,hx2⟩: ∃y,y=((w.alloc (.cells (b.cells (.slice ba bn bc)) 27)).alloc (.cells zbJ 27)).alloc (.cells ((zcB b).cells (.slice none 0 0)) 27):=⟨_,rfl⟩
 obtain ⟨hk,hr,hu,hbw,hsz⟩:=zoV hx2
 have HK2:=Lib.hid hk
 have HR2:=Lib.hid hr
 have HU2:=Lib.hid hu
 have HO2:Hid (Only [M] w x2):=Only.of_below hbw
 have HM2:=Lib.hid (hm.below hbw)
 have HP2:=Lib.hid (hpv.keep hbw)
 have HX2:=Lib.hid (zaB hmax hbw)
 obtain ⟨-,-,-,-,-,b5,b6,b7,-,-,bf⟩:=hk.all
 have hc2:=HM2.out.cell
 have b3:=hk.all.2.2.2.1
 simp only [UZ.cells,zcB,zdM,zbJ] at hx2
 rw [hiv] at hx2 b3
 have HIV:=Lib.hid hiv
 clear hm hmax hpv hk hr hu hbw bf hbh
 go_enter Tryz.func42,Tryz.ntmps42
 simp only [UZ.cells]
 rw [hiv]
 clear hiv b3
 rw [hx2] at hc2 b5 b6 b7
 go_wp2_with fail
 rw [←hx2] at hc2 b5 b6 b7 ⊢
 clear hx2
 refine (zhG (.slice ba bn bc) b.path _ HP2.out hpl).mono ?_
 rintro e x6 ⟨pv,rfl,hp6,hb6⟩
 obtain ⟨sa,sn,sc,rfl⟩:=hp6.pv.shape
 have HM7:=Lib.hid (HM2.out.below hb6)
 have HR6:=Lib.hid (HR2.out.below hb6)
 have HU6:=Lib.hid (HU2.out.below hb6)
 have HO6:=Lib.hid (HO2.out.then_below hb6)
 have HP6:=Lib.hid hp6
 clear HR2 HU2 HO2 HM2 HP2 HX2 HK2 hp6 hb6 b5 b6 b7 hc2
 obtain ⟨-,-,-,-,-,c5,-,-,-,-,f6⟩:=HU6.out.all
 have f65:=f6 5
 have hset:Only [w.heap.size+2] x6 (x6.setCell ⟨w.heap.size+2,5,none⟩ (.slice sa sn sc)):=(Only.refl _ _).setCell (p:=⟨w.heap.size+2,5,none⟩) (.inl (List.mem_cons_self ..)) _
 have HR7:=Lib.hid (HR6.out.set (g:=w.heap.size+2) (i:=5) (by omega) (.slice sa sn sc))
 have HU7:Hid (UB (x6.setCell ⟨w.heap.size+2,5,none⟩ (.slice sa sn sc)) (w.heap.size+2) {zcB b with path:=b.path} (.slice sa sn sc)):=HU6.out.pth (.slice sa sn sc)
 have HM8:Hid (MB (x6.setCell ⟨w.heap.size+2,5,none⟩ (.slice sa sn sc)) M l):=HM7.out.only hset (by simp;omega)
 clear HM7
 have HM7:=Lib.hid HM8.out
 clear HM8
 have HO7:Hid (Only [M] w (x6.setCell ⟨w.heap.size+2,5,none⟩ (.slice sa sn sc))):=HO6.out.setCell (p:=⟨w.heap.size+2,5,none⟩) (.inr (by show w.heap.size≤w.heap.size+2;omega)) _
 have HP7:=Lib.hid (HP6.out.only hset (fun b hb=>by rw [List.mem_singleton.1 hb];omega))
 have HF7:=Lib.hid (zfB M (w.heap.size+2) l {zcB b with path:=b.path} (.slice sa sn sc) _ (by omega) HM7.out HU7.out)
 clear HR6 HU6 HO6 HP6 hset f6
 go_wp2_with fail
 clear c5 f65
 generalize x6.setCell ⟨w.heap.size+2,5,none⟩ (.slice sa sn sc)=x7 at*
 refine HF7.out.mono ?_
 rintro e x8 ⟨rfl,hu8,ho8⟩
 have HR8:=HR7.out.only ho8 (by simp;omega)
 have HO8:=Lib.hid (zgZ HO7.out (by omega) ho8)
 have HP8:=Lib.hid (HP7.out.only ho8 (fun b hb=>by
  rcases List.mem_cons.1 hb with e|e
  ·rw [e];omega
  ·rw [List.mem_singleton] at e;omega))
 have HFP:Hid ((finC ({zcB b with path:=b.path}) l).path=b.path):=zgN _ _
 have HVH:Hid ((finC ({zcB b with path:=b.path}) l).host.val= .iface it iv):=by show _=_;rw [zgV];exact HIV.out
 clear HF7 HR7 HU7 HO7 HP7 HM7 ho8
 generalize finC ({zcB b with path:=b.path}) l=v at*
 obtain ⟨d0,d1,d2,d3,d4,d5,d6,d7,d8,d9,-⟩:=hu8.all
 rw [HVH.out] at d3
 obtain ⟨c0,c1,c2,c3,c4,c5,c6,c7,c8,c9,hrow⟩:=HR8
 have HRW:=Lib.hid hrow
 obtain ⟨k0,k1,k2,k3,k4,k5,k6,k7,k8,k9,kf⟩:=zaS hrow
 clear hrow hu8
 have HEND:=Lib.hid (zdK HRW.out (.string ⟨v.scheme.toArray⟩) (.string ⟨v.user.toArray⟩) (.string ⟨v.pass.toArray⟩) (.iface it iv) (.int .i64 v.port) (.slice sa sn sc) (.string ⟨v.query.toArray⟩) (.bool v.hasQ) (.string ⟨v.frag.toArray⟩) (.bool v.hasF))
 have HEO:=Lib.hid (zbU (g:=w.heap.size+1) HO8.out (.inr (Nat.le_succ _)) (.string ⟨v.scheme.toArray⟩) (.string ⟨v.user.toArray⟩) (.string ⟨v.pass.toArray⟩) (.iface it iv) (.int .i64 v.port) (.slice sa sn sc) (.string ⟨v.query.toArray⟩) (.bool v.hasQ) (.string ⟨v.frag.toArray⟩) (.bool v.hasF))
 have HEP:=Lib.hid (HP8.out.only (zbU (g:=w.heap.size+1) (F:=[w.heap.size+1]) (Only.refl _ _) (.inl (List.mem_cons_self ..)) (.string ⟨v.scheme.toArray⟩) (.string ⟨v.user.toArray⟩) (.string ⟨v.pass.toArray⟩) (.iface it iv) (.int .i64 v.port) (.slice sa sn sc) (.string ⟨v.query.toArray⟩) (.bool v.hasQ) (.string ⟨v.frag.toArray⟩) (.bool v.hasF)) (fun b hb=>by rw [List.mem_singleton.1 hb];omega))
 go_wp2
 obtain ⟨e0,e1,e2,e3,e4,e5,e6,e7,e8,e9,-⟩:=zaS HEND.out
 refine bodyPost_ret (v:= .agg #[.string ⟨v.scheme.toArray⟩,.string ⟨v.user.toArray⟩,.string ⟨v.pass.toArray⟩,.iface it iv,.int .i64 v.port,.slice sa sn sc,.string ⟨v.query.toArray⟩,.bool v.hasQ,.string ⟨v.frag.toArray⟩,.bool v.hasF]) (by simp [results,Tryz.results42,go_sem,e0,e1,e2,e3,e4,e5,e6,e7,e8,e9]) rfl ?_
 rw [HRES.out]
 exact ⟨(.slice sa sn sc),by rw [←HVH.out];rfl,by rw [HFP.out];exact zcI HEP.out (by omega),HEO.out⟩
theorem zcV {x y:World} {K:Nat} {a b c:Value} (h:y.heap[K]? =x.heap[K]?) (hx:x.cell? ⟨K,5,none⟩=some a∧x.cell? ⟨K,6,none⟩=some b∧x.cell? ⟨K,7,none⟩=some c):y.cell? ⟨K,5,none⟩=some a∧y.cell? ⟨K,6,none⟩=some b∧y.cell? ⟨K,7,none⟩=some c:=
 ⟨(World.cell?_of_block (a:=⟨K,5,none⟩) h).trans hx.1,(World.cell?_of_block (a:=⟨K,6,none⟩) h).trans hx.2.1,(World.cell?_of_block (a:=⟨K,7,none⟩) h).trans hx.2.2⟩
theorem zsA (M:Nat) (l:List UInt8) (b:UZ) (bpv:Value) (w:World) (hl:l.length≤100000) (hpl:b.path.length≤1000000) (hbh:b.host≠ .none) (hm:MB w M l) (hpv:PV w bpv b.path) (hmax:MaxVar w) (hd35:l.head? =some 35):
  Calls Tryz.prog 42 #[.pointer (some ⟨M,0,none⟩),.agg (b.cells bpv),.bool false] w (zuC w M (relC b false l)):=by
 have HRES:Hid (relC b false l=zlF {zcB b with path:=b.path,query:=b.query,hasQ:=b.hasQ} l):=by show _=_;unfold relC;rw [if_neg (by decide),if_pos (.inr hd35)]
 have HW:=HRES.out.trans (zmS _ (.inr (.inr hd35))).symm
 clear HRES
 have HRES:=Lib.hid HW
 clear HW
 have hne:l≠[]:=fun g=>by rw [g] at hd35;cases hd35
 obtain ⟨c,r,hlc⟩: ∃c r,l=c::r:=by
  match l,hne with
  |c::r,_=>exact ⟨c,r,rfl⟩
 have hz:(ByteArray.mk l.toArray).size=r.length+1:=by rw [hlc];simp [ByteArray.size]
 have h0:0<(ByteArray.mk l.toArray).size:=by rw [hz];omega
 have hb0:(ByteArray.mk l.toArray)[0]=c:=by subst hlc;rfl
 have hqe:l.isEmpty=false:=by rw [hlc];rfl
 have e35:((c.toNat:Int)==35)=decide (c=35):=zlI (c:=c) (n:=35) (by omega)
 have e63:((c.toNat:Int)==63)=decide (c=63):=zlI (c:=c) (n:=63) (by omega)
 have n35:c=35:=by rw [hlc] at hd35;simpa using hd35
 rw [decide_eq_true n35] at e35
 clear hlc hne hd35 n35 e63
 obtain ⟨ba,bn,bc,rfl⟩:=hpv.shape
 obtain ⟨it,iv,hiv⟩:=HZ.iface hbh
 have HX:=Lib.hid hmax
 have HM:=Lib.hid hm
 have HPV:=Lib.hid hpv
 have hMw:=zaC hm
 obtain ⟨x2,hx2⟩: ∃y,y=((w.alloc (.cells (b.cells (.slice ba bn bc)) 27)).alloc (.cells zbJ 27)).alloc (.cells ((zcB b).cells (.slice none 0 0)) 27):=⟨_,rfl⟩
 obtain ⟨hk,hr,hu,hbw,hsz⟩:=zoV hx2
 have HK2:=Lib.hid hk
 have HR2:=Lib.hid hr
 have HU2:=Lib.hid hu
 have HO2:Hid (Only [M] w x2):=Only.of_below hbw
 have HM2:=Lib.hid (hm.below hbw)
 have HP2:=Lib.hid (hpv.keep hbw)
 have HX2:=Lib.hid (zaB hmax hbw)
 obtain ⟨-,-,-,-,-,b5,b6,b7,-,-,bf⟩:=hk.all
 have hc2:=HM2.out.cell
 have b3:=hk.all.2.2.2.1
 simp only [UZ.cells,zcB,zdM,zbJ] at hx2
 rw [hiv] at hx2 b3
 have HIV:=Lib.hid hiv
 clear hm hmax hpv hk hr hu hbw bf hbh
 have hKs:w.heap.size<x2.heap.size:=by omega
 have HKK:Hid (∀x,Below x2.heap.size x2 x→(x.cell? ⟨w.heap.size,5,none⟩=some (.slice ba bn bc)∧x.cell? ⟨w.heap.size,6,none⟩=some (.string ⟨b.query.toArray⟩)∧x.cell? ⟨w.heap.size,7,none⟩=some (.bool b.hasQ))):=fun x hb=>zcV (hb.block _ hKs) ⟨b5,b6,b7⟩
 have HS1:Hid (∀x,Below x2.heap.size x2 x→ ∀v,((x.setCell ⟨w.heap.size+2,5,none⟩ v).cell? ⟨w.heap.size,5,none⟩=some (.slice ba bn bc)∧(x.setCell ⟨w.heap.size+2,5,none⟩ v).cell? ⟨w.heap.size,6,none⟩=some (.string ⟨b.query.toArray⟩)∧(x.setCell ⟨w.heap.size+2,5,none⟩ v).cell? ⟨w.heap.size,7,none⟩=some (.bool b.hasQ))∧(((x.setCell ⟨w.heap.size+2,5,none⟩ v).setCell ⟨w.heap.size+2,6,none⟩ (.string ⟨b.query.toArray⟩)).cell? ⟨w.heap.size,5,none⟩=some (.slice ba bn bc)∧((x.setCell ⟨w.heap.size+2,5,none⟩ v).setCell ⟨w.heap.size+2,6,none⟩ (.string ⟨b.query.toArray⟩)).cell? ⟨w.heap.size,6,none⟩=some (.string ⟨b.query.toArray⟩)∧((x.setCell ⟨w.heap.size+2,5,none⟩ v).setCell ⟨w.heap.size+2,6,none⟩ (.string ⟨b.query.toArray⟩)).cell? ⟨w.heap.size,7,none⟩=some (.bool b.hasQ))∧((((x.setCell ⟨w.heap.size+2,5,none⟩ v).setCell ⟨w.heap.size+2,6,none⟩ (.string ⟨b.query.toArray⟩)).setCell ⟨w.heap.size+2,7,none⟩ (.bool b.hasQ)).cell? ⟨w.heap.size,5,none⟩=some (.slice ba bn bc)∧(((x.setCell ⟨w.heap.size+2,5,none⟩ v).setCell ⟨w.heap.size+2,6,none⟩ (.string ⟨b.query.toArray⟩)).setCell ⟨w.heap.size+2,7,none⟩ (.bool b.hasQ)).cell? ⟨w.heap.size,6,none⟩=some (.string ⟨b.query.toArray⟩)∧(((x.setCell ⟨w.heap.size+2,5,none⟩ v).setCell ⟨w.heap.size+2,6,none⟩ (.string ⟨b.query.toArray⟩)).setCell ⟨w.heap.size+2,7,none⟩ (.bool b.hasQ)).cell? ⟨w.heap.size,7,none⟩=some (.bool b.hasQ))):=fun x hb v=>by
  have h:=zcV (hb.block _ hKs) ⟨b5,b6,b7⟩
  have k1:=zcV (y:=(x.setCell ⟨w.heap.size+2,5,none⟩ v)) (zbD (by omega) _ _) h
  have k2:=zcV (y:=((x.setCell ⟨w.heap.size+2,5,none⟩ v).setCell ⟨w.heap.size+2,6,none⟩ (.string ⟨b.query.toArray⟩))) (zbD (by omega) _ _) k1
  exact ⟨k1,k2,zcV (zbD (by omega) _ _) k2⟩
 have HST:Hid (∀x,Below x2.heap.size x2 x→ ∀v,x.cell? ⟨w.heap.size+2,5,none⟩=some (.slice none 0 0)∧(x.setCell ⟨w.heap.size+2,5,none⟩ v).cell? ⟨w.heap.size+2,6,none⟩=some (.string ⟨#[]⟩)∧((x.setCell ⟨w.heap.size+2,5,none⟩ v).setCell ⟨w.heap.size+2,6,none⟩ (.string ⟨b.query.toArray⟩)).cell? ⟨w.heap.size+2,7,none⟩=some (.bool false)∧x.frozen? ⟨w.heap.size+2,5,none⟩=false∧(x.setCell ⟨w.heap.size+2,5,none⟩ v).frozen? ⟨w.heap.size+2,6,none⟩=false∧((x.setCell ⟨w.heap.size+2,5,none⟩ v).setCell ⟨w.heap.size+2,6,none⟩ (.string ⟨b.query.toArray⟩)).frozen? ⟨w.heap.size+2,7,none⟩=false):=fun x hb v=>by
  have h:=HU2.out.below hb
  obtain ⟨-,-,-,-,-,q5,-,-,-,-,qf⟩:=h.all
  refine ⟨q5,zaD (zaP h 5 v) 6,zaD (zaP (zaP h 5 v) 6 _) 7,qf 5,zaK (zaP h 5 v) 6,zaK (zaP (zaP h 5 v) 6 _) 7⟩
 have HCL:Hid (∀W,Below x2.heap.size x2 W→Calls Tryz.prog 78 #[(.slice ba bn bc)] W fun e w'=> ∃v',e= .returned v'∧zbA x2.heap.size w' v' b.path∧Below x2.heap.size x2 w'):=fun W hW=>(zhG (.slice ba bn bc) b.path W (HP2.out.keep hW) hpl).mono (fun e w' h=>by
  obtain ⟨v',h1,h2,h3⟩:=h
  exact ⟨v',h1,zcI h2 hW.size,zaF hW h3⟩)
 go_enter Tryz.func42,Tryz.ntmps42
 simp only [UZ.cells]
 rw [hiv]
 clear hiv b3
 rw [hx2] at hc2 b5 b6 b7
 go_wp2_with fail
 rw [←hx2] at hc2 b5 b6 b7 ⊢
 clear hx2
 refine wp_region_held_drew (S:=fun W=>W.cell? ⟨w.heap.size,5,none⟩=some (.slice ba bn bc)∧W.cell? ⟨w.heap.size,6,none⟩=some (.string ⟨b.query.toArray⟩)∧W.cell? ⟨w.heap.size,7,none⟩=some (.bool b.hasQ)) (by kernel_rfl) ?_ (fun hHeld=> ?_)
 ·exact ⟨b5,b6,b7⟩
 refine tkV 0 (some 44) (v:= ?_) rfl (.inl ⟨by rfl,?_⟩) hHeld ?_;rotate_left;·intro w hSw;(try dsimp only at hSw);go_simp;try with_reducible rfl
 try simp only [Act.put,tkVa,tkVb,tkVc]
 refine tkV 1 (some 45) (v:= ?_) rfl (.inl ⟨by rfl,?_⟩) hHeld ?_;rotate_left;·intro w hSw;(try dsimp only at hSw);go_simp;try with_reducible rfl
 try simp only [Act.put,tkVa,tkVb,tkVc]
 refine tkV 3 (some 47) (v:= ?_) rfl (.inl ⟨by rfl,?_⟩) hHeld ?_;rotate_left;·intro w hSw;(try dsimp only at hSw);go_simp;try with_reducible rfl
 try simp only [Act.put,tkVa,tkVb,tkVc]
 refine tkV 4 (some 48) (v:= ?_) rfl (.inl ⟨by rfl,?_⟩) hHeld ?_;rotate_left;·intro w hSw;(try dsimp only at hSw);go_simp;try with_reducible rfl
 try simp only [Act.put,tkVa,tkVb,tkVc]
 refine tkV 5 (some 49) (v:= ?_) rfl (.inl ⟨by rfl,?_⟩) hHeld ?_;rotate_left;·intro w hSw;(try dsimp only at hSw);go_simp;try with_reducible rfl
 try simp only [Act.put,tkVa,tkVb,tkVc]
 refine tkV 6 (some 50) (v:= ?_) rfl (.inl ⟨by rfl,?_⟩) hHeld ?_;rotate_left;·intro w hSw;(try dsimp only at hSw);go_simp;try with_reducible rfl
 try simp only [Act.put,tkVa,tkVb,tkVc]
 refine wpAnyH_ready (rs:=[2]) (by kernel_rfl) (by simp) ?_
 refine AllReadyH.cons (o:=⟨some 46,_,_,_,_,_⟩) rfl (fun K hK=> ?_) AllReadyH.nil
 go_simp
 go_at_call 78
 refine (HCL.out _ (zbG _)).mono ?_
 rintro e x6 ⟨pv,rfl,hp6,hb6⟩
 obtain ⟨sa,sn,sc,rfl⟩:=hp6.pv.shape
 obtain ⟨c5,c6,c7,f5,f6,f7⟩:=HST.out _ hb6 (.slice sa sn sc)
 (try go_wp2_with fail)
 refine hK.out _ _ ?_ (fun hHeld1=> ?_)
 ·exact (HKK.out _ hb6)
 clear hK K
 try simp only [Act.put,tkVa,tkVb,tkVc]
 refine tkV 7 (some 51) (v:= ?_) rfl (.inl ⟨by rfl,?_⟩) hHeld1 ?_;rotate_left;·intro w hSw;(try dsimp only at hSw);go_simp;try with_reducible rfl
 try simp only [Act.put,tkVa,tkVb,tkVc]
 refine wpAnyH_ready (rs:=[8]) (by kernel_rfl) (by simp) ?_
 refine AllReadyH.cons (o:=⟨none,_,_,_,_,_⟩) rfl (fun K hK=> ?_) AllReadyH.nil
 go_simp
 refine hK.out _ _ ?_ (fun hHeld2=> ?_)
 ·exact (HS1.out _ hb6 (.slice sa sn sc)).1
 clear hK K
 try simp only [Act.put,tkVa,tkVb,tkVc]
 refine tkV 9 (some 52) (v:= ?_) rfl (.inl ⟨by rfl,?_⟩) hHeld2 ?_;rotate_left;·intro w hSw;(try dsimp only at hSw);go_simp;try with_reducible rfl
 try simp only [Act.put,tkVa,tkVb,tkVc]
 refine wpAnyH_ready (rs:=[10]) (by kernel_rfl) (by simp) ?_
 refine AllReadyH.cons (o:=⟨none,_,_,_,_,_⟩) rfl (fun K hK=> ?_) AllReadyH.nil
 go_simp
 refine hK.out _ _ ?_ (fun hHeld3=> ?_)
 ·exact (HS1.out _ hb6 (.slice sa sn sc)).2.1
 clear hK K
 try simp only [Act.put,tkVa,tkVb,tkVc]
 refine tkV 11 (some 53) (v:= ?_) rfl (.inl ⟨by rfl,?_⟩) hHeld3 ?_;rotate_left;·intro w hSw;(try dsimp only at hSw);go_simp;try with_reducible rfl
 try simp only [Act.put,tkVa,tkVb,tkVc]
 refine wpAnyH_ready (rs:=[12]) (by kernel_rfl) (by simp) ?_
 refine AllReadyH.cons (o:=⟨none,_,_,_,_,_⟩) rfl (fun K hK=> ?_) AllReadyH.nil
 go_simp
 refine hK.out _ _ ?_ (fun hHeld4=> ?_)
 ·exact (HS1.out _ hb6 (.slice sa sn sc)).2.2
 clear hK K
 try simp only [Act.put,tkVa,tkVb,tkVc]
 refine wpAnyH_done (by kernel_rfl) ?_ _
 have HR7:=Lib.hid (((((HR2.out.below hb6).set (g:=w.heap.size+2) (i:=5) (by omega) (.slice sa sn sc))).set (g:=w.heap.size+2) (i:=6) (by omega) (.string ⟨b.query.toArray⟩)).set (g:=w.heap.size+2) (i:=7) (by omega) (.bool b.hasQ))
 have HU7:Hid (UB (((x6.setCell ⟨w.heap.size+2,5,none⟩ (.slice sa sn sc)).setCell ⟨w.heap.size+2,6,none⟩ (.string ⟨b.query.toArray⟩)).setCell ⟨w.heap.size+2,7,none⟩ (.bool b.hasQ)) (w.heap.size+2) {zcB b with path:=b.path,query:=b.query,hasQ:=b.hasQ} (.slice sa sn sc)):=(HU2.out.below hb6).three (.slice sa sn sc) b.query b.hasQ
 have hset:Only [w.heap.size+2] x6 (((x6.setCell ⟨w.heap.size+2,5,none⟩ (.slice sa sn sc)).setCell ⟨w.heap.size+2,6,none⟩ (.string ⟨b.query.toArray⟩)).setCell ⟨w.heap.size+2,7,none⟩ (.bool b.hasQ)):=(((Only.refl _ _).setCell (p:=⟨w.heap.size+2,5,none⟩) (.inl (List.mem_cons_self ..)) _).setCell (p:=⟨w.heap.size+2,6,none⟩) (.inl (List.mem_cons_self ..)) _).setCell (p:=⟨w.heap.size+2,7,none⟩) (.inl (List.mem_cons_self ..)) _
 have HM7:=Lib.hid ((HM2.out.below hb6).only hset (by simp;omega))
 have HO7:=Lib.hid ((HO2.out.then_below hb6).trans hset (fun x hx=>by rw [List.mem_singleton.1 hx];exact .inr (by omega)))
 have HP7:=Lib.hid (hp6.only hset (fun b hb=>by rw [List.mem_singleton.1 hb];omega))
 have HF7:=Lib.hid (zfB M (w.heap.size+2) l {zcB b with path:=b.path,query:=b.query,hasQ:=b.hasQ} (.slice sa sn sc) _ (by omega) HM7.out HU7.out)
 clear HR2 HU2 HO2 HM2 HP2 HX2 HK2 HKK HS1 HST HCL hp6 b5 b6 b7 hc2 c5 c6 c7 f5 f6 f7 hset
 generalize ((x6.setCell ⟨w.heap.size+2,5,none⟩ (.slice sa sn sc)).setCell ⟨w.heap.size+2,6,none⟩ (.string ⟨b.query.toArray⟩)).setCell ⟨w.heap.size+2,7,none⟩ (.bool b.hasQ)=x7 at*
 go_wp2_with fail
 refine HF7.out.mono ?_
 rintro e x8 ⟨rfl,hu8,ho8⟩
 have HR8:=HR7.out.only ho8 (by simp;omega)
 have HO8:=Lib.hid (zgZ HO7.out (by omega) ho8)
 have HP8:=Lib.hid (HP7.out.only ho8 (fun b hb=>by
  rcases List.mem_cons.1 hb with e|e
  ·rw [e];omega
  ·rw [List.mem_singleton] at e;omega))
 have HFP:Hid ((finC ({zcB b with path:=b.path,query:=b.query,hasQ:=b.hasQ}) l).path=b.path):=zgN _ _
 have HVH:Hid ((finC ({zcB b with path:=b.path,query:=b.query,hasQ:=b.hasQ}) l).host.val= .iface it iv):=by show _=_;rw [zgV];exact HIV.out
 clear HF7 HR7 HU7 HO7 HP7 HM7 ho8
 generalize finC ({zcB b with path:=b.path,query:=b.query,hasQ:=b.hasQ}) l=v at*
 obtain ⟨d0,d1,d2,d3,d4,d5,d6,d7,d8,d9,-⟩:=hu8.all
 rw [HVH.out] at d3
 obtain ⟨c0,c1,c2,c3,c4,c5,c6,c7,c8,c9,hrow⟩:=HR8
 have HRW:=Lib.hid hrow
 obtain ⟨k0,k1,k2,k3,k4,k5,k6,k7,k8,k9,kf⟩:=zaS hrow
 clear hrow hu8
 have HEND:=Lib.hid (zdK HRW.out (.string ⟨v.scheme.toArray⟩) (.string ⟨v.user.toArray⟩) (.string ⟨v.pass.toArray⟩) (.iface it iv) (.int .i64 v.port) (.slice sa sn sc) (.string ⟨v.query.toArray⟩) (.bool v.hasQ) (.string ⟨v.frag.toArray⟩) (.bool v.hasF))
 have HEO:=Lib.hid (zbU (g:=w.heap.size+1) HO8.out (.inr (Nat.le_succ _)) (.string ⟨v.scheme.toArray⟩) (.string ⟨v.user.toArray⟩) (.string ⟨v.pass.toArray⟩) (.iface it iv) (.int .i64 v.port) (.slice sa sn sc) (.string ⟨v.query.toArray⟩) (.bool v.hasQ) (.string ⟨v.frag.toArray⟩) (.bool v.hasF))
 have HEP:=Lib.hid (HP8.out.only (zbU (g:=w.heap.size+1) (F:=[w.heap.size+1]) (Only.refl _ _) (.inl (List.mem_cons_self ..)) (.string ⟨v.scheme.toArray⟩) (.string ⟨v.user.toArray⟩) (.string ⟨v.pass.toArray⟩) (.iface it iv) (.int .i64 v.port) (.slice sa sn sc) (.string ⟨v.query.toArray⟩) (.bool v.hasQ) (.string ⟨v.frag.toArray⟩) (.bool v.hasF)) (fun b hb=>by rw [List.mem_singleton.1 hb];omega))
 go_wp2
 obtain ⟨e0,e1,e2,e3,e4,e5,e6,e7,e8,e9,-⟩:=zaS HEND.out
 refine bodyPost_ret (v:= .agg #[.string ⟨v.scheme.toArray⟩,.string ⟨v.user.toArray⟩,.string ⟨v.pass.toArray⟩,.iface it iv,.int .i64 v.port,.slice sa sn sc,.string ⟨v.query.toArray⟩,.bool v.hasQ,.string ⟨v.frag.toArray⟩,.bool v.hasF]) (by simp [results,Tryz.results42,go_sem,e0,e1,e2,e3,e4,e5,e6,e7,e8,e9]) rfl ?_
 rw [HRES.out]
 exact ⟨(.slice sa sn sc),by rw [←HVH.out];rfl,by rw [HFP.out];exact zcI HEP.out (by omega),HEO.out⟩
theorem zuM (M:Nat) (l:List UInt8) (b:UZ) (bpv:Value) (w:World) (hl:l.length≤100000) (hpl:b.path.length≤1000000) (hbh:b.host≠ .none) (hm:MB w M l) (hpv:PV w bpv b.path) (hmax:MaxVar w) (hn:l=[]):
  Calls Tryz.prog 42 #[.pointer (some ⟨M,0,none⟩),.agg (b.cells bpv),.bool false] w (zuC w M (relC b false l)):=by
 have HRES:Hid (relC b false l=zlF {zcB b with path:=b.path,query:=b.query,hasQ:=b.hasQ} l):=by show _=_;unfold relC;rw [if_neg (by decide),if_pos (.inl hn)]
 have HW:=HRES.out.trans (zmS _ (.inl hn)).symm
 clear HRES
 have HRES:=Lib.hid HW
 clear HW
 have hqe:l.isEmpty=true:=by rw [hn];rfl
 clear hn
 obtain ⟨ba,bn,bc,rfl⟩:=hpv.shape
 obtain ⟨it,iv,hiv⟩:=HZ.iface hbh
 have HX:=Lib.hid hmax
 have HM:=Lib.hid hm
 have HPV:=Lib.hid hpv
 have hMw:=zaC hm
 obtain ⟨x2,hx2⟩: ∃y,y=((w.alloc (.cells (b.cells (.slice ba bn bc)) 27)).alloc (.cells zbJ 27)).alloc (.cells ((zcB b).cells (.slice none 0 0)) 27):=⟨_,rfl⟩
 obtain ⟨hk,hr,hu,hbw,hsz⟩:=zoV hx2
 have HK2:=Lib.hid hk
 have HR2:=Lib.hid hr
 have HU2:=Lib.hid hu
 have HO2:Hid (Only [M] w x2):=Only.of_below hbw
 have HM2:=Lib.hid (hm.below hbw)
 have HP2:=Lib.hid (hpv.keep hbw)
 have HX2:=Lib.hid (zaB hmax hbw)
 obtain ⟨-,-,-,-,-,b5,b6,b7,-,-,bf⟩:=hk.all
 have hc2:=HM2.out.cell
 have b3:=hk.all.2.2.2.1
 simp only [UZ.cells,zcB,zdM,zbJ] at hx2
 rw [hiv] at hx2 b3
 have HIV:=Lib.hid hiv
 clear hm hmax hpv hk hr hu hbw bf hbh
 have hKs:w.heap.size<x2.heap.size:=by omega
 have HKK:Hid (∀x,Below x2.heap.size x2 x→(x.cell? ⟨w.heap.size,5,none⟩=some (.slice ba bn bc)∧x.cell? ⟨w.heap.size,6,none⟩=some (.string ⟨b.query.toArray⟩)∧x.cell? ⟨w.heap.size,7,none⟩=some (.bool b.hasQ))):=fun x hb=>zcV (hb.block _ hKs) ⟨b5,b6,b7⟩
 have HS1:Hid (∀x,Below x2.heap.size x2 x→ ∀v,((x.setCell ⟨w.heap.size+2,5,none⟩ v).cell? ⟨w.heap.size,5,none⟩=some (.slice ba bn bc)∧(x.setCell ⟨w.heap.size+2,5,none⟩ v).cell? ⟨w.heap.size,6,none⟩=some (.string ⟨b.query.toArray⟩)∧(x.setCell ⟨w.heap.size+2,5,none⟩ v).cell? ⟨w.heap.size,7,none⟩=some (.bool b.hasQ))∧(((x.setCell ⟨w.heap.size+2,5,none⟩ v).setCell ⟨w.heap.size+2,6,none⟩ (.string ⟨b.query.toArray⟩)).cell? ⟨w.heap.size,5,none⟩=some (.slice ba bn bc)∧((x.setCell ⟨w.heap.size+2,5,none⟩ v).setCell ⟨w.heap.size+2,6,none⟩ (.string ⟨b.query.toArray⟩)).cell? ⟨w.heap.size,6,none⟩=some (.string ⟨b.query.toArray⟩)∧((x.setCell ⟨w.heap.size+2,5,none⟩ v).setCell ⟨w.heap.size+2,6,none⟩ (.string ⟨b.query.toArray⟩)).cell? ⟨w.heap.size,7,none⟩=some (.bool b.hasQ))∧((((x.setCell ⟨w.heap.size+2,5,none⟩ v).setCell ⟨w.heap.size+2,6,none⟩ (.string ⟨b.query.toArray⟩)).setCell ⟨w.heap.size+2,7,none⟩ (.bool b.hasQ)).cell? ⟨w.heap.size,5,none⟩=some (.slice ba bn bc)∧(((x.setCell ⟨w.heap.size+2,5,none⟩ v).setCell ⟨w.heap.size+2,6,none⟩ (.string ⟨b.query.toArray⟩)).setCell ⟨w.heap.size+2,7,none⟩ (.bool b.hasQ)).cell? ⟨w.heap.size,6,none⟩=some (.string ⟨b.query.toArray⟩)∧(((x.setCell ⟨w.heap.size+2,5,none⟩ v).setCell ⟨w.heap.size+2,6,none⟩ (.string ⟨b.query.toArray⟩)).setCell ⟨w.heap.size+2,7,none⟩ (.bool b.hasQ)).cell? ⟨w.heap.size,7,none⟩=some (.bool b.hasQ))):=fun x hb v=>by
  have h:=zcV (hb.block _ hKs) ⟨b5,b6,b7⟩
  have k1:=zcV (y:=(x.setCell ⟨w.heap.size+2,5,none⟩ v)) (zbD (by omega) _ _) h
  have k2:=zcV (y:=((x.setCell ⟨w.heap.size+2,5,none⟩ v).setCell ⟨w.heap.size+2,6,none⟩ (.string ⟨b.query.toArray⟩))) (zbD (by omega) _ _) k1
  exact ⟨k1,k2,zcV (zbD (by omega) _ _) k2⟩
 have HST:Hid (∀x,Below x2.heap.size x2 x→ ∀v,x.cell? ⟨w.heap.size+2,5,none⟩=some (.slice none 0 0)∧(x.setCell ⟨w.heap.size+2,5,none⟩ v).cell? ⟨w.heap.size+2,6,none⟩=some (.string ⟨#[]⟩)∧((x.setCell ⟨w.heap.size+2,5,none⟩ v).setCell ⟨w.heap.size+2,6,none⟩ (.string ⟨b.query.toArray⟩)).cell? ⟨w.heap.size+2,7,none⟩=some (.bool false)∧x.frozen? ⟨w.heap.size+2,5,none⟩=false∧(x.setCell ⟨w.heap.size+2,5,none⟩ v).frozen? ⟨w.heap.size+2,6,none⟩=false∧((x.setCell ⟨w.heap.size+2,5,none⟩ v).setCell ⟨w.heap.size+2,6,none⟩ (.string ⟨b.query.toArray⟩)).frozen? ⟨w.heap.size+2,7,none⟩=false):=fun x hb v=>by
  have h:=HU2.out.below hb
  obtain ⟨-,-,-,-,-,q5,-,-,-,-,qf⟩:=h.all
  refine ⟨q5,zaD (zaP h 5 v) 6,zaD (zaP (zaP h 5 v) 6 _) 7,qf 5,zaK (zaP h 5 v) 6,zaK (zaP (zaP h 5 v) 6 _) 7⟩
 have HCL:Hid (∀W,Below x2.heap.size x2 W→Calls Tryz.prog 78 #[(.slice ba bn bc)] W fun e w'=> ∃v',e= .returned v'∧zbA x2.heap.size w' v' b.path∧Below x2.heap.size x2 w'):=fun W hW=>(zhG (.slice ba bn bc) b.path W (HP2.out.keep hW) hpl).mono (fun e w' h=>by
  obtain ⟨v',h1,h2,h3⟩:=h
  exact ⟨v',h1,zcI h2 hW.size,zaF hW h3⟩)
 go_enter Tryz.func42,Tryz.ntmps42
 simp only [UZ.cells]
 rw [hiv]
 clear hiv b3
 rw [hx2] at hc2 b5 b6 b7
 go_wp2_with fail
 rw [←hx2] at hc2 b5 b6 b7 ⊢
 clear hx2
 refine wp_region_held_drew (S:=fun W=>W.cell? ⟨w.heap.size,5,none⟩=some (.slice ba bn bc)∧W.cell? ⟨w.heap.size,6,none⟩=some (.string ⟨b.query.toArray⟩)∧W.cell? ⟨w.heap.size,7,none⟩=some (.bool b.hasQ)) (by kernel_rfl) ?_ (fun hHeld=> ?_)
 ·exact ⟨b5,b6,b7⟩
 refine tkV 0 (some 44) (v:= ?_) rfl (.inl ⟨by rfl,?_⟩) hHeld ?_;rotate_left;·intro w hSw;(try dsimp only at hSw);go_simp;try with_reducible rfl
 try simp only [Act.put,tkVa,tkVb,tkVc]
 refine tkV 1 (some 45) (v:= ?_) rfl (.inl ⟨by rfl,?_⟩) hHeld ?_;rotate_left;·intro w hSw;(try dsimp only at hSw);go_simp;try with_reducible rfl
 try simp only [Act.put,tkVa,tkVb,tkVc]
 refine tkV 3 (some 47) (v:= ?_) rfl (.inl ⟨by rfl,?_⟩) hHeld ?_;rotate_left;·intro w hSw;(try dsimp only at hSw);go_simp;try with_reducible rfl
 try simp only [Act.put,tkVa,tkVb,tkVc]
 refine tkV 4 (some 48) (v:= ?_) rfl (.inl ⟨by rfl,?_⟩) hHeld ?_;rotate_left;·intro w hSw;(try dsimp only at hSw);go_simp;try with_reducible rfl
 try simp only [Act.put,tkVa,tkVb,tkVc]
 refine tkV 5 (some 49) (v:= ?_) rfl (.inl ⟨by rfl,?_⟩) hHeld ?_;rotate_left;·intro w hSw;(try dsimp only at hSw);go_simp;try with_reducible rfl
 try simp only [Act.put,tkVa,tkVb,tkVc]
 refine tkV 6 (some 50) (v:= ?_) rfl (.inl ⟨by rfl,?_⟩) hHeld ?_;rotate_left;·intro w hSw;(try dsimp only at hSw);go_simp;try with_reducible rfl
 try simp only [Act.put,tkVa,tkVb,tkVc]
 refine wpAnyH_ready (rs:=[2]) (by kernel_rfl) (by simp) ?_
 refine AllReadyH.cons (o:=⟨some 46,_,_,_,_,_⟩) rfl (fun K hK=> ?_) AllReadyH.nil
 go_simp
 go_at_call 78
 refine (HCL.out _ (zbG _)).mono ?_
 rintro e x6 ⟨pv,rfl,hp6,hb6⟩
 obtain ⟨sa,sn,sc,rfl⟩:=hp6.pv.shape
 obtain ⟨c5,c6,c7,f5,f6,f7⟩:=HST.out _ hb6 (.slice sa sn sc)
 (try go_wp2_with fail)
 refine hK.out _ _ ?_ (fun hHeld1=> ?_)
 ·exact (HKK.out _ hb6)
 clear hK K
 try simp only [Act.put,tkVa,tkVb,tkVc]
 refine tkV 7 (some 51) (v:= ?_) rfl (.inl ⟨by rfl,?_⟩) hHeld1 ?_;rotate_left;·intro w hSw;(try dsimp only at hSw);go_simp;try with_reducible rfl
 try simp only [Act.put,tkVa,tkVb,tkVc]
 refine wpAnyH_ready (rs:=[8]) (by kernel_rfl) (by simp) ?_
 refine AllReadyH.cons (o:=⟨none,_,_,_,_,_⟩) rfl (fun K hK=> ?_) AllReadyH.nil
 go_simp
 refine hK.out _ _ ?_ (fun hHeld2=> ?_)
 ·exact (HS1.out _ hb6 (.slice sa sn sc)).1
 clear hK K
 try simp only [Act.put,tkVa,tkVb,tkVc]
 refine tkV 9 (some 52) (v:= ?_) rfl (.inl ⟨by rfl,?_⟩) hHeld2 ?_;rotate_left;·intro w hSw;(try dsimp only at hSw);go_simp;try with_reducible rfl
 try simp only [Act.put,tkVa,tkVb,tkVc]
 refine wpAnyH_ready (rs:=[10]) (by kernel_rfl) (by simp) ?_
 refine AllReadyH.cons (o:=⟨none,_,_,_,_,_⟩) rfl (fun K hK=> ?_) AllReadyH.nil
 go_simp
 refine hK.out _ _ ?_ (fun hHeld3=> ?_)
 ·exact (HS1.out _ hb6 (.slice sa sn sc)).2.1
 clear hK K
 try simp only [Act.put,tkVa,tkVb,tkVc]
 refine tkV 11 (some 53) (v:= ?_) rfl (.inl ⟨by rfl,?_⟩) hHeld3 ?_;rotate_left;·intro w hSw;(try dsimp only at hSw);go_simp;try with_reducible rfl
 try simp only [Act.put,tkVa,tkVb,tkVc]
 refine wpAnyH_ready (rs:=[12]) (by kernel_rfl) (by simp) ?_
 refine AllReadyH.cons (o:=⟨none,_,_,_,_,_⟩) rfl (fun K hK=> ?_) AllReadyH.nil
 go_simp
 refine hK.out _ _ ?_ (fun hHeld4=> ?_)
 ·exact (HS1.out _ hb6 (.slice sa sn sc)).2.2
 clear hK K
 try simp only [Act.put,tkVa,tkVb,tkVc]
 refine wpAnyH_done (by kernel_rfl) ?_ _
 have HR7:=Lib.hid (((((HR2.out.below hb6).set (g:=w.heap.size+2) (i:=5) (by omega) (.slice sa sn sc))).set (g:=w.heap.size+2) (i:=6) (by omega) (.string ⟨b.query.toArray⟩)).set (g:=w.heap.size+2) (i:=7) (by omega) (.bool b.hasQ))
 have HU7:Hid (UB (((x6.setCell ⟨w.heap.size+2,5,none⟩ (.slice sa sn sc)).setCell ⟨w.heap.size+2,6,none⟩ (.string ⟨b.query.toArray⟩)).setCell ⟨w.heap.size+2,7,none⟩ (.bool b.hasQ)) (w.heap.size+2) {zcB b with path:=b.path,query:=b.query,hasQ:=b.hasQ} (.slice sa sn sc)):=(HU2.out.below hb6).three (.slice sa sn sc) b.query b.hasQ
 have hset:Only [w.heap.size+2] x6 (((x6.setCell ⟨w.heap.size+2,5,none⟩ (.slice sa sn sc)).setCell ⟨w.heap.size+2,6,none⟩ (.string ⟨b.query.toArray⟩)).setCell ⟨w.heap.size+2,7,none⟩ (.bool b.hasQ)):=(((Only.refl _ _).setCell (p:=⟨w.heap.size+2,5,none⟩) (.inl (List.mem_cons_self ..)) _).setCell (p:=⟨w.heap.size+2,6,none⟩) (.inl (List.mem_cons_self ..)) _).setCell (p:=⟨w.heap.size+2,7,none⟩) (.inl (List.mem_cons_self ..)) _
 have HM7:=Lib.hid ((HM2.out.below hb6).only hset (by simp;omega))
 have HO7:=Lib.hid ((HO2.out.then_below hb6).trans hset (fun x hx=>by rw [List.mem_singleton.1 hx];exact .inr (by omega)))
 have HP7:=Lib.hid (hp6.only hset (fun b hb=>by rw [List.mem_singleton.1 hb];omega))
 have HF7:=Lib.hid (zfB M (w.heap.size+2) l {zcB b with path:=b.path,query:=b.query,hasQ:=b.hasQ} (.slice sa sn sc) _ (by omega) HM7.out HU7.out)
 clear HR2 HU2 HO2 HM2 HP2 HX2 HK2 HKK HS1 HST HCL hp6 b5 b6 b7 hc2 c5 c6 c7 f5 f6 f7 hset
 generalize ((x6.setCell ⟨w.heap.size+2,5,none⟩ (.slice sa sn sc)).setCell ⟨w.heap.size+2,6,none⟩ (.string ⟨b.query.toArray⟩)).setCell ⟨w.heap.size+2,7,none⟩ (.bool b.hasQ)=x7 at*
 go_wp2_with fail
 refine HF7.out.mono ?_
 rintro e x8 ⟨rfl,hu8,ho8⟩
 have HR8:=HR7.out.only ho8 (by simp;omega)
 have HO8:=Lib.hid (zgZ HO7.out (by omega) ho8)
 have HP8:=Lib.hid (HP7.out.only ho8 (fun b hb=>by
  rcases List.mem_cons.1 hb with e|e
  ·rw [e];omega
  ·rw [List.mem_singleton] at e;omega))
 have HFP:Hid ((finC ({zcB b with path:=b.path,query:=b.query,hasQ:=b.hasQ}) l).path=b.path):=zgN _ _
 have HVH:Hid ((finC ({zcB b with path:=b.path,query:=b.query,hasQ:=b.hasQ}) l).host.val= .iface it iv):=by show _=_;rw [zgV];exact HIV.out
 clear HF7 HR7 HU7 HO7 HP7 HM7 ho8
 generalize finC ({zcB b with path:=b.path,query:=b.query,hasQ:=b.hasQ}) l=v at*
 obtain ⟨d0,d1,d2,d3,d4,d5,d6,d7,d8,d9,-⟩:=hu8.all
 rw [HVH.out] at d3
 obtain ⟨c0,c1,c2,c3,c4,c5,c6,c7,c8,c9,hrow⟩:=HR8
 have HRW:=Lib.hid hrow
 obtain ⟨k0,k1,k2,k3,k4,k5,k6,k7,k8,k9,kf⟩:=zaS hrow
 clear hrow hu8
 have HEND:=Lib.hid (zdK HRW.out (.string ⟨v.scheme.toArray⟩) (.string ⟨v.user.toArray⟩) (.string ⟨v.pass.toArray⟩) (.iface it iv) (.int .i64 v.port) (.slice sa sn sc) (.string ⟨v.query.toArray⟩) (.bool v.hasQ) (.string ⟨v.frag.toArray⟩) (.bool v.hasF))
 have HEO:=Lib.hid (zbU (g:=w.heap.size+1) HO8.out (.inr (Nat.le_succ _)) (.string ⟨v.scheme.toArray⟩) (.string ⟨v.user.toArray⟩) (.string ⟨v.pass.toArray⟩) (.iface it iv) (.int .i64 v.port) (.slice sa sn sc) (.string ⟨v.query.toArray⟩) (.bool v.hasQ) (.string ⟨v.frag.toArray⟩) (.bool v.hasF))
 have HEP:=Lib.hid (HP8.out.only (zbU (g:=w.heap.size+1) (F:=[w.heap.size+1]) (Only.refl _ _) (.inl (List.mem_cons_self ..)) (.string ⟨v.scheme.toArray⟩) (.string ⟨v.user.toArray⟩) (.string ⟨v.pass.toArray⟩) (.iface it iv) (.int .i64 v.port) (.slice sa sn sc) (.string ⟨v.query.toArray⟩) (.bool v.hasQ) (.string ⟨v.frag.toArray⟩) (.bool v.hasF)) (fun b hb=>by rw [List.mem_singleton.1 hb];omega))
 go_wp2
 obtain ⟨e0,e1,e2,e3,e4,e5,e6,e7,e8,e9,-⟩:=zaS HEND.out
 refine bodyPost_ret (v:= .agg #[.string ⟨v.scheme.toArray⟩,.string ⟨v.user.toArray⟩,.string ⟨v.pass.toArray⟩,.iface it iv,.int .i64 v.port,.slice sa sn sc,.string ⟨v.query.toArray⟩,.bool v.hasQ,.string ⟨v.frag.toArray⟩,.bool v.hasF]) (by simp [results,Tryz.results42,go_sem,e0,e1,e2,e3,e4,e5,e6,e7,e8,e9]) rfl ?_
 rw [HRES.out]
 exact ⟨(.slice sa sn sc),by rw [←HVH.out];rfl,by rw [HFP.out];exact zcI HEP.out (by omega),HEO.out⟩
theorem zmF (M:Nat) (l:List UInt8) (b:UZ) (bpv:Value) (rooted:Bool) (w:World) (hl:l.length≤100000) (hpl:b.path.length≤1000000) (hbh:b.host≠ .none) (hm:MB w M l) (hpv:PV w bpv b.path) (hmax:MaxVar w):
  Calls Tryz.prog 42 #[.pointer (some ⟨M,0,none⟩),.agg (b.cells bpv),.bool rooted] w (zuC w M (relC b rooted l)):=by
 cases rooted with
 |true=>exact zoU M l b bpv w hl hpl hbh hm hpv hmax
 |false=>
  by_cases h0:l=[]
  ·exact zuM M l b bpv w hl hpl hbh hm hpv hmax h0
  by_cases h35:l.head? =some 35
  ·exact zsA M l b bpv w hl hpl hbh hm hpv hmax h35
  by_cases h63:l.head? =some 63
  ·exact zpR M l b bpv w hl hpl hbh hm hpv hmax h63
  exact zsG M l b bpv w hl hpl hbh hm hpv hmax h0 h35 h63
end

section
open Go.RowKit
/-- a URL is returned,and an error -/
def RetP (w:World) (x:UZ×Int) (e:Ending) (w':World):Prop:= ∃pv,e= .returned (.tuple #[.agg (x.1.cells pv),.int .i64 x.2])∧zbA w.heap.size w' pv x.1.path∧Below w.heap.size w w'
theorem HZ.shape (h:HZ):h.val= .nilIface∨ ∃t v,h.val= .iface t v:=by
 cases h with
 |none=>exact .inl rfl
 |name l=>exact .inr ⟨_,_,rfl⟩
 |addr a=>cases a<;>exact .inr ⟨_,_,rfl⟩
theorem z8L {n:List UInt8} (h:ownZ n≠0):ownZ n=80∨ownZ n=443:=by
 unfold ownZ at*
 split at h
 ·exact .inl (by rename_i g;rw [if_pos g])
 ·rename_i g
  rw [if_neg g] at*
  split at h
  ·rename_i g2;exact .inr (by rw [if_pos g2])
  ·exact absurd rfl h
theorem zqR {t:List UInt8} {b:Option UZ} (hb: ∀u,b=some u→u.scheme=zdZ∨u.scheme=zdY) (h: ¬4096<t.length):zbT t b=zyG (zcZ (zcK t)) b:=by
 unfold zbT
 rw [if_neg h,ycZ _ b hb]
theorem zqX {t:List UInt8} {b:Option UZ} (h:4096<t.length):zbT t b=(zdM,3):=if_pos h
theorem znY (t:List UInt8):(zcZ (zcK t)).length≤t.length:=by
 have h1:=yfR (zcK t)
 have h2:=ziY t
 have h3:=(List.dropWhile_suffix (l:=t) zbN).length_le
 omega
theorem zsV {s:List UInt8} {b:Option UZ} (h:ownZ (zfJ s b)=0):zyG s b=(zdM,5):=if_pos h
theorem ygU {s:List UInt8} (h: ¬ownZ (zfJ s none)=0):zyG s none=zfH (zfJ s none) (zeA (zjF s)):=if_neg h
theorem ztO {s:List UInt8} {b:UZ} (h: ¬ownZ (zfJ s (some b))=0) (h2:b.scheme≠zfJ s (some b)∨1<zbP (zjF s)):zyG s (some b)=zfH (zfJ s (some b)) (zeA (zjF s)):=(if_neg h).trans (if_pos h2)
theorem z1A {s:List UInt8} {b:UZ} (h: ¬ownZ (zfJ s (some b))=0) (h2: ¬(b.scheme≠zfJ s (some b)∨1<zbP (zjF s))):zyG s (some b)=(relC b (decide (zbP (zjF s)≠0)) (zeA (zjF s)),0):=(if_neg h).trans (if_neg h2)
theorem zwA {s n r:List UInt8} {b:Option UZ} (h:schW s=some (n,r)):zfJ s b=n∧zjF s=r:=by
 unfold zfJ zjF;rw [h];exact ⟨rfl,rfl⟩
theorem zvV {s:List UInt8} {b:UZ} (h:schW s=none):zfJ s (some b)=b.scheme∧zfJ s none=[]∧zjF s=s:=by
 unfold zfJ zjF;rw [h];exact ⟨rfl,rfl,rfl⟩
theorem ziQ (l:List UInt8):(zeA l).length≤l.length:=(List.dropWhile_suffix (l:=l) zdL).length_le
theorem z2C (l:List UInt8):zbP l≤l.length:=ztH _ l ()
theorem ztT {s n r:List UInt8} (h:schW s=some (n,r)):r.length≤s.length:=by
 rw [zuD] at h
 split at h
 ·have:=(Prod.mk.inj (Option.some.inj h)).2
  rw [←this,List.length_drop];omega
 ·cases h
/-- the result's cells at the end -/
theorem zbX {w x:World} {pv:Value} {u:UZ} {B:Nat} (hb:Below w.heap.size w x) (hp:zbA B x pv u.path) (hB:w.heap.size<B) (c0 c1 c2 c3 c4 c5 c6 c7 c8 c9:Value):
  zbA w.heap.size ((((((((((x.setCell ⟨w.heap.size,0,none⟩ c0).setCell ⟨w.heap.size,1,none⟩ c1).setCell ⟨w.heap.size,2,none⟩ c2).setCell ⟨w.heap.size,3,none⟩ c3).setCell ⟨w.heap.size,4,none⟩ c4).setCell ⟨w.heap.size,5,none⟩ c5).setCell ⟨w.heap.size,6,none⟩ c6).setCell ⟨w.heap.size,7,none⟩ c7).setCell ⟨w.heap.size,8,none⟩ c8).setCell ⟨w.heap.size,9,none⟩ c9) pv u.path∧
  Below w.heap.size w ((((((((((x.setCell ⟨w.heap.size,0,none⟩ c0).setCell ⟨w.heap.size,1,none⟩ c1).setCell ⟨w.heap.size,2,none⟩ c2).setCell ⟨w.heap.size,3,none⟩ c3).setCell ⟨w.heap.size,4,none⟩ c4).setCell ⟨w.heap.size,5,none⟩ c5).setCell ⟨w.heap.size,6,none⟩ c6).setCell ⟨w.heap.size,7,none⟩ c7).setCell ⟨w.heap.size,8,none⟩ c8).setCell ⟨w.heap.size,9,none⟩ c9):=
 ⟨zcI (hp.only (zbU (g:=w.heap.size) (F:=[w.heap.size]) (Only.refl _ _) (.inl (List.mem_cons_self ..)) _ _ _ _ _ _ _ _ _ _) (fun b hb=>by rw [List.mem_singleton.1 hb];exact hB)) (Nat.le_of_lt hB),zcS hb (Nat.le_refl _) _ _ _ _ _ _ _ _ _ _⟩
theorem zyS (t:List UInt8) (w:World) (hmax:MaxVar w) (hl:t.length≤1000000):
  Calls Tryz.prog 20 #[.string ⟨t.toArray⟩,.pointer none] w (RetP w (zbT t none)):=by
 obtain ⟨x0,hx0⟩: ∃y,y=w.alloc (.cells zbJ 27):=⟨_,rfl⟩
 have hb0:Below w.heap.size w x0:=by rw [hx0];exact zaI w _
 have HR0:Hid (RB x0 w.heap.size):=by show RB _ _;rw [hx0];exact RB.new w
 have hz:=zaJ t
 unfold zbJ at hx0
 have HX:=Lib.hid (fun x (h:Below w.heap.size w x)=>zaB hmax h)
 by_cases hbig:4096<t.length
 ·have HF:=Lib.hid (zqX (b:=none) hbig)
  have hd:decide (4096<(t.length:Int))=true:=decide_eq_true (by omega)
  have hbb:Below w.heap.size w (w.alloc (.cells zbJ 27)):=zaI w _
  unfold zbJ at hbb
  clear HR0 hb0 hx0 HX
  go_enter Tryz.func20,Tryz.ntmps20
  go_wp2
  refine bodyPost_ret (v:= .tuple #[.agg zbJ,.int .i64 3]) (by simp [results,Tryz.results20,go_sem,zbJ]) rfl ?_
  rw [HF.out]
  exact ⟨.slice none 0 0,rfl,zbA.nil _ _,hbb⟩
 have hd:decide (4096<(t.length:Int))=false:=decide_eq_false (by omega)
 have HF:=Lib.hid (zqR (b:=none) (fun u e=>by cases e) hbig)
 have h4:t.length≤4096:=by omega
 have hcl:=znY t
 have htl:(zcK t).length≤t.length:=by
  have h2:=ziY t
  have h3:=(List.dropWhile_suffix (l:=t) zbN).length_le
  omega
 have HT:=Lib.hid (fun W=>z1I ⟨t.toArray⟩ W (by rw [zaJ];omega))
 rw [zaW] at HT
 have HD:=Lib.hid (fun W=>z2S ⟨(zcK t).toArray⟩ W (by rw [zaJ];omega))
 rw [zaW] at HD
 generalize zcZ (zcK t)=s at*
 generalize zcK t=t1 at*
 have HB0:=Lib.hid hb0
 clear hmax hb0 hbig
 go_enter Tryz.func20,Tryz.ntmps20
 go_wp2_with fail
 rw [←hx0]
 clear hx0
 refine (HT.out _).mono ?_
 rintro e w' ⟨rfl,rfl⟩
 go_wp2_with fail
 refine (HD.out _).mono ?_
 rintro e x1 ⟨rfl,hb1⟩
 have HB1:=Lib.hid (zaF HB0.out hb1)
 have HR1:=Lib.hid (HR0.out.below hb1)
 clear hb1 HB0 HR0 HT HD hz hd
 obtain ⟨x2,hx2⟩: ∃y,y=x1.alloc (.cells #[.string ⟨s.toArray⟩] 67):=⟨_,rfl⟩
 have hb2:Below x1.heap.size x1 x2:=by rw [hx2];exact (Below.refl _ _).alloc (Nat.le_refl _) _
 have HB2:=Lib.hid (zaF HB1.out hb2)
 have HR2:=Lib.hid (HR1.out.below hb2)
 have HM2:Hid (MB x2 x1.heap.size s):=by show MB _ _ _;rw [hx2];exact heap_alloc_new x1 _
 have HS2:=Lib.hid (zrC _ s x2 (by omega) HM2.out)
 have hRM:w.heap.size≠x1.heap.size:=by have:=HR1.out.lt;omega
 have hwM:w.heap.size<x1.heap.size:=HR1.out.lt
 clear HB1 HR1 hb2 HM2
 go_wp2_with fail
 rw [←hx2]
 clear hx2
 generalize x1.heap.size=M at*
 refine HS2.out.mono ?_
 rintro e x3 ⟨rfl,hm3,ho3⟩
 have hb3:Below w.heap.size x2 x3:=ho3.below HB2.out.size (fun x hx=>by rw [List.mem_singleton.1 hx];omega)
 have HB3:=Lib.hid (HB2.out.trans hb3)
 have HR3:=Lib.hid (HR2.out.only ho3 (by simp [hRM]))
 have hMx3:=zaC hm3
 clear HS2 ho3 HB2 HR2 hb3
 cases hsc:schW s with
 |none=>
  obtain ⟨-,hnm,hlf⟩:=zvV (b:=zdM) hsc
  have h0:ownZ (zfJ s none)=0:=by rw [hnm];decide
  rw [hsc] at hm3
  obtain ⟨nm,hnn⟩: ∃nm,nm=([]:List UInt8):=⟨_,rfl⟩
  rw [←hnn] at hnm
  clear hsc hlf
  simp only [Option.map,Option.getD,Option.isSome] at hm3 ⊢
  have HF2:=Lib.hid (HF.out.trans (zsV h0))
  obtain ⟨c0,c1,c2,c3,c4,c5,c6,c7,c8,c9,hrow⟩:=HR3.out
  have HRW:=Lib.hid hrow
  obtain ⟨k0,k1,k2,k3,k4,k5,k6,k7,k8,k9,kf⟩:=zaS hrow
  have HEND:=Lib.hid (zdK HRW.out (.string ⟨#[]⟩) (.string ⟨#[]⟩) (.string ⟨#[]⟩) .nilIface (.int .i64 0) (.slice none 0 0) (.string ⟨#[]⟩) (.bool false) (.string ⟨#[]⟩) (.bool false))
  have HEB:=Lib.hid (zcS HB3.out (Nat.le_refl _) (.string ⟨#[]⟩) (.string ⟨#[]⟩) (.string ⟨#[]⟩) .nilIface (.int .i64 0) (.slice none 0 0) (.string ⟨#[]⟩) (.bool false) (.string ⟨#[]⟩) (.bool false))
  have HOW:=Lib.hid (fun W=>zeN ([]:List UInt8) W)
  rw [show ownZ []=0 by decide] at HOW
  clear hrow HR3 hm3 h0 hnm hnn
  go_wp2_with fail
  refine (HOW.out _).mono ?_
  rintro e w' ⟨rfl,rfl⟩
  go_wp2
  obtain ⟨e0,e1,e2,e3,e4,e5,e6,e7,e8,e9,-⟩:=zaS HEND.out
  refine bodyPost_ret (v:= .tuple #[.agg zbJ,.int .i64 5]) (by simp [results,Tryz.results20,go_sem,e0,e1,e2,e3,e4,e5,e6,e7,e8,e9,zbJ]) rfl ?_
  rw [HF2.out]
  exact ⟨.slice none 0 0,rfl,zbA.nil _ _,HEB.out⟩
 |some p=>
  obtain ⟨nm,lf⟩:=p
  obtain ⟨hnm,hlf⟩:=zwA (b:=none) hsc
  have hsl:=ztT hsc
  rw [hsc] at hm3
  simp only [Option.map,Option.getD,Option.isSome] at hm3 ⊢
  by_cases h0:ownZ (zfJ s none)=0
  ·have HF2:=Lib.hid (HF.out.trans (zsV h0))
   obtain ⟨c0,c1,c2,c3,c4,c5,c6,c7,c8,c9,hrow⟩:=HR3.out
   have HRW:=Lib.hid hrow
   obtain ⟨k0,k1,k2,k3,k4,k5,k6,k7,k8,k9,kf⟩:=zaS hrow
   have HEND:=Lib.hid (zdK HRW.out (.string ⟨#[]⟩) (.string ⟨#[]⟩) (.string ⟨#[]⟩) .nilIface (.int .i64 0) (.slice none 0 0) (.string ⟨#[]⟩) (.bool false) (.string ⟨#[]⟩) (.bool false))
   have HEB:=Lib.hid (zcS HB3.out (Nat.le_refl _) (.string ⟨#[]⟩) (.string ⟨#[]⟩) (.string ⟨#[]⟩) .nilIface (.int .i64 0) (.slice none 0 0) (.string ⟨#[]⟩) (.bool false) (.string ⟨#[]⟩) (.bool false))
   have HOW:=Lib.hid (fun W=>zeN nm W)
   rw [hnm] at h0
   rw [h0] at HOW
   clear hrow HR3 hm3 h0 hnm
   go_wp2_with fail
   refine (HOW.out _).mono ?_
   rintro e w' ⟨rfl,rfl⟩
   go_wp2
   obtain ⟨e0,e1,e2,e3,e4,e5,e6,e7,e8,e9,-⟩:=zaS HEND.out
   refine bodyPost_ret (v:= .tuple #[.agg zbJ,.int .i64 5]) (by simp [results,Tryz.results20,go_sem,e0,e1,e2,e3,e4,e5,e6,e7,e8,e9,zbJ]) rfl ?_
   rw [HF2.out]
   exact ⟨.slice none 0 0,rfl,zbA.nil _ _,HEB.out⟩
  ·have HF2:=Lib.hid (HF.out.trans (ygU h0))
   rw [hnm,hlf] at HF2
   have hon:=z8L (n:=nm) (by rw [←hnm];exact h0)
   have HOW:=Lib.hid (fun W=>zeN nm W)
   have hne:(ownZ nm==(0:Int))=false:=by rw [beq_eq_false_iff_ne,←hnm];exact h0
   generalize hoz:ownZ nm=oz at*
   have HUN:=Lib.hid (zhO M lf x3 hm3)
   go_wp2_with fail
   refine (HOW.out _).mono ?_
   rintro e w' ⟨rfl,rfl⟩
   go_wp2_with fail
   refine HUN.out.mono ?_
   rintro e xc ⟨rfl,hmc,hoc⟩
   have hbc:Below w.heap.size x3 xc:=hoc.below HB3.out.size (fun x hx=>by rw [List.mem_singleton.1 hx];omega)
   have HBC:=Lib.hid (HB3.out.trans hbc)
   have HRC:=Lib.hid (HR3.out.only hoc (by simp [hRM]))
   have HMC:=Lib.hid hmc
   have hbl2:=ziQ (lf)
   clear HUN HOW hoc hbc hmc hm3 HB3 HR3 hne
   generalize zeA lf=lb at*
   clear h0 hnm hlf hsc
   rw [←hoz] at hon
   go_wp2_with fail
   refine (zgB M lb nm _ (by omega) HMC.out (HX.out _ HBC.out) hon).mono ?_
   rintro e x5 ⟨pv,rfl,hp5,ho5⟩
   have hb5:Below w.heap.size xc x5:=ho5.below HBC.out.size (fun x hx=>by rw [List.mem_singleton.1 hx];omega)
   have HB5:=Lib.hid (HBC.out.trans hb5)
   have HR5:=HRC.out.only ho5 (by simp [hRM])
   have HP5:=Lib.hid hp5
   have hBs:w.heap.size<xc.heap.size:=HRC.out.lt
   clear ho5 hb5 hp5 HRC HMC HBC
   generalize zfH nm lb=rr at*
   obtain ⟨v,er⟩:=rr
   simp only [UZ.cells] at HP5 HF2 ⊢
   obtain ⟨sa,sn,sc,rfl⟩:=HP5.out.pv.shape
   obtain ⟨c0,c1,c2,c3,c4,c5,c6,c7,c8,c9,hrow⟩:=HR5
   have HRW:=Lib.hid hrow
   obtain ⟨k0,k1,k2,k3,k4,k5,k6,k7,k8,k9,kf⟩:=zaS hrow
   clear hrow
   rcases v.host.shape with hv|⟨it,iv,hv⟩
   ·have HVH:=Lib.hid hv
    rw [hv]
    clear hv
    have HEND:=Lib.hid (zdK HRW.out (.string ⟨v.scheme.toArray⟩) (.string ⟨v.user.toArray⟩) (.string ⟨v.pass.toArray⟩) .nilIface (.int .i64 v.port) (.slice sa sn sc) (.string ⟨v.query.toArray⟩) (.bool v.hasQ) (.string ⟨v.frag.toArray⟩) (.bool v.hasF))
    have HEB:=Lib.hid (zbX HB5.out HP5.out hBs (.string ⟨v.scheme.toArray⟩) (.string ⟨v.user.toArray⟩) (.string ⟨v.pass.toArray⟩) .nilIface (.int .i64 v.port) (.slice sa sn sc) (.string ⟨v.query.toArray⟩) (.bool v.hasQ) (.string ⟨v.frag.toArray⟩) (.bool v.hasF))
    go_wp2
    obtain ⟨e0,e1,e2,e3,e4,e5,e6,e7,e8,e9,-⟩:=zaS HEND.out
    refine bodyPost_ret (v:= .tuple #[.agg #[.string ⟨v.scheme.toArray⟩,.string ⟨v.user.toArray⟩,.string ⟨v.pass.toArray⟩,.nilIface,.int .i64 v.port,.slice sa sn sc,.string ⟨v.query.toArray⟩,.bool v.hasQ,.string ⟨v.frag.toArray⟩,.bool v.hasF],.int .i64 er]) (by simp [results,Tryz.results20,go_sem,e0,e1,e2,e3,e4,e5,e6,e7,e8,e9]) rfl ?_
    rw [HF2.out]
    exact ⟨_,by rw [←HVH.out];rfl,HEB.out⟩
   ·have HVH:=Lib.hid hv
    rw [hv]
    clear hv
    have HEND:=Lib.hid (zdK HRW.out (.string ⟨v.scheme.toArray⟩) (.string ⟨v.user.toArray⟩) (.string ⟨v.pass.toArray⟩) (.iface it iv) (.int .i64 v.port) (.slice sa sn sc) (.string ⟨v.query.toArray⟩) (.bool v.hasQ) (.string ⟨v.frag.toArray⟩) (.bool v.hasF))
    have HEB:=Lib.hid (zbX HB5.out HP5.out hBs (.string ⟨v.scheme.toArray⟩) (.string ⟨v.user.toArray⟩) (.string ⟨v.pass.toArray⟩) (.iface it iv) (.int .i64 v.port) (.slice sa sn sc) (.string ⟨v.query.toArray⟩) (.bool v.hasQ) (.string ⟨v.frag.toArray⟩) (.bool v.hasF))
    go_wp2
    obtain ⟨e0,e1,e2,e3,e4,e5,e6,e7,e8,e9,-⟩:=zaS HEND.out
    refine bodyPost_ret (v:= .tuple #[.agg #[.string ⟨v.scheme.toArray⟩,.string ⟨v.user.toArray⟩,.string ⟨v.pass.toArray⟩,(.iface it iv),.int .i64 v.port,.slice sa sn sc,.string ⟨v.query.toArray⟩,.bool v.hasQ,.string ⟨v.frag.toArray⟩,.bool v.hasF],.int .i64 er]) (by simp [results,Tryz.results20,go_sem,e0,e1,e2,e3,e4,e5,e6,e7,e8,e9]) rfl ?_
    rw [HF2.out]
    exact ⟨_,by rw [←HVH.out];rfl,HEB.out⟩
theorem zxO (t:List UInt8) (U:Nat) (b:UZ) (bpv:Value) (w:World) (hmax:MaxVar w) (hl:t.length≤1000000) (hs:b.scheme=zdZ∨b.scheme=zdY) (hbh:b.host≠ .none) (hbl:b.path.length≤1000000) (hub:UB w U b bpv) (hpv:PV w bpv b.path):
  Calls Tryz.prog 20 #[.string ⟨t.toArray⟩,.pointer (some ⟨U,0,none⟩)] w (RetP w (zbT t (some b))):=by
 obtain ⟨x0,hx0⟩: ∃y,y=w.alloc (.cells zbJ 27):=⟨_,rfl⟩
 have hb0:Below w.heap.size w x0:=by rw [hx0];exact zaI w _
 have HR0:Hid (RB x0 w.heap.size):=by show RB _ _;rw [hx0];exact RB.new w
 have hz:=zaJ t
 unfold zbJ at hx0
 have HUB:=Lib.hid (fun x (h:Below w.heap.size w x)=>hub.below h)
 have HPV:=Lib.hid (fun x (h:Below w.heap.size w x)=>hpv.keep h)
 have hUw:=zaC hub
 have HX:=Lib.hid (fun x (h:Below w.heap.size w x)=>zaB hmax h)
 by_cases hbig:4096<t.length
 ·have HF:=Lib.hid (zqX (b:=(some b)) hbig)
  have hd:decide (4096<(t.length:Int))=true:=decide_eq_true (by omega)
  have hbb:Below w.heap.size w (w.alloc (.cells zbJ 27)):=zaI w _
  unfold zbJ at hbb
  clear HR0 hb0 hx0 HX
  go_enter Tryz.func20,Tryz.ntmps20
  go_wp2
  refine bodyPost_ret (v:= .tuple #[.agg zbJ,.int .i64 3]) (by simp [results,Tryz.results20,go_sem,zbJ]) rfl ?_
  rw [HF.out]
  exact ⟨.slice none 0 0,rfl,zbA.nil _ _,hbb⟩
 have hd:decide (4096<(t.length:Int))=false:=decide_eq_false (by omega)
 have HF:=Lib.hid (zqR (b:=(some b)) (fun u e=>by rw [←Option.some.inj e];exact hs) hbig)
 have h4:t.length≤4096:=by omega
 have hcl:=znY t
 have htl:(zcK t).length≤t.length:=by
  have h2:=ziY t
  have h3:=(List.dropWhile_suffix (l:=t) zbN).length_le
  omega
 have HT:=Lib.hid (fun W=>z1I ⟨t.toArray⟩ W (by rw [zaJ];omega))
 rw [zaW] at HT
 have HD:=Lib.hid (fun W=>z2S ⟨(zcK t).toArray⟩ W (by rw [zaJ];omega))
 rw [zaW] at HD
 generalize zcZ (zcK t)=s at*
 generalize zcK t=t1 at*
 have HB0:=Lib.hid hb0
 clear hmax hb0 hbig hub hpv
 go_enter Tryz.func20,Tryz.ntmps20
 go_wp2_with fail
 rw [←hx0]
 clear hx0
 refine (HT.out _).mono ?_
 rintro e w' ⟨rfl,rfl⟩
 go_wp2_with fail
 refine (HD.out _).mono ?_
 rintro e x1 ⟨rfl,hb1⟩
 have HB1:=Lib.hid (zaF HB0.out hb1)
 have HR1:=Lib.hid (HR0.out.below hb1)
 clear hb1 HB0 HR0 HT HD hz hd
 obtain ⟨x2,hx2⟩: ∃y,y=x1.alloc (.cells #[.string ⟨s.toArray⟩] 67):=⟨_,rfl⟩
 have hb2:Below x1.heap.size x1 x2:=by rw [hx2];exact (Below.refl _ _).alloc (Nat.le_refl _) _
 have HB2:=Lib.hid (zaF HB1.out hb2)
 have HR2:=Lib.hid (HR1.out.below hb2)
 have HM2:Hid (MB x2 x1.heap.size s):=by show MB _ _ _;rw [hx2];exact heap_alloc_new x1 _
 have HS2:=Lib.hid (zrC _ s x2 (by omega) HM2.out)
 have hRM:w.heap.size≠x1.heap.size:=by have:=HR1.out.lt;omega
 have hwM:w.heap.size<x1.heap.size:=HR1.out.lt
 clear HB1 HR1 hb2 HM2
 go_wp2_with fail
 rw [←hx2]
 clear hx2
 generalize x1.heap.size=M at*
 refine HS2.out.mono ?_
 rintro e x3 ⟨rfl,hm3,ho3⟩
 have hb3:Below w.heap.size x2 x3:=ho3.below HB2.out.size (fun x hx=>by rw [List.mem_singleton.1 hx];omega)
 have HB3:=Lib.hid (HB2.out.trans hb3)
 have HR3:=Lib.hid (HR2.out.only ho3 (by simp [hRM]))
 have hMx3:=zaC hm3
 clear HS2 ho3 HB2 HR2 hb3
 cases hsc:schW s with
 |none=>
  obtain ⟨hnm',-,hlf⟩:=zvV (b:=b) hsc
  rw [hsc] at hm3
  simp only [Option.map,Option.getD,Option.isSome] at hm3 ⊢
  obtain ⟨nm,hbn⟩: ∃nm,b.scheme=nm:=⟨_,rfl⟩
  have hnm:zfJ s (some b)=nm:=hnm'.trans hbn
  have h0: ¬ownZ (zfJ s (some b))=0:=fun g=>z4Y.1 (by rw [hnm'] at g;exact g) hs
  have hUd:=(HUB.out _ HB3.out).all.1
  rw [hbn] at hUd
  have hon:=z8L (n:=nm) (by rw [←hnm];exact h0)
  have HOW:=Lib.hid (fun W=>zeN nm W)
  have hne:(ownZ nm==(0:Int))=false:=by rw [beq_eq_false_iff_ne,←hnm];exact h0
  generalize hoz:ownZ nm=oz at*
  have HUN:=Lib.hid (zhO M s x3 hm3)
  go_wp2_with fail
  refine (HOW.out _).mono ?_
  rintro e w' ⟨rfl,rfl⟩
  go_wp2_with fail
  refine HUN.out.mono ?_
  rintro e xc ⟨rfl,hmc,hoc⟩
  have hbc:Below w.heap.size x3 xc:=hoc.below HB3.out.size (fun x hx=>by rw [List.mem_singleton.1 hx];omega)
  have HBC:=Lib.hid (HB3.out.trans hbc)
  have HRC:=Lib.hid (HR3.out.only hoc (by simp [hRM]))
  have HMC:=Lib.hid hmc
  have hbl2:=ziQ (s)
  clear HUN HOW hoc hbc hmc hm3 HB3 HR3 hne
  clear hUd
  obtain ⟨u0,hu0⟩: ∃f:List UInt8,b.scheme=f:=⟨_,rfl⟩
  have hsn:=z2C (s)
  have hUc:=(HUB.out _ HBC.out).all.1
  have hal:((s).take (zbP (s))).length=zbP (s):=by rw [List.length_take];omega
  by_cases hbs:b.scheme=nm
  ·have hqb:(b.scheme==nm)=true:=by rw [beq_iff_eq];exact hbs
   by_cases h1:1<zbP (s)
   ·have HF2:=Lib.hid (HF.out.trans (ztO h0 (.inr (by rw [hlf];exact h1))))
    rw [hnm,hlf] at HF2
    have hd1:decide (1<(zbP (s):Int))=true:=decide_eq_true (by omega)
    generalize (s).take (zbP (s))=ah at*
    generalize zbP (s)=sn2 at*
    generalize zeA (s)=lb at*
    have hzz:=zaJ ah
    rw [hal] at hzz
    rw [←hoz] at hon
    clear hu0
    go_wp2_with fail
    refine (zgB M lb nm _ (by omega) HMC.out (HX.out _ HBC.out) hon).mono ?_
    rintro e x5 ⟨pv,rfl,hp5,ho5⟩
    have hb5:Below w.heap.size xc x5:=ho5.below HBC.out.size (fun x hx=>by rw [List.mem_singleton.1 hx];omega)
    have HB5:=Lib.hid (HBC.out.trans hb5)
    have HR5:=HRC.out.only ho5 (by simp [hRM])
    have HP5:=Lib.hid hp5
    have hBs:w.heap.size<xc.heap.size:=HRC.out.lt
    clear ho5 hb5 hp5 HRC HMC HBC
    generalize zfH nm lb=rr at*
    obtain ⟨v,er⟩:=rr
    simp only [UZ.cells] at HP5 HF2 ⊢
    obtain ⟨sa,sn,sc,rfl⟩:=HP5.out.pv.shape
    obtain ⟨c0,c1,c2,c3,c4,c5,c6,c7,c8,c9,hrow⟩:=HR5
    have HRW:=Lib.hid hrow
    obtain ⟨k0,k1,k2,k3,k4,k5,k6,k7,k8,k9,kf⟩:=zaS hrow
    clear hrow
    rcases v.host.shape with hv|⟨it,iv,hv⟩
    ·have HVH:=Lib.hid hv
     rw [hv]
     clear hv
     have HEND:=Lib.hid (zdK HRW.out (.string ⟨v.scheme.toArray⟩) (.string ⟨v.user.toArray⟩) (.string ⟨v.pass.toArray⟩) .nilIface (.int .i64 v.port) (.slice sa sn sc) (.string ⟨v.query.toArray⟩) (.bool v.hasQ) (.string ⟨v.frag.toArray⟩) (.bool v.hasF))
     have HEB:=Lib.hid (zbX HB5.out HP5.out hBs (.string ⟨v.scheme.toArray⟩) (.string ⟨v.user.toArray⟩) (.string ⟨v.pass.toArray⟩) .nilIface (.int .i64 v.port) (.slice sa sn sc) (.string ⟨v.query.toArray⟩) (.bool v.hasQ) (.string ⟨v.frag.toArray⟩) (.bool v.hasF))
     go_wp2
     obtain ⟨e0,e1,e2,e3,e4,e5,e6,e7,e8,e9,-⟩:=zaS HEND.out
     refine bodyPost_ret (v:= .tuple #[.agg #[.string ⟨v.scheme.toArray⟩,.string ⟨v.user.toArray⟩,.string ⟨v.pass.toArray⟩,.nilIface,.int .i64 v.port,.slice sa sn sc,.string ⟨v.query.toArray⟩,.bool v.hasQ,.string ⟨v.frag.toArray⟩,.bool v.hasF],.int .i64 er]) (by simp [results,Tryz.results20,go_sem,e0,e1,e2,e3,e4,e5,e6,e7,e8,e9]) rfl ?_
     rw [HF2.out]
     exact ⟨_,by rw [←HVH.out];rfl,HEB.out⟩
    ·have HVH:=Lib.hid hv
     rw [hv]
     clear hv
     have HEND:=Lib.hid (zdK HRW.out (.string ⟨v.scheme.toArray⟩) (.string ⟨v.user.toArray⟩) (.string ⟨v.pass.toArray⟩) (.iface it iv) (.int .i64 v.port) (.slice sa sn sc) (.string ⟨v.query.toArray⟩) (.bool v.hasQ) (.string ⟨v.frag.toArray⟩) (.bool v.hasF))
     have HEB:=Lib.hid (zbX HB5.out HP5.out hBs (.string ⟨v.scheme.toArray⟩) (.string ⟨v.user.toArray⟩) (.string ⟨v.pass.toArray⟩) (.iface it iv) (.int .i64 v.port) (.slice sa sn sc) (.string ⟨v.query.toArray⟩) (.bool v.hasQ) (.string ⟨v.frag.toArray⟩) (.bool v.hasF))
     go_wp2
     obtain ⟨e0,e1,e2,e3,e4,e5,e6,e7,e8,e9,-⟩:=zaS HEND.out
     refine bodyPost_ret (v:= .tuple #[.agg #[.string ⟨v.scheme.toArray⟩,.string ⟨v.user.toArray⟩,.string ⟨v.pass.toArray⟩,(.iface it iv),.int .i64 v.port,.slice sa sn sc,.string ⟨v.query.toArray⟩,.bool v.hasQ,.string ⟨v.frag.toArray⟩,.bool v.hasF],.int .i64 er]) (by simp [results,Tryz.results20,go_sem,e0,e1,e2,e3,e4,e5,e6,e7,e8,e9]) rfl ?_
     rw [HF2.out]
     exact ⟨_,by rw [←HVH.out];rfl,HEB.out⟩
   ·have HF2:=Lib.hid (HF.out.trans (z1A h0 (by rw [hnm,hlf];rintro (g|g);exact g hbs;exact h1 g)))
    rw [hlf] at HF2
    have hd1:decide (1<(zbP (s):Int))=false:=decide_eq_false (by omega)
    have hemp:((s).take (zbP (s))).isEmpty= !decide (zbP (s)≠0):=by
     rw [Bool.eq_iff_iff,List.isEmpty_iff,←List.length_eq_zero_iff,hal];simp
    generalize decide (zbP (s)≠0)=rt at*
    generalize (s).take (zbP (s))=ah at*
    generalize zbP (s)=sn2 at*
    generalize zeA (s)=lb at*
    have hzz:=zaJ ah
    rw [hal] at hzz
    have HRL:=Lib.hid (fun W (h:MB W M lb) (hp:PV W bpv b.path) (hx:MaxVar W)=>zmF M lb b bpv rt W (by omega) hbl hbh h hp hx)
    obtain ⟨ba,bn,bc,hbpv⟩:=(HPV.out _ HBC.out).shape
    obtain ⟨d0,d1,d2,d3,d4,d5,d6,d7,d8,d9,-⟩:=(HUB.out _ HBC.out).all
    obtain ⟨jt,jv,hjv⟩:=HZ.iface hbh
    have HJV:=Lib.hid hjv
    have HRL2:Hid (Calls Tryz.prog 42 #[.pointer (some ⟨M,0,none⟩),.agg #[.string ⟨b.scheme.toArray⟩,.string ⟨b.user.toArray⟩,.string ⟨b.pass.toArray⟩,.iface jt jv,.int .i64 b.port,bpv,.string ⟨b.query.toArray⟩,.bool b.hasQ,.string ⟨b.frag.toArray⟩,.bool b.hasF],.bool rt] xc (zuC xc M (relC b rt lb))):=by
     have:=HRL.out _ HMC.out (HPV.out _ HBC.out) (HX.out _ HBC.out)
     simp only [UZ.cells] at this
     rw [hjv] at this
     exact this
    rw [hbs,hbpv] at HRL2
    rw [hjv] at d3
    clear hu0 HRL hjv
    go_wp2_with fail
    refine HRL2.out.mono ?_
    rintro e x5 ⟨pv,rfl,hp5,ho5⟩
    have hb5:Below w.heap.size xc x5:=ho5.below HBC.out.size (fun x hx=>by rw [List.mem_singleton.1 hx];omega)
    have HB5:=Lib.hid (HBC.out.trans hb5)
    have HR5:=HRC.out.only ho5 (by simp [hRM])
    have HP5:=Lib.hid hp5
    have hBs:w.heap.size<xc.heap.size:=HRC.out.lt
    clear ho5 hb5 hp5 HRC HMC HBC HRL2 d0 d1 d2 d3 d4 d5 d6 d7 d8 d9
    generalize relC b rt lb=v at*
    simp only [UZ.cells]
    obtain ⟨sa,sn,sc,rfl⟩:=HP5.out.pv.shape
    obtain ⟨c0,c1,c2,c3,c4,c5,c6,c7,c8,c9,hrow⟩:=HR5
    have HRW:=Lib.hid hrow
    obtain ⟨k0,k1,k2,k3,k4,k5,k6,k7,k8,k9,kf⟩:=zaS hrow
    clear hrow
    rcases v.host.shape with hv|⟨it,iv,hv⟩
    ·have HVH:=Lib.hid hv
     rw [hv]
     clear hv
     have HEND:=Lib.hid (zdK HRW.out (.string ⟨v.scheme.toArray⟩) (.string ⟨v.user.toArray⟩) (.string ⟨v.pass.toArray⟩) .nilIface (.int .i64 v.port) (.slice sa sn sc) (.string ⟨v.query.toArray⟩) (.bool v.hasQ) (.string ⟨v.frag.toArray⟩) (.bool v.hasF))
     have HEB:=Lib.hid (zbX HB5.out HP5.out hBs (.string ⟨v.scheme.toArray⟩) (.string ⟨v.user.toArray⟩) (.string ⟨v.pass.toArray⟩) .nilIface (.int .i64 v.port) (.slice sa sn sc) (.string ⟨v.query.toArray⟩) (.bool v.hasQ) (.string ⟨v.frag.toArray⟩) (.bool v.hasF))
     go_wp2
     obtain ⟨e0,e1,e2,e3,e4,e5,e6,e7,e8,e9,-⟩:=zaS HEND.out
     refine bodyPost_ret (v:= .tuple #[.agg #[.string ⟨v.scheme.toArray⟩,.string ⟨v.user.toArray⟩,.string ⟨v.pass.toArray⟩,.nilIface,.int .i64 v.port,.slice sa sn sc,.string ⟨v.query.toArray⟩,.bool v.hasQ,.string ⟨v.frag.toArray⟩,.bool v.hasF],.int .i64 0]) (by simp [results,Tryz.results20,go_sem,e0,e1,e2,e3,e4,e5,e6,e7,e8,e9]) rfl ?_
     rw [HF2.out]
     exact ⟨_,by rw [←HVH.out];rfl,HEB.out⟩
    ·have HVH:=Lib.hid hv
     rw [hv]
     clear hv
     have HEND:=Lib.hid (zdK HRW.out (.string ⟨v.scheme.toArray⟩) (.string ⟨v.user.toArray⟩) (.string ⟨v.pass.toArray⟩) (.iface it iv) (.int .i64 v.port) (.slice sa sn sc) (.string ⟨v.query.toArray⟩) (.bool v.hasQ) (.string ⟨v.frag.toArray⟩) (.bool v.hasF))
     have HEB:=Lib.hid (zbX HB5.out HP5.out hBs (.string ⟨v.scheme.toArray⟩) (.string ⟨v.user.toArray⟩) (.string ⟨v.pass.toArray⟩) (.iface it iv) (.int .i64 v.port) (.slice sa sn sc) (.string ⟨v.query.toArray⟩) (.bool v.hasQ) (.string ⟨v.frag.toArray⟩) (.bool v.hasF))
     go_wp2
     obtain ⟨e0,e1,e2,e3,e4,e5,e6,e7,e8,e9,-⟩:=zaS HEND.out
     refine bodyPost_ret (v:= .tuple #[.agg #[.string ⟨v.scheme.toArray⟩,.string ⟨v.user.toArray⟩,.string ⟨v.pass.toArray⟩,(.iface it iv),.int .i64 v.port,.slice sa sn sc,.string ⟨v.query.toArray⟩,.bool v.hasQ,.string ⟨v.frag.toArray⟩,.bool v.hasF],.int .i64 0]) (by simp [results,Tryz.results20,go_sem,e0,e1,e2,e3,e4,e5,e6,e7,e8,e9]) rfl ?_
     rw [HF2.out]
     exact ⟨_,by rw [←HVH.out];rfl,HEB.out⟩
  ·exact absurd hbn hbs
 |some p=>
  obtain ⟨nm,lf⟩:=p
  obtain ⟨hnm,hlf⟩:=zwA (b:=some b) hsc
  have hsl:=ztT hsc
  rw [hsc] at hm3
  simp only [Option.map,Option.getD,Option.isSome] at hm3 ⊢
  by_cases h0:ownZ (zfJ s (some b))=0
  ·have HF2:=Lib.hid (HF.out.trans (zsV h0))
   obtain ⟨c0,c1,c2,c3,c4,c5,c6,c7,c8,c9,hrow⟩:=HR3.out
   have HRW:=Lib.hid hrow
   obtain ⟨k0,k1,k2,k3,k4,k5,k6,k7,k8,k9,kf⟩:=zaS hrow
   have HEND:=Lib.hid (zdK HRW.out (.string ⟨#[]⟩) (.string ⟨#[]⟩) (.string ⟨#[]⟩) .nilIface (.int .i64 0) (.slice none 0 0) (.string ⟨#[]⟩) (.bool false) (.string ⟨#[]⟩) (.bool false))
   have HEB:=Lib.hid (zcS HB3.out (Nat.le_refl _) (.string ⟨#[]⟩) (.string ⟨#[]⟩) (.string ⟨#[]⟩) .nilIface (.int .i64 0) (.slice none 0 0) (.string ⟨#[]⟩) (.bool false) (.string ⟨#[]⟩) (.bool false))
   have HOW:=Lib.hid (fun W=>zeN nm W)
   rw [hnm] at h0
   rw [h0] at HOW
   clear hrow HR3 hm3 h0 hnm
   go_wp2_with fail
   refine (HOW.out _).mono ?_
   rintro e w' ⟨rfl,rfl⟩
   go_wp2
   obtain ⟨e0,e1,e2,e3,e4,e5,e6,e7,e8,e9,-⟩:=zaS HEND.out
   refine bodyPost_ret (v:= .tuple #[.agg zbJ,.int .i64 5]) (by simp [results,Tryz.results20,go_sem,e0,e1,e2,e3,e4,e5,e6,e7,e8,e9,zbJ]) rfl ?_
   rw [HF2.out]
   exact ⟨.slice none 0 0,rfl,zbA.nil _ _,HEB.out⟩
  ·have hon:=z8L (n:=nm) (by rw [←hnm];exact h0)
   have HOW:=Lib.hid (fun W=>zeN nm W)
   have hne:(ownZ nm==(0:Int))=false:=by rw [beq_eq_false_iff_ne,←hnm];exact h0
   generalize hoz:ownZ nm=oz at*
   have HUN:=Lib.hid (zhO M lf x3 hm3)
   go_wp2_with fail
   refine (HOW.out _).mono ?_
   rintro e w' ⟨rfl,rfl⟩
   go_wp2_with fail
   refine HUN.out.mono ?_
   rintro e xc ⟨rfl,hmc,hoc⟩
   have hbc:Below w.heap.size x3 xc:=hoc.below HB3.out.size (fun x hx=>by rw [List.mem_singleton.1 hx];omega)
   have HBC:=Lib.hid (HB3.out.trans hbc)
   have HRC:=Lib.hid (HR3.out.only hoc (by simp [hRM]))
   have HMC:=Lib.hid hmc
   have hbl2:=ziQ (lf)
   clear HUN HOW hoc hbc hmc hm3 HB3 HR3 hne
   obtain ⟨u0,hu0⟩: ∃f:List UInt8,b.scheme=f:=⟨_,rfl⟩
   have hsn:=z2C (lf)
   have hUc:=(HUB.out _ HBC.out).all.1
   have hal:((lf).take (zbP (lf))).length=zbP (lf):=by rw [List.length_take];omega
   by_cases hbs:b.scheme=nm
   ·have hqb:(b.scheme==nm)=true:=by rw [beq_iff_eq];exact hbs
    by_cases h1:1<zbP (lf)
    ·have HF2:=Lib.hid (HF.out.trans (ztO h0 (.inr (by rw [hlf];exact h1))))
     rw [hnm,hlf] at HF2
     have hd1:decide (1<(zbP (lf):Int))=true:=decide_eq_true (by omega)
     generalize (lf).take (zbP (lf))=ah at*
     generalize zbP (lf)=sn2 at*
     generalize zeA (lf)=lb at*
     have hzz:=zaJ ah
     rw [hal] at hzz
     rw [←hoz] at hon
     clear hu0
     go_wp2_with fail
     refine (zgB M lb nm _ (by omega) HMC.out (HX.out _ HBC.out) hon).mono ?_
     rintro e x5 ⟨pv,rfl,hp5,ho5⟩
     have hb5:Below w.heap.size xc x5:=ho5.below HBC.out.size (fun x hx=>by rw [List.mem_singleton.1 hx];omega)
     have HB5:=Lib.hid (HBC.out.trans hb5)
     have HR5:=HRC.out.only ho5 (by simp [hRM])
     have HP5:=Lib.hid hp5
     have hBs:w.heap.size<xc.heap.size:=HRC.out.lt
     clear ho5 hb5 hp5 HRC HMC HBC
     generalize zfH nm lb=rr at*
     obtain ⟨v,er⟩:=rr
     simp only [UZ.cells] at HP5 HF2 ⊢
     obtain ⟨sa,sn,sc,rfl⟩:=HP5.out.pv.shape
     obtain ⟨c0,c1,c2,c3,c4,c5,c6,c7,c8,c9,hrow⟩:=HR5
     have HRW:=Lib.hid hrow
     obtain ⟨k0,k1,k2,k3,k4,k5,k6,k7,k8,k9,kf⟩:=zaS hrow
     clear hrow
     rcases v.host.shape with hv|⟨it,iv,hv⟩
     ·have HVH:=Lib.hid hv
      rw [hv]
      clear hv
      have HEND:=Lib.hid (zdK HRW.out (.string ⟨v.scheme.toArray⟩) (.string ⟨v.user.toArray⟩) (.string ⟨v.pass.toArray⟩) .nilIface (.int .i64 v.port) (.slice sa sn sc) (.string ⟨v.query.toArray⟩) (.bool v.hasQ) (.string ⟨v.frag.toArray⟩) (.bool v.hasF))
      have HEB:=Lib.hid (zbX HB5.out HP5.out hBs (.string ⟨v.scheme.toArray⟩) (.string ⟨v.user.toArray⟩) (.string ⟨v.pass.toArray⟩) .nilIface (.int .i64 v.port) (.slice sa sn sc) (.string ⟨v.query.toArray⟩) (.bool v.hasQ) (.string ⟨v.frag.toArray⟩) (.bool v.hasF))
      go_wp2
      obtain ⟨e0,e1,e2,e3,e4,e5,e6,e7,e8,e9,-⟩:=zaS HEND.out
      refine bodyPost_ret (v:= .tuple #[.agg #[.string ⟨v.scheme.toArray⟩,.string ⟨v.user.toArray⟩,.string ⟨v.pass.toArray⟩,.nilIface,.int .i64 v.port,.slice sa sn sc,.string ⟨v.query.toArray⟩,.bool v.hasQ,.string ⟨v.frag.toArray⟩,.bool v.hasF],.int .i64 er]) (by simp [results,Tryz.results20,go_sem,e0,e1,e2,e3,e4,e5,e6,e7,e8,e9]) rfl ?_
      rw [HF2.out]
      exact ⟨_,by rw [←HVH.out];rfl,HEB.out⟩
     ·have HVH:=Lib.hid hv
      rw [hv]
      clear hv
      have HEND:=Lib.hid (zdK HRW.out (.string ⟨v.scheme.toArray⟩) (.string ⟨v.user.toArray⟩) (.string ⟨v.pass.toArray⟩) (.iface it iv) (.int .i64 v.port) (.slice sa sn sc) (.string ⟨v.query.toArray⟩) (.bool v.hasQ) (.string ⟨v.frag.toArray⟩) (.bool v.hasF))
      have HEB:=Lib.hid (zbX HB5.out HP5.out hBs (.string ⟨v.scheme.toArray⟩) (.string ⟨v.user.toArray⟩) (.string ⟨v.pass.toArray⟩) (.iface it iv) (.int .i64 v.port) (.slice sa sn sc) (.string ⟨v.query.toArray⟩) (.bool v.hasQ) (.string ⟨v.frag.toArray⟩) (.bool v.hasF))
      go_wp2
      obtain ⟨e0,e1,e2,e3,e4,e5,e6,e7,e8,e9,-⟩:=zaS HEND.out
      refine bodyPost_ret (v:= .tuple #[.agg #[.string ⟨v.scheme.toArray⟩,.string ⟨v.user.toArray⟩,.string ⟨v.pass.toArray⟩,(.iface it iv),.int .i64 v.port,.slice sa sn sc,.string ⟨v.query.toArray⟩,.bool v.hasQ,.string ⟨v.frag.toArray⟩,.bool v.hasF],.int .i64 er]) (by simp [results,Tryz.results20,go_sem,e0,e1,e2,e3,e4,e5,e6,e7,e8,e9]) rfl ?_
      rw [HF2.out]
      exact ⟨_,by rw [←HVH.out];rfl,HEB.out⟩
    ·have HF2:=Lib.hid (HF.out.trans (z1A h0 (by rw [hnm,hlf];rintro (g|g);exact g hbs;exact h1 g)))
     rw [hlf] at HF2
     have hd1:decide (1<(zbP (lf):Int))=false:=decide_eq_false (by omega)
     have hemp:((lf).take (zbP (lf))).isEmpty= !decide (zbP (lf)≠0):=by
      rw [Bool.eq_iff_iff,List.isEmpty_iff,←List.length_eq_zero_iff,hal];simp
     generalize decide (zbP (lf)≠0)=rt at*
     generalize (lf).take (zbP (lf))=ah at*
     generalize zbP (lf)=sn2 at*
     generalize zeA (lf)=lb at*
     have hzz:=zaJ ah
     rw [hal] at hzz
     have HRL:=Lib.hid (fun W (h:MB W M lb) (hp:PV W bpv b.path) (hx:MaxVar W)=>zmF M lb b bpv rt W (by omega) hbl hbh h hp hx)
     obtain ⟨ba,bn,bc,hbpv⟩:=(HPV.out _ HBC.out).shape
     obtain ⟨d0,d1,d2,d3,d4,d5,d6,d7,d8,d9,-⟩:=(HUB.out _ HBC.out).all
     obtain ⟨jt,jv,hjv⟩:=HZ.iface hbh
     have HJV:=Lib.hid hjv
     have HRL2:Hid (Calls Tryz.prog 42 #[.pointer (some ⟨M,0,none⟩),.agg #[.string ⟨b.scheme.toArray⟩,.string ⟨b.user.toArray⟩,.string ⟨b.pass.toArray⟩,.iface jt jv,.int .i64 b.port,bpv,.string ⟨b.query.toArray⟩,.bool b.hasQ,.string ⟨b.frag.toArray⟩,.bool b.hasF],.bool rt] xc (zuC xc M (relC b rt lb))):=by
      have:=HRL.out _ HMC.out (HPV.out _ HBC.out) (HX.out _ HBC.out)
      simp only [UZ.cells] at this
      rw [hjv] at this
      exact this
     rw [hbs,hbpv] at HRL2
     rw [hjv] at d3
     clear hu0 HRL hjv
     go_wp2_with fail
     refine HRL2.out.mono ?_
     rintro e x5 ⟨pv,rfl,hp5,ho5⟩
     have hb5:Below w.heap.size xc x5:=ho5.below HBC.out.size (fun x hx=>by rw [List.mem_singleton.1 hx];omega)
     have HB5:=Lib.hid (HBC.out.trans hb5)
     have HR5:=HRC.out.only ho5 (by simp [hRM])
     have HP5:=Lib.hid hp5
     have hBs:w.heap.size<xc.heap.size:=HRC.out.lt
     clear ho5 hb5 hp5 HRC HMC HBC HRL2 d0 d1 d2 d3 d4 d5 d6 d7 d8 d9
     generalize relC b rt lb=v at*
     simp only [UZ.cells]
     obtain ⟨sa,sn,sc,rfl⟩:=HP5.out.pv.shape
     obtain ⟨c0,c1,c2,c3,c4,c5,c6,c7,c8,c9,hrow⟩:=HR5
     have HRW:=Lib.hid hrow
     obtain ⟨k0,k1,k2,k3,k4,k5,k6,k7,k8,k9,kf⟩:=zaS hrow
     clear hrow
     rcases v.host.shape with hv|⟨it,iv,hv⟩
     ·have HVH:=Lib.hid hv
      rw [hv]
      clear hv
      have HEND:=Lib.hid (zdK HRW.out (.string ⟨v.scheme.toArray⟩) (.string ⟨v.user.toArray⟩) (.string ⟨v.pass.toArray⟩) .nilIface (.int .i64 v.port) (.slice sa sn sc) (.string ⟨v.query.toArray⟩) (.bool v.hasQ) (.string ⟨v.frag.toArray⟩) (.bool v.hasF))
      have HEB:=Lib.hid (zbX HB5.out HP5.out hBs (.string ⟨v.scheme.toArray⟩) (.string ⟨v.user.toArray⟩) (.string ⟨v.pass.toArray⟩) .nilIface (.int .i64 v.port) (.slice sa sn sc) (.string ⟨v.query.toArray⟩) (.bool v.hasQ) (.string ⟨v.frag.toArray⟩) (.bool v.hasF))
      go_wp2
      obtain ⟨e0,e1,e2,e3,e4,e5,e6,e7,e8,e9,-⟩:=zaS HEND.out
      refine bodyPost_ret (v:= .tuple #[.agg #[.string ⟨v.scheme.toArray⟩,.string ⟨v.user.toArray⟩,.string ⟨v.pass.toArray⟩,.nilIface,.int .i64 v.port,.slice sa sn sc,.string ⟨v.query.toArray⟩,.bool v.hasQ,.string ⟨v.frag.toArray⟩,.bool v.hasF],.int .i64 0]) (by simp [results,Tryz.results20,go_sem,e0,e1,e2,e3,e4,e5,e6,e7,e8,e9]) rfl ?_
      rw [HF2.out]
      exact ⟨_,by rw [←HVH.out];rfl,HEB.out⟩
     ·have HVH:=Lib.hid hv
      rw [hv]
      clear hv
      have HEND:=Lib.hid (zdK HRW.out (.string ⟨v.scheme.toArray⟩) (.string ⟨v.user.toArray⟩) (.string ⟨v.pass.toArray⟩) (.iface it iv) (.int .i64 v.port) (.slice sa sn sc) (.string ⟨v.query.toArray⟩) (.bool v.hasQ) (.string ⟨v.frag.toArray⟩) (.bool v.hasF))
      have HEB:=Lib.hid (zbX HB5.out HP5.out hBs (.string ⟨v.scheme.toArray⟩) (.string ⟨v.user.toArray⟩) (.string ⟨v.pass.toArray⟩) (.iface it iv) (.int .i64 v.port) (.slice sa sn sc) (.string ⟨v.query.toArray⟩) (.bool v.hasQ) (.string ⟨v.frag.toArray⟩) (.bool v.hasF))
      go_wp2
      obtain ⟨e0,e1,e2,e3,e4,e5,e6,e7,e8,e9,-⟩:=zaS HEND.out
      refine bodyPost_ret (v:= .tuple #[.agg #[.string ⟨v.scheme.toArray⟩,.string ⟨v.user.toArray⟩,.string ⟨v.pass.toArray⟩,(.iface it iv),.int .i64 v.port,.slice sa sn sc,.string ⟨v.query.toArray⟩,.bool v.hasQ,.string ⟨v.frag.toArray⟩,.bool v.hasF],.int .i64 0]) (by simp [results,Tryz.results20,go_sem,e0,e1,e2,e3,e4,e5,e6,e7,e8,e9]) rfl ?_
      rw [HF2.out]
      exact ⟨_,by rw [←HVH.out];rfl,HEB.out⟩
   ·have hqb:(b.scheme==nm)=false:=by rw [beq_eq_false_iff_ne];exact hbs
    have HF2:=Lib.hid (HF.out.trans (ztO h0 (.inl (by rw [hnm];exact hbs))))
    rw [hnm,hlf] at HF2
    generalize (lf).take (zbP (lf))=ah at*
    generalize zbP (lf)=sn2 at*
    generalize zeA (lf)=lb at*
    have hzz:=zaJ ah
    rw [hal] at hzz
    rw [←hoz] at hon
    clear hu0
    go_wp2_with fail
    refine (zgB M lb nm _ (by omega) HMC.out (HX.out _ HBC.out) hon).mono ?_
    rintro e x5 ⟨pv,rfl,hp5,ho5⟩
    have hb5:Below w.heap.size xc x5:=ho5.below HBC.out.size (fun x hx=>by rw [List.mem_singleton.1 hx];omega)
    have HB5:=Lib.hid (HBC.out.trans hb5)
    have HR5:=HRC.out.only ho5 (by simp [hRM])
    have HP5:=Lib.hid hp5
    have hBs:w.heap.size<xc.heap.size:=HRC.out.lt
    clear ho5 hb5 hp5 HRC HMC HBC
    generalize zfH nm lb=rr at*
    obtain ⟨v,er⟩:=rr
    simp only [UZ.cells] at HP5 HF2 ⊢
    obtain ⟨sa,sn,sc,rfl⟩:=HP5.out.pv.shape
    obtain ⟨c0,c1,c2,c3,c4,c5,c6,c7,c8,c9,hrow⟩:=HR5
    have HRW:=Lib.hid hrow
    obtain ⟨k0,k1,k2,k3,k4,k5,k6,k7,k8,k9,kf⟩:=zaS hrow
    clear hrow
    rcases v.host.shape with hv|⟨it,iv,hv⟩
    ·have HVH:=Lib.hid hv
     rw [hv]
     clear hv
     have HEND:=Lib.hid (zdK HRW.out (.string ⟨v.scheme.toArray⟩) (.string ⟨v.user.toArray⟩) (.string ⟨v.pass.toArray⟩) .nilIface (.int .i64 v.port) (.slice sa sn sc) (.string ⟨v.query.toArray⟩) (.bool v.hasQ) (.string ⟨v.frag.toArray⟩) (.bool v.hasF))
     have HEB:=Lib.hid (zbX HB5.out HP5.out hBs (.string ⟨v.scheme.toArray⟩) (.string ⟨v.user.toArray⟩) (.string ⟨v.pass.toArray⟩) .nilIface (.int .i64 v.port) (.slice sa sn sc) (.string ⟨v.query.toArray⟩) (.bool v.hasQ) (.string ⟨v.frag.toArray⟩) (.bool v.hasF))
     go_wp2
     obtain ⟨e0,e1,e2,e3,e4,e5,e6,e7,e8,e9,-⟩:=zaS HEND.out
     refine bodyPost_ret (v:= .tuple #[.agg #[.string ⟨v.scheme.toArray⟩,.string ⟨v.user.toArray⟩,.string ⟨v.pass.toArray⟩,.nilIface,.int .i64 v.port,.slice sa sn sc,.string ⟨v.query.toArray⟩,.bool v.hasQ,.string ⟨v.frag.toArray⟩,.bool v.hasF],.int .i64 er]) (by simp [results,Tryz.results20,go_sem,e0,e1,e2,e3,e4,e5,e6,e7,e8,e9]) rfl ?_
     rw [HF2.out]
     exact ⟨_,by rw [←HVH.out];rfl,HEB.out⟩
    ·have HVH:=Lib.hid hv
     rw [hv]
     clear hv
     have HEND:=Lib.hid (zdK HRW.out (.string ⟨v.scheme.toArray⟩) (.string ⟨v.user.toArray⟩) (.string ⟨v.pass.toArray⟩) (.iface it iv) (.int .i64 v.port) (.slice sa sn sc) (.string ⟨v.query.toArray⟩) (.bool v.hasQ) (.string ⟨v.frag.toArray⟩) (.bool v.hasF))
     have HEB:=Lib.hid (zbX HB5.out HP5.out hBs (.string ⟨v.scheme.toArray⟩) (.string ⟨v.user.toArray⟩) (.string ⟨v.pass.toArray⟩) (.iface it iv) (.int .i64 v.port) (.slice sa sn sc) (.string ⟨v.query.toArray⟩) (.bool v.hasQ) (.string ⟨v.frag.toArray⟩) (.bool v.hasF))
     go_wp2
     obtain ⟨e0,e1,e2,e3,e4,e5,e6,e7,e8,e9,-⟩:=zaS HEND.out
     refine bodyPost_ret (v:= .tuple #[.agg #[.string ⟨v.scheme.toArray⟩,.string ⟨v.user.toArray⟩,.string ⟨v.pass.toArray⟩,(.iface it iv),.int .i64 v.port,.slice sa sn sc,.string ⟨v.query.toArray⟩,.bool v.hasQ,.string ⟨v.frag.toArray⟩,.bool v.hasF],.int .i64 er]) (by simp [results,Tryz.results20,go_sem,e0,e1,e2,e3,e4,e5,e6,e7,e8,e9]) rfl ?_
     rw [HF2.out]
     exact ⟨_,by rw [←HVH.out];rfl,HEB.out⟩
end

section
open Go.RowKit
theorem zhW (t:List UInt8) (w:World) (hmax:MaxVar w) (hl:t.length≤1000000):
  Calls Tryz.prog 7 #[.string ⟨t.toArray⟩] w (RetP w (zbT t none)):=by
 obtain ⟨x0,hx0⟩: ∃y,y=w.alloc (.cells zbJ 27):=⟨_,rfl⟩
 have hb0:Below w.heap.size w x0:=by rw [hx0];exact zaI w _
 have HR0:Hid (RB x0 w.heap.size):=by show RB _ _;rw [hx0];exact RB.new w
 have HP:=Lib.hid (zyS t x0 (zaB hmax hb0) hl)
 have HB0:=Lib.hid hb0
 have hRs:w.heap.size<x0.heap.size:=HR0.out.lt
 unfold zbJ at hx0
 clear hmax hb0
 generalize zbT t none=rr at*
 obtain ⟨v,er⟩:=rr
 go_enter Tryz.func7,Tryz.ntmps7
 go_wp2_with fail
 rw [←hx0]
 clear hx0
 refine HP.out.mono ?_
 rintro e x5 ⟨pv,rfl,hp5,hb5⟩
 have HB5:=Lib.hid (zaF HB0.out hb5)
 have HR5:=HR0.out.below hb5
 have HP5:=Lib.hid hp5
 clear HP hb5 hp5 HR0 HB0
 simp only [UZ.cells] at HP5 ⊢
 obtain ⟨sa,sn,sc,rfl⟩:=HP5.out.pv.shape
 obtain ⟨c0,c1,c2,c3,c4,c5,c6,c7,c8,c9,hrow⟩:=HR5
 have HRW:=Lib.hid hrow
 obtain ⟨k0,k1,k2,k3,k4,k5,k6,k7,k8,k9,kf⟩:=zaS hrow
 clear hrow
 rcases v.host.shape with hv|⟨it,iv,hv⟩
 ·have HVH:=Lib.hid hv
  rw [hv]
  clear hv
  have HEND:=Lib.hid (zdK HRW.out (.string ⟨v.scheme.toArray⟩) (.string ⟨v.user.toArray⟩) (.string ⟨v.pass.toArray⟩) .nilIface (.int .i64 v.port) (.slice sa sn sc) (.string ⟨v.query.toArray⟩) (.bool v.hasQ) (.string ⟨v.frag.toArray⟩) (.bool v.hasF))
  have HEB:=Lib.hid (zbX HB5.out HP5.out hRs (.string ⟨v.scheme.toArray⟩) (.string ⟨v.user.toArray⟩) (.string ⟨v.pass.toArray⟩) .nilIface (.int .i64 v.port) (.slice sa sn sc) (.string ⟨v.query.toArray⟩) (.bool v.hasQ) (.string ⟨v.frag.toArray⟩) (.bool v.hasF))
  go_wp2
  obtain ⟨e0,e1,e2,e3,e4,e5,e6,e7,e8,e9,-⟩:=zaS HEND.out
  refine bodyPost_ret (v:= .tuple #[.agg #[.string ⟨v.scheme.toArray⟩,.string ⟨v.user.toArray⟩,.string ⟨v.pass.toArray⟩,.nilIface,.int .i64 v.port,.slice sa sn sc,.string ⟨v.query.toArray⟩,.bool v.hasQ,.string ⟨v.frag.toArray⟩,.bool v.hasF],.int .i64 er]) (by simp [results,Tryz.results7,go_sem,e0,e1,e2,e3,e4,e5,e6,e7,e8,e9]) rfl ?_
  exact ⟨_,by rw [←HVH.out];rfl,HEB.out⟩
 ·have HVH:=Lib.hid hv
  rw [hv]
  clear hv
  have HEND:=Lib.hid (zdK HRW.out (.string ⟨v.scheme.toArray⟩) (.string ⟨v.user.toArray⟩) (.string ⟨v.pass.toArray⟩) (.iface it iv) (.int .i64 v.port) (.slice sa sn sc) (.string ⟨v.query.toArray⟩) (.bool v.hasQ) (.string ⟨v.frag.toArray⟩) (.bool v.hasF))
  have HEB:=Lib.hid (zbX HB5.out HP5.out hRs (.string ⟨v.scheme.toArray⟩) (.string ⟨v.user.toArray⟩) (.string ⟨v.pass.toArray⟩) (.iface it iv) (.int .i64 v.port) (.slice sa sn sc) (.string ⟨v.query.toArray⟩) (.bool v.hasQ) (.string ⟨v.frag.toArray⟩) (.bool v.hasF))
  go_wp2
  obtain ⟨e0,e1,e2,e3,e4,e5,e6,e7,e8,e9,-⟩:=zaS HEND.out
  refine bodyPost_ret (v:= .tuple #[.agg #[.string ⟨v.scheme.toArray⟩,.string ⟨v.user.toArray⟩,.string ⟨v.pass.toArray⟩,.iface it iv,.int .i64 v.port,.slice sa sn sc,.string ⟨v.query.toArray⟩,.bool v.hasQ,.string ⟨v.frag.toArray⟩,.bool v.hasF],.int .i64 er]) (by simp [results,Tryz.results7,go_sem,e0,e1,e2,e3,e4,e5,e6,e7,e8,e9]) rfl ?_
  exact ⟨_,by rw [←HVH.out];rfl,HEB.out⟩
end

section
open Go.RowKit
theorem yaL (b:Bool) (out:List (List UInt8)) (q:List UInt8):(zhB b out q).length≤out.length+1:=by
 unfold zhB
 repeat' split
 all_goals simp
 all_goals omega
theorem yaT: ∀(ps out:List (List UInt8)),(goW out ps).length≤out.length+ps.length
 |[],out=>by simp [goW]
 |p::r,out=>by
  rw [goW]
  have h1:=yaT r (zhB r.isEmpty out (encW 4 p))
  have h2:=yaL r.isEmpty out (encW 4 p)
  simp only [List.length_cons]
  omega
theorem ybA (f:List (List UInt8)) (l:List UInt8):(zmP f l).length≤f.length+l.length+1:=by
 have h1:=yaT (splitB (hasB [47,92]) l) f
 have h2:=zdE (hasB [47,92]) l
 unfold zmP
 omega
theorem zlH (u:UZ) (l:List UInt8):(zlF u l).path=u.path:=by
 unfold zlF
 rw [(z1W (qryW u l) l).2.2.2.2.2.1,(z2G u l).2.2.2.2.2.1]
theorem zlV (u:UZ) (f:List (List UInt8)) (l:List UInt8):(zeM u f l).path.length≤f.length+l.length+1:=by
 unfold zeM
 rw [zlH]
 have:=ybA f (l.take (l.findIdx (hasB [63,35])))
 have h2:(l.take (l.findIdx (hasB [63,35]))).length≤l.length:=by rw [List.length_take];omega
 show (zmP f (l.take (l.findIdx (hasB [63,35])))).length≤_
 omega
theorem zoC (n l:List UInt8):(zfH n l).1.path.length≤l.length+1:=by
 unfold zfH
 simp only
 split
 ·exact Nat.zero_le _
 ·split
  ·exact Nat.zero_le _
  ·split
   ·exact Nat.zero_le _
   ·refine Nat.le_trans (zlV _ [] _) ?_
    have h1:=yaS (l.drop (l.findIdx (hasB [47,92,63,35])))
    rw [List.length_drop] at h1
    simp only [List.length_nil]
    omega
theorem z0U (b:UZ) (l:List UInt8):(relW b l).1.path.length≤b.path.length+l.length+1:=by
 unfold relW
 split
 ·have h1:=zoC b.scheme (zeA l)
  have h2:=ziQ l
  omega
 ·simp only
  split
  ·have:=zlV {zdM with scheme:=b.scheme,user:=b.user,pass:=b.pass,host:=b.host,port:=b.port} [] (l.drop 1)
   rw [List.length_drop] at this
   simp only [List.length_nil] at this
   exact Nat.le_trans this (by omega)
  ·split
   ·rw [zlH];show b.path.length≤_;omega
   ·split
    ·rw [zlH];show b.path.length≤_;omega
    ·refine Nat.le_trans (zlV _ _ _) ?_
     rw [List.length_dropLast];omega
theorem zlP (t:List UInt8) (b:Option UZ) (n:Nat) (hb: ∀u,b=some u→u.path.length≤n):(zbT t b).1.path.length≤n+4098:=by
 unfold zbT
 split
 ·exact Nat.zero_le _
 ·rename_i h
  have hc:=znY t
  generalize zcZ (zcK t)=s at*
  unfold zjR
  split
  ·exact Nat.zero_le _
  ·rename_i u _
   have:=z0U u s
   have:=hb u rfl
   omega
  ·rename_i m r hs
   have:=ztT hs
   split
   ·have:=zoC m (zeA r)
    have:=ziQ r
    omega
   ·exact Nat.zero_le _
  ·rename_i m r u hs
   have:=ztT hs
   split
   ·split
    ·have:=zoC m (zeA r)
     have:=ziQ r
     omega
    ·have:=z0U u r
     have:=hb u rfl
     omega
   ·exact Nat.zero_le _
theorem z4D {u:UZ} {er:Int} (h:er≠0) (l:List (List UInt8)):zfU (u,er) l=(u,er):=by
 cases l with
 |nil=>rfl
 |cons t r=>rw [zfU,if_neg h]
theorem yaW {u:UZ} {l:List (List UInt8)} {k:Nat} (hk:k<l.length):zfU (u,0) (l.drop k)=zfU (zbT (l.getD k []) (some u)) (l.drop (k+1)):=by
 rw [List.drop_eq_getElem_cons hk,zfU,if_pos rfl]
 simp [List.getD,List.getElem?_eq_getElem hk]
theorem znP {w x:World} {u:UZ} {pv:Value} {B G:Nat} (hb:Below w.heap.size w x) (hr:RB x w.heap.size) (hg:RB x G) (hgw:w.heap.size<G) (hp:zbA B x pv u.path) (hB:G<B) (hv:Value) (hvv:u.host.val=hv):
  UB ((((((((((x.setCell ⟨G,0,none⟩ (.string ⟨u.scheme.toArray⟩)).setCell ⟨G,1,none⟩ (.string ⟨u.user.toArray⟩)).setCell ⟨G,2,none⟩ (.string ⟨u.pass.toArray⟩)).setCell ⟨G,3,none⟩ hv).setCell ⟨G,4,none⟩ (.int .i64 u.port)).setCell ⟨G,5,none⟩ pv).setCell ⟨G,6,none⟩ (.string ⟨u.query.toArray⟩)).setCell ⟨G,7,none⟩ (.bool u.hasQ)).setCell ⟨G,8,none⟩ (.string ⟨u.frag.toArray⟩)).setCell ⟨G,9,none⟩ (.bool u.hasF)) G u pv∧
  RB ((((((((((x.setCell ⟨G,0,none⟩ (.string ⟨u.scheme.toArray⟩)).setCell ⟨G,1,none⟩ (.string ⟨u.user.toArray⟩)).setCell ⟨G,2,none⟩ (.string ⟨u.pass.toArray⟩)).setCell ⟨G,3,none⟩ hv).setCell ⟨G,4,none⟩ (.int .i64 u.port)).setCell ⟨G,5,none⟩ pv).setCell ⟨G,6,none⟩ (.string ⟨u.query.toArray⟩)).setCell ⟨G,7,none⟩ (.bool u.hasQ)).setCell ⟨G,8,none⟩ (.string ⟨u.frag.toArray⟩)).setCell ⟨G,9,none⟩ (.bool u.hasF)) w.heap.size∧
  zbA (w.heap.size+1) ((((((((((x.setCell ⟨G,0,none⟩ (.string ⟨u.scheme.toArray⟩)).setCell ⟨G,1,none⟩ (.string ⟨u.user.toArray⟩)).setCell ⟨G,2,none⟩ (.string ⟨u.pass.toArray⟩)).setCell ⟨G,3,none⟩ hv).setCell ⟨G,4,none⟩ (.int .i64 u.port)).setCell ⟨G,5,none⟩ pv).setCell ⟨G,6,none⟩ (.string ⟨u.query.toArray⟩)).setCell ⟨G,7,none⟩ (.bool u.hasQ)).setCell ⟨G,8,none⟩ (.string ⟨u.frag.toArray⟩)).setCell ⟨G,9,none⟩ (.bool u.hasF)) pv u.path∧
  Below w.heap.size w ((((((((((x.setCell ⟨G,0,none⟩ (.string ⟨u.scheme.toArray⟩)).setCell ⟨G,1,none⟩ (.string ⟨u.user.toArray⟩)).setCell ⟨G,2,none⟩ (.string ⟨u.pass.toArray⟩)).setCell ⟨G,3,none⟩ hv).setCell ⟨G,4,none⟩ (.int .i64 u.port)).setCell ⟨G,5,none⟩ pv).setCell ⟨G,6,none⟩ (.string ⟨u.query.toArray⟩)).setCell ⟨G,7,none⟩ (.bool u.hasQ)).setCell ⟨G,8,none⟩ (.string ⟨u.frag.toArray⟩)).setCell ⟨G,9,none⟩ (.bool u.hasF)):=by
 subst hvv
 have ho:=zbU (g:=G) (F:=[G]) (Only.refl _ x) (.inl (List.mem_cons_self ..)) (.string ⟨u.scheme.toArray⟩) (.string ⟨u.user.toArray⟩) (.string ⟨u.pass.toArray⟩) u.host.val (.int .i64 u.port) pv (.string ⟨u.query.toArray⟩) (.bool u.hasQ) (.string ⟨u.frag.toArray⟩) (.bool u.hasF)
 obtain ⟨c0,c1,c2,c3,c4,c5,c6,c7,c8,c9,hg⟩:=hg
 exact ⟨zdK hg _ _ _ _ _ _ _ _ _ _,hr.only ho (by simp;omega),zcI (hp.only ho (fun b hb=>by rw [List.mem_singleton.1 hb];exact hB)) (by omega),zcS hb (Nat.le_of_lt hgw) _ _ _ _ _ _ _ _ _ _⟩
theorem znS (t:List UInt8) (mv:Value) (more:List (List UInt8)) (w:World) (hmax:MaxVar w) (hl:t.length≤1000000) (hm:PV w mv more) (hn:more.length≤100) (hml: ∀x∈more,x.length≤1000000):
  Calls Tryz.prog 12 #[.string ⟨t.toArray⟩,mv] w (RetP w (zfU (zbT t none) more)):=by
 obtain ⟨N,hN⟩: ∃N,more.length=N:=⟨_,rfl⟩
 obtain ⟨ma,mc,hmv,hcells⟩: ∃ma mc,mv= .slice ma N mc∧ ∀x,Below w.heap.size w x→ ∀j,j<N→ ∃g,ma=some ⟨g,0,none⟩∧x.cell? ⟨g,j,none⟩=some (.string ⟨(more.getD j []).toArray⟩):=by
  rcases hm with ⟨h1,h2⟩|⟨g,c,h1,_,h3⟩
  ·exact ⟨none,0,by rw [h2,←hN,h1];rfl,fun x _ j hj=>by rw [←hN,h1] at hj;cases hj⟩
  ·exact ⟨_,_,by rw [h1,hN],fun x hb j hj=>⟨g,rfl,(h3.keep hb).2 j (by omega)⟩⟩
 subst hmv
 have HCELL:=Lib.hid hcells
 have HML:Hid (∀k,k<N→(more.getD k []).length≤1000000):=fun k hk=>by
  have hkl:k<more.length:=by omega
  simp only [List.getD,List.getElem?_eq_getElem hkl,Option.getD_some]
  exact hml _ (List.getElem_mem hkl)
 have HN:=Lib.hid hN
 obtain ⟨x0,hx0⟩: ∃y,y=w.alloc (.cells zbJ 27):=⟨_,rfl⟩
 have hb0:Below w.heap.size w x0:=by rw [hx0];exact zaI w _
 have HR0:Hid (RB x0 w.heap.size):=by show RB _ _;rw [hx0];exact RB.new w
 have HX:=Lib.hid (fun x (h:Below w.heap.size w x)=>zaB hmax h)
 have HA:=Lib.hid (zhW t x0 (zaB hmax hb0) hl)
 have HB0:=Lib.hid hb0
 have HLEN:=zlP t none 0 (fun u e=>by cases e)
 have HOK:=zuX t none (fun u e=>by cases e)
 obtain ⟨res,hres⟩: ∃r,zfU (zbT t none) more=r:=⟨_,rfl⟩
 have hcs:zfU (zbT t none) (more.drop 0)=res:=hres
 rw [hres]
 unfold zbJ at hx0
 clear hmax hb0 hm hml hcells hres
 generalize zbT t none=c0 at*
 obtain ⟨v,er0⟩:=c0
 simp only at HLEN HOK
 go_enter Tryz.func12,Tryz.ntmps12
 go_wp2_with fail
 rw [←hx0]
 clear hx0
 refine HA.out.mono ?_
 rintro e x1 ⟨pv,rfl,hp1,hb1⟩
 have HB1:=Lib.hid (zaF HB0.out hb1)
 have HR1:=Lib.hid (HR0.out.below hb1)
 have hRx0:=HR0.out.lt
 have hx01:=hb1.size
 obtain ⟨sa,sn,sc,rfl⟩:=hp1.pv.shape
 obtain ⟨x2,hx2⟩: ∃y,y=x1.alloc (.cells (v.cells (.slice sa sn sc)) 27):=⟨_,rfl⟩
 have hb2:Below x1.heap.size x1 x2:=by rw [hx2];exact zaI x1 _
 have HU2:Hid (UB x2 x1.heap.size v (.slice sa sn sc)):=by show UB _ _ _ _;rw [hx2];exact UB.new x1 v _
 have HB2:=Lib.hid (zaF HB1.out hb2)
 have HR2:=Lib.hid (HR1.out.below hb2)
 have HP2:Hid (zbA (w.heap.size+1) x2 (.slice sa sn sc) v.path):=zcI (hp1.below hb2) (by omega)
 obtain ⟨G,hG⟩: ∃G,G=x1.heap.size:=⟨_,rfl⟩
 have hGw:w.heap.size<G:=by omega
 rw [←hG] at HU2
 clear hb1 hb2 hp1 HB0 HR0 HB1 HR1 HA
 simp only [UZ.cells] at hx2 ⊢
 have hsh: ∃hv,v.host.val=hv∧(hv= .nilIface∨ ∃it iv,hv= .iface it iv):=by
  rcases v.host.shape with h|⟨it,iv,h⟩
  ·exact ⟨_,h,.inl rfl⟩
  ·exact ⟨_,h,.inr ⟨it,iv,rfl⟩⟩
 obtain ⟨hv,hvv,hvs⟩:=hsh
 rw [hvv] at hx2 ⊢
 clear hvv
 rcases hvs with rfl|⟨it,iv,rfl⟩
 all_goals
  go_wp2_with fail
  rw [←hx2,←hG]
  clear hx2
  clear hG
  go_loopw [7,18] (fun ev i wr=> ∃(k:Nat) (u:UZ) (er:Int) (ua:Option Addr) (un uc:Nat),k≤N∧i= .int .i64 k∧ev= .int .i64 er∧Hid (UB wr G u (.slice ua un uc))∧Hid (zbA (w.heap.size+1) wr (.slice ua un uc) u.path)∧Hid (RB wr w.heap.size)∧Hid (Below w.heap.size w wr)∧Hid (zfU (u,er) (more.drop k)=res)∧Hid (er=0→zjE u)∧u.path.length≤4098*(k+1)) (fun _ i _=>N - (intOf i).toNat)
  case atStart=>exact ⟨0,v,er0,sa,sn,sc,Nat.zero_le _,rfl,rfl,HU2,HP2,HR2,HB2,hcs,HOK,by omega⟩
  case round=>
   obtain ⟨k,u,er,ua,un,uc,hk,rfl,rfl,HUB,HPW,HRB,HBW,HCS,HIS,hpl⟩:=hrel
   clear HU2 HP2 HR2 HB2 hcs HOK HLEN
   by_cases hlt:k<N
   ·obtain ⟨mg,rfl,hcell⟩:=HCELL.out _ HBW.out k hlt
    by_cases h0:er=0
    ·subst h0
     have his:=HIS.out rfl
     obtain ⟨jt,jv,hjv⟩:=HZ.iface his.host.ne
     obtain ⟨m,hmm⟩: ∃m,more.getD k []=m:=⟨_,rfl⟩
     have hmll:=HML.out k hlt
     have HCS2:=Lib.hid ((yaW (u:=u) (by rw [HN.out];exact hlt)).symm.trans HCS.out)
     rw [hmm] at hcell hmll HCS2
     clear hmm HCS
     obtain ⟨d0,d1,d2,d3,d4,d5,d6,d7,d8,d9,-⟩:=HUB.out.all
     rw [hjv] at d3
     have hgl:G<wr.heap.size:=zaC HUB.out
     obtain ⟨x3,hx3⟩: ∃y,y=wr.alloc (.cells (u.cells (.slice ua un uc)) 27):=⟨_,rfl⟩
     have hb3:Below wr.heap.size wr x3:=by rw [hx3];exact zaI wr _
     have hU3:UB x3 wr.heap.size u (.slice ua un uc):=by rw [hx3];exact UB.new wr u _
     have HB3:=Lib.hid (zaF HBW.out hb3)
     have HPC:=Lib.hid (zxO m wr.heap.size u (.slice ua un uc) x3 (HX.out _ HB3.out) hmll his.sch his.host.ne (by omega) hU3 (HPW.out.below hb3).pv)
     have HR3:=Lib.hid (HRB.out.below hb3)
     have HG3:=Lib.hid (HUB.out.rb.below hb3)
     have hlen2:=zlP m (some u) (4098*(k+1)) (fun q e=>by rw [←Option.some.inj e];exact hpl)
     have hok2:=zuX m (some u) (fun q e=>by rw [←Option.some.inj e];exact his)
     have hx3s:G<x3.heap.size:=Nat.lt_of_lt_of_le hgl hb3.size
     simp only [UZ.cells] at hx3
     rw [hjv] at hx3
     generalize zbT m (some u)=c1 at*
     obtain ⟨v2,er2⟩:=c1
     simp only at hlen2 hok2
     clear his hjv hb3 hU3 HUB HPW HRB HBW HIS hpl hmll
     go_wp2_with fail
     rw [←hx3]
     clear hx3 d0 d1 d2 d3 d4 d5 d6 d7 d8 d9 hcell
     refine HPC.out.mono ?_
     rintro e x4 ⟨pv2,rfl,hp4,hb4⟩
     obtain ⟨va,vn,vc,rfl⟩:=hp4.pv.shape
     have HB4:=Lib.hid (zaF HB3.out hb4)
     have HR4:=Lib.hid (HR3.out.below hb4)
     have HG4:=Lib.hid (HG3.out.below hb4)
     have HP4:=Lib.hid hp4
     clear hb4 hp4 HB3 HR3 HG3 HPC
     simp only [UZ.cells]
     obtain ⟨b0,b1,b2,b3,b4,b5,b6,b7,b8,b9,hrow⟩:=HG4.out
     obtain ⟨k0,k1,k2,k3,k4,k5,k6,k7,k8,k9,kf⟩:=zaS hrow
     clear hrow
     rcases v2.host.shape with hv|⟨lt,lv,hv⟩
     ·have HE:=Lib.hid (znP HB4.out HR4.out HG4.out hGw HP4.out hx3s _ hv)
      rw [hv]
      clear hv
      go_wp2
      go_roundw
      case rel=>exact ⟨k+1,v2,er2,va,vn,vc,by omega,by go_num,rfl,HE.out.1,HE.out.2.2.1,HE.out.2.1,HE.out.2.2.2,HCS2.out,hok2,by omega⟩
      case measure=>simp [intOf];omega
     ·have HE:=Lib.hid (znP HB4.out HR4.out HG4.out hGw HP4.out hx3s _ hv)
      rw [hv]
      clear hv
      go_wp2
      go_roundw
      case rel=>exact ⟨k+1,v2,er2,va,vn,vc,by omega,by go_num,rfl,HE.out.1,HE.out.2.2.1,HE.out.2.1,HE.out.2.2.2,HCS2.out,hok2,by omega⟩
      case measure=>simp [intOf];omega
    ·have hd0:(er !=(0:Int))=true:=by rw [bne_iff_ne];exact h0
     have HF:Hid (res=(u,er)):=HCS.out.symm.trans (z4D h0 _)
     clear h0 HCS HIS
     obtain ⟨c0,c1,c2,c3,c4,c5,c6,c7,c8,c9,hrow⟩:=HRB.out
     have HRW:=Lib.hid hrow
     obtain ⟨k0,k1,k2,k3,k4,k5,k6,k7,k8,k9,kf⟩:=zaS hrow
     clear hrow HRB
     obtain ⟨d0,d1,d2,d3,d4,d5,d6,d7,d8,d9,-⟩:=HUB.out.all
     rcases u.host.shape with hv|⟨it,iv,hv⟩
     ·have HVH:=Lib.hid hv
      rw [hv] at d3
      clear hv
      have HEND:=Lib.hid (zdK HRW.out (.string ⟨u.scheme.toArray⟩) (.string ⟨u.user.toArray⟩) (.string ⟨u.pass.toArray⟩) .nilIface (.int .i64 u.port) (.slice ua un uc) (.string ⟨u.query.toArray⟩) (.bool u.hasQ) (.string ⟨u.frag.toArray⟩) (.bool u.hasF))
      have HEB:=Lib.hid (zbX HBW.out HPW.out (Nat.lt_succ_self _) (.string ⟨u.scheme.toArray⟩) (.string ⟨u.user.toArray⟩) (.string ⟨u.pass.toArray⟩) .nilIface (.int .i64 u.port) (.slice ua un uc) (.string ⟨u.query.toArray⟩) (.bool u.hasQ) (.string ⟨u.frag.toArray⟩) (.bool u.hasF))
      go_wp2
      obtain ⟨e0,e1,e2,e3,e4,e5,e6,e7,e8,e9,-⟩:=zaS HEND.out
      refine bodyPost_ret (v:= .tuple #[.agg #[.string ⟨u.scheme.toArray⟩,.string ⟨u.user.toArray⟩,.string ⟨u.pass.toArray⟩,.nilIface,.int .i64 u.port,.slice ua un uc,.string ⟨u.query.toArray⟩,.bool u.hasQ,.string ⟨u.frag.toArray⟩,.bool u.hasF],.int .i64 er]) (by simp [results,Tryz.results12,go_sem,e0,e1,e2,e3,e4,e5,e6,e7,e8,e9]) rfl ?_
      rw [HF.out]
      exact ⟨_,by rw [←HVH.out];rfl,HEB.out⟩
     ·have HVH:=Lib.hid hv
      rw [hv] at d3
      clear hv
      have HEND:=Lib.hid (zdK HRW.out (.string ⟨u.scheme.toArray⟩) (.string ⟨u.user.toArray⟩) (.string ⟨u.pass.toArray⟩) (.iface it iv) (.int .i64 u.port) (.slice ua un uc) (.string ⟨u.query.toArray⟩) (.bool u.hasQ) (.string ⟨u.frag.toArray⟩) (.bool u.hasF))
      have HEB:=Lib.hid (zbX HBW.out HPW.out (Nat.lt_succ_self _) (.string ⟨u.scheme.toArray⟩) (.string ⟨u.user.toArray⟩) (.string ⟨u.pass.toArray⟩) (.iface it iv) (.int .i64 u.port) (.slice ua un uc) (.string ⟨u.query.toArray⟩) (.bool u.hasQ) (.string ⟨u.frag.toArray⟩) (.bool u.hasF))
      go_wp2
      obtain ⟨e0,e1,e2,e3,e4,e5,e6,e7,e8,e9,-⟩:=zaS HEND.out
      refine bodyPost_ret (v:= .tuple #[.agg #[.string ⟨u.scheme.toArray⟩,.string ⟨u.user.toArray⟩,.string ⟨u.pass.toArray⟩,(.iface it iv),.int .i64 u.port,.slice ua un uc,.string ⟨u.query.toArray⟩,.bool u.hasQ,.string ⟨u.frag.toArray⟩,.bool u.hasF],.int .i64 er]) (by simp [results,Tryz.results12,go_sem,e0,e1,e2,e3,e4,e5,e6,e7,e8,e9]) rfl ?_
      rw [HF.out]
      exact ⟨_,by rw [←HVH.out];rfl,HEB.out⟩
   ·have HF:Hid (res=(u,er)):=by
     show _=_
     rw [←HCS.out,List.drop_eq_nil_of_le (by rw [HN.out];omega)]
     rfl
    clear HCS HIS
    obtain ⟨c0,c1,c2,c3,c4,c5,c6,c7,c8,c9,hrow⟩:=HRB.out
    have HRW:=Lib.hid hrow
    obtain ⟨k0,k1,k2,k3,k4,k5,k6,k7,k8,k9,kf⟩:=zaS hrow
    clear hrow HRB
    obtain ⟨d0,d1,d2,d3,d4,d5,d6,d7,d8,d9,-⟩:=HUB.out.all
    rcases u.host.shape with hv|⟨it,iv,hv⟩
    ·have HVH:=Lib.hid hv
     rw [hv] at d3
     clear hv
     have HEND:=Lib.hid (zdK HRW.out (.string ⟨u.scheme.toArray⟩) (.string ⟨u.user.toArray⟩) (.string ⟨u.pass.toArray⟩) .nilIface (.int .i64 u.port) (.slice ua un uc) (.string ⟨u.query.toArray⟩) (.bool u.hasQ) (.string ⟨u.frag.toArray⟩) (.bool u.hasF))
     have HEB:=Lib.hid (zbX HBW.out HPW.out (Nat.lt_succ_self _) (.string ⟨u.scheme.toArray⟩) (.string ⟨u.user.toArray⟩) (.string ⟨u.pass.toArray⟩) .nilIface (.int .i64 u.port) (.slice ua un uc) (.string ⟨u.query.toArray⟩) (.bool u.hasQ) (.string ⟨u.frag.toArray⟩) (.bool u.hasF))
     go_wp2
     obtain ⟨e0,e1,e2,e3,e4,e5,e6,e7,e8,e9,-⟩:=zaS HEND.out
     refine bodyPost_ret (v:= .tuple #[.agg #[.string ⟨u.scheme.toArray⟩,.string ⟨u.user.toArray⟩,.string ⟨u.pass.toArray⟩,.nilIface,.int .i64 u.port,.slice ua un uc,.string ⟨u.query.toArray⟩,.bool u.hasQ,.string ⟨u.frag.toArray⟩,.bool u.hasF],.int .i64 er]) (by simp [results,Tryz.results12,go_sem,e0,e1,e2,e3,e4,e5,e6,e7,e8,e9]) rfl ?_
     rw [HF.out]
     exact ⟨_,by rw [←HVH.out];rfl,HEB.out⟩
    ·have HVH:=Lib.hid hv
     rw [hv] at d3
     clear hv
     have HEND:=Lib.hid (zdK HRW.out (.string ⟨u.scheme.toArray⟩) (.string ⟨u.user.toArray⟩) (.string ⟨u.pass.toArray⟩) (.iface it iv) (.int .i64 u.port) (.slice ua un uc) (.string ⟨u.query.toArray⟩) (.bool u.hasQ) (.string ⟨u.frag.toArray⟩) (.bool u.hasF))
     have HEB:=Lib.hid (zbX HBW.out HPW.out (Nat.lt_succ_self _) (.string ⟨u.scheme.toArray⟩) (.string ⟨u.user.toArray⟩) (.string ⟨u.pass.toArray⟩) (.iface it iv) (.int .i64 u.port) (.slice ua un uc) (.string ⟨u.query.toArray⟩) (.bool u.hasQ) (.string ⟨u.frag.toArray⟩) (.bool u.hasF))
     go_wp2
     obtain ⟨e0,e1,e2,e3,e4,e5,e6,e7,e8,e9,-⟩:=zaS HEND.out
     refine bodyPost_ret (v:= .tuple #[.agg #[.string ⟨u.scheme.toArray⟩,.string ⟨u.user.toArray⟩,.string ⟨u.pass.toArray⟩,(.iface it iv),.int .i64 u.port,.slice ua un uc,.string ⟨u.query.toArray⟩,.bool u.hasQ,.string ⟨u.frag.toArray⟩,.bool u.hasF],.int .i64 er]) (by simp [results,Tryz.results12,go_sem,e0,e1,e2,e3,e4,e5,e6,e7,e8,e9]) rfl ?_
     rw [HF.out]
     exact ⟨_,by rw [←HVH.out];rfl,HEB.out⟩
end

end Go.Proofs.YthacmlahnpdeeaaGreatDoor
