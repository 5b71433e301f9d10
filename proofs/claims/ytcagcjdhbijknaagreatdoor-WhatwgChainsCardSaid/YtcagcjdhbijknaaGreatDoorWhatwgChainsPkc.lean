/-
  What the law WhatwgChains leans on, and its walk (28 of 33).
-/
import Derived.Laws.AppendOwnNone
import Derived.Test.YtcagcjdhbijknaaGreatDoorWhatwgChainsPkb
import Derived.Test.YtcagcjdhbijknaaGreatDoorWhatwgChainsPkZ
import Derived.Test.YtcagcjdhbijknaaGreatDoorWhatwgChainsPkP
namespace Go.Proofs.YtcagcjdhbijknaaGreatDoor
set_option maxRecDepth 100000
set_option maxHeartbeats 16000000
theorem tkc {P : Program} {md : Region.Mode} {ops : Array Oper} {Q : Exit → Act → World → Prop} {S : World → Prop} (i : Nat) (s : Option Nat) {op : Op} {ty : TypeId} {pos : String} {af : _} {gd : _} {v : Value} {fuel : Nat} {listed : Array Bool} {a : Act} {w : World} (hi : ops[i]? = some ⟨s, op, ty, pos, af, gd⟩)
 (hy : YieldsIf P ops S ⟨s, op, ty, pos, af, gd⟩ v a) (hS : S w)
 (h : wpAnyH P md ops Q S fuel (listed.setIfInBounds i true) (a.put s v) w)
 (hs : Region.noSelect ops = true := by kernel_rfl) (hf : Region.free md ops listed i = true := by kernel_rfl) (hr : (Region.ready md ops listed).contains i = true := by kernel_rfl)
 (hQ : ∀ c a w, Q (.panic c) (a.put s v) w → Q (.panic c) a w := by exact fun _ _ _ h => h) : wpAnyH P md ops Q S (fuel + 1) listed a w :=
 wpAnyH_take hi hs hf hr hQ hy hS h
theorem tkca {α : Type _} (l : List α) (i : Nat) (a : α) : l.toArray.setIfInBounds i a = (l.set i a).toArray := List.setIfInBounds_toArray ..
theorem tkcb {α : Type _} (x y : α) (l : List α) : (x :: l).set 0 y = y :: l := rfl
theorem tkcc {α : Type _} (x y : α) (l : List α) (n : Nat) : (x :: l).set (n + 1) y = x :: l.set n y := rfl
abbrev yiO := @Lib.hid
abbrev yiP := @Nat.le_refl
abbrev yiQ := @decide_eq_false
abbrev yiR := @decide_eq_true
abbrev yiS := @Go.RowKit.Below.refl
section
open Go.RowKit
theorem zqS (w:World) (b:Option Nat):w.grownBy w b:=⟨rfl,rfl,rfl,yiP _,fun _ _ _=>rfl⟩
theorem zvS (a b:List (List UInt8)):zdZ (a++b)=zdZ a++zdZ b:=by unfold zdZ;rw [List.map_append]
theorem ybP (w:World) {ops:Array Oper} {rest:List Oper} {o:Oper} {a:Act} {Q:Exit→Act→World→Prop} (hgd:o.guard=none) (s x:Operand)
  (ho:o.op= .call {callee:= .builtin .append,args:= #[s,x],argTypes:= #[22,22]})
  (base:Nat) (v xv:Value) (out ps:List (List UInt8)) (hs:a.eval s=v) (hown:zaM base w v out) (hx:a.eval x=xv) (hp:PV w xv ps)
  (hl:out.length+ps.length≤1000000000) (hbase:base≤w.heap.size)
  (h: ∀v' w',zaM base w' v' (out++ps)→w.grownBy w' v.ownBlock→(v'.ownBlock=v.ownBlock∨ ∃k,v'.ownBlock=some k∧w.heap.size≤k)→wpList Tryz.prog ops Q rest (a.put o.dst v') w'):wpList Tryz.prog ops Q (o::rest) a w:=by
 obtain ⟨i0,hi,hz0,hz1,hz2⟩:=info_parts Tryz.infoStr
 unfold zaM at hown
 rcases hp with ⟨rfl,rfl⟩|⟨g,c,rfl,hc,hseen⟩
 ·refine wpList_append_own_none hgd s x 22 ho base 9 i0 1 Tryz.underlying22 hi v out.length (zdZ out) hs hown hx (h _ _ ?_ (zqS _ _) (.inl rfl))
  rw [List.append_nil];exact hown
 ·refine wpList_append_own_at w hgd s x 22 ho base 9 i0 (.string ⟨#[]⟩) 1 16 Tryz.underlying22 hi hz0 hz1 hz2 rfl (by decide) v out.length (zdZ out) hs hown ⟨g,0,none⟩ ps.length c (zdZ ps) hx (by simp [zdZ]) (fun j u hj=> ?_) (fun u hu=> ?_) (by show _≤9223372036854775807;omega) (by omega) hbase (fun v' w' h1 h2 _ h4=>h v' w' ?_ h2 ?_)
  ·have hjl:j<ps.length:=by
    have:=(List.getElem?_eq_some_iff.1 hj).1
    simpa [zdZ] using this
   have e:(⟨g,0,none⟩:Addr).add j=⟨g,j,none⟩:=by simp [Addr.add];intro h;omega
   rw [e,hseen.2 j hjl]
   simp [zdZ,strC,List.getElem?_eq_getElem hjl] at hj
   rw [←hj]
   simp [List.getD,List.getElem?_eq_getElem hjl]
  ·simp only [zdZ,List.mem_map] at hu
   obtain ⟨q,_,rfl⟩:=hu
   rfl
  ·unfold zaM
   rw [zvS,List.length_append];exact h1
  ·rcases h4 with q|q
   ·exact .inl q
   ·exact .inr ⟨_,q,yiP _⟩
def ygG (w:World) (ps:List (List UInt8)) (e:Ending) (w':World):Prop:= ∃v',e= .returned v'∧zaM w.heap.size w' v' ps∧Below w.heap.size w w'
theorem z1O {w x y:World} {v0 v:Value} {out:List (List UInt8)} (hx:Below w.heap.size w x) (h:Segs w.heap.size x v0 y v out) (hv: ∀b,v0.ownBlock=some b→w.heap.size≤b):Below w.heap.size w y:=
 ⟨h.grown.os.trans hx.os,h.grown.tape.trans hx.tape,h.grown.output.trans hx.output,Nat.le_trans hx.size h.grown.size,fun b hb=>(h.block hv hb hx.size).trans (hx.block b hb)⟩
theorem zwK (part:List UInt8) (fv:Value) (from_:List (List UInt8)) (w:World) (hl:part.length≤1000000) (hfl:from_.length≤1000000) (hf:PV w fv from_):
  Calls Tryz.prog 104 #[fv,.string ⟨part.toArray⟩] w (ygG w (zjC from_ part)):=by
 obtain ⟨i0,hi,hz0,hz1,hz2⟩:=info_parts Tryz.infoStr
 have HSP:=yiO (fun W=>zdD ⟨part.toArray⟩ ⟨#[47,92]⟩ W (by rw [zaA];omega) (by decide))
 rw [zaB part,zaB [47,92]] at HSP
 have HPW:Hid (zjC from_ part=goW from_ (zcL (hasB [47,92]) part)):=rfl
 have hsl:=zcN (hasB [47,92]) part
 have HPL:=yiO (fun x (h:x∈zcL (hasB [47,92]) part)=>zsJ h)
 have hne:=zlL (hasB [47,92]) part
 generalize zcL (hasB [47,92]) part=ps at*
 obtain ⟨fa,fn,fc,rfl⟩:=hf.shape
 have HFV:=yiO hf
 clear hf
 go_enter Tryz.func104,Tryz.ntmps104
 go_wp2_with (at_builtin;refine ybP _ rfl _ _ rfl w.heap.size _ _ [] from_ rfl (zaM.nil _ _) rfl HFV.out (by simp;omega) (yiP _) ?_;intro v0 x3 hp0 hgr0 hat0)
 rw [List.nil_append] at hp0
 have hb3:Below w.heap.size w x3:=⟨hgr0.os,hgr0.tape,hgr0.output,hgr0.size,fun b hb=>hgr0.block b hb (fun e=>by cases e)⟩
 have HP0:=yiO hp0
 have HB3:=yiO hb3
 clear hp0 hgr0 hat0 hb3 HFV
 go_wp2_with fail
 refine (HSP.out _).mono ?_
 rintro e x4 ⟨vp,rfl,hpp,hb4⟩
 obtain ⟨N,hN⟩: ∃N,ps.length=N:=⟨_,rfl⟩
 have hNp:0<N:=by rw [←hN];exact List.length_pos_iff.2 hne
 obtain ⟨gp,cp,rfl,hgB,hgs⟩: ∃gp cp,vp= .slice (some ⟨gp,0,none⟩) N cp∧x3.heap.size≤gp∧Seen x4 gp ps:=by
  rcases zaM.cases hpp with ⟨e,_⟩|⟨g,c,h1,h2,h3,h4⟩
  ·exact absurd e hne
  ·exact ⟨g,c,by rw [h1,hN],h3,h4⟩
 have hv0: ∀b,v0.ownBlock=some b→w.heap.size≤b∧b<x3.heap.size:=fun b hb=>World.ownsRow.lt HP0.out b hb
 have HB4:=yiO (zaC HB3.out hb4)
 have HS0:Hid (Segs w.heap.size x4 v0 x4 v0 from_):=⟨HP0.out.below hb4,⟨rfl,rfl,rfl,yiP _,fun _ _ _=>rfl⟩,.inl rfl⟩
 have hw4:w.heap.size≤x4.heap.size:=HB4.out.size
 have HROW:Hid (∀y v out,Segs w.heap.size x4 v0 y v out→ ∀j,j<N→y.cell? ⟨gp,j,none⟩=some (.string ⟨(ps.getD j []).toArray⟩)):=fun y v out h j hj=>by
  refine (World.cell?_of_block (a:=⟨gp,j,none⟩) (h.grown.block gp hgs.1 (fun e=> ?_))).trans (hgs.2 j (by omega))
  have:=(hv0 gp e.symm).2
  omega
 have HEND:Hid (∀y v out,Segs w.heap.size x4 v0 y v out→Below w.heap.size w y):=fun y v out h=>z1O HB4.out h (fun b hb=>(hv0 b hb).1)
 rw [hN] at hsl
 have HN:=yiO hN
 clear HSP HP0 HB3 HB4 hpp hb4 hgB hgs hv0 hne hN
 go_wp2
 go_loopw [5,7] (fun v i wr=> ∃(k:Nat) (out:List (List UInt8)),k≤N∧i= .int .i64 k∧Hid (Segs w.heap.size x4 v0 wr v out)∧out.length≤from_.length+k∧Hid (goW from_ ps=goW out (ps.drop k))) (fun _ i _=>N - (intOf i).toNat)
 case atStart=>exact ⟨0,from_,Nat.zero_le _,rfl,HS0,yiP _,rfl⟩
 case round=>
  obtain ⟨k,out,hk,rfl,HSG,hol,HS⟩:=hrel
  by_cases hlt:k<N
  ·have hcell:=HROW.out _ _ _ HSG.out k hlt
   obtain ⟨p,hp⟩: ∃p,ps.getD k []=p:=⟨_,rfl⟩
   rw [hp] at hcell
   have HST:=yiO (ycX (by rw [HN.out];exact hlt) hp HS.out)
   have hpl:p.length≤part.length:=HPL.out p (by
    have hkl:k<ps.length:=by rw [HN.out];exact hlt
    rw [←hp];simp only [List.getD,List.getElem?_eq_getElem hkl,Option.getD_some];exact List.getElem_mem hkl)
   rw [HN.out] at HST
   have hql:=zzG 4 p
   have HEN:Hid (∀W,Calls Tryz.prog 56 #[.int .i64 4,.string ⟨p.toArray⟩] W fun e w'=>e= .returned (.string ⟨(encW 4 p).toArray⟩)∧Below W.heap.size W w'):=fun W=>zdQ 4 ⟨p.toArray⟩ W (by decide) (by rw [zaA];omega)
   have hple:=ydI (encW 4 p)
   have hbl:((k:Int)==(N:Int) - 1)=decide (k+1=N):=zyB
   clear hp HS
   generalize encW 4 p=q at*
   have HPT:=yiO (fun W=>zrB q W (by omega))
   go_wp2_with fail
   refine (HEN.out _).mono ?_
   rintro e y1 ⟨rfl,hy1⟩
   have HSG1:=yiO (HSG.out.keep hy1)
   clear HEN hy1 HSG
   go_wp2_with fail
   refine (HPT.out _).mono ?_
   rintro e w' ⟨rfl,rfl⟩
   have hsz:w.heap.size≤y1.heap.size:=Nat.le_trans hw4 HSG1.out.grown.size
   have hown:=HSG1.out.own
   unfold zaM at hown
   clear HPT hcell
   rcases (show ptsW q=2∨ptsW q=1∨ptsW q=0 by omega) with h2|h1|h0
   ·rw [h2]
    rcases HSG1.out.own.cases with ⟨rfl,rfl⟩|⟨g,c,rfl,hc,hgw,_⟩
    ·by_cases hla:k+1=N
     ·rw [yiR hla] at hbl HST
      rw [zmW h2,List.dropLast_nil] at HST
      clear h2
      go_wp2_with (first|(at_builtin;refine zgM _ rfl _ _ 22 rfl w.heap.size 9 i0 (.string ⟨#[]⟩) 16 Tryz.underlying22 hi hz0 hz1 hz2 rfl _ _ _ rfl hown (.string ⟨#[]⟩) rfl rfl (by omega) (by omega) hsz ?_;intro v' w1 hown' hgr' hat')|go_in)
      go_roundw
      case rel=>exact ⟨k+1,[]++[[]],by omega,by go_num,HSG1.out.app hown' hgr' hat',by simp;omega,HST.out⟩
      case measure=>simp [intOf];omega
     ·rw [yiQ hla] at hbl HST
      rw [zrR h2,List.dropLast_nil] at HST
      clear h2
      go_wp2
      go_roundw
      case rel=>exact ⟨k+1,[],by omega,by go_num,HSG1.out,by simp,HST.out⟩
      case measure=>simp [intOf];omega
    ·by_cases hz:out.length=0
     ·obtain rfl:=List.eq_nil_of_length_eq_zero hz
      have hown0:=hown
      simp only [List.length_nil] at hown HSG1 ⊢
      clear hown0
      by_cases hla:k+1=N
      ·rw [yiR hla] at hbl HST
       rw [zmW h2,List.dropLast_nil] at HST
       clear h2
       go_wp2_with (first|(at_builtin;refine zgM _ rfl _ _ 22 rfl w.heap.size 9 i0 (.string ⟨#[]⟩) 16 Tryz.underlying22 hi hz0 hz1 hz2 rfl _ _ _ rfl hown (.string ⟨#[]⟩) rfl rfl (by omega) (by omega) hsz ?_;intro v' w1 hown' hgr' hat')|go_in)
       go_roundw
       case rel=>exact ⟨k+1,[]++[[]],by omega,by go_num,HSG1.out.app hown' hgr' hat',by simp;omega,HST.out⟩
       case measure=>simp [intOf];omega
      ·rw [yiQ hla] at hbl HST
       rw [zrR h2,List.dropLast_nil] at HST
       clear h2
       go_wp2
       go_roundw
       case rel=>exact ⟨k+1,[],by omega,by go_num,HSG1.out,by simp,HST.out⟩
       case measure=>simp [intOf];omega
     ·obtain ⟨m,hm⟩: ∃m,out.length=m+1:=⟨out.length - 1,by omega⟩
      have HPD:=yiO (zqB (HSG1.out.own))
      have HSG4:Hid (Segs w.heap.size x4 v0 y1 (.slice (some ⟨g,0,none⟩) (out.length - 1:Nat) c) out.dropLast):=HSG1.out.drop HPD.out rfl
      have hdl:out.dropLast.length=m:=by rw [List.length_dropLast];omega
      have hpd:=HPD.out
      unfold zaM at hpd
      rw [hdl] at hpd
      rw [show out.length - 1=m by omega] at hpd HSG4
      have hs0: ∀W,(Instr.slice 22 (.slice (some ⟨g,0,none⟩) ((m:Int)+1).toNat c) none (some (.int .i64 (m:Int))) none).run Tryz.prog W= .ok (.slice (some ⟨g,0,none⟩) m c) W:=fun W=>by
       rw [run_slice_h W 22 (some ⟨g,0,none⟩) _ c (by simp [Program.elem,Tryz.underlying22]) .i64 _ (by omega) (by omega)]
       go_simp
      rw [hm]
      rw [hm] at hc hz
      clear HSG1 hown HPD
      by_cases hla:k+1=N
      ·rw [yiR hla] at hbl HST
       rw [zmW h2] at HST
       clear h2
       go_wp2_with (first|(at_builtin;refine zgM _ rfl _ _ 22 rfl w.heap.size 9 i0 (.string ⟨#[]⟩) 16 Tryz.underlying22 hi hz0 hz1 hz2 rfl _ _ _ rfl hpd (.string ⟨#[]⟩) rfl rfl (by omega) (by omega) hsz ?_;intro v' w1 hown' hgr' hat')|go_in)
       go_roundw
       case rel=>exact ⟨k+1,out.dropLast++[[]],by omega,by go_num,HSG4.out.app (by rw [hdl];exact hown') hgr' hat',by simp;omega,HST.out⟩
       case measure=>simp [intOf];omega
      ·rw [yiQ hla] at hbl HST
       rw [zrR h2] at HST
       clear h2
       go_wp2
       go_roundw
       case rel=>exact ⟨k+1,out.dropLast,by omega,by go_num,HSG4.out,by omega,HST.out⟩
       case measure=>simp [intOf];omega
   ·rw [h1]
    obtain ⟨oa,oc,hov⟩: ∃oa oc,u5= .slice oa out.length oc:=by
     rcases HSG1.out.own.cases with ⟨e1,e2⟩|⟨g,c,e1,_⟩
     ·exact ⟨none,0,by rw [e2,e1];rfl⟩
     ·exact ⟨_,_,e1⟩
    clear hov
    by_cases hla:k+1=N
    ·rw [yiR hla] at hbl HST
     rw [zzK h1] at HST
     clear h1
     go_wp2_with (first|(at_builtin;refine zgM _ rfl _ _ 22 rfl w.heap.size 9 i0 (.string ⟨#[]⟩) 16 Tryz.underlying22 hi hz0 hz1 hz2 rfl _ _ _ rfl hown (.string ⟨#[]⟩) rfl rfl (by omega) (by omega) hsz ?_;intro v' w1 hown' hgr' hat')|go_in)
     go_roundw
     case rel=>exact ⟨k+1,out++[[]],by omega,by go_num,HSG1.out.app hown' hgr' hat',by simp;omega,HST.out⟩
     case measure=>simp [intOf];omega
    ·rw [yiQ hla] at hbl HST
     rw [z8G h1] at HST
     clear h1
     go_wp2
     go_roundw
     case rel=>exact ⟨k+1,out,by omega,by go_num,HSG1.out,by omega,HST.out⟩
     case measure=>simp [intOf];omega
   ·rw [h0]
    rw [z7J h0] at HST
    clear h0
    go_wp2_with (first|(at_builtin;refine zgM _ rfl _ _ 22 rfl w.heap.size 9 i0 (.string ⟨#[]⟩) 16 Tryz.underlying22 hi hz0 hz1 hz2 rfl _ _ _ rfl hown (.string ⟨q.toArray⟩) rfl rfl (by omega) (by omega) hsz ?_;intro v' w1 hown' hgr' hat')|go_in)
    go_roundw
    case rel=>exact ⟨k+1,out++[q],by omega,by go_num,HSG1.out.app hown' hgr' hat',by simp;omega,HST.out⟩
    case measure=>simp [intOf];omega
  ·have hkN:k=N:=by omega
   have HF:Hid (goW from_ ps=out):=by show _=_;rw [HS.out,List.drop_eq_nil_of_le (by rw [HN.out];omega)];rfl
   clear HS
   go_wp2
   go_ret
   exact ⟨_,rfl,by rw [HPW.out,HF.out];exact HSG.out.own,HEND.out _ _ _ HSG.out⟩
def hk:HZ→Int
 | .none=>0
 | .name _=>1
 | .addr _=>2
def hn:HZ→List UInt8
 | .name l=>l
 |_=>[]
def hbit:HZ→Bool
 | .addr a=>(refA (some a)).1
 |_=>false
def hhi:HZ→Int
 | .addr a=>(refA (some a)).2.1
 |_=>0
def hlo:HZ→Int
 | .addr a=>(refA (some a)).2.2
 |_=>0
theorem z9O (h:HZ):refH h= #[.int .i64 (hk h),.string ⟨(hn h).toArray⟩,.bool (hbit h),.int .u64 (hhi h),.int .u64 (hlo h)]:=by
 cases h<;>rfl
def UZ.ref (u:UZ) (pv:Value):Array Value:= #[.string ⟨u.scheme.toArray⟩,.string ⟨u.user.toArray⟩,.string ⟨u.pass.toArray⟩,.int .i64 (hk u.host),.string ⟨(hn u.host).toArray⟩,.bool (hbit u.host),.int .u64 (hhi u.host),.int .u64 (hlo u.host),.int .i64 u.port,pv,.string ⟨u.query.toArray⟩,.bool u.hasQ,.string ⟨u.frag.toArray⟩,.bool u.hasF]
def VB (w:World) (U:Nat) (u:UZ) (pv:Value):Prop:=w.heap[U]? =some (.cells (u.ref pv) 38)
theorem VB.below {w w':World} {U:Nat} {u:UZ} {pv:Value} (h:VB w U u pv) (hb:Below w.heap.size w w'):VB w' U u pv:=(hb.block U (zaO h)).trans h
theorem VB.new (x:World) (u:UZ) (pv:Value):VB (x.alloc (.cells (u.ref pv) 38)) x.heap.size u pv:=heap_alloc_new x _
theorem zcC (x:World) (cs:Array Value):Below x.heap.size x (x.alloc (.cells cs 38)):=(yiS _ x).alloc (yiP _) _
theorem VB.all {w:World} {U:Nat} {u:UZ} {pv:Value} (h:VB w U u pv):w.cell? ⟨U,0,none⟩=some (.string ⟨u.scheme.toArray⟩)∧w.cell? ⟨U,1,none⟩=some (.string ⟨u.user.toArray⟩)∧w.cell? ⟨U,2,none⟩=some (.string ⟨u.pass.toArray⟩)∧w.cell? ⟨U,3,none⟩=some (.int .i64 (hk u.host))∧w.cell? ⟨U,4,none⟩=some (.string ⟨(hn u.host).toArray⟩)∧w.cell? ⟨U,5,none⟩=some (.bool (hbit u.host))∧w.cell? ⟨U,6,none⟩=some (.int .u64 (hhi u.host))∧w.cell? ⟨U,7,none⟩=some (.int .u64 (hlo u.host))∧w.cell? ⟨U,8,none⟩=some (.int .i64 u.port)∧w.cell? ⟨U,9,none⟩=some pv∧w.cell? ⟨U,10,none⟩=some (.string ⟨u.query.toArray⟩)∧w.cell? ⟨U,11,none⟩=some (.bool u.hasQ)∧w.cell? ⟨U,12,none⟩=some (.string ⟨u.frag.toArray⟩)∧w.cell? ⟨U,13,none⟩=some (.bool u.hasF)∧ ∀i,w.frozen? ⟨U,i,none⟩=false:=
 ⟨zaE h 0,zaE h 1,zaE h 2,zaE h 3,zaE h 4,zaE h 5,zaE h 6,zaE h 7,zaE h 8,zaE h 9,zaE h 10,zaE h 11,zaE h 12,zaE h 13,zeL h⟩
def RV (w:World) (R:Nat):Prop:= ∃c0 c1 c2 c3 c4 c5 c6 c7 c8 c9 c10 c11 c12 c13,w.heap[R]? =some (.cells #[c0,c1,c2,c3,c4,c5,c6,c7,c8,c9,c10,c11,c12,c13] 38)
theorem RV.below {w w':World} {R:Nat} (h:RV w R) (hb:Below w.heap.size w w'):RV w' R:=by
 obtain ⟨c0,c1,c2,c3,c4,c5,c6,c7,c8,c9,c10,c11,c12,c13,h⟩:=h
 exact ⟨c0,c1,c2,c3,c4,c5,c6,c7,c8,c9,c10,c11,c12,c13,(hb.block R (zaO h)).trans h⟩
theorem RV.lt {w:World} {R:Nat} (h:RV w R):R<w.heap.size:=by
 obtain ⟨c0,c1,c2,c3,c4,c5,c6,c7,c8,c9,c10,c11,c12,c13,h⟩:=h
 exact zaO h
theorem RV.set {w:World} {R g i:Nat} (h:RV w R) (hne:R≠g) (v:Value):RV (w.setCell ⟨g,i,none⟩ v) R:=by
 obtain ⟨c0,c1,c2,c3,c4,c5,c6,c7,c8,c9,c10,c11,c12,c13,h⟩:=h
 exact ⟨c0,c1,c2,c3,c4,c5,c6,c7,c8,c9,c10,c11,c12,c13,(zaZ hne i v).trans h⟩
theorem VB.rv {w:World} {U:Nat} {u:UZ} {pv:Value} (h:VB w U u pv):RV w U:=⟨_,_,_,_,_,_,_,_,_,_,_,_,_,_,h⟩
def zbJ (x:World) (g:Nat) (a0 a1 a2 a3 a4 a5 a6 a7 a8 a9 a10 a11 a12 a13:Value):World:=(((((((((((((x.setCell ⟨g,0,none⟩ a0).setCell ⟨g,1,none⟩ a1).setCell ⟨g,2,none⟩ a2).setCell ⟨g,3,none⟩ a3).setCell ⟨g,4,none⟩ a4).setCell ⟨g,5,none⟩ a5).setCell ⟨g,6,none⟩ a6).setCell ⟨g,7,none⟩ a7).setCell ⟨g,8,none⟩ a8).setCell ⟨g,9,none⟩ a9).setCell ⟨g,10,none⟩ a10).setCell ⟨g,11,none⟩ a11).setCell ⟨g,12,none⟩ a12).setCell ⟨g,13,none⟩ a13
theorem z5T {x:World} {g:Nat} (h:RV x g) (a0 a1 a2 a3 a4 a5 a6 a7 a8 a9 a10 a11 a12 a13:Value):(zbJ x g a0 a1 a2 a3 a4 a5 a6 a7 a8 a9 a10 a11 a12 a13).heap[g]? =some (.cells #[a0,a1,a2,a3,a4,a5,a6,a7,a8,a9,a10,a11,a12,a13] 38):=by
 obtain ⟨c0,c1,c2,c3,c4,c5,c6,c7,c8,c9,c10,c11,c12,c13,h⟩:=h
 have:=zaF (zaF (zaF (zaF (zaF (zaF (zaF (zaF (zaF (zaF (zaF (zaF (zaF (zaF h 0 a0) 1 a1) 2 a2) 3 a3) 4 a4) 5 a5) 6 a6) 7 a7) 8 a8) 9 a9) 10 a10) 11 a11) 12 a12) 13 a13
 unfold zbJ
 simpa using this
theorem zcP {w x:World} {g B:Nat} (h:Below B w x) (hg:B≤g) (a0 a1 a2 a3 a4 a5 a6 a7 a8 a9 a10 a11 a12 a13:Value):Below B w (zbJ x g a0 a1 a2 a3 a4 a5 a6 a7 a8 a9 a10 a11 a12 a13):=
 (((((((((((((h.setCell (p:=⟨g,0,none⟩) hg _).setCell (p:=⟨g,1,none⟩) hg _).setCell (p:=⟨g,2,none⟩) hg _).setCell (p:=⟨g,3,none⟩) hg _).setCell (p:=⟨g,4,none⟩) hg _).setCell (p:=⟨g,5,none⟩) hg _).setCell (p:=⟨g,6,none⟩) hg _).setCell (p:=⟨g,7,none⟩) hg _).setCell (p:=⟨g,8,none⟩) hg _).setCell (p:=⟨g,9,none⟩) hg _).setCell (p:=⟨g,10,none⟩) hg _).setCell (p:=⟨g,11,none⟩) hg _).setCell (p:=⟨g,12,none⟩) hg _).setCell (p:=⟨g,13,none⟩) hg _
theorem znL {x:World} {g b:Nat} (hb:b≠g) (a0 a1 a2 a3 a4 a5 a6 a7 a8 a9 a10 a11 a12 a13:Value):(zbJ x g a0 a1 a2 a3 a4 a5 a6 a7 a8 a9 a10 a11 a12 a13).heap[b]? =x.heap[b]? :=by
 unfold zbJ
 rw [zaZ hb,zaZ hb,zaZ hb,zaZ hb,zaZ hb,zaZ hb,zaZ hb,zaZ hb,zaZ hb,zaZ hb,zaZ hb,zaZ hb,zaZ hb,zaZ hb]
theorem z2T {x:World} {g:Nat} (a0 a1 a2 a3 a4 a5 a6 a7 a8 a9 a10 a11 a12 a13:Value):Only [g] x (zbJ x g a0 a1 a2 a3 a4 a5 a6 a7 a8 a9 a10 a11 a12 a13):=
 have m:g∈[g]:=List.mem_cons_self ..
 (((((((((((((((Only.refl [g] x).setCell (p:=⟨g,0,none⟩) (.inl m) _).setCell (p:=⟨g,1,none⟩) (.inl m) _).setCell (p:=⟨g,2,none⟩) (.inl m) _).setCell (p:=⟨g,3,none⟩) (.inl m) _).setCell (p:=⟨g,4,none⟩) (.inl m) _).setCell (p:=⟨g,5,none⟩) (.inl m) _).setCell (p:=⟨g,6,none⟩) (.inl m) _).setCell (p:=⟨g,7,none⟩) (.inl m) _).setCell (p:=⟨g,8,none⟩) (.inl m) _).setCell (p:=⟨g,9,none⟩) (.inl m) _).setCell (p:=⟨g,10,none⟩) (.inl m) _).setCell (p:=⟨g,11,none⟩) (.inl m) _).setCell (p:=⟨g,12,none⟩) (.inl m) _).setCell (p:=⟨g,13,none⟩) (.inl m) _)
theorem RV.all {w:World} {R:Nat} (h:RV w R): ∃c0 c1 c2 c3 c4 c5 c6 c7 c8 c9 c10 c11 c12 c13,w.cell? ⟨R,0,none⟩=some c0∧w.cell? ⟨R,1,none⟩=some c1∧w.cell? ⟨R,2,none⟩=some c2∧w.cell? ⟨R,3,none⟩=some c3∧w.cell? ⟨R,4,none⟩=some c4∧w.cell? ⟨R,5,none⟩=some c5∧w.cell? ⟨R,6,none⟩=some c6∧w.cell? ⟨R,7,none⟩=some c7∧w.cell? ⟨R,8,none⟩=some c8∧w.cell? ⟨R,9,none⟩=some c9∧w.cell? ⟨R,10,none⟩=some c10∧w.cell? ⟨R,11,none⟩=some c11∧w.cell? ⟨R,12,none⟩=some c12∧w.cell? ⟨R,13,none⟩=some c13∧ ∀i,w.frozen? ⟨R,i,none⟩=false:=by
 obtain ⟨c0,c1,c2,c3,c4,c5,c6,c7,c8,c9,c10,c11,c12,c13,h⟩:=h
 exact ⟨c0,c1,c2,c3,c4,c5,c6,c7,c8,c9,c10,c11,c12,c13,zaE h 0,zaE h 1,zaE h 2,zaE h 3,zaE h 4,zaE h 5,zaE h 6,zaE h 7,zaE h 8,zaE h 9,zaE h 10,zaE h 11,zaE h 12,zaE h 13,zeL h⟩
theorem zcO {x:World} {g:Nat} (h:RV x g) (a0 a1 a2 a3 a4 a5 a6 a7 a8 a9 a10 a11 a12 a13:Value):
  (zbJ x g a0 a1 a2 a3 a4 a5 a6 a7 a8 a9 a10 a11 a12 a13).cell? ⟨g,0,none⟩=some a0∧(zbJ x g a0 a1 a2 a3 a4 a5 a6 a7 a8 a9 a10 a11 a12 a13).cell? ⟨g,1,none⟩=some a1∧(zbJ x g a0 a1 a2 a3 a4 a5 a6 a7 a8 a9 a10 a11 a12 a13).cell? ⟨g,2,none⟩=some a2∧(zbJ x g a0 a1 a2 a3 a4 a5 a6 a7 a8 a9 a10 a11 a12 a13).cell? ⟨g,3,none⟩=some a3∧(zbJ x g a0 a1 a2 a3 a4 a5 a6 a7 a8 a9 a10 a11 a12 a13).cell? ⟨g,4,none⟩=some a4∧(zbJ x g a0 a1 a2 a3 a4 a5 a6 a7 a8 a9 a10 a11 a12 a13).cell? ⟨g,5,none⟩=some a5∧(zbJ x g a0 a1 a2 a3 a4 a5 a6 a7 a8 a9 a10 a11 a12 a13).cell? ⟨g,6,none⟩=some a6∧(zbJ x g a0 a1 a2 a3 a4 a5 a6 a7 a8 a9 a10 a11 a12 a13).cell? ⟨g,7,none⟩=some a7∧(zbJ x g a0 a1 a2 a3 a4 a5 a6 a7 a8 a9 a10 a11 a12 a13).cell? ⟨g,8,none⟩=some a8∧(zbJ x g a0 a1 a2 a3 a4 a5 a6 a7 a8 a9 a10 a11 a12 a13).cell? ⟨g,9,none⟩=some a9∧(zbJ x g a0 a1 a2 a3 a4 a5 a6 a7 a8 a9 a10 a11 a12 a13).cell? ⟨g,10,none⟩=some a10∧(zbJ x g a0 a1 a2 a3 a4 a5 a6 a7 a8 a9 a10 a11 a12 a13).cell? ⟨g,11,none⟩=some a11∧(zbJ x g a0 a1 a2 a3 a4 a5 a6 a7 a8 a9 a10 a11 a12 a13).cell? ⟨g,12,none⟩=some a12∧(zbJ x g a0 a1 a2 a3 a4 a5 a6 a7 a8 a9 a10 a11 a12 a13).cell? ⟨g,13,none⟩=some a13:=by
 have h:=z5T h a0 a1 a2 a3 a4 a5 a6 a7 a8 a9 a10 a11 a12 a13
 exact ⟨zaE h 0,zaE h 1,zaE h 2,zaE h 3,zaE h 4,zaE h 5,zaE h 6,zaE h 7,zaE h 8,zaE h 9,zaE h 10,zaE h 11,zaE h 12,zaE h 13⟩
theorem zbC {w x:World} {g B:Nat} (h:Below B w x) (hg:B≤g) (v:UZ) (pv:Value):Below B w (zbJ x g (.string ⟨v.scheme.toArray⟩) (.string ⟨v.user.toArray⟩) (.string ⟨v.pass.toArray⟩) (.int .i64 (hk v.host)) (.string ⟨(hn v.host).toArray⟩) (.bool (hbit v.host)) (.int .u64 (hhi v.host)) (.int .u64 (hlo v.host)) (.int .i64 v.port) pv (.string ⟨v.query.toArray⟩) (.bool v.hasQ) (.string ⟨v.frag.toArray⟩) (.bool v.hasF)):=zcP h hg ..
theorem zbS {x:World} {g:Nat} (v:UZ) (pv:Value):Only [g] x (zbJ x g (.string ⟨v.scheme.toArray⟩) (.string ⟨v.user.toArray⟩) (.string ⟨v.pass.toArray⟩) (.int .i64 (hk v.host)) (.string ⟨(hn v.host).toArray⟩) (.bool (hbit v.host)) (.int .u64 (hhi v.host)) (.int .u64 (hlo v.host)) (.int .i64 v.port) pv (.string ⟨v.query.toArray⟩) (.bool v.hasQ) (.string ⟨v.frag.toArray⟩) (.bool v.hasF)):=z2T ..
theorem zbF {x:World} {g:Nat} (h:RV x g) (v:UZ) (pv:Value): ∀y,y=zbJ x g (.string ⟨v.scheme.toArray⟩) (.string ⟨v.user.toArray⟩) (.string ⟨v.pass.toArray⟩) (.int .i64 (hk v.host)) (.string ⟨(hn v.host).toArray⟩) (.bool (hbit v.host)) (.int .u64 (hhi v.host)) (.int .u64 (hlo v.host)) (.int .i64 v.port) pv (.string ⟨v.query.toArray⟩) (.bool v.hasQ) (.string ⟨v.frag.toArray⟩) (.bool v.hasF)→y.cell? ⟨g,0,none⟩=some (.string ⟨v.scheme.toArray⟩)∧y.cell? ⟨g,1,none⟩=some (.string ⟨v.user.toArray⟩)∧y.cell? ⟨g,2,none⟩=some (.string ⟨v.pass.toArray⟩)∧y.cell? ⟨g,3,none⟩=some (.int .i64 (hk v.host))∧y.cell? ⟨g,4,none⟩=some (.string ⟨(hn v.host).toArray⟩)∧y.cell? ⟨g,5,none⟩=some (.bool (hbit v.host))∧y.cell? ⟨g,6,none⟩=some (.int .u64 (hhi v.host))∧y.cell? ⟨g,7,none⟩=some (.int .u64 (hlo v.host))∧y.cell? ⟨g,8,none⟩=some (.int .i64 v.port)∧y.cell? ⟨g,9,none⟩=some (pv)∧y.cell? ⟨g,10,none⟩=some (.string ⟨v.query.toArray⟩)∧y.cell? ⟨g,11,none⟩=some (.bool v.hasQ)∧y.cell? ⟨g,12,none⟩=some (.string ⟨v.frag.toArray⟩)∧y.cell? ⟨g,13,none⟩=some (.bool v.hasF):=
 fun y hy=>by
 subst hy
 exact zcO h ..
theorem zaR {x:World} {g b i:Nat} {v:Value} (hb:b≠g) (a0 a1 a2 a3 a4 a5 a6 a7 a8 a9 a10 a11 a12 a13:Value) (h:x.cell? ⟨b,i,none⟩=some v):(zbJ x g a0 a1 a2 a3 a4 a5 a6 a7 a8 a9 a10 a11 a12 a13).cell? ⟨b,i,none⟩=some v:=by
 rw [←h]
 exact World.cell?_of_block (a:=⟨b,i,none⟩) (znL hb ..)
theorem z6P (l:List UInt8) (a b:Nat) (hab:a≤b) (hb:b≤l.length): ∀W,(Instr.slice 9 (.string ⟨l.toArray⟩) (some (.int .i64 (a:Int))) (some (.int .i64 (b:Int))) none).run Tryz.prog W= .ok (.string ⟨((l.take b).drop a).toArray⟩) W:=fun W=>by
 rw [zkD W 9 _ (a:Int) (b:Int) a b rfl rfl hab (by rw [zaA];exact hb) Tryz.underlying9]
 have:(ByteArray.mk l.toArray).extract a b=⟨((l.take b).drop a).toArray⟩:=by
  apply ByteArray.ext;simp [List.drop_take]
 rw [this]
theorem VB.q {w:World} {U:Nat} {u:UZ} {pv:Value} (h:VB w U u pv) (q:List UInt8):VB ((w.setCell ⟨U,10,none⟩ (.string ⟨q.toArray⟩)).setCell ⟨U,11,none⟩ (.bool true)) U {u with query:=q,hasQ:=true} pv:=zaF (zaF h 10 _) 11 _
theorem VB.f {w:World} {U:Nat} {u:UZ} {pv:Value} (h:VB w U u pv) (q:List UInt8):VB ((w.setCell ⟨U,12,none⟩ (.string ⟨q.toArray⟩)).setCell ⟨U,13,none⟩ (.bool true)) U {u with frag:=q,hasF:=true} pv:=zaF (zaF h 12 _) 13 _
theorem VB.st {w:World} {U:Nat} {u:UZ} {pv:Value} (h:VB w U u pv) (a b:Value):(w.cell? ⟨U,10,none⟩=some (.string ⟨u.query.toArray⟩)∧(w.setCell ⟨U,10,none⟩ a).cell? ⟨U,11,none⟩=some (.bool u.hasQ)∧w.frozen? ⟨U,10,none⟩=false∧(w.setCell ⟨U,10,none⟩ a).frozen? ⟨U,11,none⟩=false)∧(w.cell? ⟨U,12,none⟩=some (.string ⟨u.frag.toArray⟩)∧(w.setCell ⟨U,12,none⟩ b).cell? ⟨U,13,none⟩=some (.bool u.hasF)∧w.frozen? ⟨U,12,none⟩=false∧(w.setCell ⟨U,12,none⟩ b).frozen? ⟨U,13,none⟩=false):=
 ⟨⟨zaE h 10,zaE (zaF h 10 a) 11,zaW h 10,zaW (zaF h 10 a) 11⟩,zaE h 12,zaE (zaF h 12 b) 13,zaW h 12,zaW (zaF h 12 b) 13⟩
def zaN:Array Value:= #[.string ⟨#[]⟩,.string ⟨#[]⟩,.string ⟨#[]⟩,.int .i64 0,.string ⟨#[]⟩,.bool false,.int .u64 0,.int .u64 0,.int .i64 0,.slice none 0 0,.string ⟨#[]⟩,.bool false,.string ⟨#[]⟩,.bool false]
theorem zbP:zaN=zbX.ref (.slice none 0 0):=rfl
theorem zcZ {w x:World} {u:UZ} {pv:Value} {z:Array Value} (hz:z=(zbX.ref (.slice none 0 0))) (h:x=(w.alloc (.cells (u.ref pv) 38)).alloc (.cells z 38)):VB x w.heap.size u pv∧RV x (w.heap.size+1)∧Below w.heap.size w x∧x.heap.size=w.heap.size+2:=by
 subst hz
 have b0:=zcC w (u.ref pv)
 have u0:=VB.new w u pv
 have s0:(w.alloc (.cells (u.ref pv) 38)).heap.size=w.heap.size+1:=by simp
 generalize w.alloc (.cells (u.ref pv) 38)=x0 at*
 have b1:=zcC x0 (zbX.ref (.slice none 0 0))
 have r1:=(VB.new x0 zbX (.slice none 0 0)).rv
 have s1:(x0.alloc (.cells (zbX.ref (.slice none 0 0)) 38)).heap.size=x0.heap.size+1:=by simp
 rw [←h] at b1 r1 s1
 rw [s0] at r1
 exact ⟨u0.below b1,r1,zaC b0 b1,by omega⟩
def RetV (w:World) (u:UZ) (pv:Value) (e:Ending) (w':World):Prop:=e= .returned (.agg (u.ref pv))∧Below w.heap.size w w'
theorem zzX (l:List UInt8):l.findIdx (· ==35)=l.findIdx (hasB [35]):=by rw [has35]
theorem tail_n (u:UZ) (sa:Option Addr) (sn sc:Nat) (l:List UInt8) (w:World) (hl:l.length≤1000000) (h63:l.head? ≠some 63) (hf: ¬l.findIdx (hasB [35])<l.length):
  Calls Tryz.prog 63 #[.agg (u.ref (.slice sa sn sc)),.string ⟨l.toArray⟩] w (RetV w (zdC u l) (.slice sa sn sc)):=by
 have HRES:Hid (zdC u l=u):=by
  show _=_
  unfold zdC frgW qryW
  rw [zzX,if_neg hf,if_neg h63]
 obtain ⟨x2,hx2⟩: ∃y,y=(w.alloc (.cells (u.ref (.slice sa sn sc)) 38)).alloc (.cells zaN 38):=⟨_,rfl⟩
 obtain ⟨hu,hr,hbw,hsz⟩:=zcZ zbP hx2
 have HU2:=yiO hu
 have HR2:=yiO hr
 have HB2:=yiO hbw
 simp only [UZ.ref,zaN] at hx2
 clear hu hr hbw
 have hz:=zaA l
 have hil:l.findIdx (hasB [35])≤l.length:=List.findIdx_le_length
 have HFI:=yiO (fun W=>zdU l [35] W (by omega) (by decide))
 have hq0:l=[]∨ ∃c r,l=c::r∧c≠63:=by
  match l,h63 with
  |[],_=>exact .inl rfl
  |c::r,h=>exact .inr ⟨c,r,rfl,fun e=>h (by rw [e];rfl)⟩
 have hdi:=hf
 generalize l.findIdx (hasB [35])=i at*
 clear hf hil
 clear h63
 rcases hq0 with hn|⟨c,r,hlr,hc⟩
 ·have hd0:l.length=0:=by rw [hn];rfl
  clear hn
  go_enter Tryz.func63,Tryz.ntmps63
  simp only [UZ.ref]
  go_wp2_with fail
  rw [←hx2]
  clear hx2
  refine (HFI.out _).mono ?_
  rintro e w' ⟨rfl,rfl⟩
  have HUV:=yiO HU2.out
  have HRV:=yiO HR2.out
  have HBV:=yiO HB2.out
  clear HU2 HR2 HB2
  obtain ⟨d0,d1,d2,d3,d4,d5,d6,d7,d8,d9,d10,d11,d12,d13,-⟩:=HUV.out.all
  try simp only [] at d0 d1 d2 d3 d4 d5 d6 d7 d8 d9 d10 d11 d12 d13
  obtain ⟨c0,c1,c2,c3,c4,c5,c6,c7,c8,c9,c10,c11,c12,c13,k0,k1,k2,k3,k4,k5,k6,k7,k8,k9,k10,k11,k12,k13,kf⟩:=HRV.out.all
  have hEB:=zcP HBV.out (show w.heap.size≤w.heap.size+1 by omega) (.string ⟨u.scheme.toArray⟩) (.string ⟨u.user.toArray⟩) (.string ⟨u.pass.toArray⟩) (.int .i64 (hk u.host)) (.string ⟨(hn u.host).toArray⟩) (.bool (hbit u.host)) (.int .u64 (hhi u.host)) (.int .u64 (hlo u.host)) (.int .i64 u.port) (.slice sa sn sc) (.string ⟨(u.query).toArray⟩) (.bool u.hasQ) (.string ⟨(u.frag).toArray⟩) (.bool u.hasF)
  have hEC:=zcO HRV.out (.string ⟨u.scheme.toArray⟩) (.string ⟨u.user.toArray⟩) (.string ⟨u.pass.toArray⟩) (.int .i64 (hk u.host)) (.string ⟨(hn u.host).toArray⟩) (.bool (hbit u.host)) (.int .u64 (hhi u.host)) (.int .u64 (hlo u.host)) (.int .i64 u.port) (.slice sa sn sc) (.string ⟨(u.query).toArray⟩) (.bool u.hasQ) (.string ⟨(u.frag).toArray⟩) (.bool u.hasF)
  unfold zbJ at hEB hEC
  have HEB:=yiO hEB
  have HEC:=yiO hEC
  clear hEB hEC HUV HRV HBV
  go_wp2
  obtain ⟨e0,e1,e2,e3,e4,e5,e6,e7,e8,e9,e10,e11,e12,e13⟩:=HEC.out
  refine bodyPost_ret (v:= .agg #[.string ⟨u.scheme.toArray⟩,.string ⟨u.user.toArray⟩,.string ⟨u.pass.toArray⟩,.int .i64 (hk u.host),.string ⟨(hn u.host).toArray⟩,.bool (hbit u.host),.int .u64 (hhi u.host),.int .u64 (hlo u.host),.int .i64 u.port,.slice sa sn sc,.string ⟨(u.query).toArray⟩,.bool u.hasQ,.string ⟨(u.frag).toArray⟩,.bool u.hasF]) (by simp [results,Tryz.results63,go_sem,e0,e1,e2,e3,e4,e5,e6,e7,e8,e9,e10,e11,e12,e13]) rfl ?_
  exact ⟨by rw [HRES.out];rfl,HEB.out⟩
 ·have h0:0<(ByteArray.mk l.toArray).size:=by rw [hz,hlr];simp
  have hb0:(ByteArray.mk l.toArray)[0]=c:=by subst hlr;rfl
  have hd0:0<l.length:=by rw [hlr,List.length_cons];omega
  have e63:((c.toNat:Int)==63)=false:=(zgN (c:=c) (n:=63) (by omega)).trans (yiQ hc)
  clear hlr hc
  go_enter Tryz.func63,Tryz.ntmps63
  simp only [UZ.ref]
  go_wp2_with fail
  rw [←hx2]
  clear hx2
  refine (HFI.out _).mono ?_
  rintro e w' ⟨rfl,rfl⟩
  have HUV:=yiO HU2.out
  have HRV:=yiO HR2.out
  have HBV:=yiO HB2.out
  clear HU2 HR2 HB2
  obtain ⟨d0,d1,d2,d3,d4,d5,d6,d7,d8,d9,d10,d11,d12,d13,-⟩:=HUV.out.all
  try simp only [] at d0 d1 d2 d3 d4 d5 d6 d7 d8 d9 d10 d11 d12 d13
  obtain ⟨c0,c1,c2,c3,c4,c5,c6,c7,c8,c9,c10,c11,c12,c13,k0,k1,k2,k3,k4,k5,k6,k7,k8,k9,k10,k11,k12,k13,kf⟩:=HRV.out.all
  have hEB:=zcP HBV.out (show w.heap.size≤w.heap.size+1 by omega) (.string ⟨u.scheme.toArray⟩) (.string ⟨u.user.toArray⟩) (.string ⟨u.pass.toArray⟩) (.int .i64 (hk u.host)) (.string ⟨(hn u.host).toArray⟩) (.bool (hbit u.host)) (.int .u64 (hhi u.host)) (.int .u64 (hlo u.host)) (.int .i64 u.port) (.slice sa sn sc) (.string ⟨(u.query).toArray⟩) (.bool u.hasQ) (.string ⟨(u.frag).toArray⟩) (.bool u.hasF)
  have hEC:=zcO HRV.out (.string ⟨u.scheme.toArray⟩) (.string ⟨u.user.toArray⟩) (.string ⟨u.pass.toArray⟩) (.int .i64 (hk u.host)) (.string ⟨(hn u.host).toArray⟩) (.bool (hbit u.host)) (.int .u64 (hhi u.host)) (.int .u64 (hlo u.host)) (.int .i64 u.port) (.slice sa sn sc) (.string ⟨(u.query).toArray⟩) (.bool u.hasQ) (.string ⟨(u.frag).toArray⟩) (.bool u.hasF)
  unfold zbJ at hEB hEC
  have HEB:=yiO hEB
  have HEC:=yiO hEC
  clear hEB hEC HUV HRV HBV
  go_wp2
  obtain ⟨e0,e1,e2,e3,e4,e5,e6,e7,e8,e9,e10,e11,e12,e13⟩:=HEC.out
  refine bodyPost_ret (v:= .agg #[.string ⟨u.scheme.toArray⟩,.string ⟨u.user.toArray⟩,.string ⟨u.pass.toArray⟩,.int .i64 (hk u.host),.string ⟨(hn u.host).toArray⟩,.bool (hbit u.host),.int .u64 (hhi u.host),.int .u64 (hlo u.host),.int .i64 u.port,.slice sa sn sc,.string ⟨(u.query).toArray⟩,.bool u.hasQ,.string ⟨(u.frag).toArray⟩,.bool u.hasF]) (by simp [results,Tryz.results63,go_sem,e0,e1,e2,e3,e4,e5,e6,e7,e8,e9,e10,e11,e12,e13]) rfl ?_
  exact ⟨by rw [HRES.out];rfl,HEB.out⟩
theorem tail_f (u:UZ) (sa:Option Addr) (sn sc:Nat) (l:List UInt8) (w:World) (hl:l.length≤1000000) (h63:l.head? ≠some 63) (hf:l.findIdx (hasB [35])<l.length):
  Calls Tryz.prog 63 #[.agg (u.ref (.slice sa sn sc)),.string ⟨l.toArray⟩] w (RetV w (zdC u l) (.slice sa sn sc)):=by
 have HRES:Hid (zdC u l={u with frag:=encW 1 (l.drop (l.findIdx (hasB [35])+1)),hasF:=true}):=by
  show _=_
  unfold zdC frgW qryW
  rw [zzX,if_pos hf,if_neg h63]
 obtain ⟨x2,hx2⟩: ∃y,y=(w.alloc (.cells (u.ref (.slice sa sn sc)) 38)).alloc (.cells zaN 38):=⟨_,rfl⟩
 obtain ⟨hu,hr,hbw,hsz⟩:=zcZ zbP hx2
 have HU2:=yiO hu
 have HR2:=yiO hr
 have HB2:=yiO hbw
 simp only [UZ.ref,zaN] at hx2
 clear hu hr hbw
 have hz:=zaA l
 have hil:l.findIdx (hasB [35])≤l.length:=List.findIdx_le_length
 have HFI:=yiO (fun W=>zdU l [35] W (by omega) (by decide))
 have hq0:l=[]∨ ∃c r,l=c::r∧c≠63:=by
  match l,h63 with
  |[],_=>exact .inl rfl
  |c::r,h=>exact .inr ⟨c,r,rfl,fun e=>h (by rw [e];rfl)⟩
 have hs2:=zhA l (l.findIdx (hasB [35])) hf
 have hf1:(l.drop (l.findIdx (hasB [35])+1)).length≤l.length:=by rw [List.length_drop];omega
 have HEF:Hid (∀W,Calls Tryz.prog 56 #[.int .i64 1,.string ⟨(l.drop (l.findIdx (hasB [35])+1)).toArray⟩] W fun e w'=>e= .returned (.string ⟨(encW 1 (l.drop (l.findIdx (hasB [35])+1))).toArray⟩)∧Below W.heap.size W w'):=fun W=>zdQ 1 ⟨(l.drop (l.findIdx (hasB [35])+1)).toArray⟩ W (by decide) (by rw [zaA];omega)
 have hdi:=hf
 generalize l.drop (l.findIdx (hasB [35])+1)=fg at*
 generalize l.findIdx (hasB [35])=i at*
 clear hf hil
 clear h63
 rcases hq0 with hn|⟨c,r,hlr,hc⟩
 ·exfalso
  rw [hn] at hdi
  exact Nat.not_lt_zero _ hdi
 ·have h0:0<(ByteArray.mk l.toArray).size:=by rw [hz,hlr];simp
  have hb0:(ByteArray.mk l.toArray)[0]=c:=by subst hlr;rfl
  have hd0:0<l.length:=by rw [hlr,List.length_cons];omega
  have e63:((c.toNat:Int)==63)=false:=(zgN (c:=c) (n:=63) (by omega)).trans (yiQ hc)
  clear hlr hc
  go_enter Tryz.func63,Tryz.ntmps63
  simp only [UZ.ref]
  go_wp2_with fail
  rw [←hx2]
  clear hx2
  refine (HFI.out _).mono ?_
  rintro e w' ⟨rfl,rfl⟩
  go_wp2_with fail
  refine (HEF.out _).mono ?_
  rintro e x5 ⟨rfl,hb5⟩
  have HU5:=yiO (HU2.out.below hb5)
  have HR5:=yiO (HR2.out.below hb5)
  have HB5:=yiO (zaC HB2.out hb5)
  obtain ⟨-,q4,q5,q6,q7⟩:=HU5.out.st .nilIface (.string ⟨(encW 1 fg).toArray⟩)
  have HUV:=yiO (HU5.out.f (encW 1 fg))
  have HRV:=yiO ((HR5.out.set (g:=w.heap.size) (i:=12) (by omega) (.string ⟨(encW 1 fg).toArray⟩)).set (g:=w.heap.size) (i:=13) (by omega) (.bool true))
  have HBV:=yiO ((HB5.out.setCell (p:=⟨w.heap.size,12,none⟩) (yiP _) (.string ⟨(encW 1 fg).toArray⟩)).setCell (p:=⟨w.heap.size,13,none⟩) (yiP _) (.bool true))
  clear hb5 HU2 HR2 HB2 HU5 HR5 HB5 HEF
  obtain ⟨d0,d1,d2,d3,d4,d5,d6,d7,d8,d9,d10,d11,d12,d13,-⟩:=HUV.out.all
  try simp only [] at d0 d1 d2 d3 d4 d5 d6 d7 d8 d9 d10 d11 d12 d13
  obtain ⟨c0,c1,c2,c3,c4,c5,c6,c7,c8,c9,c10,c11,c12,c13,k0,k1,k2,k3,k4,k5,k6,k7,k8,k9,k10,k11,k12,k13,kf⟩:=HRV.out.all
  have hEB:=zcP HBV.out (show w.heap.size≤w.heap.size+1 by omega) (.string ⟨u.scheme.toArray⟩) (.string ⟨u.user.toArray⟩) (.string ⟨u.pass.toArray⟩) (.int .i64 (hk u.host)) (.string ⟨(hn u.host).toArray⟩) (.bool (hbit u.host)) (.int .u64 (hhi u.host)) (.int .u64 (hlo u.host)) (.int .i64 u.port) (.slice sa sn sc) (.string ⟨(u.query).toArray⟩) (.bool u.hasQ) (.string ⟨(encW 1 fg).toArray⟩) (.bool true)
  have hEC:=zcO HRV.out (.string ⟨u.scheme.toArray⟩) (.string ⟨u.user.toArray⟩) (.string ⟨u.pass.toArray⟩) (.int .i64 (hk u.host)) (.string ⟨(hn u.host).toArray⟩) (.bool (hbit u.host)) (.int .u64 (hhi u.host)) (.int .u64 (hlo u.host)) (.int .i64 u.port) (.slice sa sn sc) (.string ⟨(u.query).toArray⟩) (.bool u.hasQ) (.string ⟨(encW 1 fg).toArray⟩) (.bool true)
  unfold zbJ at hEB hEC
  have HEB:=yiO hEB
  have HEC:=yiO hEC
  clear hEB hEC HUV HRV HBV
  go_wp2
  obtain ⟨e0,e1,e2,e3,e4,e5,e6,e7,e8,e9,e10,e11,e12,e13⟩:=HEC.out
  refine bodyPost_ret (v:= .agg #[.string ⟨u.scheme.toArray⟩,.string ⟨u.user.toArray⟩,.string ⟨u.pass.toArray⟩,.int .i64 (hk u.host),.string ⟨(hn u.host).toArray⟩,.bool (hbit u.host),.int .u64 (hhi u.host),.int .u64 (hlo u.host),.int .i64 u.port,.slice sa sn sc,.string ⟨(u.query).toArray⟩,.bool u.hasQ,.string ⟨(encW 1 fg).toArray⟩,.bool true]) (by simp [results,Tryz.results63,go_sem,e0,e1,e2,e3,e4,e5,e6,e7,e8,e9,e10,e11,e12,e13]) rfl ?_
  exact ⟨by rw [HRES.out];rfl,HEB.out⟩
theorem tail_q (u:UZ) (sa:Option Addr) (sn sc:Nat) (l:List UInt8) (w:World) (hl:l.length≤1000000) (h63:l.head? =some 63) (hf: ¬l.findIdx (hasB [35])<l.length):
  Calls Tryz.prog 63 #[.agg (u.ref (.slice sa sn sc)),.string ⟨l.toArray⟩] w (RetV w (zdC u l) (.slice sa sn sc)):=by
 have HRES:Hid (zdC u l={u with query:=encW 3 ((l.take (l.findIdx (hasB [35]))).drop 1),hasQ:=true}):=by
  show _=_
  unfold zdC frgW qryW
  rw [zzX,if_neg hf,if_pos h63]
 obtain ⟨x2,hx2⟩: ∃y,y=(w.alloc (.cells (u.ref (.slice sa sn sc)) 38)).alloc (.cells zaN 38):=⟨_,rfl⟩
 obtain ⟨hu,hr,hbw,hsz⟩:=zcZ zbP hx2
 have HU2:=yiO hu
 have HR2:=yiO hr
 have HB2:=yiO hbw
 simp only [UZ.ref,zaN] at hx2
 clear hu hr hbw
 have hz:=zaA l
 have hil:l.findIdx (hasB [35])≤l.length:=List.findIdx_le_length
 have HFI:=yiO (fun W=>zdU l [35] W (by omega) (by decide))
 obtain ⟨r,hlr⟩: ∃r,l=63::r:=by
  match l,h63 with
  |c::r,h=>exact ⟨r,by rw [show c=63 by simpa using h]⟩
 have hi1:1≤l.findIdx (hasB [35]):=by rw [hlr,List.findIdx_cons,show hasB [35] 63=false by decide];exact Nat.le_add_left _ _
 have h0:0<(ByteArray.mk l.toArray).size:=by rw [hz,hlr];simp
 have hb0:(ByteArray.mk l.toArray)[0]=63:=by subst hlr;rfl
 have hd0:0<l.length:=by rw [hlr,List.length_cons];omega
 have hs1: ∀W,(Instr.slice 9 (.string ⟨l.toArray⟩) (some (.int .i64 1)) (some (.int .i64 (l.findIdx (hasB [35]):Nat))) none).run Tryz.prog W= .ok (.string ⟨((l.take (l.findIdx (hasB [35]))).drop 1).toArray⟩) W:=z6P l 1 _ hi1 hil
 have hq1:((l.take (l.findIdx (hasB [35]))).drop 1).length≤l.length:=by rw [List.length_drop,List.length_take];omega
 have HEQ:Hid (∀W,Calls Tryz.prog 56 #[.int .i64 3,.string ⟨((l.take (l.findIdx (hasB [35]))).drop 1).toArray⟩] W fun e w'=>e= .returned (.string ⟨(encW 3 ((l.take (l.findIdx (hasB [35]))).drop 1)).toArray⟩)∧Below W.heap.size W w'):=fun W=>zdQ 3 ⟨((l.take (l.findIdx (hasB [35]))).drop 1).toArray⟩ W (by decide) (by rw [zaA];omega)
 have hdi:=hf
 generalize (l.take (l.findIdx (hasB [35]))).drop 1=qt at*
 clear hlr h63
 generalize l.findIdx (hasB [35])=i at*
 clear hf hil
 clear hi1
 go_enter Tryz.func63,Tryz.ntmps63
 simp only [UZ.ref]
 go_wp2_with fail
 rw [←hx2]
 clear hx2
 refine (HFI.out _).mono ?_
 rintro e w' ⟨rfl,rfl⟩
 go_wp2_with fail
 refine (HEQ.out _).mono ?_
 rintro e x3 ⟨rfl,hb3⟩
 have HU3:=yiO (HU2.out.below hb3)
 have HR3:=yiO (HR2.out.below hb3)
 have HB3:=yiO (zaC HB2.out hb3)
 obtain ⟨⟨q0,q1,q2,q3⟩,-⟩:=HU3.out.st (.string ⟨(encW 3 qt).toArray⟩) .nilIface
 have HU4:=yiO (HU3.out.q (encW 3 qt))
 have HR4:=yiO ((HR3.out.set (g:=w.heap.size) (i:=10) (by omega) (.string ⟨(encW 3 qt).toArray⟩)).set (g:=w.heap.size) (i:=11) (by omega) (.bool true))
 have HB4:=yiO ((HB3.out.setCell (p:=⟨w.heap.size,10,none⟩) (yiP _) (.string ⟨(encW 3 qt).toArray⟩)).setCell (p:=⟨w.heap.size,11,none⟩) (yiP _) (.bool true))
 clear hb3 HU2 HR2 HB2 HU3 HR3 HB3 HEQ
 have HUV:=yiO HU4.out
 have HRV:=yiO HR4.out
 have HBV:=yiO HB4.out
 clear HU4 HR4 HB4
 obtain ⟨d0,d1,d2,d3,d4,d5,d6,d7,d8,d9,d10,d11,d12,d13,-⟩:=HUV.out.all
 try simp only [] at d0 d1 d2 d3 d4 d5 d6 d7 d8 d9 d10 d11 d12 d13
 obtain ⟨c0,c1,c2,c3,c4,c5,c6,c7,c8,c9,c10,c11,c12,c13,k0,k1,k2,k3,k4,k5,k6,k7,k8,k9,k10,k11,k12,k13,kf⟩:=HRV.out.all
 have hEB:=zcP HBV.out (show w.heap.size≤w.heap.size+1 by omega) (.string ⟨u.scheme.toArray⟩) (.string ⟨u.user.toArray⟩) (.string ⟨u.pass.toArray⟩) (.int .i64 (hk u.host)) (.string ⟨(hn u.host).toArray⟩) (.bool (hbit u.host)) (.int .u64 (hhi u.host)) (.int .u64 (hlo u.host)) (.int .i64 u.port) (.slice sa sn sc) (.string ⟨(encW 3 qt).toArray⟩) (.bool true) (.string ⟨(u.frag).toArray⟩) (.bool u.hasF)
 have hEC:=zcO HRV.out (.string ⟨u.scheme.toArray⟩) (.string ⟨u.user.toArray⟩) (.string ⟨u.pass.toArray⟩) (.int .i64 (hk u.host)) (.string ⟨(hn u.host).toArray⟩) (.bool (hbit u.host)) (.int .u64 (hhi u.host)) (.int .u64 (hlo u.host)) (.int .i64 u.port) (.slice sa sn sc) (.string ⟨(encW 3 qt).toArray⟩) (.bool true) (.string ⟨(u.frag).toArray⟩) (.bool u.hasF)
 unfold zbJ at hEB hEC
 have HEB:=yiO hEB
 have HEC:=yiO hEC
 clear hEB hEC HUV HRV HBV
 go_wp2
 obtain ⟨e0,e1,e2,e3,e4,e5,e6,e7,e8,e9,e10,e11,e12,e13⟩:=HEC.out
 refine bodyPost_ret (v:= .agg #[.string ⟨u.scheme.toArray⟩,.string ⟨u.user.toArray⟩,.string ⟨u.pass.toArray⟩,.int .i64 (hk u.host),.string ⟨(hn u.host).toArray⟩,.bool (hbit u.host),.int .u64 (hhi u.host),.int .u64 (hlo u.host),.int .i64 u.port,.slice sa sn sc,.string ⟨(encW 3 qt).toArray⟩,.bool true,.string ⟨(u.frag).toArray⟩,.bool u.hasF]) (by simp [results,Tryz.results63,go_sem,e0,e1,e2,e3,e4,e5,e6,e7,e8,e9,e10,e11,e12,e13]) rfl ?_
 exact ⟨by rw [HRES.out];rfl,HEB.out⟩
theorem yfU (u:UZ) (sa:Option Addr) (sn sc:Nat) (l:List UInt8) (w:World) (hl:l.length≤1000000) (h63:l.head? =some 63) (hf:l.findIdx (hasB [35])<l.length):
  Calls Tryz.prog 63 #[.agg (u.ref (.slice sa sn sc)),.string ⟨l.toArray⟩] w (RetV w (zdC u l) (.slice sa sn sc)):=by
 have HRES:Hid (zdC u l={u with query:=encW 3 ((l.take (l.findIdx (hasB [35]))).drop 1),hasQ:=true,frag:=encW 1 (l.drop (l.findIdx (hasB [35])+1)),hasF:=true}):=by
  show _=_
  unfold zdC frgW qryW
  rw [zzX,if_pos hf,if_pos h63]
 obtain ⟨x2,hx2⟩: ∃y,y=(w.alloc (.cells (u.ref (.slice sa sn sc)) 38)).alloc (.cells zaN 38):=⟨_,rfl⟩
 obtain ⟨hu,hr,hbw,hsz⟩:=zcZ zbP hx2
 have HU2:=yiO hu
 have HR2:=yiO hr
 have HB2:=yiO hbw
 simp only [UZ.ref,zaN] at hx2
 clear hu hr hbw
 have hz:=zaA l
 have hil:l.findIdx (hasB [35])≤l.length:=List.findIdx_le_length
 have HFI:=yiO (fun W=>zdU l [35] W (by omega) (by decide))
 obtain ⟨r,hlr⟩: ∃r,l=63::r:=by
  match l,h63 with
  |c::r,h=>exact ⟨r,by rw [show c=63 by simpa using h]⟩
 have hi1:1≤l.findIdx (hasB [35]):=by rw [hlr,List.findIdx_cons,show hasB [35] 63=false by decide];exact Nat.le_add_left _ _
 have h0:0<(ByteArray.mk l.toArray).size:=by rw [hz,hlr];simp
 have hb0:(ByteArray.mk l.toArray)[0]=63:=by subst hlr;rfl
 have hd0:0<l.length:=by rw [hlr,List.length_cons];omega
 have hs1: ∀W,(Instr.slice 9 (.string ⟨l.toArray⟩) (some (.int .i64 1)) (some (.int .i64 (l.findIdx (hasB [35]):Nat))) none).run Tryz.prog W= .ok (.string ⟨((l.take (l.findIdx (hasB [35]))).drop 1).toArray⟩) W:=z6P l 1 _ hi1 hil
 have hq1:((l.take (l.findIdx (hasB [35]))).drop 1).length≤l.length:=by rw [List.length_drop,List.length_take];omega
 have HEQ:Hid (∀W,Calls Tryz.prog 56 #[.int .i64 3,.string ⟨((l.take (l.findIdx (hasB [35]))).drop 1).toArray⟩] W fun e w'=>e= .returned (.string ⟨(encW 3 ((l.take (l.findIdx (hasB [35]))).drop 1)).toArray⟩)∧Below W.heap.size W w'):=fun W=>zdQ 3 ⟨((l.take (l.findIdx (hasB [35]))).drop 1).toArray⟩ W (by decide) (by rw [zaA];omega)
 have hs2:=zhA l (l.findIdx (hasB [35])) hf
 have hf1:(l.drop (l.findIdx (hasB [35])+1)).length≤l.length:=by rw [List.length_drop];omega
 have HEF:Hid (∀W,Calls Tryz.prog 56 #[.int .i64 1,.string ⟨(l.drop (l.findIdx (hasB [35])+1)).toArray⟩] W fun e w'=>e= .returned (.string ⟨(encW 1 (l.drop (l.findIdx (hasB [35])+1))).toArray⟩)∧Below W.heap.size W w'):=fun W=>zdQ 1 ⟨(l.drop (l.findIdx (hasB [35])+1)).toArray⟩ W (by decide) (by rw [zaA];omega)
 have hdi:=hf
 generalize l.drop (l.findIdx (hasB [35])+1)=fg at*
 generalize (l.take (l.findIdx (hasB [35]))).drop 1=qt at*
 clear hlr h63
 generalize l.findIdx (hasB [35])=i at*
 clear hf hil
 clear hi1
 go_enter Tryz.func63,Tryz.ntmps63
 simp only [UZ.ref]
 go_wp2_with fail
 rw [←hx2]
 clear hx2
 refine (HFI.out _).mono ?_
 rintro e w' ⟨rfl,rfl⟩
 go_wp2_with fail
 refine (HEQ.out _).mono ?_
 rintro e x3 ⟨rfl,hb3⟩
 have HU3:=yiO (HU2.out.below hb3)
 have HR3:=yiO (HR2.out.below hb3)
 have HB3:=yiO (zaC HB2.out hb3)
 obtain ⟨⟨q0,q1,q2,q3⟩,-⟩:=HU3.out.st (.string ⟨(encW 3 qt).toArray⟩) .nilIface
 have HU4:=yiO (HU3.out.q (encW 3 qt))
 have HR4:=yiO ((HR3.out.set (g:=w.heap.size) (i:=10) (by omega) (.string ⟨(encW 3 qt).toArray⟩)).set (g:=w.heap.size) (i:=11) (by omega) (.bool true))
 have HB4:=yiO ((HB3.out.setCell (p:=⟨w.heap.size,10,none⟩) (yiP _) (.string ⟨(encW 3 qt).toArray⟩)).setCell (p:=⟨w.heap.size,11,none⟩) (yiP _) (.bool true))
 clear hb3 HU2 HR2 HB2 HU3 HR3 HB3 HEQ
 go_wp2_with fail
 clear q0 q1 q2 q3
 generalize ((x3.setCell ⟨w.heap.size,10,none⟩ (.string ⟨(encW 3 qt).toArray⟩)).setCell ⟨w.heap.size,11,none⟩ (.bool true))=x4 at*
 refine (HEF.out _).mono ?_
 rintro e x5 ⟨rfl,hb5⟩
 have HU5:=yiO (HU4.out.below hb5)
 have HR5:=yiO (HR4.out.below hb5)
 have HB5:=yiO (zaC HB4.out hb5)
 obtain ⟨-,q4,q5,q6,q7⟩:=HU5.out.st .nilIface (.string ⟨(encW 1 fg).toArray⟩)
 have HUV:=yiO (HU5.out.f (encW 1 fg))
 have HRV:=yiO ((HR5.out.set (g:=w.heap.size) (i:=12) (by omega) (.string ⟨(encW 1 fg).toArray⟩)).set (g:=w.heap.size) (i:=13) (by omega) (.bool true))
 have HBV:=yiO ((HB5.out.setCell (p:=⟨w.heap.size,12,none⟩) (yiP _) (.string ⟨(encW 1 fg).toArray⟩)).setCell (p:=⟨w.heap.size,13,none⟩) (yiP _) (.bool true))
 clear hb5 HU4 HR4 HB4 HU5 HR5 HB5 HEF
 obtain ⟨d0,d1,d2,d3,d4,d5,d6,d7,d8,d9,d10,d11,d12,d13,-⟩:=HUV.out.all
 try simp only [] at d0 d1 d2 d3 d4 d5 d6 d7 d8 d9 d10 d11 d12 d13
 obtain ⟨c0,c1,c2,c3,c4,c5,c6,c7,c8,c9,c10,c11,c12,c13,k0,k1,k2,k3,k4,k5,k6,k7,k8,k9,k10,k11,k12,k13,kf⟩:=HRV.out.all
 have hEB:=zcP HBV.out (show w.heap.size≤w.heap.size+1 by omega) (.string ⟨u.scheme.toArray⟩) (.string ⟨u.user.toArray⟩) (.string ⟨u.pass.toArray⟩) (.int .i64 (hk u.host)) (.string ⟨(hn u.host).toArray⟩) (.bool (hbit u.host)) (.int .u64 (hhi u.host)) (.int .u64 (hlo u.host)) (.int .i64 u.port) (.slice sa sn sc) (.string ⟨(encW 3 qt).toArray⟩) (.bool true) (.string ⟨(encW 1 fg).toArray⟩) (.bool true)
 have hEC:=zcO HRV.out (.string ⟨u.scheme.toArray⟩) (.string ⟨u.user.toArray⟩) (.string ⟨u.pass.toArray⟩) (.int .i64 (hk u.host)) (.string ⟨(hn u.host).toArray⟩) (.bool (hbit u.host)) (.int .u64 (hhi u.host)) (.int .u64 (hlo u.host)) (.int .i64 u.port) (.slice sa sn sc) (.string ⟨(encW 3 qt).toArray⟩) (.bool true) (.string ⟨(encW 1 fg).toArray⟩) (.bool true)
 unfold zbJ at hEB hEC
 have HEB:=yiO hEB
 have HEC:=yiO hEC
 clear hEB hEC HUV HRV HBV
 go_wp2
 obtain ⟨e0,e1,e2,e3,e4,e5,e6,e7,e8,e9,e10,e11,e12,e13⟩:=HEC.out
 refine bodyPost_ret (v:= .agg #[.string ⟨u.scheme.toArray⟩,.string ⟨u.user.toArray⟩,.string ⟨u.pass.toArray⟩,.int .i64 (hk u.host),.string ⟨(hn u.host).toArray⟩,.bool (hbit u.host),.int .u64 (hhi u.host),.int .u64 (hlo u.host),.int .i64 u.port,.slice sa sn sc,.string ⟨(encW 3 qt).toArray⟩,.bool true,.string ⟨(encW 1 fg).toArray⟩,.bool true]) (by simp [results,Tryz.results63,go_sem,e0,e1,e2,e3,e4,e5,e6,e7,e8,e9,e10,e11,e12,e13]) rfl ?_
 exact ⟨by rw [HRES.out];rfl,HEB.out⟩
theorem zjM (u:UZ) (sa:Option Addr) (sn sc:Nat) (l:List UInt8) (w:World) (hl:l.length≤1000000):
  Calls Tryz.prog 63 #[.agg (u.ref (.slice sa sn sc)),.string ⟨l.toArray⟩] w (RetV w (zdC u l) (.slice sa sn sc)):=by
 by_cases h63:l.head? =some 63
 ·by_cases hf:l.findIdx (hasB [35])<l.length
  ·exact yfU u sa sn sc l w hl h63 hf
  ·exact tail_q u sa sn sc l w hl h63 hf
 ·by_cases hf:l.findIdx (hasB [35])<l.length
  ·exact tail_f u sa sn sc l w hl h63 hf
  ·exact tail_n u sa sn sc l w hl h63 hf
def RetW (w:World) (u:UZ) (e:Ending) (w':World):Prop:= ∃pv,e= .returned (.agg (u.ref pv))∧zaM w.heap.size w' pv u.path∧Below w.heap.size w w'
theorem VB.pth {w:World} {U:Nat} {u:UZ} {pv:Value} (h:VB w U u pv) (v:Value):VB (w.setCell ⟨U,9,none⟩ v) U u v:=zaF h 9 _
theorem VB.cells14 {w:World} {U:Nat} {u:UZ} {ta:Option Addr} {tn tc:Nat} (h:VB w U u (.slice ta tn tc)):w.cell? ⟨U,0,none⟩=some (.string ⟨u.scheme.toArray⟩)∧w.cell? ⟨U,1,none⟩=some (.string ⟨u.user.toArray⟩)∧w.cell? ⟨U,2,none⟩=some (.string ⟨u.pass.toArray⟩)∧w.cell? ⟨U,3,none⟩=some (.int .i64 (hk u.host))∧w.cell? ⟨U,4,none⟩=some (.string ⟨(hn u.host).toArray⟩)∧w.cell? ⟨U,5,none⟩=some (.bool (hbit u.host))∧w.cell? ⟨U,6,none⟩=some (.int .u64 (hhi u.host))∧w.cell? ⟨U,7,none⟩=some (.int .u64 (hlo u.host))∧w.cell? ⟨U,8,none⟩=some (.int .i64 u.port)∧w.cell? ⟨U,9,none⟩=some (.slice ta tn tc)∧w.cell? ⟨U,10,none⟩=some (.string ⟨u.query.toArray⟩)∧w.cell? ⟨U,11,none⟩=some (.bool u.hasQ)∧w.cell? ⟨U,12,none⟩=some (.string ⟨u.frag.toArray⟩)∧w.cell? ⟨U,13,none⟩=some (.bool u.hasF):=
 ⟨zaE h 0,zaE h 1,zaE h 2,zaE h 3,zaE h 4,zaE h 5,zaE h 6,zaE h 7,zaE h 8,zaE h 9,zaE h 10,zaE h 11,zaE h 12,zaE h 13⟩
theorem VB.keep {w w':World} {U:Nat} {u:UZ} {pv:Value} (h:VB w U u pv) (e:w'.heap[U]? =w.heap[U]?):VB w' U u pv:=e.trans h
theorem znS (u:UZ) (l:List UInt8):(zdC u l).path=u.path:=by
 unfold zdC
 rw [(zkI (qryW u l) l).2.2.2.2.2.1,(zkA u l).2.2.2.2.2.1]
theorem ziL (u:UZ) (sa:Option Addr) (sn sc:Nat) (fv:Value) (from_:List (List UInt8)) (l:List UInt8) (w:World) (hl:l.length≤1000000) (hfl:from_.length≤1000000) (hf:PV w fv from_):
  Calls Tryz.prog 62 #[.agg (u.ref (.slice sa sn sc)),fv,.string ⟨l.toArray⟩] w (RetW w (zcY u from_ l)):=by
 have HRES:Hid (zcY u from_ l=zdC {u with path:=zjC from_ (l.take (l.findIdx (hasB [63,35])))} (l.drop (l.findIdx (hasB [63,35])))):=rfl
 obtain ⟨x2,hx2⟩: ∃y,y=(w.alloc (.cells (u.ref (.slice sa sn sc)) 38)).alloc (.cells zaN 38):=⟨_,rfl⟩
 obtain ⟨hu,hr,hbw,hsz⟩:=zcZ zbP hx2
 have HU2:=yiO hu
 have HR2:=yiO hr
 have HB2:=yiO hbw
 simp only [UZ.ref,zaN] at hx2
 have HF2:=yiO (hf.keep hbw)
 obtain ⟨fa,fn,fc,rfl⟩:=hf.shape
 clear hu hr hbw hf
 have hz:=zaA l
 have hil:l.findIdx (hasB [63,35])≤l.length:=List.findIdx_le_length
 have HFI:=yiO (fun W=>zdU l [63,35] W (by omega) (by decide))
 have hs1:=zkE l (l.findIdx (hasB [63,35])) hil
 have hs2:=zfD l (l.findIdx (hasB [63,35])) hil
 have htl:(l.take (l.findIdx (hasB [63,35]))).length≤l.length:=by rw [List.length_take];omega
 have hdl:(l.drop (l.findIdx (hasB [63,35]))).length≤l.length:=by rw [List.length_drop];omega
 generalize l.drop (l.findIdx (hasB [63,35]))=rest at*
 generalize l.take (l.findIdx (hasB [63,35]))=part at*
 generalize l.findIdx (hasB [63,35])=i at*
 have HPA:=yiO (zwK part (.slice fa fn fc) from_ x2 (by omega) hfl HF2.out)
 generalize zjC from_ part=ps at*
 go_enter Tryz.func62,Tryz.ntmps62
 simp only [UZ.ref]
 go_wp2_with fail
 rw [←hx2]
 clear hx2
 refine (HFI.out _).mono ?_
 rintro e w' ⟨rfl,rfl⟩
 go_wp2_with fail
 refine HPA.out.mono ?_
 rintro e x3 ⟨pv,rfl,hp3,hb3⟩
 obtain ⟨ta,tn,tc,rfl⟩:=hp3.pv.shape
 have HP3:=yiO hp3
 have HU3:=yiO (HU2.out.below hb3)
 have HR3:=yiO (HR2.out.below hb3)
 have HB3:=yiO (zaC HB2.out hb3)
 obtain ⟨-,-,-,-,-,-,-,-,-,q9,-,-,-,-,qf⟩:=HU3.out.all
 have f9:=qf 9
 have hset:Only [w.heap.size] x3 (x3.setCell ⟨w.heap.size,9,none⟩ (.slice ta tn tc)):=(Only.refl _ _).setCell (p:=⟨w.heap.size,9,none⟩) (.inl (List.mem_cons_self ..)) _
 have HU4:Hid (VB (x3.setCell ⟨w.heap.size,9,none⟩ (.slice ta tn tc)) w.heap.size {u with path:=ps} (.slice ta tn tc)):=HU3.out.pth (.slice ta tn tc)
 have HR4:=yiO (HR3.out.set (g:=w.heap.size) (i:=9) (by omega) (.slice ta tn tc))
 have HB4:=yiO (HB3.out.setCell (p:=⟨w.heap.size,9,none⟩) (yiP _) (.slice ta tn tc))
 have HP4:=yiO (HP3.out.only hset (fun b hb=>by rw [List.mem_singleton.1 hb];omega))
 clear hp3 hb3 HU2 HR2 HB2 HU3 HR3 HB3 HP3 HPA qf hset HF2
 go_wp2_with fail
 clear q9 f9
 generalize x3.setCell ⟨w.heap.size,9,none⟩ (.slice ta tn tc)=x4 at*
 have hgs:w.heap.size<x4.heap.size:=zaO HU4.out
 have HTL:Hid (∀W,Below x4.heap.size x4 W→Calls Tryz.prog 63 #[.agg #[.string ⟨u.scheme.toArray⟩,.string ⟨u.user.toArray⟩,.string ⟨u.pass.toArray⟩,.int .i64 (hk u.host),.string ⟨(hn u.host).toArray⟩,.bool (hbit u.host),.int .u64 (hhi u.host),.int .u64 (hlo u.host),.int .i64 u.port,.slice ta tn tc,.string ⟨u.query.toArray⟩,.bool u.hasQ,.string ⟨u.frag.toArray⟩,.bool u.hasF],.string ⟨rest.toArray⟩] W fun e w'=>e= .returned (.agg ((zdC {u with path:=ps} rest).ref (.slice ta tn tc)))∧Below x4.heap.size x4 w'):=fun W hW=>(zjM {u with path:=ps} ta tn tc rest W (by omega)).mono (fun e w' h=>⟨h.1,zaC hW h.2⟩)
 have HTP:Hid ((zdC {u with path:=ps} rest).path=ps):=znS _ _
 generalize zdC {u with path:=ps} rest=v at*
 have HKK:Hid (∀x,Below x4.heap.size x4 x→x.cell? ⟨w.heap.size,0,none⟩=some (.string ⟨u.scheme.toArray⟩)∧x.cell? ⟨w.heap.size,1,none⟩=some (.string ⟨u.user.toArray⟩)∧x.cell? ⟨w.heap.size,2,none⟩=some (.string ⟨u.pass.toArray⟩)∧x.cell? ⟨w.heap.size,3,none⟩=some (.int .i64 (hk u.host))∧x.cell? ⟨w.heap.size,4,none⟩=some (.string ⟨(hn u.host).toArray⟩)∧x.cell? ⟨w.heap.size,5,none⟩=some (.bool (hbit u.host))∧x.cell? ⟨w.heap.size,6,none⟩=some (.int .u64 (hhi u.host))∧x.cell? ⟨w.heap.size,7,none⟩=some (.int .u64 (hlo u.host))∧x.cell? ⟨w.heap.size,8,none⟩=some (.int .i64 u.port)∧x.cell? ⟨w.heap.size,9,none⟩=some (.slice ta tn tc)∧x.cell? ⟨w.heap.size,10,none⟩=some (.string ⟨u.query.toArray⟩)∧x.cell? ⟨w.heap.size,11,none⟩=some (.bool u.hasQ)∧x.cell? ⟨w.heap.size,12,none⟩=some (.string ⟨u.frag.toArray⟩)∧x.cell? ⟨w.heap.size,13,none⟩=some (.bool u.hasF)):=fun x hb=>((HU4.out.keep (hb.block _ hgs)).cells14:_)
 have hSP: ∀x,Below x4.heap.size x4 x→ ∀y,y=zbJ x (w.heap.size+1) (.string ⟨v.scheme.toArray⟩) (.string ⟨v.user.toArray⟩) (.string ⟨v.pass.toArray⟩) (.int .i64 (hk v.host)) (.string ⟨(hn v.host).toArray⟩) (.bool (hbit v.host)) (.int .u64 (hhi v.host)) (.int .u64 (hlo v.host)) (.int .i64 v.port) (.slice ta tn tc) (.string ⟨v.query.toArray⟩) (.bool v.hasQ) (.string ⟨v.frag.toArray⟩) (.bool v.hasF)→y.cell? ⟨w.heap.size,0,none⟩=some (.string ⟨u.scheme.toArray⟩)∧y.cell? ⟨w.heap.size,1,none⟩=some (.string ⟨u.user.toArray⟩)∧y.cell? ⟨w.heap.size,2,none⟩=some (.string ⟨u.pass.toArray⟩)∧y.cell? ⟨w.heap.size,3,none⟩=some (.int .i64 (hk u.host))∧y.cell? ⟨w.heap.size,4,none⟩=some (.string ⟨(hn u.host).toArray⟩)∧y.cell? ⟨w.heap.size,5,none⟩=some (.bool (hbit u.host))∧y.cell? ⟨w.heap.size,6,none⟩=some (.int .u64 (hhi u.host))∧y.cell? ⟨w.heap.size,7,none⟩=some (.int .u64 (hlo u.host))∧y.cell? ⟨w.heap.size,8,none⟩=some (.int .i64 u.port)∧y.cell? ⟨w.heap.size,9,none⟩=some (.slice ta tn tc)∧y.cell? ⟨w.heap.size,10,none⟩=some (.string ⟨u.query.toArray⟩)∧y.cell? ⟨w.heap.size,11,none⟩=some (.bool u.hasQ)∧y.cell? ⟨w.heap.size,12,none⟩=some (.string ⟨u.frag.toArray⟩)∧y.cell? ⟨w.heap.size,13,none⟩=some (.bool u.hasF):=fun x hb y hy=>by subst hy;exact ((HU4.out.keep ((znL (show w.heap.size≠w.heap.size+1 by omega) _ _ _ _ _ _ _ _ _ _ _ _ _ _).trans (hb.block _ hgs))).cells14:_)
 unfold zbJ at hSP
 have HSP:=yiO hSP
 have HRR:Hid (∀x,Below x4.heap.size x4 x→RV x (w.heap.size+1)):=fun x hb=>HR4.out.below hb
 clear hSP
 refine wp_region_held_drew (S:=fun W=>W.cell? ⟨w.heap.size,0,none⟩=some (.string ⟨u.scheme.toArray⟩)∧W.cell? ⟨w.heap.size,1,none⟩=some (.string ⟨u.user.toArray⟩)∧W.cell? ⟨w.heap.size,2,none⟩=some (.string ⟨u.pass.toArray⟩)∧W.cell? ⟨w.heap.size,3,none⟩=some (.int .i64 (hk u.host))∧W.cell? ⟨w.heap.size,4,none⟩=some (.string ⟨(hn u.host).toArray⟩)∧W.cell? ⟨w.heap.size,5,none⟩=some (.bool (hbit u.host))∧W.cell? ⟨w.heap.size,6,none⟩=some (.int .u64 (hhi u.host))∧W.cell? ⟨w.heap.size,7,none⟩=some (.int .u64 (hlo u.host))∧W.cell? ⟨w.heap.size,8,none⟩=some (.int .i64 u.port)∧W.cell? ⟨w.heap.size,9,none⟩=some (.slice ta tn tc)∧W.cell? ⟨w.heap.size,10,none⟩=some (.string ⟨u.query.toArray⟩)∧W.cell? ⟨w.heap.size,11,none⟩=some (.bool u.hasQ)∧W.cell? ⟨w.heap.size,12,none⟩=some (.string ⟨u.frag.toArray⟩)∧W.cell? ⟨w.heap.size,13,none⟩=some (.bool u.hasF)) (by kernel_rfl) ?_ (fun hHeld=> ?_)
 ·exact (HKK.out _ (zbB _))
 refine tkc 0 (some 16) (v:= ?_) rfl (.inl ⟨by rfl,?_⟩) hHeld ?_;rotate_left;·intro w hSw;(try dsimp only at hSw);go_simp;try with_reducible rfl
 try simp only [Act.put,tkca,tkcb,tkcc]
 refine tkc 1 (some 17) (v:= ?_) rfl (.inl ⟨by rfl,?_⟩) hHeld ?_;rotate_left;·intro w hSw;(try dsimp only at hSw);go_simp;try with_reducible rfl
 try simp only [Act.put,tkca,tkcb,tkcc]
 refine tkc 2 (some 18) (v:= ?_) rfl (.inl ⟨by rfl,?_⟩) hHeld ?_;rotate_left;·intro w hSw;(try dsimp only at hSw);go_simp;try with_reducible rfl
 try simp only [Act.put,tkca,tkcb,tkcc]
 refine tkc 3 (some 19) (v:= ?_) rfl (.inl ⟨by rfl,?_⟩) hHeld ?_;rotate_left;·intro w hSw;(try dsimp only at hSw);go_simp;try with_reducible rfl
 try simp only [Act.put,tkca,tkcb,tkcc]
 refine wpAnyH_ready (rs:=[4]) (by kernel_rfl) (by simp) ?_
 refine AllReadyH.cons (o:=⟨some 20,_,_,_,_,_⟩) rfl (fun K hK=> ?_) AllReadyH.nil
 go_simp
 go_at_call 63
 refine (HTL.out _ (zbB _)).mono ?_
 rintro e x9 ⟨rfl,hb9⟩
 obtain ⟨c0,c1,c2,c3,c4,c5,c6,c7,c8,c9,c10,c11,c12,c13,k0,k1,k2,k3,k4,k5,k6,k7,k8,k9,k10,k11,k12,k13,kf⟩:=(HRR.out _ hb9).all
 simp only [UZ.ref]
 (try go_wp2_with fail)
 refine hK.out _ _ ?_ (fun hHeld1=> ?_)
 ·exact (HKK.out _ hb9)
 clear hK K
 try simp only [Act.put,tkca,tkcb,tkcc]
 refine wpAnyH_ready (rs:=[5]) (by kernel_rfl) (by simp) ?_
 refine AllReadyH.cons (o:=⟨none,_,_,_,_,_⟩) rfl (fun K hK=> ?_) AllReadyH.nil
 go_simp
 refine hK.out _ _ ?_ (fun hHeld2=> ?_)
 ·exact (HSP.out _ hb9 _ rfl)
 clear hK K
 try simp only [Act.put,tkca,tkcb,tkcc]
 refine wpAnyH_done (by kernel_rfl) ?_ _
 have hEB:=zbC (zaC HB4.out hb9) (show w.heap.size≤w.heap.size+1 by omega) v (.slice ta tn tc)
 have hEC:=zbF (HRR.out _ hb9) v (.slice ta tn tc) _ rfl
 have hEP:=(HP4.out.below hb9).only (zbS (g:=w.heap.size+1) v (.slice ta tn tc)) (fun b hb=>by rw [List.mem_singleton.1 hb];omega)
 unfold zbJ at hEB hEC hEP
 have HEB:=yiO hEB
 have HEC:=yiO hEC
 have HEP:=yiO hEP
 clear hEB hEC hEP
 go_wp2
 obtain ⟨e0,e1,e2,e3,e4,e5,e6,e7,e8,e9,e10,e11,e12,e13⟩:=HEC.out
 refine bodyPost_ret (v:= .agg (v.ref (.slice ta tn tc))) (by simp [results,Tryz.results62,go_sem,e0,e1,e2,e3,e4,e5,e6,e7,e8,e9,e10,e11,e12,e13,UZ.ref]) rfl ?_
 rw [HRES.out]
 exact ⟨_,rfl,by rw [HTP.out];exact zbU HEP.out (by omega),HEB.out⟩
def AtK (a:List UInt8) (k:Nat) (z:Int):Prop:=(z= -1∧ ∀j (_:j<a.length),j<k→a[j]≠64)∨ ∃(i:Nat) (_:i<a.length),i<k∧z=i∧a[i]=64∧ ∀j (_:j<a.length),i<j→j<k→a[j]≠64
theorem yeZ {a:List UInt8} {k:Nat} {z:Int} (_h:AtK a k z) (hk:k<a.length) (he:a[k]=64):AtK a (k+1) k:=
 .inr ⟨k,hk,Nat.lt_succ_self _,rfl,he,fun j _ h1 h2=>by omega⟩
theorem atK_no {a:List UInt8} {k:Nat} {z:Int} (h:AtK a k z) (hk:k<a.length) (he:a[k]≠64):AtK a (k+1) z:=by
 rcases h with ⟨h1,h2⟩|⟨i,hi,h1,h2,h3,h4⟩
 ·refine .inl ⟨h1,fun j hj hjk=> ?_⟩
  by_cases e:j=k
  ·subst e;exact he
  ·exact h2 j hj (by omega)
 ·refine .inr ⟨i,hi,by omega,h2,h3,fun j hj h5 hjk=> ?_⟩
  by_cases e:j=k
  ·subst e;exact he
  ·exact h4 j hj h5 (by omega)
theorem yfK {a:List UInt8} {z:Int} (h:AtK a a.length z):(z= -1∧atW a=none)∨ ∃i:Nat,i<a.length∧z=i∧atW a=some i:=by
 rcases h with ⟨h1,h2⟩|⟨i,hi,_,h2,h3,h4⟩
 ·refine .inl ⟨h1,zyF fun g=> ?_⟩
  obtain ⟨j,hj,e⟩:=List.getElem_of_mem g
  exact h2 j hj hj e
 ·refine .inr ⟨i,hi,h2,?_⟩
  have e:a=a.take i++64::a.drop (i+1):=by rw [←h3,←List.drop_eq_getElem_cons hi,List.take_append_drop]
  have hn:(64:UInt8)∉a.drop (i+1):=fun g=>by
   obtain ⟨j,hj,e⟩:=List.getElem_of_mem g
   rw [List.length_drop] at hj
   rw [List.getElem_drop] at e
   exact h4 (i+1+j) (by omega) (by omega) (by omega) e
  have:=zzW (a:=a.take i) hn
  rw [←e,List.length_take,Nat.min_eq_left (by omega)] at this
  exact this
theorem has58:hasB [58]=fun c=>c==58:=by
 funext c
 have:(58==c)=(c==58):=by rw [Bool.eq_iff_iff,beq_iff_eq,beq_iff_eq];exact eq_comm
 simp [hasB,this]
theorem ydK {a:List UInt8} (h:atW a=none):ziZ a=[]∧zjB a=[]∧zcH a=a:=zvF a h
theorem yfQ {a:List UInt8} {i:Nat} (h:atW a=some i):ziZ a=encW 5 ((a.take i).take ((a.take i).findIdx (hasB [58])))∧zjB a=(if (a.take i).findIdx (hasB [58])<(a.take i).length then encW 5 ((a.take i).drop ((a.take i).findIdx (hasB [58])+1)) else [])∧zcH a=a.drop (i+1):=by
 unfold ziZ zjB zcH
 rw [h,has58];exact ⟨rfl,rfl,rfl⟩
theorem auth_6 {name l a rest hs ps:List UInt8} (h1:l.take (l.findIdx (hasB [47,92,63,35]))=a) (h2:l.drop (l.findIdx (hasB [47,92,63,35]))=rest) (h3:hpW false (zcH a)=(hs,ps)) (h0:hs=[]):zcU name l=(zbX,6):=by
 unfold zcU
 simp only [h1,h2,h3]
 exact if_pos h0
theorem auth_e {name l a rest hs ps:List UInt8} (h1:l.take (l.findIdx (hasB [47,92,63,35]))=a) (h2:l.drop (l.findIdx (hasB [47,92,63,35]))=rest) (h3:hpW false (zcH a)=(hs,ps)) (h0:hs≠[]) (h4:(zeM hs).2≠0):zcU name l=(zbX,(zeM hs).2):=by
 unfold zcU
 simp only [h1,h2,h3]
 rw [if_neg h0,if_pos h4]
theorem auth_8 {name l a rest hs ps:List UInt8} (h1:l.take (l.findIdx (hasB [47,92,63,35]))=a) (h2:l.drop (l.findIdx (hasB [47,92,63,35]))=rest) (h3:hpW false (zcH a)=(hs,ps)) (h0:hs≠[]) (h4:(zeM hs).2=0) (h5:zfX ps= -2):zcU name l=(zbX,8):=by
 unfold zcU
 simp only [h1,h2,h3]
 rw [if_neg h0,if_neg (fun g=>g h4),if_pos h5]
theorem yfN {name l a rest hs ps:List UInt8} (h1:l.take (l.findIdx (hasB [47,92,63,35]))=a) (h2:l.drop (l.findIdx (hasB [47,92,63,35]))=rest) (h3:hpW false (zcH a)=(hs,ps)) (h0:hs≠[]) (h4:(zeM hs).2=0) (h5:zfX ps≠ -2):
  zcU name l=(zcY {zbX with scheme:=name,user:=ziZ a,pass:=zjB a,host:=(zeM hs).1,port:=if zfX ps=ownZ name then -1 else zfX ps} [] (offW rest),0):=by
 unfold zcU
 simp only [h1,h2,h3]
 rw [if_neg h0,if_neg (fun g=>g h4),if_neg h5]
theorem zkF (rest:List UInt8):(rest=[]∧zaY rest=false)∨ ∃c r,rest=c::r∧zaY rest=zcB c:=by
 match rest with
 |[]=>exact .inl ⟨rfl,rfl⟩
 |c::r=>exact .inr ⟨c,r,rfl,rfl⟩
theorem off_no {rest:List UInt8} (h:zaY rest=false):offW rest=rest:=by
 match rest,h with
 |[],_=>rfl
 |c::r,h=>show (if zcB c=true then r else c::r)=c::r;rw [if_neg (by rw [show zcB c=false from h];decide)]
theorem yeD {rest:List UInt8} (h:zaY rest=true):1≤rest.length∧offW rest=rest.drop 1:=by
 match rest,h with
 |c::r,h=>exact ⟨by simp,by show (if zcB c=true then r else c::r)=r;rw [if_pos (show zcB c=true from h)]⟩
def RetX (w:World) (x:UZ×Int) (e:Ending) (w':World):Prop:= ∃pv,e= .returned (.tuple #[.agg (x.1.ref pv),.int .i64 x.2])∧zaM w.heap.size w' pv x.1.path∧Below w.heap.size w w'
theorem VB.who {w:World} {U:Nat} {u:UZ} {pv:Value} (h:VB w U u pv) (q:List UInt8):VB (w.setCell ⟨U,1,none⟩ (.string ⟨q.toArray⟩)) U {u with user:=q} pv:=zaF h 1 _
theorem VB.pwd {w:World} {U:Nat} {u:UZ} {pv:Value} (h:VB w U u pv) (q:List UInt8):VB (w.setCell ⟨U,2,none⟩ (.string ⟨q.toArray⟩)) U {u with pass:=q} pv:=zaF h 2 _
theorem VB.hp {w:World} {U:Nat} {u:UZ} {pv:Value} (h:VB w U u pv) (x:HZ) (n:Int):VB ((((((w.setCell ⟨U,3,none⟩ (.int .i64 (hk x))).setCell ⟨U,4,none⟩ (.string ⟨(hn x).toArray⟩)).setCell ⟨U,5,none⟩ (.bool (hbit x))).setCell ⟨U,6,none⟩ (.int .u64 (hhi x))).setCell ⟨U,7,none⟩ (.int .u64 (hlo x))).setCell ⟨U,8,none⟩ (.int .i64 n)) U {u with host:=x,port:=n} pv:=
 zaF (zaF (zaF (zaF (zaF (zaF h 3 _) 4 _) 5 _) 6 _) 7 _) 8 _
theorem ycW {w x:World} {name:List UInt8} (h:x=(w.alloc (.cells zaN 38)).alloc (.cells ({zbX with scheme:=name}.ref (.slice none 0 0)) 38)):RV x w.heap.size∧VB x (w.heap.size+1) {zbX with scheme:=name} (.slice none 0 0)∧Below w.heap.size w x∧x.heap.size=w.heap.size+2:=by
 have b0:=zcC w zaN
 have r0:RV (w.alloc (.cells zaN 38)) w.heap.size:=(VB.new w zbX (.slice none 0 0)).rv
 have s0:(w.alloc (.cells zaN 38)).heap.size=w.heap.size+1:=by simp
 generalize w.alloc (.cells zaN 38)=x0 at*
 have b1:=zcC x0 ({zbX with scheme:=name}.ref (.slice none 0 0))
 have u1:=VB.new x0 {zbX with scheme:=name} (.slice none 0 0)
 have s1:(x0.alloc (.cells ({zbX with scheme:=name}.ref (.slice none 0 0)) 38)).heap.size=x0.heap.size+1:=by simp
 rw [←h] at b1 u1 s1
 rw [s0] at u1
 exact ⟨r0.below b1,u1,zaC b0 b1,by omega⟩
theorem zeO (name l:List UInt8) (w:World) (hl:l.length≤100000):
  Calls Tryz.prog 30 #[.string ⟨name.toArray⟩,.string ⟨l.toArray⟩] w (RetX w (zcU name l)):=by
 obtain ⟨i,hi⟩: ∃i,l.findIdx (hasB [47,92,63,35])=i:=⟨_,rfl⟩
 have hil:i≤l.length:=by rw [←hi];exact List.findIdx_le_length
 have HFI:Hid (∀W,Calls Tryz.prog 55 #[.string ⟨l.toArray⟩,.string ⟨#[47,92,63,35]⟩] W fun e w'=>e= .returned (.int .i64 (i:Nat))∧W=w'):=fun W=>by
  have:=zdU l [47,92,63,35] W (by omega) (by decide)
  rw [hi] at this
  exact this
 have hs1:=zkE l i hil
 have hs2:=zfD l i hil
 obtain ⟨a,ha⟩: ∃a,l.take i=a:=⟨_,rfl⟩
 obtain ⟨rest,hrest⟩: ∃a,l.drop i=a:=⟨_,rfl⟩
 have hal:a.length≤l.length:=by rw [←ha,List.length_take];omega
 have hrl:rest.length≤l.length:=by rw [←hrest,List.length_drop];omega
 rw [ha] at hs1
 rw [hrest] at hs2
 have h1:l.take (l.findIdx (hasB [47,92,63,35]))=a:=by rw [hi];exact ha
 have h2:l.drop (l.findIdx (hasB [47,92,63,35]))=rest:=by rw [hi];exact hrest
 obtain ⟨hs,ps,h3⟩: ∃hs ps,hpW false (zcH a)=(hs,ps):=⟨_,_,rfl⟩
 have HA6:=yiO (fun h0=>auth_6 (name:=name) h1 h2 h3 h0)
 have HAE:=yiO (fun h0 h4=>auth_e (name:=name) h1 h2 h3 h0 h4)
 have HA8:=yiO (fun h0 h4 h5=>auth_8 (name:=name) h1 h2 h3 h0 h4 h5)
 have HAO:=yiO (fun h0 h4 h5=>yfN (name:=name) h1 h2 h3 h0 h4 h5)
 have H3:=yiO h3
 have hbl:(zcH a).length≤a.length:=by
  unfold zcH
  cases atW a with
  |none=>exact yiP _
  |some k=>rw [List.length_drop];omega
 have hpl:=z0D (zcH a) false
 rw [h3] at hpl
 simp only at hpl
 clear h1 h2 h3 hi ha hrest
 have hza:=zaA a
 obtain ⟨x2,hx2⟩: ∃y,y=(w.alloc (.cells zaN 38)).alloc (.cells ({zbX with scheme:=name}.ref (.slice none 0 0)) 38):=⟨_,rfl⟩
 obtain ⟨hr,hu,hbw,hsz⟩:=ycW hx2
 have HU2:=yiO hu
 have HR2:=yiO hr
 have HB2:=yiO hbw
 have hz14:({zbX with scheme:=name}:UZ).ref (.slice none 0 0)= #[.string ⟨name.toArray⟩,.string ⟨#[]⟩,.string ⟨#[]⟩,.int .i64 0,.string ⟨#[]⟩,.bool false,.int .u64 0,.int .u64 0,.int .i64 0,.slice none 0 0,.string ⟨#[]⟩,.bool false,.string ⟨#[]⟩,.bool false]:=rfl
 rw [hz14] at hx2
 unfold zaN at hx2
 clear hu hr hbw hz14
 go_enter Tryz.func30,Tryz.ntmps30
 go_wp2_with fail
 rw [←hx2]
 clear hx2
 refine (HFI.out _).mono ?_
 rintro e w' ⟨rfl,rfl⟩
 go_wp2_with fail
 all_goals
  try go_quiet (fail)
 go_wp2
 generalize hq2:World.drewN _ _=q2
 have hqb:Below x2.heap.size x2 q2:=by rw [←hq2];exact zaU (yiS _ _) _
 clear hq2
 have HUQ:=yiO (HU2.out.below hqb)
 have HRQ:=yiO (HR2.out.below hqb)
 have HBQ:=yiO (zaC HB2.out hqb)
 have hsq:=hqb.size
 clear HU2 HR2 HB2 hqb
 go_loopw [10,11] (fun zv kv wr=> ∃(k:Nat) (z:Int),k≤a.length∧kv= .int .i64 k∧zv= .int .i64 z∧Hid (AtK a k z)∧wr=q2) (fun _ kv _=>a.length - (intOf kv).toNat)
 case atStart=>exact ⟨0,-1,Nat.zero_le _,rfl,rfl,.inl ⟨rfl,fun j _ h=>absurd h (Nat.not_lt_zero j)⟩,rfl⟩
 case round=>
  obtain ⟨k,z,hka,rfl,rfl,HK,rfl⟩:=hrel
  by_cases hlt:k<a.length
  ·obtain ⟨hks,c,hba,-,-⟩:=zwS a k hlt
   have hac:a[k]=c:=hba
   have e64:((c.toNat:Int)==64)=decide (c=64):=zlJ (c:=c) (n:=64) (by omega)
   by_cases hc:c=64
   ·have HN:=yiO (yeZ HK.out hlt (hac.trans hc))
    rw [yiR hc] at e64
    clear hc hac HK
    go_wp2
    go_roundw
    case rel=>exact ⟨k+1,k,by omega,by go_num,rfl,HN.out,by trivial⟩
    case measure=>simp [intOf];omega
   ·have HN:=yiO (atK_no HK.out hlt (by rw [hac];exact hc))
    rw [yiQ hc] at e64
    clear hc hac HK
    go_wp2
    go_roundw
    case rel=>exact ⟨k+1,z,by omega,by go_num,rfl,HN.out,by trivial⟩
    case measure=>simp [intOf];omega
  ·obtain rfl:k=a.length:=by omega
   have hat:=yfK HK.out
   clear HK
   go_upto_if 41 with fail
   go_cut [8,12,13] (fun av bv cv wc=>av= .string ⟨(zcH a).toArray⟩∧Hid (VB wc (w.heap.size+1) {zbX with scheme:=name,user:=ziZ a,pass:=zjB a} (.slice none 0 0))∧Hid (RV wc w.heap.size)∧Hid (Below w.heap.size w wc))
   case first=>
    rcases hat with ⟨rfl,hat⟩|⟨m,hm,rfl,hat⟩
    ·obtain ⟨e1,e2,e3⟩:=ydK hat
     clear hat
     go_wp2
     go_meet
     exact ⟨by rw [e3],by rw [e1,e2];exact HUQ.out,HRQ.out,HBQ.out⟩
    ·obtain ⟨e1,e2,e3⟩:=yfQ hat
     have t1:=zkE a m (by omega)
     have t2:=zhA a m hm
     have hwl:(a.take m).length≤a.length:=by rw [List.length_take];omega
     have HE3:=yiO e3
     obtain ⟨us,hus⟩: ∃q,ziZ a=q:=⟨_,rfl⟩
     obtain ⟨pw,hpw⟩: ∃q,zjB a=q:=⟨_,rfl⟩
     rw [hus] at e1
     rw [hpw] at e2
     have HUS:=yiO hus
     have HPW:=yiO hpw
     clear hus hpw e3
     generalize a.take m=who at*
     have hkl:who.findIdx (hasB [58])≤who.length:=List.findIdx_le_length
     have HFW:=yiO (fun W=>zdU who [58] W (by omega) (by decide))
     have t3:=zkE who (who.findIdx (hasB [58])) hkl
     have hul:(who.take (who.findIdx (hasB [58]))).length≤who.length:=by rw [List.length_take];omega
     have HEU:Hid (∀W,Calls Tryz.prog 56 #[.int .i64 5,.string ⟨(who.take (who.findIdx (hasB [58]))).toArray⟩] W fun e w'=>e= .returned (.string ⟨us.toArray⟩)∧Below W.heap.size W w'):=fun W=>by rw [e1];exact zdQ 5 ⟨(who.take (who.findIdx (hasB [58]))).toArray⟩ W (by decide) (by rw [zaA];omega)
     have hmz:(0:Int)≤(m:Int):=by omega
     by_cases hkw:who.findIdx (hasB [58])<who.length
     ·rw [if_pos hkw] at e2
      have t4:=zhA who (who.findIdx (hasB [58])) hkw
      have hpl2:(who.drop (who.findIdx (hasB [58])+1)).length≤who.length:=by rw [List.length_drop];omega
      have HEP:Hid (∀W,Calls Tryz.prog 56 #[.int .i64 5,.string ⟨(who.drop (who.findIdx (hasB [58])+1)).toArray⟩] W fun e w'=>e= .returned (.string ⟨pw.toArray⟩)∧Below W.heap.size W w'):=fun W=>by rw [e2];exact zdQ 5 ⟨(who.drop (who.findIdx (hasB [58])+1)).toArray⟩ W (by decide) (by rw [zaA];omega)
      generalize who.drop (who.findIdx (hasB [58])+1)=wd at*
      generalize who.take (who.findIdx (hasB [58]))=wt at*
      generalize who.findIdx (hasB [58])=kk at*
      clear e1 e2 hat
      go_wp2_with fail
      refine (HFW.out _).mono ?_
      rintro e w' ⟨rfl,rfl⟩
      go_wp2_with fail
      refine (HEU.out _).mono ?_
      rintro e x4 ⟨rfl,hb4⟩
      have HU4:=yiO (HUQ.out.below hb4)
      have HR4:=yiO (HRQ.out.below hb4)
      have HB4:=yiO (zaC HBQ.out hb4)
      obtain ⟨-,q1,-,-,-,-,-,-,-,-,-,-,-,-,qf⟩:=HU4.out.all
      have qf1:=qf 1
      have HU5:=yiO (HU4.out.who us)
      have HR5:=yiO (HR4.out.set (g:=w.heap.size+1) (i:=1) (by omega) (.string ⟨us.toArray⟩))
      have HB5:=yiO (HB4.out.setCell (p:=⟨w.heap.size+1,1,none⟩) (show w.heap.size≤w.heap.size+1 by omega) (.string ⟨us.toArray⟩))
      clear HU4 HR4 HB4 hb4 qf
      go_wp2_with fail
      clear q1 qf1
      generalize x4.setCell ⟨w.heap.size+1,1,none⟩ (.string ⟨us.toArray⟩)=x5 at*
      refine (HEP.out _).mono ?_
      rintro e x6 ⟨rfl,hb6⟩
      have HU6:=yiO (HU5.out.below hb6)
      have HR6:=yiO (HR5.out.below hb6)
      have HB6:=yiO (zaC HB5.out hb6)
      obtain ⟨-,-,q2',-,-,-,-,-,-,-,-,-,-,-,qf⟩:=HU6.out.all
      have qf2:=qf 2
      have HU7:=yiO (HU6.out.pwd pw)
      have HR7:=yiO (HR6.out.set (g:=w.heap.size+1) (i:=2) (by omega) (.string ⟨pw.toArray⟩))
      have HB7:=yiO (HB6.out.setCell (p:=⟨w.heap.size+1,2,none⟩) (show w.heap.size≤w.heap.size+1 by omega) (.string ⟨pw.toArray⟩))
      clear HU6 HR6 HB6 HU5 HR5 HB5 hb6 qf
      go_wp2
      go_meet
      exact ⟨by rw [HE3.out],by rw [HUS.out,HPW.out];exact HU7.out,HR7.out,HB7.out⟩
     ·rw [if_neg hkw] at e2
      have HP0:Hid (pw=[]):=e2
      generalize who.take (who.findIdx (hasB [58]))=wt at*
      generalize who.findIdx (hasB [58])=kk at*
      clear e1 e2 hat
      go_wp2_with fail
      refine (HFW.out _).mono ?_
      rintro e w' ⟨rfl,rfl⟩
      go_wp2_with fail
      refine (HEU.out _).mono ?_
      rintro e x4 ⟨rfl,hb4⟩
      have HU4:=yiO (HUQ.out.below hb4)
      have HR4:=yiO (HRQ.out.below hb4)
      have HB4:=yiO (zaC HBQ.out hb4)
      obtain ⟨-,q1,-,-,-,-,-,-,-,-,-,-,-,-,qf⟩:=HU4.out.all
      have qf1:=qf 1
      have HU5:=yiO (HU4.out.who us)
      have HR5:=yiO (HR4.out.set (g:=w.heap.size+1) (i:=1) (by omega) (.string ⟨us.toArray⟩))
      have HB5:=yiO (HB4.out.setCell (p:=⟨w.heap.size+1,1,none⟩) (show w.heap.size≤w.heap.size+1 by omega) (.string ⟨us.toArray⟩))
      clear HU4 HR4 HB4 hb4 qf
      go_wp2
      go_meet
      exact ⟨by rw [HE3.out],by rw [HUS.out,HPW.out,HP0.out];exact HU5.out,HR5.out,HB5.out⟩
   case rest=>
    rename World=>y
    obtain ⟨rfl,HUY,HRY,HBY⟩:=hcut
    clear HUQ HRQ HBQ hat
    have HSPL:=yiO (zpE (zcH a) y (by omega))
    rw [H3.out] at HSPL
    generalize zcH a=bh at*
    generalize ziZ a=us at*
    generalize zjB a=pw at*
    clear H3
    go_wp2_with fail
    refine HSPL.out.mono ?_
    rintro e y1 ⟨rfl,hy1⟩
    have HU1:=yiO (HUY.out.below hy1)
    have HR1:=yiO (HRY.out.below hy1)
    have HB1:=yiO (zaC HBY.out hy1)
    clear HUY HRY HBY hy1 HSPL
    by_cases h0:hs=[]
    ·have hemp:hs.isEmpty=true:=by rw [h0];rfl
     have HRES:=yiO (HA6.out h0)
     clear h0
     obtain ⟨c0,c1,c2,c3,c4,c5,c6,c7,c8,c9,c10,c11,c12,c13,k0,k1,k2,k3,k4,k5,k6,k7,k8,k9,k10,k11,k12,k13,kf⟩:=HR1.out.all
     have hEB:=zcP HB1.out (show w.heap.size≤w.heap.size by omega) (.string ⟨#[]⟩) (.string ⟨#[]⟩) (.string ⟨#[]⟩) (.int .i64 0) (.string ⟨#[]⟩) (.bool false) (.int .u64 0) (.int .u64 0) (.int .i64 0) (.slice none 0 0) (.string ⟨#[]⟩) (.bool false) (.string ⟨#[]⟩) (.bool false)
     have hEC:=zcO HR1.out (.string ⟨#[]⟩) (.string ⟨#[]⟩) (.string ⟨#[]⟩) (.int .i64 0) (.string ⟨#[]⟩) (.bool false) (.int .u64 0) (.int .u64 0) (.int .i64 0) (.slice none 0 0) (.string ⟨#[]⟩) (.bool false) (.string ⟨#[]⟩) (.bool false)
     unfold zbJ at hEB hEC
     have HEB:=yiO hEB
     have HEC:=yiO hEC
     clear hEB hEC
     go_wp2
     obtain ⟨e0,e1,e2,e3,e4,e5,e6,e7,e8,e9,e10,e11,e12,e13⟩:=HEC.out
     refine bodyPost_ret (v:= .tuple #[.agg zaN,.int .i64 6]) (by simp [results,Tryz.results30,go_sem,e0,e1,e2,e3,e4,e5,e6,e7,e8,e9,e10,e11,e12,e13,zaN]) rfl ?_
     rw [HRES.out]
     exact ⟨.slice none 0 0,rfl,zaM.nil _ _,HEB.out⟩
    ·have hemp:hs.isEmpty=false:=by rw [List.isEmpty_eq_false_iff];exact h0
     have HHP:=yiO (zmK ⟨hs.toArray⟩ y1 (by rw [zaA];omega))
     rw [zaB] at HHP
     have HAE2:=yiO (HAE.out h0)
     have HA82:=yiO (HA8.out h0)
     have HAO2:=yiO (HAO.out h0)
     clear HA6 HAE HA8 HAO h0
     generalize zeM hs=hz at*
     obtain ⟨hh,er⟩:=hz
     simp only at HAE2 HA82 HAO2
     unfold zgG at HHP
     rw [z9O] at HHP
     go_wp2_with fail
     refine HHP.out.mono ?_
     rintro e y2 ⟨rfl,hy2⟩
     have HU2:=yiO (HU1.out.below hy2)
     have HR2:=yiO (HR1.out.below hy2)
     have HB2:=yiO (zaC HB1.out hy2)
     obtain ⟨y3,hy3⟩: ∃y,y=y2.alloc (.cells #[.int .i64 (hk hh),.string ⟨(hn hh).toArray⟩,.bool (hbit hh),.int .u64 (hhi hh),.int .u64 (hlo hh)] 36):=⟨_,rfl⟩
     have hd3:Below y2.heap.size y2 y3:=by rw [hy3];exact (yiS _ _).alloc (yiP _) _
     have hrow:y3.heap[y2.heap.size]? =some (.cells #[.int .i64 (hk hh),.string ⟨(hn hh).toArray⟩,.bool (hbit hh),.int .u64 (hhi hh),.int .u64 (hlo hh)] 36):=by rw [hy3];exact heap_alloc_new y2 _
     have hlt3:y2.heap.size<y3.heap.size:=zaO hrow
     have HU3:=yiO (HU2.out.below hd3)
     have HR3:=yiO (HR2.out.below hd3)
     have HB3:=yiO (zaC HB2.out hd3)
     have HH5:=yiO (fun x (hb:Below y3.heap.size y3 x)=>zmE ((hb.block _ hlt3).trans hrow))
     have hg2:w.heap.size+1<y2.heap.size:=zaO HU2.out
     clear HU1 HR1 HB1 HU2 HR2 HB2 hd3 hrow hy2 HHP
     by_cases her:er=0
     ·have hd0:(er !=(0:Int))=false:=by rw [her];rfl
      have HA83:=yiO (fun h5=>HA82.out her h5)
      have HAO3:=yiO (fun h5=>HAO2.out her h5)
      clear HAE2 HA82 HAO2 her
      have HPO:=yiO (zwF ps y3 (by omega))
      generalize zfX ps=pn at*
      go_wp2_with fail
      rw [←hy3]
      clear hy3
      refine HPO.out.mono ?_
      rintro e w' ⟨rfl,rfl⟩
      clear HPO
      by_cases h5:pn= -2
      ·have e5:(pn==(-2:Int))=true:=by rw [h5];rfl
       have HRES:=yiO (HA83.out h5)
       clear h5
       obtain ⟨c0,c1,c2,c3,c4,c5,c6,c7,c8,c9,c10,c11,c12,c13,k0,k1,k2,k3,k4,k5,k6,k7,k8,k9,k10,k11,k12,k13,kf⟩:=HR3.out.all
       have hEB:=zcP HB3.out (show w.heap.size≤w.heap.size by omega) (.string ⟨#[]⟩) (.string ⟨#[]⟩) (.string ⟨#[]⟩) (.int .i64 0) (.string ⟨#[]⟩) (.bool false) (.int .u64 0) (.int .u64 0) (.int .i64 0) (.slice none 0 0) (.string ⟨#[]⟩) (.bool false) (.string ⟨#[]⟩) (.bool false)
       have hEC:=zcO HR3.out (.string ⟨#[]⟩) (.string ⟨#[]⟩) (.string ⟨#[]⟩) (.int .i64 0) (.string ⟨#[]⟩) (.bool false) (.int .u64 0) (.int .u64 0) (.int .i64 0) (.slice none 0 0) (.string ⟨#[]⟩) (.bool false) (.string ⟨#[]⟩) (.bool false)
       unfold zbJ at hEB hEC
       have HEB:=yiO hEB
       have HEC:=yiO hEC
       clear hEB hEC
       go_wp2
       obtain ⟨e0,e1,e2,e3,e4,e5,e6,e7,e8,e9,e10,e11,e12,e13⟩:=HEC.out
       refine bodyPost_ret (v:= .tuple #[.agg zaN,.int .i64 8]) (by simp [results,Tryz.results30,go_sem,e0,e1,e2,e3,e4,e5,e6,e7,e8,e9,e10,e11,e12,e13,zaN]) rfl ?_
       rw [HRES.out]
       exact ⟨.slice none 0 0,rfl,zaM.nil _ _,HEB.out⟩
      ·have e5:(pn==(-2:Int))=false:=beq_eq_false_iff_ne.2 h5
       have HRES:=yiO (HAO3.out h5)
       clear h5 HA83 HAO3
       have HOW:=yiO (ztQ name y3)
       generalize ownZ name=ow at*
       obtain ⟨fp,hfp⟩: ∃fp:Int,(if pn=ow then -1 else pn)=fp:=⟨_,rfl⟩
       rw [hfp] at HRES
       have HFP:=yiO hfp
       clear hfp
       obtain ⟨h0',h1',h2',h3',h4',-⟩:=HH5.out y3 (yiS _ _)
       obtain ⟨-,-,-,q3,q4,q5,q6,q7,q8,-,-,-,-,-,qf⟩:=HU3.out.all
       go_wp2_with fail
       refine HOW.out.mono ?_
       rintro e w' ⟨rfl,rfl⟩
       clear HOW
       go_upto_if 91 with fail
       go_cut [18] (fun nv wc=>nv= .int .i64 fp∧y3=wc)
       case first=>
        by_cases hpo:pn=ow
        ·have e6:(pn==ow)=true:=by rw [beq_iff_eq];exact hpo
         have HQ:Hid (fp= -1):=by show _=_;rw [←HFP.out,if_pos hpo]
         clear hpo
         go_wp2
         go_meet
         exact ⟨by rw [HQ.out],rfl⟩
        ·have e6:(pn==ow)=false:=beq_eq_false_iff_ne.2 hpo
         have HQ:Hid (fp=pn):=by show _=_;rw [←HFP.out,if_neg hpo]
         clear hpo
         go_wp2
         go_meet
         exact ⟨by rw [HQ.out],rfl⟩
       case rest=>
        rename World=>z
        obtain ⟨rfl,rfl⟩:=hcut
        clear HFP
        have hgle:w.heap.size≤w.heap.size+1:=by omega
        have HU4:=yiO (HU3.out.hp hh fp)
        have HR4:=yiO ((((((HR3.out.set (g:=w.heap.size+1) (i:=3) (by omega) (.int .i64 (hk hh))).set (g:=w.heap.size+1) (i:=4) (by omega) (.string ⟨(hn hh).toArray⟩)).set (g:=w.heap.size+1) (i:=5) (by omega) (.bool (hbit hh))).set (g:=w.heap.size+1) (i:=6) (by omega) (.int .u64 (hhi hh))).set (g:=w.heap.size+1) (i:=7) (by omega) (.int .u64 (hlo hh))).set (g:=w.heap.size+1) (i:=8) (by omega) (.int .i64 fp))
        have HB4:=yiO ((((((HB3.out.setCell (p:=⟨w.heap.size+1,3,none⟩) hgle (.int .i64 (hk hh))).setCell (p:=⟨w.heap.size+1,4,none⟩) hgle (.string ⟨(hn hh).toArray⟩)).setCell (p:=⟨w.heap.size+1,5,none⟩) hgle (.bool (hbit hh))).setCell (p:=⟨w.heap.size+1,6,none⟩) hgle (.int .u64 (hhi hh))).setCell (p:=⟨w.heap.size+1,7,none⟩) hgle (.int .u64 (hlo hh))).setCell (p:=⟨w.heap.size+1,8,none⟩) hgle (.int .i64 fp))
        go_upto_region 30 with fail
        clear q3 q4 q5 q6 q7 q8 qf h0' h1' h2' h3' h4' HU3 HR3 HB3 HH5
        generalize ((((((y3.setCell ⟨w.heap.size+1,3,none⟩ (.int .i64 (hk hh))).setCell ⟨w.heap.size+1,4,none⟩ (.string ⟨(hn hh).toArray⟩)).setCell ⟨w.heap.size+1,5,none⟩ (.bool (hbit hh))).setCell ⟨w.heap.size+1,6,none⟩ (.int .u64 (hhi hh))).setCell ⟨w.heap.size+1,7,none⟩ (.int .u64 (hlo hh))).setCell ⟨w.heap.size+1,8,none⟩ (.int .i64 fp))=y4 at*
        go_cut [103] (fun bv wc=>bv= .bool (zaY rest)∧y4=wc)
        case first=>
         rcases zkF rest with ⟨hr0,hoff⟩|⟨c,r,hr0,hoff⟩
         ·have hL:rest.length=0:=by rw [hr0];rfl
          clear hr0
          go_wp2
          go_meet
          exact ⟨by rw [hoff],rfl⟩
         ·have hL:0<rest.length:=by rw [hr0];exact Nat.succ_pos _
          have hr00:0<(ByteArray.mk rest.toArray).size:=by rw [zaA];exact hL
          have hrb:(ByteArray.mk rest.toArray)[0]=c:=by subst hr0;rfl
          have HSL:=yiO (fun W=>zbI c W)
          rw [←hoff] at HSL
          clear hr0 hoff
          go_wp2_with fail
          refine (HSL.out _).mono ?_
          rintro e w' ⟨rfl,rfl⟩
          go_wp2
          go_meet
          exact ⟨rfl,rfl⟩
        case rest=>
         rename World=>z
         obtain ⟨rfl,rfl⟩:=hcut
         go_upto_if 103 with fail
         go_cut [9] (fun rv wc=>rv= .string ⟨(offW rest).toArray⟩∧y4=wc)
         case first=>
          cases hsl:zaY rest with
          |false=>
           have HQ:=yiO (off_no hsl)
           go_wp2
           go_meet
           exact ⟨by rw [HQ.out],rfl⟩
          |true=>
           obtain ⟨hl1,ho⟩:=yeD hsl
           have HO:=yiO ho
           clear ho
           have hL:0<rest.length:=hl1
           go_wp2
           go_meet
           exact ⟨by rw [HO.out];refine congrArg Value.string ?_;apply ByteArray.ext;simp [List.take_of_length_le],rfl⟩
         case rest=>
          rename World=>z
          obtain ⟨rfl,rfl⟩:=hcut
          obtain ⟨d0,d1,d2,d3,d4,d5,d6,d7,d8,d9,d10,d11,d12,d13,-⟩:=HU4.out.all
          have hofl:=zwM rest
          have HWH:=yiO (ziL {{zbX with scheme:=name,user:=us,pass:=pw} with host:=hh,port:=fp} none 0 0 (.slice none 0 0) [] (offW rest) y4 (by omega) (by simp) (.inl ⟨rfl,rfl⟩))
          generalize hvv:zcY {{zbX with scheme:=name,user:=us,pass:=pw} with host:=hh,port:=fp} [] (offW rest)=v at HWH
          have HVV:=yiO hvv
          clear hvv
          simp only [zbX] at d0 d1 d2 d3 d4 d5 d6 d7 d8 d9 d10 d11 d12 d13
          go_wp2_with fail
          clear d0 d1 d2 d3 d4 d5 d6 d7 d8 d9 d10 d11 d12 d13
          refine HWH.out.mono ?_
          rintro e y5 ⟨pv,rfl,hp5,hb5⟩
          obtain ⟨sa,sn,sc,rfl⟩:=hp5.pv.shape
          have hR5:=HR4.out.below hb5
          have hB5:=zaC HB4.out hb5
          have hy4:w.heap.size+1<y4.heap.size:=zaO HU4.out
          have HP5:=yiO (hp5.only (zbS (g:=w.heap.size) v (.slice sa sn sc)) (fun b hb=>by rw [List.mem_singleton.1 hb];omega))
          unfold zbJ at HP5
          simp only [UZ.ref]
          clear hp5 hb5 HWH
          obtain ⟨c0,c1,c2,c3,c4,c5,c6,c7,c8,c9,c10,c11,c12,c13,k0,k1,k2,k3,k4,k5,k6,k7,k8,k9,k10,k11,k12,k13,kf⟩:=hR5.all
          have hEB:=zbC hB5 (show w.heap.size≤w.heap.size by omega) v (.slice sa sn sc)
          have hEC:=zbF hR5 v (.slice sa sn sc) _ rfl
          unfold zbJ at hEB hEC
          have HEB:=yiO hEB
          have HEC:=yiO hEC
          clear hEB hEC
          go_wp2
          obtain ⟨e0,e1,e2,e3,e4,e5,e6,e7,e8,e9,e10,e11,e12,e13⟩:=HEC.out
          refine bodyPost_ret (v:= .tuple #[.agg (v.ref (.slice sa sn sc)),.int .i64 0]) (by simp [results,Tryz.results30,go_sem,e0,e1,e2,e3,e4,e5,e6,e7,e8,e9,e10,e11,e12,e13,UZ.ref]) rfl ?_
          rw [HRES.out]
          exact ⟨_,by rw [HVV.out],by rw [HVV.out];exact zbU HP5.out (by omega),HEB.out⟩
     ·have hd0:(er !=(0:Int))=true:=by rw [bne_iff_ne];exact her
      have HRES:=yiO (HAE2.out her)
      have hR3:=HR3.out
      have hB3:=HB3.out
      rw [hy3] at hR3 hB3
      clear her
      obtain ⟨c0,c1,c2,c3,c4,c5,c6,c7,c8,c9,c10,c11,c12,c13,k0,k1,k2,k3,k4,k5,k6,k7,k8,k9,k10,k11,k12,k13,kf⟩:=hR3.all
      have hEB:=zcP hB3 (show w.heap.size≤w.heap.size by omega) (.string ⟨#[]⟩) (.string ⟨#[]⟩) (.string ⟨#[]⟩) (.int .i64 0) (.string ⟨#[]⟩) (.bool false) (.int .u64 0) (.int .u64 0) (.int .i64 0) (.slice none 0 0) (.string ⟨#[]⟩) (.bool false) (.string ⟨#[]⟩) (.bool false)
      have hEC:=zcO hR3 (.string ⟨#[]⟩) (.string ⟨#[]⟩) (.string ⟨#[]⟩) (.int .i64 0) (.string ⟨#[]⟩) (.bool false) (.int .u64 0) (.int .u64 0) (.int .i64 0) (.slice none 0 0) (.string ⟨#[]⟩) (.bool false) (.string ⟨#[]⟩) (.bool false)
      unfold zbJ at hEB hEC
      have HEB:=yiO hEB
      have HEC:=yiO hEC
      clear hEB hEC
      go_wp2
      obtain ⟨e0,e1,e2,e3,e4,e5,e6,e7,e8,e9,e10,e11,e12,e13⟩:=HEC.out
      refine bodyPost_ret (v:= .tuple #[.agg zaN,.int .i64 er]) (by simp [results,Tryz.results30,go_sem,e0,e1,e2,e3,e4,e5,e6,e7,e8,e9,e10,e11,e12,e13,zaN]) rfl ?_
      rw [HRES.out]
      exact ⟨.slice none 0 0,rfl,zaM.nil _ _,HEB.out⟩
theorem of_new {w x:World} {u:UZ} {pv:Value} (h:x=(w.alloc (.cells (u.cells pv) 28)).alloc (.cells zaN 38)):UB x w.heap.size u pv∧RV x (w.heap.size+1)∧Below w.heap.size w x∧x.heap.size=w.heap.size+2:=by
 have b0:=zbQ w (u.cells pv)
 have u0:=UB.new w u pv
 have s0:(w.alloc (.cells (u.cells pv) 28)).heap.size=w.heap.size+1:=by simp
 generalize w.alloc (.cells (u.cells pv) 28)=x0 at*
 have b1:=zcC x0 zaN
 have r1:RV (x0.alloc (.cells zaN 38)) x0.heap.size:=(VB.new x0 zbX (.slice none 0 0)).rv
 have s1:(x0.alloc (.cells zaN 38)).heap.size=x0.heap.size+1:=by simp
 rw [←h] at b1 r1 s1
 rw [s0] at r1
 exact ⟨u0.below b1,r1,zaC b0 b1,by omega⟩
theorem ybB (u:UZ) (pa:Option Addr) (pn pc:Nat) (w:World) (ho:u.host.In):
  Calls Tryz.prog 9 #[.agg (u.cells (.slice pa pn pc))] w (RetV w u (.slice pa pn pc)):=by
 obtain ⟨x0,hx0⟩: ∃y,y=(w.alloc (.cells (u.cells (.slice pa pn pc)) 28)).alloc (.cells zaN 38):=⟨_,rfl⟩
 obtain ⟨hU,hR,hbb,hsz⟩:=of_new hx0
 have HB:=yiO hbb
 have HKK:Hid (∀x,Below x0.heap.size x0 x→x.cell? ⟨w.heap.size,0,none⟩=some (.string ⟨u.scheme.toArray⟩)∧x.cell? ⟨w.heap.size,1,none⟩=some (.string ⟨u.user.toArray⟩)∧x.cell? ⟨w.heap.size,2,none⟩=some (.string ⟨u.pass.toArray⟩)∧x.cell? ⟨w.heap.size,3,none⟩=some (u.host.val)∧x.cell? ⟨w.heap.size,4,none⟩=some (.int .i64 u.port)∧x.cell? ⟨w.heap.size,5,none⟩=some (.slice pa pn pc)∧x.cell? ⟨w.heap.size,6,none⟩=some (.string ⟨u.query.toArray⟩)∧x.cell? ⟨w.heap.size,7,none⟩=some (.bool u.hasQ)∧x.cell? ⟨w.heap.size,8,none⟩=some (.string ⟨u.frag.toArray⟩)∧x.cell? ⟨w.heap.size,9,none⟩=some (.bool u.hasF)):=fun x hb=>by
  obtain ⟨d0,d1,d2,d3,d4,d5,d6,d7,d8,d9,-⟩:=(hU.below hb).all
  exact ⟨d0,d1,d2,d3,d4,d5,d6,d7,d8,d9⟩
 have hSP: ∀x,Below x0.heap.size x0 x→ ∀y,y=zbJ x (w.heap.size+1) (.string ⟨u.scheme.toArray⟩) (.string ⟨u.user.toArray⟩) (.string ⟨u.pass.toArray⟩) (.int .i64 (hk u.host)) (.string ⟨(hn u.host).toArray⟩) (.bool (hbit u.host)) (.int .u64 (hhi u.host)) (.int .u64 (hlo u.host)) (.int .i64 u.port) (.slice pa pn pc) (.string ⟨u.query.toArray⟩) (.bool u.hasQ) (.string ⟨u.frag.toArray⟩) (.bool u.hasF)→y.cell? ⟨w.heap.size,0,none⟩=some (.string ⟨u.scheme.toArray⟩)∧y.cell? ⟨w.heap.size,1,none⟩=some (.string ⟨u.user.toArray⟩)∧y.cell? ⟨w.heap.size,2,none⟩=some (.string ⟨u.pass.toArray⟩)∧y.cell? ⟨w.heap.size,3,none⟩=some (u.host.val)∧y.cell? ⟨w.heap.size,4,none⟩=some (.int .i64 u.port)∧y.cell? ⟨w.heap.size,5,none⟩=some (.slice pa pn pc)∧y.cell? ⟨w.heap.size,6,none⟩=some (.string ⟨u.query.toArray⟩)∧y.cell? ⟨w.heap.size,7,none⟩=some (.bool u.hasQ)∧y.cell? ⟨w.heap.size,8,none⟩=some (.string ⟨u.frag.toArray⟩)∧y.cell? ⟨w.heap.size,9,none⟩=some (.bool u.hasF):=fun x hb y hy=>by
  subst hy
  obtain ⟨d0,d1,d2,d3,d4,d5,d6,d7,d8,d9,-⟩:=((hU.below hb).only (zbS (g:=w.heap.size+1) u (.slice pa pn pc)) (by simp)).all
  exact ⟨d0,d1,d2,d3,d4,d5,d6,d7,d8,d9⟩
 unfold zbJ at hSP
 have HSP:=yiO hSP
 have HRR:=yiO (fun x (hb:Below x0.heap.size x0 x)=>hR.below hb)
 have HOF:Hid (∀W,Below x0.heap.size x0 W→Calls Tryz.prog 15 #[u.host.val] W fun e w'=>e= .returned (.agg #[.int .i64 (hk u.host),.string ⟨(hn u.host).toArray⟩,.bool (hbit u.host),.int .u64 (hhi u.host),.int .u64 (hlo u.host)])∧Below x0.heap.size x0 w'):=fun W hW=>(zxM u.host W ho).mono (fun e w' h=>⟨by rw [←z9O];exact h.1,zaC hW h.2⟩)
 simp only [UZ.cells,zaN] at hx0 ⊢
 clear hU hR hbb hSP ho
 go_enter Tryz.func9,Tryz.ntmps9
 go_wp2_with fail
 rw [←hx0]
 clear hx0
 refine wp_region_held_drew (S:=fun W=>W.cell? ⟨w.heap.size,0,none⟩=some (.string ⟨u.scheme.toArray⟩)∧W.cell? ⟨w.heap.size,1,none⟩=some (.string ⟨u.user.toArray⟩)∧W.cell? ⟨w.heap.size,2,none⟩=some (.string ⟨u.pass.toArray⟩)∧W.cell? ⟨w.heap.size,3,none⟩=some (u.host.val)∧W.cell? ⟨w.heap.size,4,none⟩=some (.int .i64 u.port)∧W.cell? ⟨w.heap.size,5,none⟩=some (.slice pa pn pc)∧W.cell? ⟨w.heap.size,6,none⟩=some (.string ⟨u.query.toArray⟩)∧W.cell? ⟨w.heap.size,7,none⟩=some (.bool u.hasQ)∧W.cell? ⟨w.heap.size,8,none⟩=some (.string ⟨u.frag.toArray⟩)∧W.cell? ⟨w.heap.size,9,none⟩=some (.bool u.hasF)) (by kernel_rfl) ?_ (fun hHeld=> ?_)
 ·exact (HKK.out _ (zbB _))
 refine tkc 0 (some 3) (v:= ?_) rfl (.inl ⟨by rfl,?_⟩) hHeld ?_;rotate_left;·intro w hSw;(try dsimp only at hSw);go_simp;try with_reducible rfl
 try simp only [Act.put,tkca,tkcb,tkcc]
 refine tkc 1 (some 4) (v:= ?_) rfl (.inl ⟨by rfl,?_⟩) hHeld ?_;rotate_left;·intro w hSw;(try dsimp only at hSw);go_simp;try with_reducible rfl
 try simp only [Act.put,tkca,tkcb,tkcc]
 refine tkc 2 (some 5) (v:= ?_) rfl (.inl ⟨by rfl,?_⟩) hHeld ?_;rotate_left;·intro w hSw;(try dsimp only at hSw);go_simp;try with_reducible rfl
 try simp only [Act.put,tkca,tkcb,tkcc]
 refine tkc 3 (some 6) (v:= ?_) rfl (.inl ⟨by rfl,?_⟩) hHeld ?_;rotate_left;·intro w hSw;(try dsimp only at hSw);go_simp;try with_reducible rfl
 try simp only [Act.put,tkca,tkcb,tkcc]
 refine tkc 4 (some 7) (v:= ?_) rfl (.inl ⟨by rfl,?_⟩) hHeld ?_;rotate_left;·intro w hSw;(try dsimp only at hSw);go_simp;try with_reducible rfl
 try simp only [Act.put,tkca,tkcb,tkcc]
 refine tkc 5 (some 8) (v:= ?_) rfl (.inl ⟨by rfl,?_⟩) hHeld ?_;rotate_left;·intro w hSw;(try dsimp only at hSw);go_simp;try with_reducible rfl
 try simp only [Act.put,tkca,tkcb,tkcc]
 refine tkc 6 (some 9) (v:= ?_) rfl (.inl ⟨by rfl,?_⟩) hHeld ?_;rotate_left;·intro w hSw;(try dsimp only at hSw);go_simp;try with_reducible rfl
 try simp only [Act.put,tkca,tkcb,tkcc]
 refine tkc 7 (some 10) (v:= ?_) rfl (.inl ⟨by rfl,?_⟩) hHeld ?_;rotate_left;·intro w hSw;(try dsimp only at hSw);go_simp;try with_reducible rfl
 try simp only [Act.put,tkca,tkcb,tkcc]
 refine tkc 9 (some 12) (v:= ?_) rfl (.inl ⟨by rfl,?_⟩) hHeld ?_;rotate_left;·intro w hSw;(try dsimp only at hSw);go_simp;try with_reducible rfl
 try simp only [Act.put,tkca,tkcb,tkcc]
 refine tkc 10 (some 13) (v:= ?_) rfl (.inl ⟨by rfl,?_⟩) hHeld ?_;rotate_left;·intro w hSw;(try dsimp only at hSw);go_simp;try with_reducible rfl
 try simp only [Act.put,tkca,tkcb,tkcc]
 refine tkc 11 (some 14) (v:= ?_) rfl (.inl ⟨by rfl,?_⟩) hHeld ?_;rotate_left;·intro w hSw;(try dsimp only at hSw);go_simp;try with_reducible rfl
 try simp only [Act.put,tkca,tkcb,tkcc]
 refine tkc 12 (some 15) (v:= ?_) rfl (.inl ⟨by rfl,?_⟩) hHeld ?_;rotate_left;·intro w hSw;(try dsimp only at hSw);go_simp;try with_reducible rfl
 try simp only [Act.put,tkca,tkcb,tkcc]
 refine tkc 13 (some 16) (v:= ?_) rfl (.inl ⟨by rfl,?_⟩) hHeld ?_;rotate_left;·intro w hSw;(try dsimp only at hSw);go_simp;try with_reducible rfl
 try simp only [Act.put,tkca,tkcb,tkcc]
 refine tkc 14 (some 17) (v:= ?_) rfl (.inl ⟨by rfl,?_⟩) hHeld ?_;rotate_left;·intro w hSw;(try dsimp only at hSw);go_simp;try with_reducible rfl
 try simp only [Act.put,tkca,tkcb,tkcc]
 refine tkc 15 (some 18) (v:= ?_) rfl (.inl ⟨by rfl,?_⟩) hHeld ?_;rotate_left;·intro w hSw;(try dsimp only at hSw);go_simp;try with_reducible rfl
 try simp only [Act.put,tkca,tkcb,tkcc]
 refine tkc 16 (some 19) (v:= ?_) rfl (.inl ⟨by rfl,?_⟩) hHeld ?_;rotate_left;·intro w hSw;(try dsimp only at hSw);go_simp;try with_reducible rfl
 try simp only [Act.put,tkca,tkcb,tkcc]
 refine tkc 17 (some 20) (v:= ?_) rfl (.inl ⟨by rfl,?_⟩) hHeld ?_;rotate_left;·intro w hSw;(try dsimp only at hSw);go_simp;try with_reducible rfl
 try simp only [Act.put,tkca,tkcb,tkcc]
 refine tkc 18 (some 21) (v:= ?_) rfl (.inl ⟨by rfl,?_⟩) hHeld ?_;rotate_left;·intro w hSw;(try dsimp only at hSw);go_simp;try with_reducible rfl
 try simp only [Act.put,tkca,tkcb,tkcc]
 refine tkc 19 (some 22) (v:= ?_) rfl (.inl ⟨by rfl,?_⟩) hHeld ?_;rotate_left;·intro w hSw;(try dsimp only at hSw);go_simp;try with_reducible rfl
 try simp only [Act.put,tkca,tkcb,tkcc]
 refine tkc 20 (some 23) (v:= ?_) rfl (.inl ⟨by rfl,?_⟩) hHeld ?_;rotate_left;·intro w hSw;(try dsimp only at hSw);go_simp;try with_reducible rfl
 try simp only [Act.put,tkca,tkcb,tkcc]
 refine wpAnyH_ready (rs:=[8]) (by kernel_rfl) (by simp) ?_
 refine AllReadyH.cons (o:=⟨some 11,_,_,_,_,_⟩) rfl (fun K hK=> ?_) AllReadyH.nil
 go_simp
 go_at_call 15
 refine (HOF.out _ (zbB _)).mono ?_
 rintro e x1 ⟨rfl,hb1⟩
 obtain ⟨c0,c1,c2,c3,c4,c5,c6,c7,c8,c9,c10,c11,c12,c13,k0,k1,k2,k3,k4,k5,k6,k7,k8,k9,k10,k11,k12,k13,kf⟩:=(HRR.out _ hb1).all
 (try go_wp2_with fail)
 refine hK.out _ _ ?_ (fun hHeld1=> ?_)
 ·exact (HKK.out _ hb1)
 clear hK K
 try simp only [Act.put,tkca,tkcb,tkcc]
 refine tkc 21 (some 24) (v:= ?_) rfl (.inl ⟨by rfl,?_⟩) hHeld1 ?_;rotate_left;·intro w hSw;(try dsimp only at hSw);go_simp;try with_reducible rfl
 try simp only [Act.put,tkca,tkcb,tkcc]
 refine wpAnyH_ready (rs:=[22]) (by kernel_rfl) (by simp) ?_
 refine AllReadyH.cons (o:=⟨none,_,_,_,_,_⟩) rfl (fun K hK=> ?_) AllReadyH.nil
 go_simp
 refine hK.out _ _ ?_ (fun hHeld2=> ?_)
 ·exact (HSP.out _ hb1 _ rfl)
 clear hK K
 try simp only [Act.put,tkca,tkcb,tkcc]
 refine wpAnyH_done (by kernel_rfl) ?_ _
 have hEB:=zbC (zaC HB.out hb1) (show w.heap.size≤w.heap.size+1 by omega) u (.slice pa pn pc)
 have hEC:=zbF (HRR.out _ hb1) u (.slice pa pn pc) _ rfl
 unfold zbJ at hEB hEC
 have HEB:=yiO hEB
 have HEC:=yiO hEC
 clear hEB hEC
 go_wp2
 obtain ⟨e0,e1,e2,e3,e4,e5,e6,e7,e8,e9,e10,e11,e12,e13⟩:=HEC.out
 refine bodyPost_ret (v:= .agg (u.ref (.slice pa pn pc))) (by simp [results,Tryz.results9,go_sem,e0,e1,e2,e3,e4,e5,e6,e7,e8,e9,e10,e11,e12,e13,UZ.ref]) rfl ?_
 exact ⟨rfl,HEB.out⟩
theorem ybV (k:Int) (s:ByteArray) (b:Bool) (x y:Int): ∀W:World,(binOp .eql 36 (.agg #[.int .i64 k,.string s,.bool b,.int .u64 x,.int .u64 y]) (.agg #[.int .i64 k,.string s,.bool b,.int .u64 x,.int .u64 y])).run Tryz.prog W= .ok (.bool true) W:=by
 intro W
 show ((Op.equal _ _ _>>=fun b=>pure (Value.bool b)):Sem Value).run _ _=_
 rw [Sem.run_bind,show (Op.equal 36 (.agg #[.int .i64 k,.string s,.bool b,.int .u64 x,.int .u64 y]) (.agg #[.int .i64 k,.string s,.bool b,.int .u64 x,.int .u64 y])).run Tryz.prog W= .ok true W from ?_]
 ·rfl
 ·rw [show (Op.equal 36 (.agg #[.int .i64 k,.string s,.bool b,.int .u64 x,.int .u64 y]) (.agg #[.int .i64 k,.string s,.bool b,.int .u64 x,.int .u64 y])).run Tryz.prog W=(Op.equalIn 10000 36 (.agg #[.int .i64 k,.string s,.bool b,.int .u64 x,.int .u64 y]) (.agg #[.int .i64 k,.string s,.bool b,.int .u64 x,.int .u64 y])).run Tryz.prog W from rfl,run_equalIn_struct W 9999 36 _ _ (by kernel_rfl) (by kernel_rfl)]
  simp [Program.fieldsOf,Tryz.underlying36,Op.eqFields,go_sem,part,Tryz.sizeOf32,Tryz.isAgg32,Tryz.underlying32]
theorem z6O {w x:World} {u:UZ} {p1 p2:Value} (h:x=(w.alloc (.cells (u.ref p1) 38)).alloc (.cells (u.ref p2) 38)):VB x w.heap.size u p1∧VB x (w.heap.size+1) u p2∧Below w.heap.size w x:=by
 have b0:=zcC w (u.ref p1)
 have u0:=VB.new w u p1
 have s0:(w.alloc (.cells (u.ref p1) 38)).heap.size=w.heap.size+1:=by simp
 generalize w.alloc (.cells (u.ref p1) 38)=x0 at*
 have b1:=zcC x0 (u.ref p2)
 have r1:=VB.new x0 u p2
 rw [←h] at b1 r1
 rw [s0] at r1
 exact ⟨u0.below b1,r1,zaC b0 b1⟩
theorem PV.len {w:World} {v:Value} {ps:List (List UInt8)} (h:PV w v ps): ∃a c,v= .slice a ps.length c∧ ∀x,Below w.heap.size w x→ ∀j,j<ps.length→ ∃g,a=some ⟨g,0,none⟩∧x.cell? ⟨g,j,none⟩=some (.string ⟨(ps.getD j []).toArray⟩):=by
 rcases h with ⟨h1,h2⟩|⟨g,c,h1,_,h3⟩
 ·exact ⟨none,0,by rw [h2,h1];rfl,fun x _ j hj=>by rw [h1] at hj;cases hj⟩
 ·exact ⟨_,_,h1,fun x hb j hj=>⟨g,rfl,(h3.keep hb).2 j hj⟩⟩
theorem zrM (u:UZ) (p1 p2:Value) (w:World) (h1:PV w p1 u.path) (h2:PV w p2 u.path) (hl:u.path.length≤1000000000):
  Calls Tryz.prog 8 #[.agg (u.ref p1),.agg (u.ref p2)] w (zeF w true):=by
 obtain ⟨a1,c1,rfl,hrow1⟩:=h1.len
 obtain ⟨a2,c2,rfl,hrow2⟩:=h2.len
 obtain ⟨x0,hx0⟩: ∃y,y=(w.alloc (.cells (u.ref (.slice a1 u.path.length c1)) 38)).alloc (.cells (u.ref (.slice a2 u.path.length c2)) 38):=⟨_,rfl⟩
 obtain ⟨hU,hV,hbb⟩:=z6O hx0
 obtain ⟨N,hN⟩: ∃N,u.path.length=N:=⟨_,rfl⟩
 rw [hN] at hrow1 hrow2 hx0 hU hV hl ⊢
 have hlt:w.heap.size≤x0.heap.size:=hbb.size
 have HB:=yiO hbb
 have HK1:Hid (∀x,Below x0.heap.size x0 x→x.cell? ⟨w.heap.size,0,none⟩=some (.string ⟨u.scheme.toArray⟩)∧x.cell? ⟨w.heap.size,1,none⟩=some (.string ⟨u.user.toArray⟩)∧x.cell? ⟨w.heap.size,2,none⟩=some (.string ⟨u.pass.toArray⟩)∧x.cell? ⟨w.heap.size,3,none⟩=some (.int .i64 (hk u.host))∧x.cell? ⟨w.heap.size,4,none⟩=some (.string ⟨(hn u.host).toArray⟩)∧x.cell? ⟨w.heap.size,5,none⟩=some (.bool (hbit u.host))∧x.cell? ⟨w.heap.size,6,none⟩=some (.int .u64 (hhi u.host))∧x.cell? ⟨w.heap.size,7,none⟩=some (.int .u64 (hlo u.host))∧x.cell? ⟨w.heap.size,8,none⟩=some (.int .i64 u.port)∧x.cell? ⟨w.heap.size,9,none⟩=some (.slice a1 N c1)∧x.cell? ⟨w.heap.size,10,none⟩=some (.string ⟨u.query.toArray⟩)∧x.cell? ⟨w.heap.size,11,none⟩=some (.bool u.hasQ)∧x.cell? ⟨w.heap.size,12,none⟩=some (.string ⟨u.frag.toArray⟩)∧x.cell? ⟨w.heap.size,13,none⟩=some (.bool u.hasF)):=fun x hb=>by
  obtain ⟨d0,d1,d2,d3,d4,d5,d6,d7,d8,d9,d10,d11,d12,d13,-⟩:=(hU.below hb).all
  exact ⟨d0,d1,d2,d3,d4,d5,d6,d7,d8,d9,d10,d11,d12,d13⟩
 have HK2:Hid (∀x,Below x0.heap.size x0 x→x.cell? ⟨w.heap.size+1,0,none⟩=some (.string ⟨u.scheme.toArray⟩)∧x.cell? ⟨w.heap.size+1,1,none⟩=some (.string ⟨u.user.toArray⟩)∧x.cell? ⟨w.heap.size+1,2,none⟩=some (.string ⟨u.pass.toArray⟩)∧x.cell? ⟨w.heap.size+1,3,none⟩=some (.int .i64 (hk u.host))∧x.cell? ⟨w.heap.size+1,4,none⟩=some (.string ⟨(hn u.host).toArray⟩)∧x.cell? ⟨w.heap.size+1,5,none⟩=some (.bool (hbit u.host))∧x.cell? ⟨w.heap.size+1,6,none⟩=some (.int .u64 (hhi u.host))∧x.cell? ⟨w.heap.size+1,7,none⟩=some (.int .u64 (hlo u.host))∧x.cell? ⟨w.heap.size+1,8,none⟩=some (.int .i64 u.port)∧x.cell? ⟨w.heap.size+1,9,none⟩=some (.slice a2 N c2)∧x.cell? ⟨w.heap.size+1,10,none⟩=some (.string ⟨u.query.toArray⟩)∧x.cell? ⟨w.heap.size+1,11,none⟩=some (.bool u.hasQ)∧x.cell? ⟨w.heap.size+1,12,none⟩=some (.string ⟨u.frag.toArray⟩)∧x.cell? ⟨w.heap.size+1,13,none⟩=some (.bool u.hasF)):=fun x hb=>by
  obtain ⟨d0,d1,d2,d3,d4,d5,d6,d7,d8,d9,d10,d11,d12,d13,-⟩:=(hV.below hb).all
  exact ⟨d0,d1,d2,d3,d4,d5,d6,d7,d8,d9,d10,d11,d12,d13⟩
 have HR1:=yiO (fun x (hb:Below x0.heap.size x0 x)=>hrow1 x (hbb.trans (hb.mono hlt)))
 have HR2:=yiO (fun x (hb:Below x0.heap.size x0 x)=>hrow2 x (hbb.trans (hb.mono hlt)))
 obtain ⟨d0,d1,d2,d3,d4,d5,d6,d7,d8,d9,d10,d11,d12,d13⟩:=HK1.out x0 (yiS _ _)
 obtain ⟨f0,f1,f2,f3,f4,f5,f6,f7,f8,f9,f10,f11,f12,f13⟩:=HK2.out x0 (yiS _ _)
 have HEQ:=ybV (hk u.host) ⟨(hn u.host).toArray⟩ (hbit u.host) (hhi u.host) (hlo u.host)
 simp only [UZ.ref] at hx0 ⊢
 rw [hx0] at d0 d1 d2 d3 d4 d5 d6 d7 d8 d9 d10 d11 d12 d13 f0 f1 f2 f3 f4 f5 f6 f7 f8 f9 f10 f11 f12 f13
 have HN:=yiO hN
 clear hU hV hbb h1 h2 hrow1 hrow2 hN
 go_enter Tryz.func8,Tryz.ntmps8
 go_wp2
 rw [←hx0]
 clear hx0 d0 d1 d2 d3 d4 d5 d6 d7 d8 d9 d10 d11 d12 d13 f0 f1 f2 f3 f4 f5 f6 f7 f8 f9 f10 f11 f12 f13
 go_loopw [16] (fun i wr=> ∃k:Nat,k≤N∧i= .int .i64 k∧Hid (Below x0.heap.size x0 wr)) (fun i _=>N - (intOf i).toNat)
 case atStart=>exact ⟨0,Nat.zero_le _,rfl,yiS _ _⟩
 case round=>
  obtain ⟨k,hka,rfl,HBW⟩:=hrel
  obtain ⟨d0,d1,d2,d3,d4,d5,d6,d7,d8,d9,d10,d11,d12,d13⟩:=HK1.out wr HBW.out
  obtain ⟨f0,f1,f2,f3,f4,f5,f6,f7,f8,f9,f10,f11,f12,f13⟩:=HK2.out wr HBW.out
  by_cases hltk:k<N
  ·obtain ⟨g1,rfl,q1⟩:=HR1.out wr HBW.out k hltk
   obtain ⟨g2,rfl,q2⟩:=HR2.out wr HBW.out k hltk
   generalize u.path.getD k []=sp at*
   clear HEQ
   go_wp2_with fail
   all_goals
    try go_quiet (fail)
   generalize hq2:World.drewN _ _=z
   have HZ:Hid (Below x0.heap.size x0 z):=by show Below _ _ _;rw [←hq2];exact zaU HBW.out _
   clear hq2 d0 d1 d2 d3 d4 d5 d6 d7 d8 d9 d10 d11 d12 d13 f0 f1 f2 f3 f4 f5 f6 f7 f8 f9 f10 f11 f12 f13 q1 q2
   go_wp2
   go_roundw
   case rel=>exact ⟨k+1,by omega,by go_num,HZ.out⟩
   case measure=>simp [intOf];omega
  ·obtain rfl:k=N:=by omega
   go_wp2
   go_ret
   exact zaS rfl (HB.out.trans (HBW.out.mono hlt))
theorem zvY (t:List UInt8) (w:World) (hl:t.length≤1000000):
  Calls Tryz.prog 14 #[.string ⟨t.toArray⟩,.agg (zbX.ref (.slice none 0 0)),.bool false] w (RetX w (zaQ t none)):=by
 obtain ⟨x2,hx2⟩: ∃y,y=(w.alloc (.cells (zbX.ref (.slice none 0 0)) 38)).alloc (.cells zaN 38):=⟨_,rfl⟩
 obtain ⟨hu,hr,hbw,hsz⟩:=zcZ zbP hx2
 rw [←zbP] at hx2 ⊢
 have hz:=zaA t
 have HB2:=yiO hbw
 have HR2:=yiO hr
 unfold zaN at hx2 ⊢
 clear hu hr hbw
 by_cases hbig:4096<t.length
 ·have HRES:=yiO (ziV (b:=none) hbig)
  have hB2:Below w.heap.size w _:=hx2▸HB2.out
  have hR2:RV _ (w.heap.size+1):=hx2▸HR2.out
  clear HB2 HR2 hx2
  go_enter Tryz.func14,Tryz.ntmps14
  go_wp2
  refine bodyPost_ret (v:= .tuple #[.agg zaN,.int .i64 3]) (by simp [results,Tryz.results14,go_sem,zaN]) rfl ?_
  rw [HRES.out]
  exact ⟨.slice none 0 0,rfl,zaM.nil _ _,by first|exact hB2|exact ((yiS _ w).alloc (yiP _) _).alloc (by simp) _⟩
 have HF:=yiO (show zaQ t none=zeB (zcF (zaV t)) none from if_neg hbig)
 have h4:t.length≤4096:=by omega
 have hcl:=zcW t
 have htl:(zaV t).length≤t.length:=by
  have h2:=zdS t
  have h3:=(List.dropWhile_suffix (l:=t) zcA).length_le
  omega
 have HT:=yiO (fun W=>zcT ⟨t.toArray⟩ W (by rw [zaA];omega))
 rw [zaB] at HT
 have HD:=yiO (fun W=>zcV ⟨(zaV t).toArray⟩ W (by rw [zaA];omega))
 rw [zaB] at HD
 generalize zcF (zaV t)=s at*
 generalize zaV t=t1 at*
 have HSC:=yiO (fun W=>zcD s W (by omega))
 go_enter Tryz.func14,Tryz.ntmps14
 go_wp2_with fail
 rw [←hx2]
 clear hx2
 refine (HT.out _).mono ?_
 rintro e w' ⟨rfl,rfl⟩
 go_wp2_with fail
 refine (HD.out _).mono ?_
 rintro e x3 ⟨rfl,hb3⟩
 have HB3:=yiO (zaC HB2.out hb3)
 have HR3:=yiO (HR2.out.below hb3)
 clear HB2 HR2 hb3 HT HD
 go_wp2_with fail
 refine (HSC.out _).mono ?_
 rintro e x4 ⟨rfl,hb4⟩
 have HB4:=yiO (zaC HB3.out hb4)
 have HR4:=yiO (HR3.out.below hb4)
 clear HB3 HR3 hb4 HSC
 cases hsc:schW s with
 |none=>
  have HRES:Hid (zaQ t none=(zbX,5)):=by
   show _=_
   rw [HF.out]
   unfold zeB
   rw [hsc]
  simp only [Option.map,Option.getD,Option.isSome]
  clear HF hsc
  obtain ⟨c0,c1,c2,c3,c4,c5,c6,c7,c8,c9,c10,c11,c12,c13,k0,k1,k2,k3,k4,k5,k6,k7,k8,k9,k10,k11,k12,k13,kf⟩:=HR4.out.all
  have hEB:=zcP HB4.out (show w.heap.size≤w.heap.size+1 by omega) (.string ⟨#[]⟩) (.string ⟨#[]⟩) (.string ⟨#[]⟩) (.int .i64 0) (.string ⟨#[]⟩) (.bool false) (.int .u64 0) (.int .u64 0) (.int .i64 0) (.slice none 0 0) (.string ⟨#[]⟩) (.bool false) (.string ⟨#[]⟩) (.bool false)
  have hEC:=zcO HR4.out (.string ⟨#[]⟩) (.string ⟨#[]⟩) (.string ⟨#[]⟩) (.int .i64 0) (.string ⟨#[]⟩) (.bool false) (.int .u64 0) (.int .u64 0) (.int .i64 0) (.slice none 0 0) (.string ⟨#[]⟩) (.bool false) (.string ⟨#[]⟩) (.bool false)
  unfold zbJ at hEB hEC
  have HEB:=yiO hEB
  have HEC:=yiO hEC
  clear hEB hEC
  go_wp2
  obtain ⟨e0,e1,e2,e3,e4,e5,e6,e7,e8,e9,e10,e11,e12,e13⟩:=HEC.out
  refine bodyPost_ret (v:= .tuple #[.agg zaN,.int .i64 5]) (by simp [results,Tryz.results14,go_sem,e0,e1,e2,e3,e4,e5,e6,e7,e8,e9,e10,e11,e12,e13,zaN]) rfl ?_
  rw [HRES.out]
  exact ⟨.slice none 0 0,rfl,zaM.nil _ _,HEB.out⟩
 |some p=>
  obtain ⟨n,r⟩:=p
  have hrl:=zeP hsc
  by_cases h1:n=zdV
  ·have e1:(n==[104,116,116,112])=true:=by rw [h1];rfl
   have HRES:Hid (zaQ t none=zcU n (zbW r)):=by
    show _=_
    rw [HF.out]
    unfold zeB
    rw [hsc]
    exact if_pos (.inl h1)
   simp only [Option.map,Option.getD,Option.isSome]
   have HBA:=yiO (fun W=>zeN r W)
   have hbl:=zdT r
   have HAU:=yiO (fun W=>zeO n (zbW r) W (by omega))
   generalize zbW r=lb at*
   generalize zcU n lb=rr at*
   obtain ⟨v,er⟩:=rr
   clear HF hsc h1
   go_wp2_with fail
   refine (HBA.out _).mono ?_
   rintro e w' ⟨rfl,rfl⟩
   go_wp2_with fail
   refine (HAU.out _).mono ?_
   rintro e x5 ⟨pv,rfl,hp5,hb5⟩
   obtain ⟨sa,sn,sc,rfl⟩:=hp5.pv.shape
   have hR5:=HR4.out.below hb5
   have hB5:=zaC HB4.out hb5
   have hgt:=HR4.out.lt
   have HP5:=yiO (hp5.only (zbS (g:=w.heap.size+1) v (.slice sa sn sc)) (fun b hb=>by rw [List.mem_singleton.1 hb];omega))
   unfold zbJ at HP5
   simp only [UZ.ref]
   clear hp5 hb5 HBA HAU
   obtain ⟨c0,c1,c2,c3,c4,c5,c6,c7,c8,c9,c10,c11,c12,c13,k0,k1,k2,k3,k4,k5,k6,k7,k8,k9,k10,k11,k12,k13,kf⟩:=hR5.all
   have hEB:=zbC hB5 (show w.heap.size≤w.heap.size+1 by omega) v (.slice sa sn sc)
   have hEC:=zbF hR5 v (.slice sa sn sc) _ rfl
   unfold zbJ at hEB hEC
   have HEB:=yiO hEB
   have HEC:=yiO hEC
   clear hEB hEC
   go_wp2
   obtain ⟨e0,e1,e2,e3,e4,e5,e6,e7,e8,e9,e10,e11,e12,e13⟩:=HEC.out
   refine bodyPost_ret (v:= .tuple #[.agg (v.ref (.slice sa sn sc)),.int .i64 er]) (by simp [results,Tryz.results14,go_sem,e0,e1,e2,e3,e4,e5,e6,e7,e8,e9,e10,e11,e12,e13,UZ.ref]) rfl ?_
   rw [HRES.out]
   exact ⟨_,rfl,zbU HP5.out (by omega),HEB.out⟩
  ·have e1:(n==[104,116,116,112])=false:=beq_eq_false_iff_ne.2 h1
   by_cases h2:n=zcX
   ·have e2:(n==[104,116,116,112,115])=true:=by rw [h2];rfl
    have HRES:Hid (zaQ t none=zcU n (zbW r)):=by
     show _=_
     rw [HF.out]
     unfold zeB
     rw [hsc]
     exact if_pos (.inr h2)
    simp only [Option.map,Option.getD,Option.isSome]
    have HBA:=yiO (fun W=>zeN r W)
    have hbl:=zdT r
    have HAU:=yiO (fun W=>zeO n (zbW r) W (by omega))
    generalize zbW r=lb at*
    generalize zcU n lb=rr at*
    obtain ⟨v,er⟩:=rr
    clear HF hsc h1 h2
    go_wp2_with fail
    refine (HBA.out _).mono ?_
    rintro e w' ⟨rfl,rfl⟩
    go_wp2_with fail
    refine (HAU.out _).mono ?_
    rintro e x5 ⟨pv,rfl,hp5,hb5⟩
    obtain ⟨sa,sn,sc,rfl⟩:=hp5.pv.shape
    have hR5:=HR4.out.below hb5
    have hB5:=zaC HB4.out hb5
    have hgt:=HR4.out.lt
    have HP5:=yiO (hp5.only (zbS (g:=w.heap.size+1) v (.slice sa sn sc)) (fun b hb=>by rw [List.mem_singleton.1 hb];omega))
    unfold zbJ at HP5
    simp only [UZ.ref]
    clear hp5 hb5 HBA HAU
    obtain ⟨c0,c1,c2,c3,c4,c5,c6,c7,c8,c9,c10,c11,c12,c13,k0,k1,k2,k3,k4,k5,k6,k7,k8,k9,k10,k11,k12,k13,kf⟩:=hR5.all
    have hEB:=zbC hB5 (show w.heap.size≤w.heap.size+1 by omega) v (.slice sa sn sc)
    have hEC:=zbF hR5 v (.slice sa sn sc) _ rfl
    unfold zbJ at hEB hEC
    have HEB:=yiO hEB
    have HEC:=yiO hEC
    clear hEB hEC
    go_wp2
    obtain ⟨e0,e1,e2,e3,e4,e5,e6,e7,e8,e9,e10,e11,e12,e13⟩:=HEC.out
    refine bodyPost_ret (v:= .tuple #[.agg (v.ref (.slice sa sn sc)),.int .i64 er]) (by simp [results,Tryz.results14,go_sem,e0,e1,e2,e3,e4,e5,e6,e7,e8,e9,e10,e11,e12,e13,UZ.ref]) rfl ?_
    rw [HRES.out]
    exact ⟨_,rfl,zbU HP5.out (by omega),HEB.out⟩
   ·have e2:(n==[104,116,116,112,115])=false:=beq_eq_false_iff_ne.2 h2
    have HRES:Hid (zaQ t none=(zbX,5)):=by
     show _=_
     rw [HF.out]
     unfold zeB
     rw [hsc]
     exact if_neg (by rintro (g|g);exact h1 g;exact h2 g)
    simp only [Option.map,Option.getD,Option.isSome]
    clear HF hsc h1 h2
    obtain ⟨c0,c1,c2,c3,c4,c5,c6,c7,c8,c9,c10,c11,c12,c13,k0,k1,k2,k3,k4,k5,k6,k7,k8,k9,k10,k11,k12,k13,kf⟩:=HR4.out.all
    have hEB:=zcP HB4.out (show w.heap.size≤w.heap.size+1 by omega) (.string ⟨#[]⟩) (.string ⟨#[]⟩) (.string ⟨#[]⟩) (.int .i64 0) (.string ⟨#[]⟩) (.bool false) (.int .u64 0) (.int .u64 0) (.int .i64 0) (.slice none 0 0) (.string ⟨#[]⟩) (.bool false) (.string ⟨#[]⟩) (.bool false)
    have hEC:=zcO HR4.out (.string ⟨#[]⟩) (.string ⟨#[]⟩) (.string ⟨#[]⟩) (.int .i64 0) (.string ⟨#[]⟩) (.bool false) (.int .u64 0) (.int .u64 0) (.int .i64 0) (.slice none 0 0) (.string ⟨#[]⟩) (.bool false) (.string ⟨#[]⟩) (.bool false)
    unfold zbJ at hEB hEC
    have HEB:=yiO hEB
    have HEC:=yiO hEC
    clear hEB hEC
    go_wp2
    obtain ⟨e0,e1,e2,e3,e4,e5,e6,e7,e8,e9,e10,e11,e12,e13⟩:=HEC.out
    refine bodyPost_ret (v:= .tuple #[.agg zaN,.int .i64 5]) (by simp [results,Tryz.results14,go_sem,e0,e1,e2,e3,e4,e5,e6,e7,e8,e9,e10,e11,e12,e13,zaN]) rfl ?_
    rw [HRES.out]
    exact ⟨.slice none 0 0,rfl,zaM.nil _ _,HEB.out⟩
def FarV (N:Nat) (v:Value):Prop:= ∀g n c,v= .slice (some ⟨g,0,none⟩) n c→N≤g
theorem zaM.far {B N:Nat} {w:World} {v:Value} {ps:List (List UInt8)} (h:zaM B w v ps) (hN:N≤B):FarV N v:=by
 intro g n c hv
 rcases h.cases with ⟨_,e⟩|⟨g',c',e,_,hg,_⟩
 ·rw [e] at hv;injection hv with e1;cases e1
 ·rw [e] at hv;injection hv with e1;injection e1 with e1;injection e1 with e1;omega
def RetY (w:World) (bv:Value) (x:UZ×Int) (e:Ending) (w':World):Prop:= ∃pv,e= .returned (.tuple #[.agg (x.1.ref pv),.int .i64 x.2])∧PV w' pv x.1.path∧(pv=bv∨FarV w.heap.size pv)∧Below w.heap.size w w'
theorem ziC (l:List UInt8):(l.length<2∧(zaY l&&zaY (l.drop 1))=false)∨ ∃c d r,l=c::d::r∧(zaY l&&zaY (l.drop 1))=(zcB c&&zcB d):=by
 match l with
 |[]=>exact .inl ⟨by decide,rfl⟩
 |[c]=>exact .inl ⟨Nat.lt_succ_self 1,Bool.and_false _⟩
 |c::d::r=>exact .inr ⟨c,d,r,rfl,rfl⟩
theorem zrI (l:List UInt8):(l=[]∧(l.isEmpty||l.head? ==some 35)=true)∨ ∃c r,l=c::r∧(l.isEmpty||l.head? ==some 35)=((c.toNat:Int)==35):=by
 match l with
 |[]=>exact .inl ⟨rfl,rfl⟩
 |c::r=>
  refine .inr ⟨c,r,rfl,?_⟩
  rw [show ((c.toNat:Int)==35)=decide (c=35) from zgN (n:=35) (by omega)]
  by_cases h:c=35
  ·rw [h];rfl
  ·rw [yiQ h]
   simp [h]
theorem z6N {b:UZ} {l:List UInt8} (h:(zaY l&&zaY (l.drop 1))=true):relW b l=zcU b.scheme (zbW l):=by
 rw [Bool.and_eq_true] at h
 exact if_pos h
theorem z8A {b:UZ} {l:List UInt8} (h:(zaY l&&zaY (l.drop 1))=false) (h1:zaY l=true):relW b l=(zcY (zbE b) [] (l.drop 1),0):=by
 unfold relW
 rw [if_neg (by rw [←Bool.and_eq_true,h];exact Bool.false_ne_true),if_pos h1]
 rfl
theorem z9Z {b:UZ} {l:List UInt8} (h1:zaY l=false) (h:(l.isEmpty||l.head? ==some 35)=true):relW b l=(zdC {zbE b with path:=b.path,query:=b.query,hasQ:=b.hasQ} l,0):=by
 unfold relW
 rw [if_neg (by rw [h1];exact fun g=>Bool.false_ne_true g.1),if_neg (by rw [h1];exact Bool.false_ne_true),if_pos (by simpa using h)]
 rfl
theorem ycK {b:UZ} {l:List UInt8} (h1:zaY l=false) (h:(l.isEmpty||l.head? ==some 35)=false) (h3:l.head? =some 63):relW b l=(zdC {zbE b with path:=b.path} l,0):=by
 unfold relW
 rw [if_neg (by rw [h1];exact fun g=>Bool.false_ne_true g.1),if_neg (by rw [h1];exact Bool.false_ne_true),if_neg (by intro g;rw [show (l.isEmpty||l.head? ==some 35)=true by simpa using g] at h;cases h),if_pos h3]
 rfl
theorem z8O {b:UZ} {l:List UInt8} (h1:zaY l=false) (h:(l.isEmpty||l.head? ==some 35)=false) (h3:l.head? ≠some 63):relW b l=(zcY (zbE b) b.path.dropLast l,0):=by
 unfold relW
 rw [if_neg (by rw [h1];exact fun g=>Bool.false_ne_true g.1),if_neg (by rw [h1];exact Bool.false_ne_true),if_neg (by intro g;rw [show (l.isEmpty||l.head? ==some 35)=true by simpa using g] at h;cases h),if_neg h3]
 rfl
theorem VB.st3 {w:World} {U:Nat} {u:UZ} {pv:Value} (h:VB w U u pv) (a b:Value):(w.cell? ⟨U,9,none⟩=some pv∧(w.setCell ⟨U,9,none⟩ a).cell? ⟨U,10,none⟩=some (.string ⟨u.query.toArray⟩)∧((w.setCell ⟨U,9,none⟩ a).setCell ⟨U,10,none⟩ b).cell? ⟨U,11,none⟩=some (.bool u.hasQ))∧w.frozen? ⟨U,9,none⟩=false∧(w.setCell ⟨U,9,none⟩ a).frozen? ⟨U,10,none⟩=false∧((w.setCell ⟨U,9,none⟩ a).setCell ⟨U,10,none⟩ b).frozen? ⟨U,11,none⟩=false:=
 ⟨⟨zaE h 9,zaE (zaF h 9 a) 10,zaE (zaF (zaF h 9 a) 10 b) 11⟩,zaW h 9,zaW (zaF h 9 a) 10,zaW (zaF (zaF h 9 a) 10 b) 11⟩
theorem VB.pqh {w:World} {U:Nat} {u:UZ} {pv:Value} (h:VB w U u pv) (p:List (List UInt8)) (v:Value) (q:List UInt8) (x:Bool):VB (((w.setCell ⟨U,9,none⟩ v).setCell ⟨U,10,none⟩ (.string ⟨q.toArray⟩)).setCell ⟨U,11,none⟩ (.bool x)) U {u with path:=p,query:=q,hasQ:=x} v:=zaF (zaF (zaF h 9 _) 10 _) 11 _
theorem VB.pp {w:World} {U:Nat} {u:UZ} {pv:Value} (h:VB w U u pv) (p:List (List UInt8)) (v:Value):VB (w.setCell ⟨U,9,none⟩ v) U {u with path:=p} v:=zaF h 9 _
theorem zmT (b:UZ):(zbE b).ref (.slice none 0 0)= #[.string ⟨b.scheme.toArray⟩,.string ⟨b.user.toArray⟩,.string ⟨b.pass.toArray⟩,.int .i64 (hk b.host),.string ⟨(hn b.host).toArray⟩,.bool (hbit b.host),.int .u64 (hhi b.host),.int .u64 (hlo b.host),.int .i64 b.port,.slice none 0 0,.string ⟨#[]⟩,.bool false,.string ⟨#[]⟩,.bool false]:=rfl
theorem zxG (b:UZ) (ba:Option Addr) (bn bc:Nat) (l:List UInt8) (w:World) (hl:l.length≤100000) (_hbl:b.path.length≤1000000) (_hne:b.path≠[]) (_hp:PV w (.slice ba bn bc) b.path) (hA:(zaY l&&zaY (l.drop 1))=true):
  Calls Tryz.prog 32 #[.agg (b.ref (.slice ba bn bc)),.string ⟨l.toArray⟩] w (RetY w (.slice ba bn bc) (relW b l)):=by
 obtain ⟨x2,hx2⟩: ∃y,y=(w.alloc (.cells (b.ref (.slice ba bn bc)) 38)).alloc (.cells zaN 38):=⟨_,rfl⟩
 obtain ⟨hu,hr,hbw,hsz⟩:=zcZ zbP hx2
 have hKR:w.heap.size+1<x2.heap.size:=by omega
 clear hsz
 have HU2:=yiO hu
 have HR2:=yiO hr
 have HB2:=yiO hbw
 simp only [UZ.ref,zaN] at hx2
 clear hu hr hbw
 have hz:=zaA l
 go_enter Tryz.func32,Tryz.ntmps32
 simp only [UZ.ref]
 go_upto_region 1 with fail
 rw [←hx2]
 clear hx2
 go_cut [19] (fun bv wc=>bv= .bool (zaY l&&zaY (l.drop 1))∧x2=wc)
 case first=>
  rcases ziC l with ⟨hL,hoff⟩|⟨c,d,r,hr0,hoff⟩
  ·go_wp2
   go_meet
   exact ⟨by rw [hoff],rfl⟩
  ·have hL:2≤l.length:=by rw [hr0];simp only [List.length_cons];omega
   have h0:0<(ByteArray.mk l.toArray).size:=by rw [hz];omega
   have h1:1<(ByteArray.mk l.toArray).size:=by rw [hz];omega
   have hb0:(ByteArray.mk l.toArray)[0]=c:=by subst hr0;rfl
   have hb1:(ByteArray.mk l.toArray)[1]=d:=by subst hr0;rfl
   have HSC:=yiO (fun W=>zbI c W)
   have HSD:=yiO (fun W=>zbI d W)
   cases hc:zcB c with
   |false=>
    rw [hc] at HSC hoff
    clear hr0 hc
    go_wp2_with fail
    refine (HSC.out _).mono ?_
    rintro e w' ⟨rfl,rfl⟩
    go_wp2
    go_meet
    exact ⟨by rw [hoff];rfl,rfl⟩
   |true=>
    rw [hc] at HSC hoff
    clear hr0 hc
    go_wp2_with fail
    refine (HSC.out _).mono ?_
    rintro e w' ⟨rfl,rfl⟩
    go_wp2_with fail
    refine (HSD.out _).mono ?_
    rintro e w' ⟨rfl,rfl⟩
    go_wp2
    go_meet
    exact ⟨by rw [hoff];rfl,rfl⟩
 case rest=>
  rename World=>z
  obtain ⟨rfl,rfl⟩:=hcut
  rw [hA]
  have HRES:=yiO (z6N (b:=b) hA)
  clear hA
  have HKK:Hid (∀x,Below x2.heap.size x2 x→x.cell? ⟨w.heap.size,0,none⟩=some (.string ⟨b.scheme.toArray⟩)):=fun x hb=>(HU2.out.below hb).all.1
  have HRR:=yiO (fun x (hb:Below x2.heap.size x2 x)=>HR2.out.below hb)
  have HBA:=yiO (fun W=>zeN l W)
  have hbl:=zdT l
  have HAU:Hid (∀W,Below x2.heap.size x2 W→Calls Tryz.prog 30 #[.string ⟨b.scheme.toArray⟩,.string ⟨(zbW l).toArray⟩] W fun e w'=> ∃pv,e= .returned (.tuple #[.agg ((zcU b.scheme (zbW l)).1.ref pv),.int .i64 (zcU b.scheme (zbW l)).2])∧zaM x2.heap.size w' pv (zcU b.scheme (zbW l)).1.path∧Below x2.heap.size x2 w'):=fun W hW=>(zeO b.scheme (zbW l) W (by omega)).mono (fun e w' ⟨pv,h1,h2,h3⟩=>⟨pv,h1,zbU h2 hW.size,zaC hW h3⟩)
  generalize zcU b.scheme (zbW l)=rr at*
  generalize zbW l=lb at*
  obtain ⟨v,er⟩:=rr
  go_wp2_with fail
  refine wp_region_held_drew (S:=fun W=>W.cell? ⟨w.heap.size,0,none⟩=some (.string ⟨b.scheme.toArray⟩)) (by kernel_rfl) ?_ (fun hHeld=> ?_)
  ·exact (HKK.out _ (zbB _))
  refine tkc 0 (some 20) (v:= ?_) rfl (.inl ⟨by rfl,?_⟩) hHeld ?_;rotate_left;·intro w hSw;(try dsimp only at hSw);go_simp;try with_reducible rfl
  try simp only [Act.put,tkca,tkcb,tkcc]
  refine tkc 1 (some 21) (v:= ?_) rfl (.inl ⟨by rfl,?_⟩) hHeld ?_;rotate_left;·intro w hSw;(try dsimp only at hSw);go_simp;try with_reducible rfl
  try simp only [Act.put,tkca,tkcb,tkcc]
  refine tkc 2 (some 22) (v:= ?_) rfl (.inl ⟨by rfl,?_⟩) hHeld ?_;rotate_left;·intro w hSw;(try dsimp only at hSw);go_simp;try with_reducible rfl
  try simp only [Act.put,tkca,tkcb,tkcc]
  refine wpAnyH_ready (rs:=[3]) (by kernel_rfl) (by simp) ?_
  refine AllReadyH.cons (o:=⟨some 23,_,_,_,_,_⟩) rfl (fun K hK=> ?_) AllReadyH.nil
  go_simp
  go_at_call 31
  refine (HBA.out _).mono ?_
  rintro e w9 ⟨rfl,rfl⟩
  (try go_wp2_with fail)
  refine hK.out _ _ ?_ (fun hHeld1=> ?_)
  ·exact (HKK.out _ (zbB _))
  clear hK K
  try simp only [Act.put,tkca,tkcb,tkcc]
  refine wpAnyH_ready (rs:=[4]) (by kernel_rfl) (by simp) ?_
  refine AllReadyH.cons (o:=⟨some 24,_,_,_,_,_⟩) rfl (fun K hK=> ?_) AllReadyH.nil
  go_simp
  go_at_call 30
  refine (HAU.out _ (zbB _)).mono ?_
  rintro e x9 ⟨pv,rfl,hp9,hb9⟩
  obtain ⟨sa,sn,sc,rfl⟩:=hp9.pv.shape
  have HFAR:=yiO (hp9.far (N:=w.heap.size) (by omega))
  obtain ⟨c0,c1,c2,c3,c4,c5,c6,c7,c8,c9,c10,c11,c12,c13,k0,k1,k2,k3,k4,k5,k6,k7,k8,k9,k10,k11,k12,k13,kf⟩:=(HRR.out _ hb9).all
  simp only [UZ.ref]
  (try go_wp2_with fail)
  refine hK.out _ _ ?_ (fun hHeld2=> ?_)
  ·exact (HKK.out _ hb9)
  clear hK K
  try simp only [Act.put,tkca,tkcb,tkcc]
  refine tkc 5 (some 25) (v:= ?_) rfl (.inl ⟨by rfl,?_⟩) hHeld2 ?_;rotate_left;·intro w hSw;(try dsimp only at hSw);go_simp;try with_reducible rfl
  try simp only [Act.put,tkca,tkcb,tkcc]
  refine tkc 6 (some 26) (v:= ?_) rfl (.inl ⟨by rfl,?_⟩) hHeld2 ?_;rotate_left;·intro w hSw;(try dsimp only at hSw);go_simp;try with_reducible rfl
  try simp only [Act.put,tkca,tkcb,tkcc]
  refine wpAnyH_ready (rs:=[7]) (by kernel_rfl) (by simp) ?_
  refine AllReadyH.cons (o:=⟨none,_,_,_,_,_⟩) rfl (fun K hK=> ?_) AllReadyH.nil
  go_simp
  refine hK.out _ _ ?_ (fun hHeld3=> ?_)
  ·exact (zaR (by omega) _ _ _ _ _ _ _ _ _ _ _ _ _ _ (HKK.out _ hb9))
  clear hK K
  try simp only [Act.put,tkca,tkcb,tkcc]
  refine tkc 8 (some 5) (v:= ?_) rfl (.inl ⟨by rfl,?_⟩) hHeld3 ?_;rotate_left;·intro w hSw;(try dsimp only at hSw);go_simp;try with_reducible rfl
  try simp only [Act.put,tkca,tkcb,tkcc]
  refine wpAnyH_done (by kernel_rfl) ?_ _
  have hEB:=zbC (zaC HB2.out hb9) (show w.heap.size≤w.heap.size+1 by omega) v (.slice sa sn sc)
  have hEC:=zbF (HRR.out _ hb9) v (.slice sa sn sc) _ rfl
  have hEP:=(hp9.only (zbS (g:=w.heap.size+1) v (.slice sa sn sc)) (fun b hb=>by rw [List.mem_singleton.1 hb];omega)).pv
  unfold zbJ at hEB hEC hEP
  have HEB:=yiO hEB
  have HEC:=yiO hEC
  have HEP:=yiO hEP
  clear hEB hEC hEP
  go_wp2
  obtain ⟨e0,e1,e2,e3,e4,e5,e6,e7,e8,e9,e10,e11,e12,e13⟩:=HEC.out
  refine bodyPost_ret (v:= .tuple #[.agg (v.ref (.slice sa sn sc)),.int .i64 er]) (by simp [results,Tryz.results32,go_sem,e0,e1,e2,e3,e4,e5,e6,e7,e8,e9,e10,e11,e12,e13,UZ.ref]) rfl ?_
  rw [HRES.out]
  exact ⟨_,rfl,HEP.out,.inr HFAR.out,HEB.out⟩
theorem zxR (b:UZ) (ba:Option Addr) (bn bc:Nat) (l:List UInt8) (w:World) (hl:l.length≤100000) (_hbl:b.path.length≤1000000) (_hne:b.path≠[]) (hp:PV w (.slice ba bn bc) b.path) (hA:(zaY l&&zaY (l.drop 1))=false) (hB:zaY l=true):
  Calls Tryz.prog 32 #[.agg (b.ref (.slice ba bn bc)),.string ⟨l.toArray⟩] w (RetY w (.slice ba bn bc) (relW b l)):=by
 obtain ⟨x2,hx2⟩: ∃y,y=(w.alloc (.cells (b.ref (.slice ba bn bc)) 38)).alloc (.cells zaN 38):=⟨_,rfl⟩
 obtain ⟨hu,hr,hbw,hsz⟩:=zcZ zbP hx2
 have hKR:w.heap.size+1<x2.heap.size:=by omega
 clear hsz
 have HU2:=yiO hu
 have HR2:=yiO hr
 have HB2:=yiO hbw
 simp only [UZ.ref,zaN] at hx2
 clear hu hr hbw
 have hz:=zaA l
 go_enter Tryz.func32,Tryz.ntmps32
 simp only [UZ.ref]
 go_upto_region 1 with fail
 rw [←hx2]
 clear hx2
 go_cut [19] (fun bv wc=>bv= .bool (zaY l&&zaY (l.drop 1))∧x2=wc)
 case first=>
  rcases ziC l with ⟨hL,hoff⟩|⟨c,d,r,hr0,hoff⟩
  ·go_wp2
   go_meet
   exact ⟨by rw [hoff],rfl⟩
  ·have hL:2≤l.length:=by rw [hr0];simp only [List.length_cons];omega
   have h0:0<(ByteArray.mk l.toArray).size:=by rw [hz];omega
   have h1:1<(ByteArray.mk l.toArray).size:=by rw [hz];omega
   have hb0:(ByteArray.mk l.toArray)[0]=c:=by subst hr0;rfl
   have hb1:(ByteArray.mk l.toArray)[1]=d:=by subst hr0;rfl
   have HSC:=yiO (fun W=>zbI c W)
   have HSD:=yiO (fun W=>zbI d W)
   cases hc:zcB c with
   |false=>
    rw [hc] at HSC hoff
    clear hr0 hc
    go_wp2_with fail
    refine (HSC.out _).mono ?_
    rintro e w' ⟨rfl,rfl⟩
    go_wp2
    go_meet
    exact ⟨by rw [hoff];rfl,rfl⟩
   |true=>
    rw [hc] at HSC hoff
    clear hr0 hc
    go_wp2_with fail
    refine (HSC.out _).mono ?_
    rintro e w' ⟨rfl,rfl⟩
    go_wp2_with fail
    refine (HSD.out _).mono ?_
    rintro e w' ⟨rfl,rfl⟩
    go_wp2
    go_meet
    exact ⟨by rw [hoff];rfl,rfl⟩
 case rest=>
  rename World=>z
  obtain ⟨rfl,rfl⟩:=hcut
  rw [hA]
  have HP2:=yiO (hp.keep HB2.out)
  obtain ⟨x3,hx3⟩: ∃y,y=x2.alloc (.cells ((zbE b).ref (.slice none 0 0)) 38):=⟨_,rfl⟩
  have hd3:Below x2.heap.size x2 x3:=by rw [hx3];exact zcC x2 _
  have HU3:Hid (VB x3 x2.heap.size (zbE b) (.slice none 0 0)):=by show VB _ _ _ _;rw [hx3];exact VB.new x2 _ _
  have HK3:=yiO (HU2.out.below hd3)
  have HR3:=yiO (HR2.out.below hd3)
  have HB3:=yiO (zaC HB2.out hd3)
  obtain ⟨d0,d1,d2,d3,d4,d5,d6,d7,d8,d9,d10,d11,d12,d13,-⟩:=HU2.out.all
  rw [zmT] at hx3
  obtain ⟨U,hU⟩: ∃g,g=x2.heap.size:=⟨_,rfl⟩
  rw [←hU] at HU3
  have hUs:U<x3.heap.size:=zaO HU3.out
  have hKU:w.heap.size+1<U:=by omega
  have hKU2:w.heap.size≠U:=by omega
  clear hd3 HU2 HR2 HP2
  go_upto_region 4 with fail
  rw [←hx3,←hU]
  clear hx3 hU d0 d1 d2 d3 d4 d5 d6 d7 d8 d9 d10 d11 d12 d13
  go_cut [45] (fun bv wc=>bv= .bool (zaY l)∧x3=wc)
  case first=>
   rcases zkF l with ⟨hr0,hoff⟩|⟨c,r,hr0,hoff⟩
   ·have hL:l.length=0:=by rw [hr0];rfl
    clear hr0
    go_wp2
    go_meet
    exact ⟨by rw [hoff],rfl⟩
   ·have hL:0<l.length:=by rw [hr0];exact Nat.succ_pos _
    have h0:0<(ByteArray.mk l.toArray).size:=by rw [hz];exact hL
    have hb0:(ByteArray.mk l.toArray)[0]=c:=by subst hr0;rfl
    have HSL:=yiO (fun W=>zbI c W)
    rw [←hoff] at HSL
    clear hr0 hoff
    go_wp2_with fail
    refine (HSL.out _).mono ?_
    rintro e w' ⟨rfl,rfl⟩
    go_wp2
    go_meet
    exact ⟨by first|rfl|rw [hB],rfl⟩
  case rest=>
   rename World=>z
   obtain ⟨rfl,rfl⟩:=hcut
   have HRR:=yiO (fun x (hb:Below x3.heap.size x3 x)=>HR3.out.below hb)
   rw [hB]
   have HRES:=yiO (z8A (b:=b) hA hB)
   have hl1:1≤l.length:=by
    cases l with
    |nil=>cases hB
    |cons c r=>exact Nat.le_add_left _ _
   have hdl:(l.drop 1).length≤l.length:=by rw [List.length_drop];omega
   have hs1: ∀W,(Instr.slice 9 (.string ⟨l.toArray⟩) (some (.int .i64 1)) none none).run Tryz.prog W= .ok (.string ⟨(l.drop 1).toArray⟩) W:=zfD l 1 hl1
   clear hA hB
   have HWH:Hid (∀W,Below x3.heap.size x3 W→Calls Tryz.prog 62 #[.agg #[.string ⟨b.scheme.toArray⟩,.string ⟨b.user.toArray⟩,.string ⟨b.pass.toArray⟩,.int .i64 (hk b.host),.string ⟨(hn b.host).toArray⟩,.bool (hbit b.host),.int .u64 (hhi b.host),.int .u64 (hlo b.host),.int .i64 b.port,.slice none 0 0,.string ⟨#[]⟩,.bool false,.string ⟨#[]⟩,.bool false],.slice none 0 0,.string ⟨(l.drop 1).toArray⟩] W fun e w'=> ∃pv,e= .returned (.agg ((zcY (zbE b) [] (l.drop 1)).ref pv))∧zaM x3.heap.size w' pv (zcY (zbE b) [] (l.drop 1)).path∧Below x3.heap.size x3 w'):=fun W hW=>(ziL (zbE b) none 0 0 (.slice none 0 0) [] (l.drop 1) W (by omega) (by simp) (.inl ⟨rfl,rfl⟩)).mono (fun e w' ⟨pv,h1,h2,h3⟩=>⟨pv,h1,zbU h2 hW.size,zaC hW h3⟩)
   generalize zcY (zbE b) [] (l.drop 1)=v at*
   generalize l.drop 1=dq at*
   have HKK:Hid (∀x,Below x3.heap.size x3 x→x.cell? ⟨U,0,none⟩=some (.string ⟨b.scheme.toArray⟩)∧x.cell? ⟨U,1,none⟩=some (.string ⟨b.user.toArray⟩)∧x.cell? ⟨U,2,none⟩=some (.string ⟨b.pass.toArray⟩)∧x.cell? ⟨U,3,none⟩=some (.int .i64 (hk b.host))∧x.cell? ⟨U,4,none⟩=some (.string ⟨(hn b.host).toArray⟩)∧x.cell? ⟨U,5,none⟩=some (.bool (hbit b.host))∧x.cell? ⟨U,6,none⟩=some (.int .u64 (hhi b.host))∧x.cell? ⟨U,7,none⟩=some (.int .u64 (hlo b.host))∧x.cell? ⟨U,8,none⟩=some (.int .i64 b.port)∧x.cell? ⟨U,9,none⟩=some (.slice none 0 0)∧x.cell? ⟨U,10,none⟩=some (.string ⟨#[]⟩)∧x.cell? ⟨U,11,none⟩=some (.bool false)∧x.cell? ⟨U,12,none⟩=some (.string ⟨#[]⟩)∧x.cell? ⟨U,13,none⟩=some (.bool false)):=fun x hb=>by
    obtain ⟨d0,d1,d2,d3,d4,d5,d6,d7,d8,d9,d10,d11,d12,d13,-⟩:=(HU3.out.below hb).all
    obtain ⟨f0,f1,f2,f3,f4,f5,f6,f7,f8,f9,f10,f11,f12,f13,-⟩:=(HK3.out.below hb).all
    exact ⟨d0,d1,d2,d3,d4,d5,d6,d7,d8,d9,d10,d11,d12,d13⟩
   go_wp2_with fail
   refine wp_region_held_drew (S:=fun W=>W.cell? ⟨U,0,none⟩=some (.string ⟨b.scheme.toArray⟩)∧W.cell? ⟨U,1,none⟩=some (.string ⟨b.user.toArray⟩)∧W.cell? ⟨U,2,none⟩=some (.string ⟨b.pass.toArray⟩)∧W.cell? ⟨U,3,none⟩=some (.int .i64 (hk b.host))∧W.cell? ⟨U,4,none⟩=some (.string ⟨(hn b.host).toArray⟩)∧W.cell? ⟨U,5,none⟩=some (.bool (hbit b.host))∧W.cell? ⟨U,6,none⟩=some (.int .u64 (hhi b.host))∧W.cell? ⟨U,7,none⟩=some (.int .u64 (hlo b.host))∧W.cell? ⟨U,8,none⟩=some (.int .i64 b.port)∧W.cell? ⟨U,9,none⟩=some (.slice none 0 0)∧W.cell? ⟨U,10,none⟩=some (.string ⟨#[]⟩)∧W.cell? ⟨U,11,none⟩=some (.bool false)∧W.cell? ⟨U,12,none⟩=some (.string ⟨#[]⟩)∧W.cell? ⟨U,13,none⟩=some (.bool false)) (by kernel_rfl) ?_ (fun hHeld=> ?_)
   ·exact (HKK.out _ (zbB _))
   refine tkc 0 (some 46) (v:= ?_) rfl (.inl ⟨by rfl,?_⟩) hHeld ?_;rotate_left;·intro w hSw;(try dsimp only at hSw);go_simp;try with_reducible rfl
   try simp only [Act.put,tkca,tkcb,tkcc]
   refine tkc 1 (some 47) (v:= ?_) rfl (.inl ⟨by rfl,?_⟩) hHeld ?_;rotate_left;·intro w hSw;(try dsimp only at hSw);go_simp;try with_reducible rfl
   try simp only [Act.put,tkca,tkcb,tkcc]
   refine tkc 2 (some 48) (v:= ?_) rfl (.inl ⟨by rfl,?_⟩) hHeld ?_;rotate_left;·intro w hSw;(try dsimp only at hSw);go_simp;try with_reducible rfl
   try simp only [Act.put,tkca,tkcb,tkcc]
   refine wpAnyH_ready (rs:=[3]) (by kernel_rfl) (by simp) ?_
   refine AllReadyH.cons (o:=⟨some 49,_,_,_,_,_⟩) rfl (fun K hK=> ?_) AllReadyH.nil
   go_simp
   go_at_call 62
   refine (HWH.out _ (zbB _)).mono ?_
   rintro e x9 ⟨pv,rfl,hp9,hb9⟩
   obtain ⟨sa,sn,sc,rfl⟩:=hp9.pv.shape
   have HFAR:=yiO (hp9.far (N:=w.heap.size) (by omega))
   obtain ⟨c0,c1,c2,c3,c4,c5,c6,c7,c8,c9,c10,c11,c12,c13,k0,k1,k2,k3,k4,k5,k6,k7,k8,k9,k10,k11,k12,k13,kf⟩:=(HRR.out _ hb9).all
   simp only [UZ.ref]
   (try go_wp2_with fail)
   refine hK.out _ _ ?_ (fun hHeld1=> ?_)
   ·exact (HKK.out _ hb9)
   clear hK K
   try simp only [Act.put,tkca,tkcb,tkcc]
   refine wpAnyH_ready (rs:=[4]) (by kernel_rfl) (by simp) ?_
   refine AllReadyH.cons (o:=⟨none,_,_,_,_,_⟩) rfl (fun K hK=> ?_) AllReadyH.nil
   go_simp
   refine hK.out _ _ ?_ (fun hHeld2=> ?_)
   ·exact (by obtain ⟨h0,h1,h2,h3,h4,h5,h6,h7,h8,h9,h10,h11,h12,h13⟩:=HKK.out _ hb9;exact ⟨zaR (by omega) _ _ _ _ _ _ _ _ _ _ _ _ _ _ h0,zaR (by omega) _ _ _ _ _ _ _ _ _ _ _ _ _ _ h1,zaR (by omega) _ _ _ _ _ _ _ _ _ _ _ _ _ _ h2,zaR (by omega) _ _ _ _ _ _ _ _ _ _ _ _ _ _ h3,zaR (by omega) _ _ _ _ _ _ _ _ _ _ _ _ _ _ h4,zaR (by omega) _ _ _ _ _ _ _ _ _ _ _ _ _ _ h5,zaR (by omega) _ _ _ _ _ _ _ _ _ _ _ _ _ _ h6,zaR (by omega) _ _ _ _ _ _ _ _ _ _ _ _ _ _ h7,zaR (by omega) _ _ _ _ _ _ _ _ _ _ _ _ _ _ h8,zaR (by omega) _ _ _ _ _ _ _ _ _ _ _ _ _ _ h9,zaR (by omega) _ _ _ _ _ _ _ _ _ _ _ _ _ _ h10,zaR (by omega) _ _ _ _ _ _ _ _ _ _ _ _ _ _ h11,zaR (by omega) _ _ _ _ _ _ _ _ _ _ _ _ _ _ h12,zaR (by omega) _ _ _ _ _ _ _ _ _ _ _ _ _ _ h13⟩)
   clear hK K
   try simp only [Act.put,tkca,tkcb,tkcc]
   refine tkc 5 (some 5) (v:= ?_) rfl (.inl ⟨by rfl,?_⟩) hHeld2 ?_;rotate_left;·intro w hSw;(try dsimp only at hSw);go_simp;try with_reducible rfl
   try simp only [Act.put,tkca,tkcb,tkcc]
   refine wpAnyH_done (by kernel_rfl) ?_ _
   have hEB:=zbC (zaC HB3.out hb9) (show w.heap.size≤w.heap.size+1 by omega) v (.slice sa sn sc)
   have hEC:=zbF (HRR.out _ hb9) v (.slice sa sn sc) _ rfl
   have hEP:=(hp9.only (zbS (g:=w.heap.size+1) v (.slice sa sn sc)) (fun b hb=>by rw [List.mem_singleton.1 hb];omega)).pv
   unfold zbJ at hEB hEC hEP
   have HEB:=yiO hEB
   have HEC:=yiO hEC
   have HEP:=yiO hEP
   clear hEB hEC hEP
   go_wp2
   obtain ⟨e0,e1,e2,e3,e4,e5,e6,e7,e8,e9,e10,e11,e12,e13⟩:=HEC.out
   refine bodyPost_ret (v:= .tuple #[.agg (v.ref (.slice sa sn sc)),.int .i64 0]) (by simp [results,Tryz.results32,go_sem,e0,e1,e2,e3,e4,e5,e6,e7,e8,e9,e10,e11,e12,e13,UZ.ref]) rfl ?_
   rw [HRES.out]
   exact ⟨_,rfl,HEP.out,.inr HFAR.out,HEB.out⟩
theorem zxV (b:UZ) (ba:Option Addr) (bn bc:Nat) (l:List UInt8) (w:World) (hl:l.length≤100000) (_hbl:b.path.length≤1000000) (_hne:b.path≠[]) (hp:PV w (.slice ba bn bc) b.path) (hA:(zaY l&&zaY (l.drop 1))=false) (hB:zaY l=false) (hC:(l.isEmpty||l.head? ==some 35)=true):
  Calls Tryz.prog 32 #[.agg (b.ref (.slice ba bn bc)),.string ⟨l.toArray⟩] w (RetY w (.slice ba bn bc) (relW b l)):=by
 obtain ⟨x2,hx2⟩: ∃y,y=(w.alloc (.cells (b.ref (.slice ba bn bc)) 38)).alloc (.cells zaN 38):=⟨_,rfl⟩
 obtain ⟨hu,hr,hbw,hsz⟩:=zcZ zbP hx2
 have hKR:w.heap.size+1<x2.heap.size:=by omega
 clear hsz
 have HU2:=yiO hu
 have HR2:=yiO hr
 have HB2:=yiO hbw
 simp only [UZ.ref,zaN] at hx2
 clear hu hr hbw
 have hz:=zaA l
 go_enter Tryz.func32,Tryz.ntmps32
 simp only [UZ.ref]
 go_upto_region 1 with fail
 rw [←hx2]
 clear hx2
 go_cut [19] (fun bv wc=>bv= .bool (zaY l&&zaY (l.drop 1))∧x2=wc)
 case first=>
  rcases ziC l with ⟨hL,hoff⟩|⟨c,d,r,hr0,hoff⟩
  ·go_wp2
   go_meet
   exact ⟨by rw [hoff],rfl⟩
  ·have hL:2≤l.length:=by rw [hr0];simp only [List.length_cons];omega
   have h0:0<(ByteArray.mk l.toArray).size:=by rw [hz];omega
   have h1:1<(ByteArray.mk l.toArray).size:=by rw [hz];omega
   have hb0:(ByteArray.mk l.toArray)[0]=c:=by subst hr0;rfl
   have hb1:(ByteArray.mk l.toArray)[1]=d:=by subst hr0;rfl
   have HSC:=yiO (fun W=>zbI c W)
   have HSD:=yiO (fun W=>zbI d W)
   cases hc:zcB c with
   |false=>
    rw [hc] at HSC hoff
    clear hr0 hc
    go_wp2_with fail
    refine (HSC.out _).mono ?_
    rintro e w' ⟨rfl,rfl⟩
    go_wp2
    go_meet
    exact ⟨by rw [hoff];rfl,rfl⟩
   |true=>
    rw [hc] at HSC hoff
    clear hr0 hc
    go_wp2_with fail
    refine (HSC.out _).mono ?_
    rintro e w' ⟨rfl,rfl⟩
    go_wp2_with fail
    refine (HSD.out _).mono ?_
    rintro e w' ⟨rfl,rfl⟩
    go_wp2
    go_meet
    exact ⟨by rw [hoff];rfl,rfl⟩
 case rest=>
  rename World=>z
  obtain ⟨rfl,rfl⟩:=hcut
  rw [hA]
  have HP2:=yiO (hp.keep HB2.out)
  obtain ⟨x3,hx3⟩: ∃y,y=x2.alloc (.cells ((zbE b).ref (.slice none 0 0)) 38):=⟨_,rfl⟩
  have hd3:Below x2.heap.size x2 x3:=by rw [hx3];exact zcC x2 _
  have HU3:Hid (VB x3 x2.heap.size (zbE b) (.slice none 0 0)):=by show VB _ _ _ _;rw [hx3];exact VB.new x2 _ _
  have HK3:=yiO (HU2.out.below hd3)
  have HR3:=yiO (HR2.out.below hd3)
  have HB3:=yiO (zaC HB2.out hd3)
  obtain ⟨d0,d1,d2,d3,d4,d5,d6,d7,d8,d9,d10,d11,d12,d13,-⟩:=HU2.out.all
  rw [zmT] at hx3
  obtain ⟨U,hU⟩: ∃g,g=x2.heap.size:=⟨_,rfl⟩
  rw [←hU] at HU3
  have hUs:U<x3.heap.size:=zaO HU3.out
  have hKU:w.heap.size+1<U:=by omega
  have hKU2:w.heap.size≠U:=by omega
  clear hd3 HU2 HR2 HP2
  go_upto_region 4 with fail
  rw [←hx3,←hU]
  clear hx3 hU d0 d1 d2 d3 d4 d5 d6 d7 d8 d9 d10 d11 d12 d13
  go_cut [45] (fun bv wc=>bv= .bool (zaY l)∧x3=wc)
  case first=>
   rcases zkF l with ⟨hr0,hoff⟩|⟨c,r,hr0,hoff⟩
   ·have hL:l.length=0:=by rw [hr0];rfl
    clear hr0
    go_wp2
    go_meet
    exact ⟨by rw [hoff],rfl⟩
   ·have hL:0<l.length:=by rw [hr0];exact Nat.succ_pos _
    have h0:0<(ByteArray.mk l.toArray).size:=by rw [hz];exact hL
    have hb0:(ByteArray.mk l.toArray)[0]=c:=by subst hr0;rfl
    have HSL:=yiO (fun W=>zbI c W)
    rw [←hoff] at HSL
    clear hr0 hoff
    go_wp2_with fail
    refine (HSL.out _).mono ?_
    rintro e w' ⟨rfl,rfl⟩
    go_wp2
    go_meet
    exact ⟨by first|rfl|rw [hB],rfl⟩
  case rest=>
   rename World=>z
   obtain ⟨rfl,rfl⟩:=hcut
   have HRR:=yiO (fun x (hb:Below x3.heap.size x3 x)=>HR3.out.below hb)
   rw [hB]
   go_upto_region 6 with fail
   go_cut [56] (fun bv wc=>bv= .bool (l.isEmpty||l.head? ==some 35)∧x3=wc)
   case first=>
    rcases zrI l with ⟨hr0,hoff⟩|⟨c,r,hr0,hoff⟩
    ·have hemp:l.isEmpty=true:=by rw [hr0];rfl
     clear hr0
     go_wp2
     go_meet
     exact ⟨by rw [hoff],rfl⟩
    ·have hemp:l.isEmpty=false:=by rw [hr0];rfl
     have h0:0<(ByteArray.mk l.toArray).size:=by rw [hz,hr0];exact Nat.succ_pos _
     have hb0:(ByteArray.mk l.toArray)[0]=c:=by subst hr0;rfl
     clear hr0
     go_wp2
     go_meet
     exact ⟨by rw [hoff],rfl⟩
   case rest=>
    rename World=>z
    obtain ⟨rfl,rfl⟩:=hcut
    obtain ⟨-,-,-,-,-,-,-,-,-,f9,f10,f11,-,-,-⟩:=HK3.out.all
    rw [hC]
    have HRES:=yiO (z9Z (b:=b) hB hC)
    obtain ⟨⟨q0,q1,q2⟩,q3,q4,q5⟩:=HU3.out.st3 (.slice ba bn bc) (.string ⟨b.query.toArray⟩)
    have HU4:=yiO (HU3.out.pqh b.path (.slice ba bn bc) b.query b.hasQ)
    have HR4:=yiO (((HR3.out.set (g:=U) (i:=9) (by omega) (.slice ba bn bc)).set (g:=U) (i:=10) (by omega) (.string ⟨b.query.toArray⟩)).set (g:=U) (i:=11) (by omega) (.bool b.hasQ))
    have HB4:=yiO (((HB3.out.setCell (p:=⟨U,9,none⟩) (show w.heap.size≤U by omega) (.slice ba bn bc)).setCell (p:=⟨U,10,none⟩) (show w.heap.size≤U by omega) (.string ⟨b.query.toArray⟩)).setCell (p:=⟨U,11,none⟩) (show w.heap.size≤U by omega) (.bool b.hasQ))
    have q6:(x3.setCell ⟨U,9,none⟩ (.slice ba bn bc)).cell? ⟨w.heap.size,10,none⟩=some (.string ⟨b.query.toArray⟩):=(World.cell?_of_block (a:=⟨w.heap.size,10,none⟩) (zaZ hKU2 _ _)).trans f10
    have q7:((x3.setCell ⟨U,9,none⟩ (.slice ba bn bc)).setCell ⟨U,10,none⟩ (.string ⟨b.query.toArray⟩)).cell? ⟨w.heap.size,11,none⟩=some (.bool b.hasQ):=(World.cell?_of_block (a:=⟨w.heap.size,11,none⟩) ((zaZ hKU2 _ _).trans (zaZ hKU2 _ _))).trans f11
    go_upto_region 10 with fail
    clear q0 q1 q2 q3 q4 q5 q6 q7 f9 f10 f11
    generalize (((x3.setCell ⟨U,9,none⟩ (.slice ba bn bc)).setCell ⟨U,10,none⟩ (.string ⟨b.query.toArray⟩)).setCell ⟨U,11,none⟩ (.bool b.hasQ))=x4 at*
    have HTL:Hid (Calls Tryz.prog 63 #[.agg #[.string ⟨b.scheme.toArray⟩,.string ⟨b.user.toArray⟩,.string ⟨b.pass.toArray⟩,.int .i64 (hk b.host),.string ⟨(hn b.host).toArray⟩,.bool (hbit b.host),.int .u64 (hhi b.host),.int .u64 (hlo b.host),.int .i64 b.port,.slice ba bn bc,.string ⟨b.query.toArray⟩,.bool b.hasQ,.string ⟨#[]⟩,.bool false],.string ⟨l.toArray⟩] x4 (RetV x4 (zdC {zbE b with path:=b.path,query:=b.query,hasQ:=b.hasQ} l) (.slice ba bn bc))):=zjM {zbE b with path:=b.path,query:=b.query,hasQ:=b.hasQ} ba bn bc l x4 (by omega)
    have HTP:Hid ((zdC {zbE b with path:=b.path,query:=b.query,hasQ:=b.hasQ} l).path=b.path):=znS _ _
    obtain ⟨d0,d1,d2,d3,d4,d5,d6,d7,d8,d9,d10,d11,d12,d13,-⟩:=HU4.out.all
    simp only [zbE,zbX] at d0 d1 d2 d3 d4 d5 d6 d7 d8 d9 d10 d11 d12 d13
    generalize zdC {zbE b with path:=b.path,query:=b.query,hasQ:=b.hasQ} l=v at*
    go_wp2_with fail
    refine HTL.out.mono ?_
    rintro e x9 ⟨rfl,hb9⟩
    simp only [UZ.ref]
    obtain ⟨c0,c1,c2,c3,c4,c5,c6,c7,c8,c9,c10,c11,c12,c13,k0,k1,k2,k3,k4,k5,k6,k7,k8,k9,k10,k11,k12,k13,kf⟩:=(HR4.out.below hb9).all
    have hEB:=zbC (zaC HB4.out hb9) (show w.heap.size≤w.heap.size+1 by omega) v (.slice ba bn bc)
    have hEC:=zbF (HR4.out.below hb9) v (.slice ba bn bc) _ rfl
    have hEP:=hp.keep hEB
    unfold zbJ at hEB hEC hEP
    have HEB:=yiO hEB
    have HEC:=yiO hEC
    have HEP:=yiO hEP
    clear hEB hEC hEP
    go_wp2
    obtain ⟨e0,e1,e2,e3,e4,e5,e6,e7,e8,e9,e10,e11,e12,e13⟩:=HEC.out
    refine bodyPost_ret (v:= .tuple #[.agg (v.ref (.slice ba bn bc)),.int .i64 0]) (by simp [results,Tryz.results32,go_sem,e0,e1,e2,e3,e4,e5,e6,e7,e8,e9,e10,e11,e12,e13,UZ.ref]) rfl ?_
    rw [HRES.out]
    exact ⟨_,rfl,by rw [HTP.out];exact HEP.out,.inl rfl,HEB.out⟩
theorem z2E (b:UZ) (ba:Option Addr) (bn bc:Nat) (l:List UInt8) (w:World) (hl:l.length≤100000) (_hbl:b.path.length≤1000000) (_hne:b.path≠[]) (hp:PV w (.slice ba bn bc) b.path) (hA:(zaY l&&zaY (l.drop 1))=false) (hB:zaY l=false) (hC:(l.isEmpty||l.head? ==some 35)=false) (c:UInt8) (r:List UInt8) (hr0:l=c::r) (h63:c=63):
  Calls Tryz.prog 32 #[.agg (b.ref (.slice ba bn bc)),.string ⟨l.toArray⟩] w (RetY w (.slice ba bn bc) (relW b l)):=by
 have HR0:=yiO hr0
 have H63:=yiO h63
 clear hr0 h63
 obtain ⟨x2,hx2⟩: ∃y,y=(w.alloc (.cells (b.ref (.slice ba bn bc)) 38)).alloc (.cells zaN 38):=⟨_,rfl⟩
 obtain ⟨hu,hr,hbw,hsz⟩:=zcZ zbP hx2
 have hKR:w.heap.size+1<x2.heap.size:=by omega
 clear hsz
 have HU2:=yiO hu
 have HR2:=yiO hr
 have HB2:=yiO hbw
 simp only [UZ.ref,zaN] at hx2
 clear hu hr hbw
 have hz:=zaA l
 go_enter Tryz.func32,Tryz.ntmps32
 simp only [UZ.ref]
 go_upto_region 1 with fail
 rw [←hx2]
 clear hx2
 go_cut [19] (fun bv wc=>bv= .bool (zaY l&&zaY (l.drop 1))∧x2=wc)
 case first=>
  rcases ziC l with ⟨hL,hoff⟩|⟨c,d,r,hr0,hoff⟩
  ·go_wp2
   go_meet
   exact ⟨by rw [hoff],rfl⟩
  ·have hL:2≤l.length:=by rw [hr0];simp only [List.length_cons];omega
   have h0:0<(ByteArray.mk l.toArray).size:=by rw [hz];omega
   have h1:1<(ByteArray.mk l.toArray).size:=by rw [hz];omega
   have hb0:(ByteArray.mk l.toArray)[0]=c:=by subst hr0;rfl
   have hb1:(ByteArray.mk l.toArray)[1]=d:=by subst hr0;rfl
   have HSC:=yiO (fun W=>zbI c W)
   have HSD:=yiO (fun W=>zbI d W)
   cases hc:zcB c with
   |false=>
    rw [hc] at HSC hoff
    clear hr0 hc
    go_wp2_with fail
    refine (HSC.out _).mono ?_
    rintro e w' ⟨rfl,rfl⟩
    go_wp2
    go_meet
    exact ⟨by rw [hoff];rfl,rfl⟩
   |true=>
    rw [hc] at HSC hoff
    clear hr0 hc
    go_wp2_with fail
    refine (HSC.out _).mono ?_
    rintro e w' ⟨rfl,rfl⟩
    go_wp2_with fail
    refine (HSD.out _).mono ?_
    rintro e w' ⟨rfl,rfl⟩
    go_wp2
    go_meet
    exact ⟨by rw [hoff];rfl,rfl⟩
 case rest=>
  rename World=>z
  obtain ⟨rfl,rfl⟩:=hcut
  rw [hA]
  have HP2:=yiO (hp.keep HB2.out)
  obtain ⟨x3,hx3⟩: ∃y,y=x2.alloc (.cells ((zbE b).ref (.slice none 0 0)) 38):=⟨_,rfl⟩
  have hd3:Below x2.heap.size x2 x3:=by rw [hx3];exact zcC x2 _
  have HU3:Hid (VB x3 x2.heap.size (zbE b) (.slice none 0 0)):=by show VB _ _ _ _;rw [hx3];exact VB.new x2 _ _
  have HK3:=yiO (HU2.out.below hd3)
  have HR3:=yiO (HR2.out.below hd3)
  have HB3:=yiO (zaC HB2.out hd3)
  obtain ⟨d0,d1,d2,d3,d4,d5,d6,d7,d8,d9,d10,d11,d12,d13,-⟩:=HU2.out.all
  rw [zmT] at hx3
  obtain ⟨U,hU⟩: ∃g,g=x2.heap.size:=⟨_,rfl⟩
  rw [←hU] at HU3
  have hUs:U<x3.heap.size:=zaO HU3.out
  have hKU:w.heap.size+1<U:=by omega
  have hKU2:w.heap.size≠U:=by omega
  clear hd3 HU2 HR2 HP2
  go_upto_region 4 with fail
  rw [←hx3,←hU]
  clear hx3 hU d0 d1 d2 d3 d4 d5 d6 d7 d8 d9 d10 d11 d12 d13
  go_cut [45] (fun bv wc=>bv= .bool (zaY l)∧x3=wc)
  case first=>
   rcases zkF l with ⟨hr0,hoff⟩|⟨c,r,hr0,hoff⟩
   ·have hL:l.length=0:=by rw [hr0];rfl
    clear hr0
    go_wp2
    go_meet
    exact ⟨by rw [hoff],rfl⟩
   ·have hL:0<l.length:=by rw [hr0];exact Nat.succ_pos _
    have h0:0<(ByteArray.mk l.toArray).size:=by rw [hz];exact hL
    have hb0:(ByteArray.mk l.toArray)[0]=c:=by subst hr0;rfl
    have HSL:=yiO (fun W=>zbI c W)
    rw [←hoff] at HSL
    clear hr0 hoff
    go_wp2_with fail
    refine (HSL.out _).mono ?_
    rintro e w' ⟨rfl,rfl⟩
    go_wp2
    go_meet
    exact ⟨by first|rfl|rw [hB],rfl⟩
  case rest=>
   rename World=>z
   obtain ⟨rfl,rfl⟩:=hcut
   have HRR:=yiO (fun x (hb:Below x3.heap.size x3 x)=>HR3.out.below hb)
   rw [hB]
   go_upto_region 6 with fail
   go_cut [56] (fun bv wc=>bv= .bool (l.isEmpty||l.head? ==some 35)∧x3=wc)
   case first=>
    rcases zrI l with ⟨hr0,hoff⟩|⟨c,r,hr0,hoff⟩
    ·have hemp:l.isEmpty=true:=by rw [hr0];rfl
     clear hr0
     go_wp2
     go_meet
     exact ⟨by rw [hoff],rfl⟩
    ·have hemp:l.isEmpty=false:=by rw [hr0];rfl
     have h0:0<(ByteArray.mk l.toArray).size:=by rw [hz,hr0];exact Nat.succ_pos _
     have hb0:(ByteArray.mk l.toArray)[0]=c:=by subst hr0;rfl
     clear hr0
     go_wp2
     go_meet
     exact ⟨by rw [hoff],rfl⟩
   case rest=>
    rename World=>z
    obtain ⟨rfl,rfl⟩:=hcut
    obtain ⟨-,-,-,-,-,-,-,-,-,f9,f10,f11,-,-,-⟩:=HK3.out.all
    rw [hC]
    have hr0:=HR0.out
    have h63:=H63.out
    have h0:0<(ByteArray.mk l.toArray).size:=by rw [hz,hr0];exact Nat.succ_pos _
    have hb0:(ByteArray.mk l.toArray)[0]=c:=by subst hr0;rfl
    have e63:((c.toNat:Int)==63)=true:=by rw [h63];rfl
    have HRES:=yiO (ycK (b:=b) hB hC (by rw [hr0,h63];rfl))
    clear hr0 h63
    obtain ⟨⟨q0,-,-⟩,q3,-,-⟩:=HU3.out.st3 (.slice ba bn bc) .nilIface
    have HU4:=yiO (HU3.out.pp b.path (.slice ba bn bc))
    have HR4:=yiO (HR3.out.set (g:=U) (i:=9) (by omega) (.slice ba bn bc))
    have HB4:=yiO (HB3.out.setCell (p:=⟨U,9,none⟩) (show w.heap.size≤U by omega) (.slice ba bn bc))
    go_upto_region 13 with fail
    clear q0 q3 f9 f10 f11
    generalize (x3.setCell ⟨U,9,none⟩ (.slice ba bn bc))=x4 at*
    have HTL:Hid (Calls Tryz.prog 63 #[.agg #[.string ⟨b.scheme.toArray⟩,.string ⟨b.user.toArray⟩,.string ⟨b.pass.toArray⟩,.int .i64 (hk b.host),.string ⟨(hn b.host).toArray⟩,.bool (hbit b.host),.int .u64 (hhi b.host),.int .u64 (hlo b.host),.int .i64 b.port,.slice ba bn bc,.string ⟨#[]⟩,.bool false,.string ⟨#[]⟩,.bool false],.string ⟨l.toArray⟩] x4 (RetV x4 (zdC {zbE b with path:=b.path} l) (.slice ba bn bc))):=zjM {zbE b with path:=b.path} ba bn bc l x4 (by omega)
    have HTP:Hid ((zdC {zbE b with path:=b.path} l).path=b.path):=znS _ _
    obtain ⟨d0,d1,d2,d3,d4,d5,d6,d7,d8,d9,d10,d11,d12,d13,-⟩:=HU4.out.all
    simp only [zbE,zbX] at d0 d1 d2 d3 d4 d5 d6 d7 d8 d9 d10 d11 d12 d13
    generalize zdC {zbE b with path:=b.path} l=v at*
    go_wp2_with fail
    refine HTL.out.mono ?_
    rintro e x9 ⟨rfl,hb9⟩
    simp only [UZ.ref]
    obtain ⟨c0,c1,c2,c3,c4,c5,c6,c7,c8,c9,c10,c11,c12,c13,k0,k1,k2,k3,k4,k5,k6,k7,k8,k9,k10,k11,k12,k13,kf⟩:=(HR4.out.below hb9).all
    have hEB:=zbC (zaC HB4.out hb9) (show w.heap.size≤w.heap.size+1 by omega) v (.slice ba bn bc)
    have hEC:=zbF (HR4.out.below hb9) v (.slice ba bn bc) _ rfl
    have hEP:=hp.keep hEB
    unfold zbJ at hEB hEC hEP
    have HEB:=yiO hEB
    have HEC:=yiO hEC
    have HEP:=yiO hEP
    clear hEB hEC hEP
    go_wp2
    obtain ⟨e0,e1,e2,e3,e4,e5,e6,e7,e8,e9,e10,e11,e12,e13⟩:=HEC.out
    refine bodyPost_ret (v:= .tuple #[.agg (v.ref (.slice ba bn bc)),.int .i64 0]) (by simp [results,Tryz.results32,go_sem,e0,e1,e2,e3,e4,e5,e6,e7,e8,e9,e10,e11,e12,e13,UZ.ref]) rfl ?_
    rw [HRES.out]
    exact ⟨_,rfl,by rw [HTP.out];exact HEP.out,.inl rfl,HEB.out⟩
theorem zwO (b:UZ) (ba:Option Addr) (bn bc:Nat) (l:List UInt8) (w:World) (hl:l.length≤100000) (hbl:b.path.length≤1000000) (hne:b.path≠[]) (hp:PV w (.slice ba bn bc) b.path) (hA:(zaY l&&zaY (l.drop 1))=false) (hB:zaY l=false) (hC:(l.isEmpty||l.head? ==some 35)=false) (c:UInt8) (r:List UInt8) (hr0:l=c::r) (h63: ¬c=63):
  Calls Tryz.prog 32 #[.agg (b.ref (.slice ba bn bc)),.string ⟨l.toArray⟩] w (RetY w (.slice ba bn bc) (relW b l)):=by
 have HR0:=yiO hr0
 have H63:=yiO h63
 clear hr0 h63
 obtain ⟨x2,hx2⟩: ∃y,y=(w.alloc (.cells (b.ref (.slice ba bn bc)) 38)).alloc (.cells zaN 38):=⟨_,rfl⟩
 obtain ⟨hu,hr,hbw,hsz⟩:=zcZ zbP hx2
 have hKR:w.heap.size+1<x2.heap.size:=by omega
 clear hsz
 have HU2:=yiO hu
 have HR2:=yiO hr
 have HB2:=yiO hbw
 simp only [UZ.ref,zaN] at hx2
 clear hu hr hbw
 have hz:=zaA l
 go_enter Tryz.func32,Tryz.ntmps32
 simp only [UZ.ref]
 go_upto_region 1 with fail
 rw [←hx2]
 clear hx2
 go_cut [19] (fun bv wc=>bv= .bool (zaY l&&zaY (l.drop 1))∧x2=wc)
 case first=>
  rcases ziC l with ⟨hL,hoff⟩|⟨c,d,r,hr0,hoff⟩
  ·go_wp2
   go_meet
   exact ⟨by rw [hoff],rfl⟩
  ·have hL:2≤l.length:=by rw [hr0];simp only [List.length_cons];omega
   have h0:0<(ByteArray.mk l.toArray).size:=by rw [hz];omega
   have h1:1<(ByteArray.mk l.toArray).size:=by rw [hz];omega
   have hb0:(ByteArray.mk l.toArray)[0]=c:=by subst hr0;rfl
   have hb1:(ByteArray.mk l.toArray)[1]=d:=by subst hr0;rfl
   have HSC:=yiO (fun W=>zbI c W)
   have HSD:=yiO (fun W=>zbI d W)
   cases hc:zcB c with
   |false=>
    rw [hc] at HSC hoff
    clear hr0 hc
    go_wp2_with fail
    refine (HSC.out _).mono ?_
    rintro e w' ⟨rfl,rfl⟩
    go_wp2
    go_meet
    exact ⟨by rw [hoff];rfl,rfl⟩
   |true=>
    rw [hc] at HSC hoff
    clear hr0 hc
    go_wp2_with fail
    refine (HSC.out _).mono ?_
    rintro e w' ⟨rfl,rfl⟩
    go_wp2_with fail
    refine (HSD.out _).mono ?_
    rintro e w' ⟨rfl,rfl⟩
    go_wp2
    go_meet
    exact ⟨by rw [hoff];rfl,rfl⟩
 case rest=>
  rename World=>z
  obtain ⟨rfl,rfl⟩:=hcut
  rw [hA]
  have HP2:=yiO (hp.keep HB2.out)
  obtain ⟨x3,hx3⟩: ∃y,y=x2.alloc (.cells ((zbE b).ref (.slice none 0 0)) 38):=⟨_,rfl⟩
  have hd3:Below x2.heap.size x2 x3:=by rw [hx3];exact zcC x2 _
  have HU3:Hid (VB x3 x2.heap.size (zbE b) (.slice none 0 0)):=by show VB _ _ _ _;rw [hx3];exact VB.new x2 _ _
  have HK3:=yiO (HU2.out.below hd3)
  have HR3:=yiO (HR2.out.below hd3)
  have HB3:=yiO (zaC HB2.out hd3)
  obtain ⟨d0,d1,d2,d3,d4,d5,d6,d7,d8,d9,d10,d11,d12,d13,-⟩:=HU2.out.all
  rw [zmT] at hx3
  obtain ⟨U,hU⟩: ∃g,g=x2.heap.size:=⟨_,rfl⟩
  rw [←hU] at HU3
  have hUs:U<x3.heap.size:=zaO HU3.out
  have hKU:w.heap.size+1<U:=by omega
  have hKU2:w.heap.size≠U:=by omega
  clear hd3 HU2 HR2 HP2
  go_upto_region 4 with fail
  rw [←hx3,←hU]
  clear hx3 hU d0 d1 d2 d3 d4 d5 d6 d7 d8 d9 d10 d11 d12 d13
  go_cut [45] (fun bv wc=>bv= .bool (zaY l)∧x3=wc)
  case first=>
   rcases zkF l with ⟨hr0,hoff⟩|⟨c,r,hr0,hoff⟩
   ·have hL:l.length=0:=by rw [hr0];rfl
    clear hr0
    go_wp2
    go_meet
    exact ⟨by rw [hoff],rfl⟩
   ·have hL:0<l.length:=by rw [hr0];exact Nat.succ_pos _
    have h0:0<(ByteArray.mk l.toArray).size:=by rw [hz];exact hL
    have hb0:(ByteArray.mk l.toArray)[0]=c:=by subst hr0;rfl
    have HSL:=yiO (fun W=>zbI c W)
    rw [←hoff] at HSL
    clear hr0 hoff
    go_wp2_with fail
    refine (HSL.out _).mono ?_
    rintro e w' ⟨rfl,rfl⟩
    go_wp2
    go_meet
    exact ⟨by first|rfl|rw [hB],rfl⟩
  case rest=>
   rename World=>z
   obtain ⟨rfl,rfl⟩:=hcut
   have HRR:=yiO (fun x (hb:Below x3.heap.size x3 x)=>HR3.out.below hb)
   rw [hB]
   go_upto_region 6 with fail
   go_cut [56] (fun bv wc=>bv= .bool (l.isEmpty||l.head? ==some 35)∧x3=wc)
   case first=>
    rcases zrI l with ⟨hr0,hoff⟩|⟨c,r,hr0,hoff⟩
    ·have hemp:l.isEmpty=true:=by rw [hr0];rfl
     clear hr0
     go_wp2
     go_meet
     exact ⟨by rw [hoff],rfl⟩
    ·have hemp:l.isEmpty=false:=by rw [hr0];rfl
     have h0:0<(ByteArray.mk l.toArray).size:=by rw [hz,hr0];exact Nat.succ_pos _
     have hb0:(ByteArray.mk l.toArray)[0]=c:=by subst hr0;rfl
     clear hr0
     go_wp2
     go_meet
     exact ⟨by rw [hoff],rfl⟩
   case rest=>
    rename World=>z
    obtain ⟨rfl,rfl⟩:=hcut
    obtain ⟨-,-,-,-,-,-,-,-,-,f9,f10,f11,-,-,-⟩:=HK3.out.all
    rw [hC]
    have hr0:=HR0.out
    have h63:=H63.out
    have h0:0<(ByteArray.mk l.toArray).size:=by rw [hz,hr0];exact Nat.succ_pos _
    have hb0:(ByteArray.mk l.toArray)[0]=c:=by subst hr0;rfl
    have e63:((c.toNat:Int)==63)=false:=(zgN (c:=c) (n:=63) (by omega)).trans (yiQ h63)
    rcases hp with ⟨h,-⟩|⟨g,c',hv,hcc,hs⟩
    ·exact absurd h hne
    injection hv with e1 e2 e3
    subst e1 e2 e3
    obtain ⟨n,hn⟩: ∃n,b.path.length=n+1:=by
     cases hq:b.path with
     |nil=>exact absurd hq hne
     |cons a r=>exact ⟨r.length,rfl⟩
    have HPD:=yiO (((z4J hn (by omega) hs).keep HB3.out:PV x3 (.slice (some ⟨g,0,none⟩) n bc) b.path.dropLast))
    rw [hn] at hcc hbl HK3 f9
    have hdp:b.path.dropLast.length≤1000000:=by rw [List.length_dropLast,hn];omega
    have hwn:IntKind.i64.wrap (n:Int)=(n:Int):=by rw [IntKind.wrap_i64];omega
    have hs2: ∀W,(Instr.slice 22 (.slice (some ⟨g,0,none⟩) (n+1) bc) none (some (.int .i64 (n:Int))) none).run Tryz.prog W= .ok (.slice (some ⟨g,0,none⟩) n bc) W:=fun W=>by
     rw [run_slice_h W 22 (some ⟨g,0,none⟩) (n+1) bc (by simp [Program.elem,Tryz.underlying22]) .i64 _ (by omega) (by omega)]
     go_simp
    have HRES:=yiO (z8O (b:=b) hB hC (by rw [hr0];intro g;exact h63 (by simpa using g)))
    clear hA hB hC hs hn hr0 h63
    have HWH:Hid (∀W,Below x3.heap.size x3 W→Calls Tryz.prog 62 #[.agg #[.string ⟨b.scheme.toArray⟩,.string ⟨b.user.toArray⟩,.string ⟨b.pass.toArray⟩,.int .i64 (hk b.host),.string ⟨(hn b.host).toArray⟩,.bool (hbit b.host),.int .u64 (hhi b.host),.int .u64 (hlo b.host),.int .i64 b.port,.slice none 0 0,.string ⟨#[]⟩,.bool false,.string ⟨#[]⟩,.bool false],.slice (some ⟨g,0,none⟩) n bc,.string ⟨(l).toArray⟩] W fun e w'=> ∃pv,e= .returned (.agg ((zcY (zbE b) b.path.dropLast (l)).ref pv))∧zaM x3.heap.size w' pv (zcY (zbE b) b.path.dropLast (l)).path∧Below x3.heap.size x3 w'):=fun W hW=>(ziL (zbE b) none 0 0 (.slice (some ⟨g,0,none⟩) n bc) b.path.dropLast (l) W (by omega) hdp (HPD.out.keep hW)).mono (fun e w' ⟨pv,h1,h2,h3⟩=>⟨pv,h1,zbU h2 hW.size,zaC hW h3⟩)
    generalize zcY (zbE b) b.path.dropLast (l)=v at*
    have HKK:Hid (∀x,Below x3.heap.size x3 x→x.cell? ⟨U,0,none⟩=some (.string ⟨b.scheme.toArray⟩)∧x.cell? ⟨U,1,none⟩=some (.string ⟨b.user.toArray⟩)∧x.cell? ⟨U,2,none⟩=some (.string ⟨b.pass.toArray⟩)∧x.cell? ⟨U,3,none⟩=some (.int .i64 (hk b.host))∧x.cell? ⟨U,4,none⟩=some (.string ⟨(hn b.host).toArray⟩)∧x.cell? ⟨U,5,none⟩=some (.bool (hbit b.host))∧x.cell? ⟨U,6,none⟩=some (.int .u64 (hhi b.host))∧x.cell? ⟨U,7,none⟩=some (.int .u64 (hlo b.host))∧x.cell? ⟨U,8,none⟩=some (.int .i64 b.port)∧x.cell? ⟨U,9,none⟩=some (.slice none 0 0)∧x.cell? ⟨U,10,none⟩=some (.string ⟨#[]⟩)∧x.cell? ⟨U,11,none⟩=some (.bool false)∧x.cell? ⟨U,12,none⟩=some (.string ⟨#[]⟩)∧x.cell? ⟨U,13,none⟩=some (.bool false)∧x.cell? ⟨w.heap.size,9,none⟩=some (.slice (some ⟨g,0,none⟩) (n+1) bc)):=fun x hb=>by
     obtain ⟨d0,d1,d2,d3,d4,d5,d6,d7,d8,d9,d10,d11,d12,d13,-⟩:=(HU3.out.below hb).all
     obtain ⟨f0,f1,f2,f3,f4,f5,f6,f7,f8,f9,f10,f11,f12,f13,-⟩:=(HK3.out.below hb).all
     exact ⟨d0,d1,d2,d3,d4,d5,d6,d7,d8,d9,d10,d11,d12,d13,f9⟩
    go_wp2_with fail
    refine wp_region_held_drew (S:=fun W=>W.cell? ⟨U,0,none⟩=some (.string ⟨b.scheme.toArray⟩)∧W.cell? ⟨U,1,none⟩=some (.string ⟨b.user.toArray⟩)∧W.cell? ⟨U,2,none⟩=some (.string ⟨b.pass.toArray⟩)∧W.cell? ⟨U,3,none⟩=some (.int .i64 (hk b.host))∧W.cell? ⟨U,4,none⟩=some (.string ⟨(hn b.host).toArray⟩)∧W.cell? ⟨U,5,none⟩=some (.bool (hbit b.host))∧W.cell? ⟨U,6,none⟩=some (.int .u64 (hhi b.host))∧W.cell? ⟨U,7,none⟩=some (.int .u64 (hlo b.host))∧W.cell? ⟨U,8,none⟩=some (.int .i64 b.port)∧W.cell? ⟨U,9,none⟩=some (.slice none 0 0)∧W.cell? ⟨U,10,none⟩=some (.string ⟨#[]⟩)∧W.cell? ⟨U,11,none⟩=some (.bool false)∧W.cell? ⟨U,12,none⟩=some (.string ⟨#[]⟩)∧W.cell? ⟨U,13,none⟩=some (.bool false)∧W.cell? ⟨w.heap.size,9,none⟩=some (.slice (some ⟨g,0,none⟩) (n+1) bc)) (by kernel_rfl) ?_ (fun hHeld=> ?_)
    ·exact (HKK.out _ (zbB _))
    refine tkc 0 (some 78) (v:= ?_) rfl (.inl ⟨by rfl,?_⟩) hHeld ?_;rotate_left;·intro w hSw;(try dsimp only at hSw);go_simp;try with_reducible rfl
    try simp only [Act.put,tkca,tkcb,tkcc]
    refine tkc 1 (some 79) (v:= ?_) rfl (.inl ⟨by rfl,?_⟩) hHeld ?_;rotate_left;·intro w hSw;(try dsimp only at hSw);go_simp;try with_reducible rfl
    try simp only [Act.put,tkca,tkcb,tkcc]
    refine tkc 2 (some 80) (v:= ?_) rfl (.inl ⟨by rfl,?_⟩) hHeld ?_;rotate_left;·intro w hSw;(try dsimp only at hSw);go_simp;try with_reducible rfl
    try simp only [Act.put,tkca,tkcb,tkcc]
    refine tkc 3 (some 81) (v:= ?_) rfl (.inl ⟨by rfl,?_⟩) hHeld ?_;rotate_left;·intro w hSw;(try dsimp only at hSw);go_simp;try with_reducible rfl
    try simp only [Act.put,tkca,tkcb,tkcc]
    refine tkc 4 (some 82) (v:= ?_) rfl (.inl ⟨by rfl,?_⟩) hHeld ?_;rotate_left;·intro w hSw;(try dsimp only at hSw);go_simp;try with_reducible rfl
    try simp only [Act.put,tkca,tkcb,tkcc]
    refine tkc 5 (some 83) (v:= ?_) rfl (.inl ⟨by rfl,?_⟩) hHeld ?_;rotate_left;·intro w hSw;(try dsimp only at hSw);go_simp;try with_reducible rfl
    try simp only [Act.put,tkca,tkcb,tkcc]
    refine tkc 6 (some 84) (v:= ?_) rfl (.inl ⟨by rfl,?_⟩) hHeld ?_;rotate_left;·intro w hSw;(try dsimp only at hSw);go_simp;try with_reducible rfl
    try simp only [Act.put,tkca,tkcb,tkcc]
    refine tkc 7 (some 85) (v:= ?_) rfl (.inl ⟨by rfl,?_⟩) hHeld ?_;rotate_left;·intro w hSw;(try dsimp only at hSw);go_simp;try with_reducible rfl
    try simp only [Act.put,tkca,tkcb,tkcc]
    refine tkc 8 (some 86) (v:= ?_) rfl (.inl ⟨by rfl,?_⟩) hHeld ?_;rotate_left;·intro w hSw;(try dsimp only at hSw);go_simp;try with_reducible rfl
    try simp only [Act.put,tkca,tkcb,tkcc]
    refine wpAnyH_ready (rs:=[9]) (by kernel_rfl) (by simp) ?_
    refine AllReadyH.cons (o:=⟨some 87,_,_,_,_,_⟩) rfl (fun K hK=> ?_) AllReadyH.nil
    go_simp
    go_at_call 62
    refine (HWH.out _ (zbB _)).mono ?_
    rintro e x9 ⟨pv,rfl,hp9,hb9⟩
    obtain ⟨sa,sn,sc,rfl⟩:=hp9.pv.shape
    have HFAR:=yiO (hp9.far (N:=w.heap.size) (by omega))
    obtain ⟨c0,c1,c2,c3,c4,c5,c6,c7,c8,c9,c10,c11,c12,c13,k0,k1,k2,k3,k4,k5,k6,k7,k8,k9,k10,k11,k12,k13,kf⟩:=(HRR.out _ hb9).all
    simp only [UZ.ref]
    (try go_wp2_with fail)
    refine hK.out _ _ ?_ (fun hHeld1=> ?_)
    ·exact (HKK.out _ hb9)
    clear hK K
    try simp only [Act.put,tkca,tkcb,tkcc]
    refine wpAnyH_ready (rs:=[10]) (by kernel_rfl) (by simp) ?_
    refine AllReadyH.cons (o:=⟨none,_,_,_,_,_⟩) rfl (fun K hK=> ?_) AllReadyH.nil
    go_simp
    refine hK.out _ _ ?_ (fun hHeld2=> ?_)
    ·exact (by obtain ⟨h0,h1,h2,h3,h4,h5,h6,h7,h8,h9,h10,h11,h12,h13,h14⟩:=HKK.out _ hb9;exact ⟨zaR (by omega) _ _ _ _ _ _ _ _ _ _ _ _ _ _ h0,zaR (by omega) _ _ _ _ _ _ _ _ _ _ _ _ _ _ h1,zaR (by omega) _ _ _ _ _ _ _ _ _ _ _ _ _ _ h2,zaR (by omega) _ _ _ _ _ _ _ _ _ _ _ _ _ _ h3,zaR (by omega) _ _ _ _ _ _ _ _ _ _ _ _ _ _ h4,zaR (by omega) _ _ _ _ _ _ _ _ _ _ _ _ _ _ h5,zaR (by omega) _ _ _ _ _ _ _ _ _ _ _ _ _ _ h6,zaR (by omega) _ _ _ _ _ _ _ _ _ _ _ _ _ _ h7,zaR (by omega) _ _ _ _ _ _ _ _ _ _ _ _ _ _ h8,zaR (by omega) _ _ _ _ _ _ _ _ _ _ _ _ _ _ h9,zaR (by omega) _ _ _ _ _ _ _ _ _ _ _ _ _ _ h10,zaR (by omega) _ _ _ _ _ _ _ _ _ _ _ _ _ _ h11,zaR (by omega) _ _ _ _ _ _ _ _ _ _ _ _ _ _ h12,zaR (by omega) _ _ _ _ _ _ _ _ _ _ _ _ _ _ h13,zaR (by omega) _ _ _ _ _ _ _ _ _ _ _ _ _ _ h14⟩)
    clear hK K
    try simp only [Act.put,tkca,tkcb,tkcc]
    refine tkc 11 (some 5) (v:= ?_) rfl (.inl ⟨by rfl,?_⟩) hHeld2 ?_;rotate_left;·intro w hSw;(try dsimp only at hSw);go_simp;try with_reducible rfl
    try simp only [Act.put,tkca,tkcb,tkcc]
    refine wpAnyH_done (by kernel_rfl) ?_ _
    have hEB:=zbC (zaC HB3.out hb9) (show w.heap.size≤w.heap.size+1 by omega) v (.slice sa sn sc)
    have hEC:=zbF (HRR.out _ hb9) v (.slice sa sn sc) _ rfl
    have hEP:=(hp9.only (zbS (g:=w.heap.size+1) v (.slice sa sn sc)) (fun b hb=>by rw [List.mem_singleton.1 hb];omega)).pv
    unfold zbJ at hEB hEC hEP
    have HEB:=yiO hEB
    have HEC:=yiO hEC
    have HEP:=yiO hEP
    clear hEB hEC hEP
    go_wp2
    obtain ⟨e0,e1,e2,e3,e4,e5,e6,e7,e8,e9,e10,e11,e12,e13⟩:=HEC.out
    refine bodyPost_ret (v:= .tuple #[.agg (v.ref (.slice sa sn sc)),.int .i64 0]) (by simp [results,Tryz.results32,go_sem,e0,e1,e2,e3,e4,e5,e6,e7,e8,e9,e10,e11,e12,e13,UZ.ref]) rfl ?_
    rw [HRES.out]
    exact ⟨_,rfl,HEP.out,.inr HFAR.out,HEB.out⟩
theorem zdY (b:UZ) (ba:Option Addr) (bn bc:Nat) (l:List UInt8) (w:World) (hl:l.length≤100000) (hbl:b.path.length≤1000000) (hne:b.path≠[]) (hp:PV w (.slice ba bn bc) b.path):
  Calls Tryz.prog 32 #[.agg (b.ref (.slice ba bn bc)),.string ⟨l.toArray⟩] w (RetY w (.slice ba bn bc) (relW b l)):=by
 cases hA:(zaY l&&zaY (l.drop 1)) with
 |true=>exact zxG b ba bn bc l w hl hbl hne hp hA
 |false=>
  cases hB:zaY l with
  |true=>exact zxR b ba bn bc l w hl hbl hne hp hA hB
  |false=>
   cases hC:(l.isEmpty||l.head? ==some 35) with
   |true=>exact zxV b ba bn bc l w hl hbl hne hp hA hB hC
   |false=>
    obtain ⟨c,r,hr0⟩: ∃c r,l=c::r:=by
     cases l with
     |nil=>cases hC
     |cons c r=>exact ⟨c,r,rfl⟩
    by_cases h63:c=63
    ·exact z2E b ba bn bc l w hl hbl hne hp hA hB hC c r hr0 h63
    ·exact zwO b ba bn bc l w hl hbl hne hp hA hB hC c r hr0 h63
end
end Go.Proofs.YtcagcjdhbijknaaGreatDoor
