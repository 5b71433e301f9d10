/-
  What the law DotsClimb leans on, and its walk (32 of 33).
-/
import Derived.Deep.RegionHeld3
import Derived.Test.YtppgdppmheiocaaGreatDoorDotsClimbPkK
import Derived.Test.YtppgdppmheiocaaGreatDoorDotsClimbPkf
namespace Go.Proofs.YtppgdppmheiocaaGreatDoor
set_option maxRecDepth 100000
set_option maxHeartbeats 16000000
theorem tkg {P : Program} {md : Region.Mode} {ops : Array Oper} {Q : Exit → Act → World → Prop} {S : World → Prop} (i : Nat) (s : Option Nat) {op : Op} {ty : TypeId} {pos : String} {af : _} {gd : _} {v : Value} {fuel : Nat} {listed : Array Bool} {a : Act} {w : World} (hi : ops[i]? = some ⟨s, op, ty, pos, af, gd⟩)
 (hy : YieldsIf P ops S ⟨s, op, ty, pos, af, gd⟩ v a) (hS : S w)
 (h : wpAnyH P md ops Q S fuel (listed.setIfInBounds i true) (a.put s v) w)
 (hs : Region.noSelect ops = true := by kernel_rfl) (hf : Region.free md ops listed i = true := by kernel_rfl) (hr : (Region.ready md ops listed).contains i = true := by kernel_rfl)
 (hQ : ∀ c a w, Q (.panic c) (a.put s v) w → Q (.panic c) a w := by exact fun _ _ _ h => h) : wpAnyH P md ops Q S (fuel + 1) listed a w :=
 wpAnyH_take hi hs hf hr hQ hy hS h
theorem tkga {α : Type _} (l : List α) (i : Nat) (a : α) : l.toArray.setIfInBounds i a = (l.set i a).toArray := List.setIfInBounds_toArray ..
theorem tkgb {α : Type _} (x y : α) (l : List α) : (x :: l).set 0 y = y :: l := rfl
theorem tkgc {α : Type _} (x y : α) (l : List α) (n : Nat) : (x :: l).set (n + 1) y = x :: l.set n y := rfl
abbrev zkM := @Lib.hid
section
open Go.RowKit
theorem zfT {n:Int} (h:(Lit.int .u8 n).wf=true):0≤n∧n≤255:=by
 simp [Lit.wf,IntKind.min,IntKind.max,IntKind.bits,IntKind.signed] at h
 omega
theorem zcB: ∀n,Lib.repeatL [46,46,47] n=upsD n
 |0=>rfl
 |n+1=>by show [46,46,47]++Lib.repeatL [46,46,47] n=_;rw [zcB n];rfl
theorem zeA: ∀n,(upsD n).length=3*n
 |0=>rfl
 |n+1=>by show (46::46::47::upsD n).length=_;simp [zeA n];omega
theorem ziF (l:List UInt8) (i:Nat) (hi:i<(splitB (hasB [47]) l).length):
  zaK (47::Lib.join ((splitB (hasB [47]) l).take i++[[46]]++(splitB (hasB [47]) l).drop i) [47])=zaK (47::l):=by
 have hp:=zdV l
 have hj:=zdU l
 generalize splitB (hasB [47]) l=ps at*
 rw [zcY _ (by simp)]
 obtain ⟨t,b,htb⟩: ∃t b,ps.drop i=t::b:=⟨ps[i],ps.drop (i+1),List.drop_eq_getElem_cons hi⟩
 have e1:ps.take i++(t::b)=ps:=by rw [←htb,List.take_append_drop]
 rw [htb,List.append_assoc]
 show zaK (zaH (ps.take i++[46]::t::b))=_
 rw [zfI _ _ _ (by rw [e1];exact hp),e1,hj]
theorem zdN (l:List UInt8) (i:Nat):(Lib.join ((splitB (hasB [47]) l).take i++[[46]]++(splitB (hasB [47]) l).drop i) [47]).length≤3*l.length+10:=by
 have h1:=(zdT (hasB [47]) l).2.1
 have h2:=zcD (hasB [47]) l
 generalize splitB (hasB [47]) l=ps at*
 have key: ∀(qs:List (List UInt8)),(Lib.join qs [47]).length≤qs.length+zaN qs:=by
  intro qs
  induction qs with
  |nil=>simp [Lib.join,List.intercalate]
  |cons a r ih=>
   cases r with
   |nil=>simp [Lib.join,List.intercalate,zaN]
   |cons b r=>
    have e:Lib.join (a::b::r) [47]=a++47::Lib.join (b::r) [47]:=by simp [Lib.join,List.intercalate,List.intersperse]
    have e2:zaN (a::b::r)=a.length+zaN (b::r):=by simp [zaN]
    rw [e,e2,List.length_append,List.length_cons,List.length_cons]
    omega
 have k:=key (ps.take i++[[46]]++ps.drop i)
 have app: ∀(a b:List (List UInt8)),zaN (a++b)=zaN a+zaN b:=fun a b=>by simp [zaN]
 have e4:=congrArg zaN (List.take_append_drop i ps)
 rw [app] at e4
 have e3:zaN (ps.take i++[[46]]++ps.drop i)=zaN ps+1:=by
  rw [app,app]
  have:zaN [[46]]=1:=rfl
  omega
 have e5:(ps.take i++[[46]]++ps.drop i).length=ps.length+1:=by simp;omega
 omega
theorem zaO {ops:Array Oper} {o:Oper} {a:Act} {K:Act→World→Prop} {Q:Exit→Act→World→Prop} {E:Prop} (w:World) (hgd:o.guard=none) (s x:Operand)
  (ho:o.op= .call {callee:= .builtin .append,args:= #[s,x],argTypes:= #[40,40]})
  (base:Nat) (v:Value) (g2 o2 m mc:Nat) (out ps:List (List UInt8)) (hm:m=ps.length) (hs:a.eval s=v) (hown:zaJ base w v out) (hx:a.eval x= .slice (some ⟨g2,o2,none⟩) m mc)
  (hp: ∀j,j<ps.length→w.cell? ⟨g2,o2+j,none⟩=some (.string ⟨(ps.getD j []).toArray⟩)) (hl:out.length+ps.length≤1000000) (hbase:base≤w.heap.size)
  (h: ∀v' w',zaJ base w' v' (out++ps)→w.grownBy w' v.ownBlock→K (a.put o.dst v') w'):
  if Region.wanted o (yielded ops a.tmps)=true then Oper.wp Tryz.prog o a w K Q else E:=by
 subst hm
 have hw:Region.wanted o (yielded ops a.tmps)=true:=by simp [Region.wanted,hgd]
 rw [if_pos hw]
 obtain ⟨i0,hi,hz0,hz1,hz2⟩:=info_parts Tryz.infoStr
 unfold zaJ at hown
 have hnews: ∀j u,(zaP ps)[j]? =some u→w.cell? ((⟨g2,o2,none⟩:Addr).add j)=some u:=fun j u hj=>by
  have hjl:j<ps.length:=by
   have:=(List.getElem?_eq_some_iff.1 hj).1
   simpa [zaP] using this
  have e:(⟨g2,o2,none⟩:Addr).add j=⟨g2,o2+j,none⟩:=by simp [Addr.add]<;>(intro h;omega)
  rw [e,hp j hjl]
  simp [zaP,strC,List.getElem?_eq_getElem hjl] at hj
  rw [←hj]
  simp [List.getD,List.getElem?_eq_getElem hjl]
 have hone: ∀u∈zaP ps,u.oneCell'=true:=fun u hu=>by
  simp only [zaP,List.mem_map] at hu
  obtain ⟨q,_,rfl⟩:=hu
  rfl
 obtain ⟨v',w',hr,h2,h3,_,_⟩:=run_append_own_at (P:=Tryz.prog) w base 40 o.type 9 i0 (.string ⟨#[]⟩) 1 16 Tryz.underlying40 hi hz0 hz1 hz2 rfl (by decide) v out.length (zaP out) hown ⟨g2,o2,none⟩ ps.length mc (zaP ps) (by simp [zaP]) hnews hone (by unfold maxLen;omega) (by omega) hbase
 unfold Oper.wp execOp
 simp only [ho,resolve,invoke,builtin,Sem.run_bind,Sem.run_pure,Result.andThen_ok,List.map_toArray,List.map_cons,List.map_nil,hs,hx,hr]
 refine h v' w' ?_ h3
 unfold zaJ
 rw [show zaP (out++ps)=zaP out++zaP ps by unfold zaP;rw [List.map_append],List.length_append]
 exact h2
structure Way (x:World) (base:Nat) (y:World) (v:Value) (ps:List (List UInt8)):Prop where
 below:Below x.heap.size x y
 own:zaJ base y v ps
 lo:x.heap.size≤base
 hi:base≤y.heap.size
theorem Way.keep {x y z:World} {base:Nat} {v:Value} {ps:List (List UInt8)} (h:Way x base y v ps) (hb:Below y.heap.size y z):Way x base z v ps:=
 ⟨zaL h.below hb,h.own.below hb,h.lo,Nat.le_trans h.hi hb.size⟩
theorem Way.app {x y z:World} {base:Nat} {v v':Value} {ps qs:List (List UInt8)} (h:Way x base y v ps) (hp:zaJ base z v' qs) (hg:y.grownBy z v.ownBlock):Way x base z v' qs:=by
 refine ⟨?_,hp,h.lo,Nat.le_trans h.hi hg.size⟩
 have h2:Below base y z:=(Below.refl base y).grown hg h.hi (fun k hk=>(World.ownsRow.lt h.own k hk).1)
 exact h.below.trans (h2.mono h.lo)
theorem Way.own0 (x y:World) (hb:Below x.heap.size x y):Way x y.heap.size (y.alloc (.cells #[] 9)) (.slice (some ⟨y.heap.size,0,none⟩) 0 0) []:=by
 refine ⟨hb.alloc hb.size _,?_,hb.size,by simp⟩
 unfold zaJ
 exact ⟨rfl,.inr ⟨y.heap.size,0,#[],rfl,Nat.le_refl _,Go.Deep.blk_alloc_new _ _,Nat.le_refl _,by decide,rfl,rfl⟩⟩
theorem Way.lt0 {x y:World} {base:Nat} {ps:List (List UInt8)} (h:Way x base y (.slice (some ⟨base,0,none⟩) 0 0) ps):base<y.heap.size:=(World.ownsRow.lt h.own base rfl).2
theorem zeX {y z:World} {b i:Nat} {v:Value} {u:Value} (h:y.cell? ⟨b,i,none⟩=some u) (hg:y.grownBy z v.ownBlock) (hne:v.ownBlock≠some b):z.cell? ⟨b,i,none⟩=some u:=
 (World.cell?_of_block (a:=⟨b,i,none⟩) (hg.block b (World.block_lt_of_cell? y _ h) (fun e=>hne e.symm))).trans h
theorem zbN {w:World} {g:Nat} {ps:List (List UInt8)} (h:Seen w g ps) (i:Nat): ∀j,j<(ps.drop i).length→w.cell? ⟨g,i+j,none⟩=some (.string ⟨((ps.drop i).getD j []).toArray⟩):=fun j hj=>by
 rw [List.length_drop] at hj
 rw [h.2 (i+j) (by omega)]
 simp [List.getD,List.getElem?_drop]
theorem zbP {w:World} {g:Nat} {ps:List (List UInt8)} (h:Seen w g ps) (i:Nat): ∀j,j<(ps.take i).length→w.cell? ⟨g,0+j,none⟩=some (.string ⟨((ps.take i).getD j []).toArray⟩):=fun j hj=>by
 rw [List.length_take] at hj
 rw [Nat.zero_add,h.2 j (by omega)]
 have:j<i:=by omega
 simp [List.getD,this]
theorem dotsClimb_walk (a0:ByteArray) (a1:Int) (a2:Int) (_w0:a0.size≤maxLen) (w1:(Lit.int .u8 a1).wf=true) (w2:(Lit.int .u8 a2).wf=true) (w:World) (hpow:PowTab w) (hbru:BruTab w) (hmax:MaxVar w):
  Calls Tryz.prog 9 #[.string a0,.int .u8 a1,.int .u8 a2] w fun e w'=>e= .returned (.bool true)∧Below w.heap.size w w':=by
 obtain ⟨l,rfl⟩: ∃l:List UInt8,a0=⟨l.toArray⟩:=⟨a0.data.toList,by simp⟩
 have hz:=zbQ l
 have HTM:=zkM hmax
 have HA:=zkM (aw16 w hpow hbru hmax)
 clear hpow hbru hmax
 by_cases hbig:500<l.length
 ·go_enter Tryz.func9,Tryz.ntmps9
  go_wp2_with fail
  refine HA.out.mono ?_
  rintro e x1 ⟨rfl,hx1⟩
  go_wp2
  go_ret
  exact ⟨rfl,hx1⟩
 have w1:=zfT w1
 have w2:=zfT w2
 obtain ⟨n,rfl⟩: ∃n:Nat,a1=n:=⟨a1.toNat,by omega⟩
 obtain ⟨t,rfl⟩: ∃n:Nat,a2=n:=⟨a2.toNat,by omega⟩
 have hn8:n≤255:=by omega
 have ht8:t≤255:=by omega
 clear w1 w2
 have hpl:=List.length_pos_iff.2 (zfN (hasB [47]) l)
 have hsl:=zcD (hasB [47]) l
 have HS:=zkM (fun W (h:MaxVar W)=>zdO l W (by omega) h)
 have hw1:=zcC (47::l)
 have HR1:=zkM (fun W=>zaY (47::l) W (by simp;omega))
 have HR2:=zkM (fun W=>zaY (47::(upsD (n % 40)++l)) W (by simp [zeA];omega))
 rw [zcF] at HR2
 have hi0:t % (splitB (hasB [47]) l).length<(splitB (hasB [47]) l).length:=Nat.mod_lt _ hpl
 have HJL:=zdN l (t % (splitB (hasB [47]) l).length)
 have HR3:=zkM (fun W=>zaY (47::Lib.join ((splitB (hasB [47]) l).take (t % (splitB (hasB [47]) l).length)++[[46]]++(splitB (hasB [47]) l).drop (t % (splitB (hasB [47]) l).length)) [47]) W (by simp only [List.length_cons];omega))
 rw [ziF l _ hi0] at HR3
 have HRP:=zkM (fun W=>Tryz.strings_Repeat ⟨#[46,46,47]⟩ (n % 40) W (by omega) (by show 3*(n % 40)≤_;omega))
 rw [show (ByteArray.mk #[46,46,47]).data.toList=[46,46,47] from rfl,zcB] at HRP
 have hul:=zeA (n % 40)
 have hzu:=zbQ (upsD (n % 40))
 have htm1:Int.tmod (n:Int) 40=((n % 40:Nat):Int):=by rw [Int.tmod_eq_emod_of_nonneg (by omega)];omega
 have htm2:Int.tmod (t:Int) (((splitB (hasB [47]) l).length:Nat):Int)=((t % (splitB (hasB [47]) l).length:Nat):Int):=by rw [Int.tmod_eq_emod_of_nonneg (by omega)];omega
 have hm40:n % 40<40:=Nat.mod_lt _ (by decide)
 generalize zaK (47::l)=want at*
 generalize upsD (n % 40)=ups at*
 generalize n % 40=c at*
 generalize splitB (hasB [47]) l=ps at*
 generalize t % ps.length=i at*
 have hee:(want==want)=true:=by simp
 have e1:=zkD l
 have hz1:(ByteArray.mk #[47]).size=1:=rfl
 have e9:=zkD (Lib.join (ps.take i++[[46]]++ps.drop i) [47])
 have hzj:=zbQ (Lib.join (ps.take i++[[46]]++ps.drop i) [47])
 generalize hJ:Lib.join (ps.take i++[[46]]++ps.drop i) [47]=jl at*
 have HJ:=zkM hJ
 clear hJ
 have e2:=zkD ups
 have e3:ByteArray.mk (47::ups).toArray++ByteArray.mk l.toArray=⟨(47::(ups++l)).toArray⟩:=cat2 (47::ups) l
 have hz3:=zbQ (47::ups)
 rw [List.length_cons] at hz3
 go_enter Tryz.func9,Tryz.ntmps9
 go_wp2_with fail
 refine HA.out.mono ?_
 rintro e x1 ⟨rfl,hx1⟩
 go_wp2_with fail
 refine (HR1.out _).mono ?_
 rintro e x2 ⟨rfl,hx2⟩
 have hb2:=zaL hx1 hx2
 clear hx1 hx2
 go_wp2_with fail
 refine (HRP.out _).mono ?_
 rintro e x3 ⟨rfl,hx3⟩
 have hb3:=zaL hb2 hx3
 clear hb2 hx3
 go_wp2_with fail
 refine (HR2.out _).mono ?_
 rintro e x4 ⟨rfl,hx4⟩
 have hb4:=zaL hb3 hx4
 clear hb3 hx4
 go_wp2_with fail
 refine (HS.out _ (zaA HTM.out hb4)).mono ?_
 rintro e x5 ⟨g,cc,rfl,hcc,hsn,hx5⟩
 have HB5:=zkM (zaL hb4 hx5)
 have HSN:=zkM hsn
 have hmn:((ps.length:Int)==0)=false:=beq_eq_false_iff_ne.2 (by omega)
 have hs1: ∀W,(Instr.slice 40 (.slice (some ⟨g,0,none⟩) ps.length cc) none (some (.int .i64 (i:Int))) none).run Tryz.prog W= .ok (.slice (some ⟨g,0,none⟩) i cc) W:=fun W=>by
  rw [run_slice_h W 40 (some ⟨g,0,none⟩) ps.length cc (by simp [Program.elem,Tryz.underlying40]) .i64 _ (by omega) (by omega)]
  go_simp
 have hs2: ∀W,(Instr.slice 40 (.slice (some ⟨g,0,none⟩) ps.length cc) (some (.int .i64 (i:Int))) none none).run Tryz.prog W= .ok (.slice (some ⟨g,i,none⟩) (ps.length - i:Nat) (cc - i:Nat)) W:=fun W=>by
  rw [run_slice_l W 40 (some ⟨g,0,none⟩) ps.length cc (by simp [Program.elem,Tryz.underlying40]) .i64 _ (by omega) (by omega)]
  go_simp
  intro e
  omega
 clear hb4 hx5 hsn HS HR1 HR2 HRP htm1
 go_wp2_with fail
 refine wp_region_held_drew (S:=fun _=>True) (by kernel_rfl) trivial (fun hHeld=> ?_)
 refine tkg 1 (some 37) (v:= ?_) rfl (.inl ⟨by rfl,?_⟩) hHeld ?_
 rotate_left
 ·intro w hSw
  go_simp
  try with_reducible rfl
 try simp only [Act.put,tkga,tkgb,tkgc]
 refine tkg 2 (some 38) (v:= ?_) rfl (.inl ⟨by rfl,?_⟩) hHeld ?_
 rotate_left
 ·intro w hSw
  go_simp
  try with_reducible rfl
 try simp only [Act.put,tkga,tkgb,tkgc]
 refine tkg 3 (some 39) (v:= ?_) rfl (.inl ⟨by rfl,?_⟩) hHeld ?_
 rotate_left
 ·intro w hSw
  go_simp
  try with_reducible rfl
 try simp only [Act.put,tkga,tkgb,tkgc]
 refine tkg 7 (some 43) (v:= ?_) rfl (.inl ⟨by rfl,?_⟩) hHeld ?_
 rotate_left
 ·intro w hSw
  go_simp
  try with_reducible rfl
 try simp only [Act.put,tkga,tkgb,tkgc]
 refine tkg 8 (some 44) (v:= ?_) rfl (.inl ⟨by rfl,?_⟩) hHeld ?_
 rotate_left
 ·intro w hSw
  go_simp
  try with_reducible rfl
 try simp only [Act.put,tkga,tkgb,tkgc]
 refine tkg 9 (some 45) (v:= ?_) rfl (.inl ⟨by rfl,?_⟩) hHeld ?_
 rotate_left
 ·intro w hSw
  go_simp
  try with_reducible rfl
 try simp only [Act.put,tkga,tkgb,tkgc]
 have hd0:Below x5.heap.size x5 x5.drew:=zbC _
 generalize hx0:x5.drew=x0 at*
 clear hx0
 refine wpAnyH_ready (rs:=[0,5]) (by kernel_rfl) (by simp) ?_
 refine AllReadyH.cons (o:=⟨some 36,_,_,_,_,_⟩) rfl (fun K hK=> ?_) ?_
 ·go_simp
  refine hK.out _ _ trivial (fun hA=> ?_)
  clear hK K
  try simp only [Act.put,tkga,tkgb,tkgc]
  have wayA:=Way.own0 x5 x0 hd0
  generalize hyA:x0.alloc (.cells #[] 9)=yA at*
  generalize x0.heap.size=bA at*
  clear hyA
  refine wpAnyH_ready (rs:=[4,5]) (by kernel_rfl) (by simp) ?_
  refine AllReadyH.cons (o:=⟨some 40,_,_,_,_,_⟩) rfl (fun K hK=> ?_) ?_
  ·refine zaO _ rfl _ _ rfl _ (.slice (some ⟨bA,0,none⟩) 0 0) g 0 _ cc [] (ps.take i) (by simp<;>omega) rfl wayA.own rfl (zbP (HSN.out.keep wayA.below) i) (by simp;omega) wayA.hi ?_
   intro v1 yB hpp hgg
   have wayB:=wayA.app hpp hgg
   refine hK.out _ _ trivial (fun hB=> ?_)
   clear hK K hpp hgg
   try simp only [Act.put,tkga,tkgb,tkgc]
   refine wpAnyH_ready (rs:=[5]) (by kernel_rfl) (by simp) ?_
   refine AllReadyH.cons (o:=⟨some 41,_,_,_,_,_⟩) rfl (fun K hK=> ?_) AllReadyH.nil
   go_simp
   have hdot:=zaZ (heap_alloc_new yB (.cells #[.string ⟨#[46]⟩] 9)) 0
   have wayC:=wayB.keep ((Below.refl yB.heap.size yB).alloc (Nat.le_refl _) (.cells #[.string ⟨#[46]⟩] 9))
   generalize hyC:yB.alloc (.cells #[.string ⟨#[46]⟩] 9)=yC at*
   generalize yB.heap.size=D at*
   clear hyC
   refine hK.out _ _ trivial (fun hC=> ?_)
   clear hK K
   try simp only [Act.put,tkga,tkgb,tkgc]
   refine wpAnyH_ready (rs:=[6]) (by kernel_rfl) (by simp) ?_
   refine AllReadyH.cons (o:=⟨some 42,_,_,_,_,_⟩) rfl (fun K hK=> ?_) AllReadyH.nil
   refine zaO _ rfl _ _ rfl _ _ D 0 _ 1 (ps.take i) [[46]] (by simp<;>omega) rfl wayC.own rfl (fun j hj=>by simp at hj;subst hj;exact hdot) (by simp;omega) wayC.hi ?_
   intro v2 y2 hpp hgg
   have way2:=wayC.app hpp hgg
   refine hK.out _ _ trivial (fun hH1=> ?_)
   clear hK K hpp hgg
   try simp only [Act.put,tkga,tkgb,tkgc]
   refine wpAnyH_ready (rs:=[10]) (by kernel_rfl) (by simp) ?_
   refine AllReadyH.cons (o:=⟨some 46,_,_,_,_,_⟩) rfl (fun K hK=> ?_) AllReadyH.nil
   refine zaO _ rfl _ _ rfl _ v2 g i _ (cc - i) ((ps.take i)++[[46]]) (ps.drop i) (by simp<;>omega) rfl way2.own rfl (zbN (HSN.out.keep way2.below) i) (by simp;omega) way2.hi ?_
   intro v3 y3 hpp hgg
   have way3:=way2.app hpp hgg
   refine hK.out _ _ trivial (fun hH2=> ?_)
   clear hK K hpp hgg
   try simp only [Act.put,tkga,tkgb,tkgc]
   refine wpAnyH_ready (rs:=[11]) (by kernel_rfl) (by simp) ?_
   refine AllReadyH.cons (o:=⟨some 47,_,_,_,_,_⟩) rfl (fun K hK=> ?_) AllReadyH.nil
   go_simp
   go_at_call 33
   have hjn:=zbH v3 _ ⟨#[47]⟩ y3 _ way3.own (by simp;omega) (by rw [show (ByteArray.mk #[47]).data.toList=[47] from rfl,HJ.out];omega)
   rw [show (ByteArray.mk #[47]).data.toList=[47] from rfl,HJ.out] at hjn
   refine hjn.mono ?_
   rintro e y4 ⟨rfl,hy4⟩
   have hb6:=zaL (zaL HB5.out way3.below) hy4
   (try go_wp2_with fail)
   refine hK.out _ _ trivial (fun hH3=> ?_)
   clear hK K
   try simp only [Act.put,tkga,tkgb,tkgc]
   refine tkg 12 (some 10) (v:= ?_) rfl (.inl ⟨by rfl,?_⟩) hH3 ?_
   rotate_left
   ·intro w hSw
    go_simp
    try with_reducible rfl
   try simp only [Act.put,tkga,tkgb,tkgc]
   refine wpAnyH_done (by kernel_rfl) ?_ _
   go_wp2_with fail
   refine (HR3.out _).mono ?_
   rintro e y5 ⟨rfl,hy5⟩
   have hb7:=zaL hb6 hy5
   go_wp2
   go_ret
   exact ⟨rfl,hb7⟩
  refine AllReadyH.cons (o:=⟨some 41,_,_,_,_,_⟩) rfl (fun K hK=> ?_) AllReadyH.nil
  go_simp
  have hdot:=zaZ (heap_alloc_new yA (.cells #[.string ⟨#[46]⟩] 9)) 0
  have hlt:=wayA.lt0
  have wayB:=wayA.keep ((Below.refl yA.heap.size yA).alloc (Nat.le_refl _) (.cells #[.string ⟨#[46]⟩] 9))
  generalize hyB:yA.alloc (.cells #[.string ⟨#[46]⟩] 9)=yB at*
  generalize yA.heap.size=D at*
  clear hyB
  refine hK.out _ _ trivial (fun hB=> ?_)
  clear hK K
  try simp only [Act.put,tkga,tkgb,tkgc]
  refine wpAnyH_ready (rs:=[4]) (by kernel_rfl) (by simp) ?_
  refine AllReadyH.cons (o:=⟨some 40,_,_,_,_,_⟩) rfl (fun K hK=> ?_) AllReadyH.nil
  refine zaO _ rfl _ _ rfl _ (.slice (some ⟨bA,0,none⟩) 0 0) g 0 _ cc [] (ps.take i) (by simp<;>omega) rfl wayB.own rfl (zbP (HSN.out.keep wayB.below) i) (by simp;omega) wayB.hi ?_
  intro v1 yC hpp hgg
  have wayC:=wayB.app hpp hgg
  have hdot2:=zeX hdot hgg (by intro e;simp only [Value.ownBlock,Option.some.injEq] at e;omega)
  refine hK.out _ _ trivial (fun hC=> ?_)
  clear hK K hpp hgg
  try simp only [Act.put,tkga,tkgb,tkgc]
  refine wpAnyH_ready (rs:=[6]) (by kernel_rfl) (by simp) ?_
  refine AllReadyH.cons (o:=⟨some 42,_,_,_,_,_⟩) rfl (fun K hK=> ?_) AllReadyH.nil
  refine zaO _ rfl _ _ rfl _ _ D 0 _ 1 (ps.take i) [[46]] (by simp<;>omega) rfl wayC.own rfl (fun j hj=>by simp at hj;subst hj;exact hdot2) (by simp;omega) wayC.hi ?_
  intro v2 y2 hpp hgg
  have way2:=wayC.app hpp hgg
  refine hK.out _ _ trivial (fun hH1=> ?_)
  clear hK K hpp hgg
  try simp only [Act.put,tkga,tkgb,tkgc]
  refine wpAnyH_ready (rs:=[10]) (by kernel_rfl) (by simp) ?_
  refine AllReadyH.cons (o:=⟨some 46,_,_,_,_,_⟩) rfl (fun K hK=> ?_) AllReadyH.nil
  refine zaO _ rfl _ _ rfl _ v2 g i _ (cc - i) ((ps.take i)++[[46]]) (ps.drop i) (by simp<;>omega) rfl way2.own rfl (zbN (HSN.out.keep way2.below) i) (by simp;omega) way2.hi ?_
  intro v3 y3 hpp hgg
  have way3:=way2.app hpp hgg
  refine hK.out _ _ trivial (fun hH2=> ?_)
  clear hK K hpp hgg
  try simp only [Act.put,tkga,tkgb,tkgc]
  refine wpAnyH_ready (rs:=[11]) (by kernel_rfl) (by simp) ?_
  refine AllReadyH.cons (o:=⟨some 47,_,_,_,_,_⟩) rfl (fun K hK=> ?_) AllReadyH.nil
  go_simp
  go_at_call 33
  have hjn:=zbH v3 _ ⟨#[47]⟩ y3 _ way3.own (by simp;omega) (by rw [show (ByteArray.mk #[47]).data.toList=[47] from rfl,HJ.out];omega)
  rw [show (ByteArray.mk #[47]).data.toList=[47] from rfl,HJ.out] at hjn
  refine hjn.mono ?_
  rintro e y4 ⟨rfl,hy4⟩
  have hb6:=zaL (zaL HB5.out way3.below) hy4
  (try go_wp2_with fail)
  refine hK.out _ _ trivial (fun hH3=> ?_)
  clear hK K
  try simp only [Act.put,tkga,tkgb,tkgc]
  refine tkg 12 (some 10) (v:= ?_) rfl (.inl ⟨by rfl,?_⟩) hH3 ?_
  rotate_left
  ·intro w hSw
   go_simp
   try with_reducible rfl
  try simp only [Act.put,tkga,tkgb,tkgc]
  refine wpAnyH_done (by kernel_rfl) ?_ _
  go_wp2_with fail
  refine (HR3.out _).mono ?_
  rintro e y5 ⟨rfl,hy5⟩
  have hb7:=zaL hb6 hy5
  go_wp2
  go_ret
  exact ⟨rfl,hb7⟩
 refine AllReadyH.cons (o:=⟨some 41,_,_,_,_,_⟩) rfl (fun K hK=> ?_) AllReadyH.nil
 go_simp
 have hdot:=zaZ (heap_alloc_new x0 (.cells #[.string ⟨#[46]⟩] 9)) 0
 have hltD:x0.heap.size<(x0.alloc (.cells #[.string ⟨#[46]⟩] 9)).heap.size:=by simp
 have hd1:=hd0.alloc hd0.size (.cells #[.string ⟨#[46]⟩] 9)
 generalize hyA:x0.alloc (.cells #[.string ⟨#[46]⟩] 9)=yA at*
 generalize x0.heap.size=D at*
 clear hyA
 refine hK.out _ _ trivial (fun hA=> ?_)
 clear hK K
 try simp only [Act.put,tkga,tkgb,tkgc]
 refine wpAnyH_ready (rs:=[0]) (by kernel_rfl) (by simp) ?_
 refine AllReadyH.cons (o:=⟨some 36,_,_,_,_,_⟩) rfl (fun K hK=> ?_) AllReadyH.nil
 go_simp
 have wayB:=Way.own0 x5 yA hd1
 have hdot1:=(((Below.refl yA.heap.size yA).alloc (Nat.le_refl _) (.cells #[] 9)).cell (World.block_lt_of_cell? yA _ hdot)).trans hdot
 generalize hyB:yA.alloc (.cells #[] 9)=yB at*
 generalize yA.heap.size=bB at*
 clear hyB
 refine hK.out _ _ trivial (fun hB=> ?_)
 clear hK K
 try simp only [Act.put,tkga,tkgb,tkgc]
 refine wpAnyH_ready (rs:=[4]) (by kernel_rfl) (by simp) ?_
 refine AllReadyH.cons (o:=⟨some 40,_,_,_,_,_⟩) rfl (fun K hK=> ?_) AllReadyH.nil
 refine zaO _ rfl _ _ rfl _ (.slice (some ⟨bB,0,none⟩) 0 0) g 0 _ cc [] (ps.take i) (by simp<;>omega) rfl wayB.own rfl (zbP (HSN.out.keep wayB.below) i) (by simp;omega) wayB.hi ?_
 intro v1 yC hpp hgg
 have wayC:=wayB.app hpp hgg
 have hdot2:=zeX hdot1 hgg (by intro e;simp only [Value.ownBlock,Option.some.injEq] at e;omega)
 refine hK.out _ _ trivial (fun hC=> ?_)
 clear hK K hpp hgg
 try simp only [Act.put,tkga,tkgb,tkgc]
 refine wpAnyH_ready (rs:=[6]) (by kernel_rfl) (by simp) ?_
 refine AllReadyH.cons (o:=⟨some 42,_,_,_,_,_⟩) rfl (fun K hK=> ?_) AllReadyH.nil
 refine zaO _ rfl _ _ rfl _ _ D 0 _ 1 (ps.take i) [[46]] (by simp<;>omega) rfl wayC.own rfl (fun j hj=>by simp at hj;subst hj;exact hdot2) (by simp;omega) wayC.hi ?_
 intro v2 y2 hpp hgg
 have way2:=wayC.app hpp hgg
 refine hK.out _ _ trivial (fun hH1=> ?_)
 clear hK K hpp hgg
 try simp only [Act.put,tkga,tkgb,tkgc]
 refine wpAnyH_ready (rs:=[10]) (by kernel_rfl) (by simp) ?_
 refine AllReadyH.cons (o:=⟨some 46,_,_,_,_,_⟩) rfl (fun K hK=> ?_) AllReadyH.nil
 refine zaO _ rfl _ _ rfl _ v2 g i _ (cc - i) ((ps.take i)++[[46]]) (ps.drop i) (by simp<;>omega) rfl way2.own rfl (zbN (HSN.out.keep way2.below) i) (by simp;omega) way2.hi ?_
 intro v3 y3 hpp hgg
 have way3:=way2.app hpp hgg
 refine hK.out _ _ trivial (fun hH2=> ?_)
 clear hK K hpp hgg
 try simp only [Act.put,tkga,tkgb,tkgc]
 refine wpAnyH_ready (rs:=[11]) (by kernel_rfl) (by simp) ?_
 refine AllReadyH.cons (o:=⟨some 47,_,_,_,_,_⟩) rfl (fun K hK=> ?_) AllReadyH.nil
 go_simp
 go_at_call 33
 have hjn:=zbH v3 _ ⟨#[47]⟩ y3 _ way3.own (by simp;omega) (by rw [show (ByteArray.mk #[47]).data.toList=[47] from rfl,HJ.out];omega)
 rw [show (ByteArray.mk #[47]).data.toList=[47] from rfl,HJ.out] at hjn
 refine hjn.mono ?_
 rintro e y4 ⟨rfl,hy4⟩
 have hb6:=zaL (zaL HB5.out way3.below) hy4
 (try go_wp2_with fail)
 refine hK.out _ _ trivial (fun hH3=> ?_)
 clear hK K
 try simp only [Act.put,tkga,tkgb,tkgc]
 refine tkg 12 (some 10) (v:= ?_) rfl (.inl ⟨by rfl,?_⟩) hH3 ?_
 rotate_left
 ·intro w hSw
  go_simp
  try with_reducible rfl
 try simp only [Act.put,tkga,tkgb,tkgc]
 refine wpAnyH_done (by kernel_rfl) ?_ _
 go_wp2_with fail
 refine (HR3.out _).mono ?_
 rintro e y5 ⟨rfl,hy5⟩
 have hb7:=zaL hb6 hy5
 go_wp2
 go_ret
 exact ⟨rfl,hb7⟩
end
end Go.Proofs.YtppgdppmheiocaaGreatDoor
