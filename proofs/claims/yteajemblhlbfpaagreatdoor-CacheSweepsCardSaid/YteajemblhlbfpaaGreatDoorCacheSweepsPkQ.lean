/-
  What the law CacheSweeps leans on, and its walk (17 of 21).
-/
import Derived.BigQuiet
import Derived.Test.YteajemblhlbfpaaGreatDoorCacheSweepsPkO
import Derived.Test.YteajemblhlbfpaaGreatDoorCacheSweepsPkP
import Derived.Test.YteajemblhlbfpaaGreatDoorCacheSweepsPkL
namespace Go.Proofs.YteajemblhlbfpaaGreatDoor
set_option maxRecDepth 100000
set_option maxHeartbeats 16000000
theorem tkQ {P : Program} {o : Region.Mode} {g : Array Oper} {Q : Exit → Act → World → Prop} {S : World → Prop} (i : Nat) (s : Option Nat) {y : Op} {p : TypeId} {j : String} {q : _} {z : _} {v : Value} {fuel : Nat} {f : Array Bool} {a : Act} {w : World} (hi : g[i]? = some ⟨s, y, p, j, q, z⟩)
 (A : YieldsIf P g S ⟨s, y, p, j, q, z⟩ v a) (G : S w)
 (h : wpAnyH P o g Q S fuel (f.setIfInBounds i true) (a.put s v) w)
 (B : Region.noSelect g = true := by kernel_rfl) (E : Region.free o g f i = true := by kernel_rfl) (D : (Region.ready o g f).contains i = true := by kernel_rfl)
 (C : ∀ c a w, Q (.panic c) (a.put s v) w → Q (.panic c) a w := by exact fun _ _ _ h => h) : wpAnyH P o g Q S (fuel + 1) f a w :=
 wpAnyH_take hi B E D C A G h
theorem tkQa {α : Type _} (l : List α) (i : Nat) (a : α) : l.toArray.setIfInBounds i a = (l.set i a).toArray := List.setIfInBounds_toArray ..
theorem tkQb {α : Type _} (x y : α) (l : List α) : (x :: l).set 0 y = y :: l := rfl
theorem tkQc {α : Type _} (x y : α) (l : List α) (n : Nat) : (x :: l).set (n + 1) y = x :: l.set n y := rfl
abbrev znJ := @Lib.hid
abbrev znK := @Nat.le_refl
abbrev znL := @decide_eq_false
abbrev znM := @Go.RowKit.Below.refl
section
open Go.RowKit Go.Maps Go.Sort Go.Shelf Go.Lib
def unOf (L:List CE) (n:List UInt8):Int:=((zaL n L).map CE.un).getD 0
abbrev NmT:={n:List UInt8//n.length≤maxLen}
instance:Inhabited NmT:=⟨⟨[],by simp⟩⟩
def encN (n:NmT):Value:=encStr n.1
def cfN (L:List CE) (a b:NmT):Int:=cmpI (unOf L a.1) (unOf L b.1)
theorem zcK (x:Int) (w:World):Calls Tryz.prog 46 #[.int .i64 x] w fun e w'=>e= .returned (.bool false)∧w=w':=by
 go_enter Tryz.func46,Tryz.ntmps46
 go_wp2
 go_ret
 simp
theorem zcU (x y:Int) (w:World):Calls Tryz.prog 37 #[.int .i64 x,.int .i64 y] w fun e w'=>e= .returned (.int .i64 (cmpI x y))∧w'=w:=by
 have g:=znJ (zcK x w)
 have i:=znJ (zcK y w)
 unfold cmpI
 by_cases a:x<y
 ·rw [if_pos a]
  have j:decide (x<y)=true:=decide_eq_true a
  clear a
  go_enter Tryz.func37,Tryz.ntmps37
  go_wp2_with fail
  refine g.out.mono ?_
  rintro e x ⟨rfl,rfl⟩
  go_wp2_with fail
  refine i.out.mono ?_
  rintro e x ⟨rfl,rfl⟩
  go_wp2
  go_ret
  exact ⟨rfl,rfl⟩
 ·rw [if_neg a]
  have j:decide (x<y)=false:=znL a
  clear a
  by_cases f:y<x
  ·rw [if_pos f]
   have o:decide (y<x)=true:=decide_eq_true f
   clear f
   go_enter Tryz.func37,Tryz.ntmps37
   go_wp2_with fail
   refine g.out.mono ?_
   rintro e x ⟨rfl,rfl⟩
   go_wp2_with fail
   refine i.out.mono ?_
   rintro e x ⟨rfl,rfl⟩
   go_wp2
   go_ret
   exact ⟨rfl,rfl⟩
  ·rw [if_neg f]
   have o:decide (y<x)=false:=znL f
   clear f
   go_enter Tryz.func37,Tryz.ntmps37
   go_wp2_with fail
   refine g.out.mono ?_
   rintro e x ⟨rfl,rfl⟩
   go_wp2_with fail
   refine i.out.mono ?_
   rintro e x ⟨rfl,rfl⟩
   go_wp2
   go_ret
   exact ⟨rfl,rfl⟩
def svOf (L:List CE) (n:List UInt8):Value:=((zaL n L).map CE.sv).getD (.slice none 0 0)
theorem MapS.look1 {x:World} {M:Nat} {L:List CE} (h:MapS x M L) {n:List UInt8} (p:n.length≤maxLen):
  (Instr.lookup 55 (.map (some M)) (.string ⟨n.toArray⟩) false).run Tryz.prog x= .ok (.agg #[.int .i64 (unOf L n),svOf L n]) x:=by
 obtain ⟨v,B,g,j⟩:=h.1.lookup zaK Tryz.underlying55 (zjT x) (zaZ 0 none 0 0) (zbF p)
 rw [zkO] at j
 obtain ⟨u,a,k,c,i,f⟩:=zaS j
 subst i
 simp only [Prod.mk.injEq] at f
 rw [g]
 unfold unOf svOf
 cases o:zaL n L with
 |none=>
  rw [o] at f
  have:=f.1
  simp at this
  obtain ⟨A,q,y,z⟩:=this
  simp [←A,←q,←y,←z]
 |some e=>
  rw [o] at f
  have:=f.1
  simp [CE.val] at this
  simp [this]
theorem zhP (u:Int) (v:Value) (W:World):(Instr.field 60 (.agg #[.int .i64 u,v]) 0).run Tryz.prog W= .ok (.int .i64 u) W:=by kernel_rfl
theorem zgX (c M B:Nat) (L:List CE) (a b:NmT) (w:World) (h:CacS w c M L) (E:w.cell? ⟨B,0,none⟩=some (.pointer (some ⟨c,0,none⟩))):
  Calls Tryz.prog 36 #[encN a,encN b,.pointer (some ⟨B,0,none⟩)] w fun e w'=>e= .returned (.int .i64 (cfN L a b))∧ ∃q,w'=w.drewN q:=by
 have D:=zaD h.box 0
 simp at D
 have C:=MapS.look1 (x:=w.drew) h.map a.2
 have A:=MapS.look1 (x:=w.drew) h.map b.2
 have J:=zhP (unOf L a.1) (svOf L a.1)
 have N:=zhP (unOf L b.1) (svOf L b.1)
 have Q:=znJ (zcU (unOf L a.1) (unOf L b.1))
 unfold encN encStr cfN
 generalize unOf L a.1=T at*
 generalize unOf L b.1=P at*
 generalize svOf L a.1=H at*
 generalize svOf L b.1=I at*
 obtain ⟨O,_⟩:=a
 obtain ⟨R,_⟩:=b
 dsimp only at C A ⊢
 clear h
 go_enter Tryz.func36,Tryz.ntmps36
 go_wp2
 -- REGION
 refine wp_region_held_drew (S:=fun W=>W.cell? ⟨B,0,none⟩=some (.pointer (some ⟨c,0,none⟩))∧W.cell? ⟨c,0,none⟩=some (.map (some M))∧(Instr.lookup 55 (.map (some M)) (.string ⟨O.toArray⟩) false).run Tryz.prog W= .ok (.agg #[.int .i64 T,H]) W∧(Instr.lookup 55 (.map (some M)) (.string ⟨R.toArray⟩) false).run Tryz.prog W= .ok (.agg #[.int .i64 P,I]) W) (by kernel_rfl) ?_ (fun g=> ?_)
 ·exact ⟨E,D,C,A⟩
 refine tkQ 0 (some 6) (v:= ?_) rfl (.inl ⟨by rfl,?_⟩) g ?_
 rotate_left
 ·intro w f
  (try dsimp only at f)
  obtain ⟨i,y,p,j⟩:=f
  go_simp
  try with_reducible rfl
 try simp only [Act.put,tkQa,tkQb,tkQc]
 refine tkQ 1 (some 7) (v:= ?_) rfl (.inl ⟨by rfl,?_⟩) g ?_
 rotate_left
 ·intro w f
  (try dsimp only at f)
  obtain ⟨i,y,p,j⟩:=f
  go_simp
  try with_reducible rfl
 try simp only [Act.put,tkQa,tkQb,tkQc]
 refine tkQ 2 (some 8) (v:= ?_) rfl (.inl ⟨by rfl,?_⟩) g ?_
 rotate_left
 ·intro w f
  (try dsimp only at f)
  obtain ⟨i,y,p,j⟩:=f
  go_simp
  try with_reducible rfl
 try simp only [Act.put,tkQa,tkQb,tkQc]
 refine tkQ 3 (some 9) (v:= ?_) rfl (.inl ⟨by rfl,?_⟩) g ?_
 rotate_left
 ·intro w f
  (try dsimp only at f)
  obtain ⟨i,y,p,j⟩:=f
  go_simp
  try with_reducible rfl
 try simp only [Act.put,tkQa,tkQb,tkQc]
 refine tkQ 4 (some 10) (v:= ?_) rfl (.inl ⟨by rfl,?_⟩) g ?_
 rotate_left
 ·intro w f
  (try dsimp only at f)
  obtain ⟨i,y,p,j⟩:=f
  go_simp
  try with_reducible rfl
 try simp only [Act.put,tkQa,tkQb,tkQc]
 refine tkQ 5 (some 11) (v:= ?_) rfl (.inl ⟨by rfl,?_⟩) g ?_
 rotate_left
 ·intro w f
  (try dsimp only at f)
  obtain ⟨i,y,p,j⟩:=f
  go_simp
  try with_reducible rfl
 try simp only [Act.put,tkQa,tkQb,tkQc]
 refine tkQ 6 (some 12) (v:= ?_) rfl (.inl ⟨by rfl,?_⟩) g ?_
 rotate_left
 ·intro w f
  (try dsimp only at f)
  obtain ⟨i,y,p,j⟩:=f
  go_simp
  try with_reducible rfl
 try simp only [Act.put,tkQa,tkQb,tkQc]
 refine tkQ 7 (some 13) (v:= ?_) rfl (.inl ⟨by rfl,?_⟩) g ?_
 rotate_left
 ·intro w f
  (try dsimp only at f)
  obtain ⟨i,y,p,j⟩:=f
  go_simp
  try with_reducible rfl
 try simp only [Act.put,tkQa,tkQb,tkQc]
 refine tkQ 8 (some 14) (v:= ?_) rfl (.inl ⟨by rfl,?_⟩) g ?_
 rotate_left
 ·intro w f
  (try dsimp only at f)
  obtain ⟨i,y,p,j⟩:=f
  go_simp
  try with_reducible rfl
 try simp only [Act.put,tkQa,tkQb,tkQc]
 refine tkQ 9 (some 15) (v:= ?_) rfl (.inl ⟨by rfl,?_⟩) g ?_
 rotate_left
 ·intro w f
  (try dsimp only at f)
  obtain ⟨i,y,p,j⟩:=f
  go_simp
  try with_reducible rfl
 try simp only [Act.put,tkQa,tkQb,tkQc]
 refine tkQ 10 (some 16) (v:= ?_) rfl (.inl ⟨by rfl,?_⟩) g ?_
 rotate_left
 ·intro w f
  (try dsimp only at f)
  obtain ⟨i,y,p,j⟩:=f
  go_simp
  try with_reducible rfl
 try simp only [Act.put,tkQa,tkQb,tkQc]
 refine tkQ 11 (some 17) (v:= ?_) rfl (.inl ⟨by rfl,?_⟩) g ?_
 rotate_left
 ·intro w f
  (try dsimp only at f)
  obtain ⟨i,y,p,j⟩:=f
  go_simp
  try with_reducible rfl
 try simp only [Act.put,tkQa,tkQb,tkQc]
 refine tkQ 12 (some 18) (v:= ?_) rfl (.inl ⟨by rfl,?_⟩) g ?_
 rotate_left
 ·intro w f
  (try dsimp only at f)
  obtain ⟨i,y,p,j⟩:=f
  go_simp
  try with_reducible rfl
 try simp only [Act.put,tkQa,tkQb,tkQc]
 refine tkQ 13 (some 19) (v:= ?_) rfl (.inl ⟨by rfl,?_⟩) g ?_
 rotate_left
 ·intro w f
  (try dsimp only at f)
  obtain ⟨i,y,p,j⟩:=f
  go_simp
  try with_reducible rfl
 try simp only [Act.put,tkQa,tkQb,tkQc]
 refine wpAnyH_ready (rs:=[14]) (by kernel_rfl) (by simp) ?_
 refine AllReadyH.cons (o:=⟨some 20,_,_,_,_,_⟩) rfl (fun K G=> ?_) AllReadyH.nil
 go_simp
 go_at_call 37
 refine (Q.out _).mono ?_
 rintro e w' ⟨rfl,rfl⟩
 (try go_wp2_with fail)
 refine G.out _ _ ?_ (fun z=> ?_)
 ·exact ⟨E,D,C,A⟩
 clear G K
 try simp only [Act.put,tkQa,tkQb,tkQc]
 refine tkQ 15 (some 5) (v:= ?_) rfl (.inl ⟨by rfl,?_⟩) z ?_
 rotate_left
 ·intro w f
  (try dsimp only at f)
  obtain ⟨i,y,p,j⟩:=f
  go_simp
  try with_reducible rfl
 try simp only [Act.put,tkQa,tkQb,tkQc]
 refine wpAnyH_done (by kernel_rfl) ?_ _
 -- END REGION
 go_wp2
 go_ret
 exact ⟨rfl,1,rfl⟩
def attN (L:List CE) (a: ∀e∈L,e.nm.length≤maxLen):List NmT:=L.attach.map fun e=>⟨e.1.nm,a e.1 e.2⟩
theorem zfO (L:List CE) (hn):(attN L hn).map encN=(L.map CE.nm).map encStr:=by
 unfold attN encN
 rw [List.map_map,List.map_map]
 conv=>rhs;rw [←List.attach_map_subtype_val L]
 rw [List.map_map]
 rfl
theorem zdH (L:List CE) (hn) (j:Nat) (a:j<L.length):(L.map CE.nm).toArray[j]! =((attN L hn).toArray[j]!).1:=by
 rw [getElem!_pos _ _ (by simpa using a),getElem!_pos _ _ (by simpa [attN] using a)]
 simp [attN]
theorem zcC (L:List CE) (hn):(attN L hn).length=L.length:=by unfold attN;simp
def zcH (L:List CE) (a: ∀e∈L,e.nm.length≤maxLen):NmT:=Lib.pickBy (fun x m=>decide (cfN L x m<0)) (attN L a).toArray (L.length - 1)
theorem zdF {enc:NmT→Value} {g W:World} {a i:Nat} {d:Array NmT} (h:SW enc g a i d W) (b:Nat) (j:b<g.heap.size) (f:b≠a):W.heap[b]? =g.heap[b]? :=by
 obtain ⟨n,os,rfl⟩:=h
 unfold sortWorld grow putRow mapBlock Go.Sort.ahead
 simp only
 rw [Array.getElem?_append_left (by rw [Array.size_modify];exact j),Array.getElem?_modify,if_neg (fun e=>f e.symm)]
theorem zlX {enc:NmT→Value} {g W:World} {a f:Nat} {d:Array NmT} (h:SW enc g a f d W) (j:Holds enc g a f d):Below g.heap.size g W:=by
 obtain ⟨n,os,rfl⟩:=h
 have e:putRow enc (Go.Sort.ahead g n) a f d=Go.Sort.ahead g n:=by rw [putRow_ahead,putRow_self enc g a f d j]
 unfold sortWorld
 rw [e]
 exact ⟨rfl,rfl,rfl,by rw [Go.Sort.size_grow];exact Nat.le_add_right _ _,fun k i=>by unfold grow Go.Sort.ahead;simp only;rw [Array.getElem?_append_left i]⟩
theorem zdE (c M:Nat) (L:List CE) (w:World) (h:CacS w c M L) (hL:L.length≤1000000) (Z:L≠[]) (o: ∀e∈L,e.nm.length≤maxLen):
  Calls Tryz.prog 26 #[.pointer (some ⟨c,0,none⟩)] w fun e w'=>e= .returned (encN (zcH L o))∧Below w.heap.size w w':=by
 obtain ⟨y,A⟩: ∃y,y=w.alloc (.cells #[.pointer (some ⟨c,0,none⟩)] 24):=⟨_,rfl⟩
 have T:Below w.heap.size w y:=by rw [A];exact (znM _ _).alloc (znK _) _
 have p:y.heap[w.heap.size]? =some (.cells #[.pointer (some ⟨c,0,none⟩)] 24):=by rw [A];exact heap_alloc_new w _
 have qc:y.heap.size=w.heap.size+1:=by rw [A];simp
 have S:=h.keep T
 have R:=zaD p 0
 simp at R
 have HN:=znJ (zbN c M L y S hL)
 have HM:Hid (∀x v,OwnX 34 1 clN x y.heap.size v (L.map CE.nm)→Below y.heap.size y x→ ∃f cp,v= .slice (some ⟨f,0,none⟩) L.length cp∧
   Calls Tryz.prog 35 #[.slice (some ⟨f,0,none⟩) L.length cp,.func (.func 36) #[] #[.pointer (some ⟨w.heap.size,0,none⟩)]] x fun e w'=>e= .returned (encN (zcH L o))∧Below x.heap.size x w'):=by
  intro x v q i
  unfold OwnX at q
  rw [flatN,←zfO L o] at q
  rcases q.2 with ⟨rfl,E⟩|⟨f,O,qe,rfl,V,I,r1,r2,r3,r4⟩
  ·rw [List.length_map] at E
   exact absurd (List.eq_nil_of_length_eq_zero E) Z
  ·have Y:Holds encStr x f 0 (L.map CE.nm).toArray:=holds_of_block I (by rw [zfO] at r4;simpa using r4)
   have hH:Holds encN x f 0 (attN L o).toArray:=fun j hj=>by
    have D:j<L.length:=by simpa [zcC] using hj
    have:=Y j (by simpa using D)
    rw [zdH L o j D] at this
    exact this
   have qa:f<x.heap.size:=(Array.getElem?_eq_some_iff.1 I).1
   have qb:0<L.length:=List.length_pos_iff.2 Z
   refine ⟨f,O,by rw [List.length_map],?_⟩
   have U:x.cell? ⟨w.heap.size,0,none⟩=some (.pointer (some ⟨c,0,none⟩)):=(i.cell (World.block_lt_of_cell? y _ R)).trans R
   have Q:=S.keep i
   have B:CmpReads Tryz.prog 36 #[.pointer (some ⟨w.heap.size,0,none⟩)] encN (cfN L) f 0 (attN L o).toArray.size x:=fun m os H P a b=>by
    have g:SW encN x f 0 H (sortWorld encN x f 0 m H os):=⟨m,os,rfl⟩
    have qf:c<y.heap.size:=by have:=zaH h.box;omega
    have qd:M<y.heap.size:=by have:=S.map.1.lt;omega
    have J:(sortWorld encN x f 0 m H os).heap[c]? =x.heap[c]? :=zdF g c (by have:=i.size;omega) (by omega)
    have K:(sortWorld encN x f 0 m H os).heap[M]? =x.heap[M]? :=zdF g M (by have:=i.size;omega) (by omega)
    have C:(sortWorld encN x f 0 m H os).heap[w.heap.size]? =x.heap[w.heap.size]? :=zdF g w.heap.size (by have:=i.size;omega) (by omega)
    exact zgX c M w.heap.size L a b _ ⟨J.trans Q.box,Q.map.same K⟩ ((World.cell?_of_block (a:=⟨w.heap.size,0,none⟩) C).trans U)
   have G:=Any.slices_MinFunc_s minN encN (fun a=>rfl) (cfN L) 36 #[.pointer (some ⟨w.heap.size,0,none⟩)] f 0 O (attN L o).toArray x (enters_of Tryz.func36 (by kernel_rfl) rfl) B.lays hH qa (by simp [zcC];omega) (by simp [zcC];omega)
   have P:(attN L o).toArray.size=L.length:=by simp [zcC]
   rw [P] at G
   refine G.mono ?_
   rintro e w' ⟨rfl,g⟩
   exact ⟨rfl,zlX g hH⟩
 have HB:=znJ T
 clear h T p S Z hL
 generalize zcH L o=fg at*
 go_enter Tryz.func26,Tryz.ntmps26
 go_upto_region 1 with fail
 rw [←A]
 clear A
 go_wp2_with fail
 refine HN.out.mono ?_
 rintro e x ⟨v,rfl,q,i⟩
 obtain ⟨f,cp,rfl,hm⟩:=HM.out x v q i
 have N:=znJ hm
 have HX:=znJ (HB.out.trans (i.mono HB.out.size))
 clear q i hm HM HN R
 go_wp2_with fail
 refine N.out.mono ?_
 rintro e z ⟨rfl,E⟩
 have HZ:=znJ (HX.out.trans (E.mono HX.out.size))
 clear E N
 go_wp2
 go_ret
 exact ⟨rfl,HZ.out⟩
/-! ### which name makes room -/
def zaV (m:CE):List CE→CE
 |[]=>m
 |a::l=>zaV (if a.un<m.un then a else m) l
def zbL:List CE→List UInt8
 |[]=>[]
 |a::l=>(zaV a l).nm
theorem zcI (x:CE): ∀(l:List CE) (m:CE),zaV m (l++[x])=if x.un<(zaV m l).un then x else zaV m l
 |[],_=>rfl
 |a::l,m=>zcI x l (if a.un<m.un then a else m)
theorem zbZ: ∀(l:List CE) (m:CE),zaV m l∈m::l
 |[],_=>by simp [zaV]
 |a::l,m=>by
  unfold zaV
  have:=zbZ l (if a.un<m.un then a else m)
  rcases List.mem_cons.1 this with h|h
  ·rw [h];split<;>simp
  ·exact List.mem_cons_of_mem _ (List.mem_cons_of_mem _ h)
theorem zgR (x y:Int):(cmpI x y<0)↔x<y:=by unfold cmpI;split<;>(try split)<;>omega
theorem zfP {L:List CE} (h:zaJ L) {e:CE} (a:e∈L):unOf L e.nm=e.un:=by unfold unOf;rw [zbR h a];rfl
theorem zcS {a:CE} {l:List CE} (h:zaJ (a::l)) (hn): ∀t,t≤l.length→(Lib.pickBy (fun x m=>decide (cfN (a::l) x m<0)) (attN (a::l) hn).toArray t).1=(zaV a (l.take t)).nm
 |0,_=>by
  have:=zdH (a::l) hn 0 (by simp)
  unfold Lib.pickBy
  rw [←this]
  simp [zaV]
 |t+1,y=>by
  have i:=zcS h hn t (by omega)
  have o:=zdH (a::l) hn (t+1) (by simp;omega)
  have g:(a::l).map CE.nm|>.toArray[t+1]! =(l[t]'(by omega)).nm:=by
   rw [getElem!_pos _ _ (by simp;omega)]
   simp
  have f:l.take (t+1)=l.take t++[l[t]'(by omega)]:=by rw [List.take_add_one];simp [List.getElem?_eq_getElem (show t<l.length by omega)]
  unfold Lib.pickBy
  rw [f,zcI]
  have p:zaV a (l.take t)∈a::l:=by
   rcases List.mem_cons.1 (zbZ (l.take t) a) with q|q
   ·rw [q];simp
   ·exact List.mem_cons_of_mem _ (List.mem_of_mem_take q)
  have j:(cfN (a::l) (attN (a::l) hn).toArray[t+1]! (Lib.pickBy (fun x m=>decide (cfN (a::l) x m<0)) (attN (a::l) hn).toArray t)<0)↔(l[t]'(by omega)).un<(zaV a (l.take t)).un:=by
   show cmpI _ _<0↔_
   rw [zgR,←o,g,i,zfP h (List.mem_cons_of_mem _ (List.getElem_mem _)),zfP h p]
  by_cases q:(l[t]'(by omega)).un<(zaV a (l.take t)).un
  ·rw [if_pos q,if_pos (by rw [decide_eq_true_eq];exact j.2 q),←o,g]
  ·rw [if_neg q,if_neg (by rw [decide_eq_true_eq];exact fun z=>q (j.1 z)),i]
theorem zdO {L:List CE} (h:zaJ L) (f:L≠[]) (hn):(zcH L hn).1=zbL L:=by
 cases L with
 |nil=>exact absurd rfl f
 |cons a l=>
  unfold zcH zbL
  rw [show (a::l).length - 1=l.length by simp,zcS h hn l.length (znK _),List.take_length]
theorem zcR {L:List CE} (f:L≠[]): ∃e∈L,e.nm=zbL L:=by
 cases L with
 |nil=>exact absurd rfl f
 |cons a l=>exact ⟨_,zbZ l a,rfl⟩
/-! ### what is there behind a Put -/
def zmH (n:List UInt8) (L:List CE):List CE:=zhD (zbL L) n L
theorem zeD {f n:List UInt8} {L:List CE} {x:CE} (h:x∈zhD f n L):x∈L:=by
 unfold zhD at h
 split at h
 ·exact (zdG.1 h).1
 ·exact h
theorem zlL {L:List CE} (e:CE) (n:List UInt8) (i:e.nm=n) (h:zaJ L) (p:L.length≤64):(putE e (zmH n L)).length≤64:=by
 subst i
 unfold putE zmH zhD
 rw [zgG]
 by_cases a:(zaL e.nm L).isNone&&decide (64≤L.length)
 ·rw [if_pos a]
  simp only [Bool.and_eq_true,decide_eq_true_eq,Option.isNone_iff_eq_none] at a
  obtain ⟨x,j,f⟩:=zcR (L:=L) (fun q=>by rw [q] at a;simp at a)
  have:=zgK h (n:=zbL L) (e:=x) (by rw [←f];exact zbR h j)
  have o:(delE e.nm (delE (zbL L) L)).length≤(delE (zbL L) L).length:=List.length_filter_le _ _
  omega
 ·rw [if_neg a]
  have o:(delE e.nm L).length≤L.length:=List.length_filter_le _ _
  cases g:zaL e.nm L with
  |none=>
   rw [g] at a
   simp at a
   omega
  |some x=>
   have:=zgK h g
   omega
/-! ### a cache with what it holds -/
def upd (zf:List UInt8→List AZ) (n:List UInt8) (a:List AZ):List UInt8→List AZ:=fun k=>if k=n then a else zf k
structure CacZ (x:World) (c M:Nat) (L:List CE) (zf:List UInt8→List AZ):Prop where
 cac:CacS x c M L
 row: ∀e∈L,∃ao cp,e.sv= .slice ao (zf e.nm).length cp∧RowX 1 clZ x ao (zf e.nm)
 few: ∀e∈L,e.nm.length≤maxLen∧zf e.nm≠[]∧(zf e.nm).length≤1000000
 len:L.length≤64
theorem ziS (a:Addr) (k:Nat):(a.add k).block=a.block:=by unfold Addr.add;split<;>rfl
theorem row_at {x:World} {ao:Option Addr} {a:List AZ} (h:RowX 1 clZ x ao a) (o:a≠[]) {f:Addr} (g:ao=some f): ∃p v,p.block=f.block∧x.cell? p=some v:=by
 cases a with
 |nil=>exact absurd rfl o
 |cons z l=>
  obtain ⟨i,e,j⟩:=h 0 z rfl
  rw [g] at e
  obtain rfl:=Option.some.inj e
  exact ⟨_,z.val,ziS _ _,j 0 (by omega)⟩
theorem zfZ {x:World} {p:Addr} {a:Array MapEntry} {k:Nat} (h:x.heap[p.block]? =some (.map a k)):x.cell? p=none:=by
 unfold World.cell?
 rw [h]
theorem zcY {x:World} {M:Nat} {L:List CE} (h:MapS x M L) {ao:Option Addr} {f:List AZ} (j:RowX 1 clZ x ao f) (q:f≠[]): ∀a,ao=some a→a.block≠M:=fun a o e=>by
 obtain ⟨p,v,y,g⟩:=row_at j q o
 obtain ⟨⟨z,k,i,_⟩,_⟩:=h
 rw [zfZ (by rw [y,e];exact i)] at g
 cases g
theorem CacZ.keep {x y:World} {c M:Nat} {L:List CE} {zf:List UInt8→List AZ} (h:CacZ x c M L zf) (a:Below x.heap.size x y):CacZ y c M L zf:=
 ⟨h.cac.keep a,fun e f=>by obtain ⟨ao,cp,g,i⟩:=h.row e f;exact ⟨ao,cp,g,RowX.keep zaP i a⟩,h.few,h.len⟩
theorem CacZ.only {x y:World} {c M:Nat} {L f:List CE} {zf:List UInt8→List AZ} (h:CacZ x c M L zf) (q:Only [M] x y) (j:CacS y c M f) (g: ∀e∈f,e∈L) (p:f.length≤64):CacZ y c M f zf:=
 ⟨j,fun e a=>by
  obtain ⟨ao,cp,o,i⟩:=h.row e (g e a)
  exact ⟨ao,cp,o,zbI i (zcY h.cac.map i (h.few e (g e a)).2.1) q⟩,fun e a=>h.few e (g e a),p⟩
theorem CacZ.new {x:World} {c M:Nat} (h:CacS x c M []) (zf:List UInt8→List AZ):CacZ x c M [] zf:=⟨h,(fun _ a=>nomatch a),(fun _ a=>nomatch a),Nat.zero_le _⟩
theorem put_z (c M:Nat) (L:List CE) (zf:List UInt8→List AZ) (n:List UInt8) (u:Int) (ao:Option Addr) (j:List AZ) (cp:Nat) (w:World) (h:CacZ w c M L zf) (I:n.length≤maxLen) (y:j≠[]) (p:j.length≤1000000) (E:RowX 1 clZ w ao j):
  Calls Tryz.prog 12 #[.pointer (some ⟨c,0,none⟩),.string ⟨n.toArray⟩,.int .i64 u,.slice ao j.length cp] w fun e w'=>e= .returned (.bool true)∧ ∃v,CacZ w' c M (putE ⟨n,u,v⟩ (zmH n L)) (upd zf n j)∧Only [M] w w':=by
 have D:(zbL L).length≤maxLen:=by
  cases J:L with
  |nil=>simp [zbL]
  |cons a l=>
   obtain ⟨e,B,A⟩:=zcR (L:=L) (by rw [J];simp)
   rw [←J,←A]
   exact (h.few e B).1
 refine (zjS c M L n (zbL L) u ao j cp w h.cac I D y p E (zcY h.cac.map E y) (by have:=h.len;omega) (fun _ o W K=> ?_)).mono ?_
 ·have H:L≠[]:=fun e=>by rw [e] at o;simp at o
  have:=zdE c M L W (h.cac.keep K) (by have:=h.len;omega) H (fun e B=>(h.few e B).1)
  unfold encN encStr at this
  rw [zdO h.cac.map.2 H] at this
  exact this
 ·rintro e w' ⟨rfl,R,P,Q,N,f⟩
  refine ⟨rfl,_,⟨Q,fun x g=> ?_,fun x g=> ?_,zlL _ n rfl h.cac.map.2 h.len⟩,f⟩
  ·rcases zcT.1 g with rfl|⟨g,i⟩
   ·refine ⟨R,P,?_,?_⟩
    ·unfold upd;rw [if_pos rfl]
    ·unfold upd;rw [if_pos rfl];exact N.row zaP
   ·have q:=zeD g
    obtain ⟨z,C,O,G⟩:=h.row x q
    unfold upd
    rw [if_neg i]
    exact ⟨z,C,O,zbI G (zcY h.cac.map G (h.few x q).2.1) f⟩
  ·rcases zcT.1 g with rfl|⟨g,i⟩
   ·unfold upd;rw [if_pos rfl];exact ⟨I,y,p⟩
   ·unfold upd;rw [if_neg i];exact h.few x (zeD g)
theorem zjK (c M:Nat) (L:List CE) (zf:List UInt8→List AZ) (n:List UInt8) (a:Int) (w:World) (h:CacZ w c M L zf) (q:n.length≤maxLen) {e:CE} (j:zaL n L=some e) (p:a<e.un):
  Calls Tryz.prog 18 #[.pointer (some ⟨c,0,none⟩),.string ⟨n.toArray⟩,.int .i64 a] w fun e w'=> ∃v,e= .returned (.tuple #[v,.bool true])∧OwnX 48 1 clZ w' w.heap.size v (zf n)∧Below w.heap.size w w':=by
 obtain ⟨g,f⟩:=zbG j
 obtain ⟨ao,cp,i,o⟩:=h.row e g
 rw [f] at i o
 exact zjZ c M L n a w h.cac q j p i o (by have:=(h.few e g).2.2;rw [f] at this;exact this)
theorem zhL (c M:Nat) (L:List CE) (zf:List UInt8→List AZ) (a:Int) (w:World) (h:CacZ w c M L zf):
  Calls Tryz.prog 9 #[.pointer (some ⟨c,0,none⟩),.int .i64 a] w fun e w'=>e= .returned (.int .i64 ((L.length:Int) - ((L.filter (zaM a)).length:Int)))∧CacZ w' c M (L.filter (zaM a)) zf∧Only [M] w w':=by
 refine (zeX c M L a w h.cac (by have:=h.len;omega)).mono ?_
 rintro e w' ⟨rfl,i,f⟩
 exact ⟨rfl,h.only f i (fun e g=>(List.mem_filter.1 g).1) (Nat.le_trans (List.length_filter_le _ _) h.len),f⟩
theorem zaJ.ext {A B:List CE} (i:zaJ A) (g:zaJ B) (h: ∀x,x∈A↔x∈B):A=B:=by
 have f: ∀{l:List CE},zaJ l→l.Nodup:=fun o=>List.Pairwise.imp (fun {a b} q e=>by rw [e,zaR] at q;cases q) o
 refine List.Perm.eq_of_pairwise (le:=fun (a b:CE)=>bytesBefore a.nm b.nm=true) (fun a b _ _ j p=> ?_) i g ((List.perm_ext_iff_of_nodup (f i) (f g)).2 h)
 have:=zbE j p
 rw [zaR] at this
 cases this
def updV (f:List UInt8→Value) (n:List UInt8) (v:Value):List UInt8→Value:=fun k=>if k=n then v else f k
def zbP (L:List CE) (left:Lit→Bool) (f:List UInt8→Value):List CE:=(L.filter fun e=> !left (.string e.nm)).map fun e=>⟨e.nm,e.un,f e.nm⟩
theorem zhH (L:List CE) (left:Lit→Bool) (f:List UInt8→Value):(zbP L left f).length≤L.length:=by unfold zbP;rw [List.length_map];exact List.length_filter_le _ _
theorem zfX {L:List CE} {left:Lit→Bool} {f:List UInt8→Value} {x:CE}:x∈zbP L left f↔ ∃e∈L,left (.string e.nm)=false∧x=⟨e.nm,e.un,f e.nm⟩:=by
 unfold zbP
 rw [List.mem_map]
 constructor
 ·rintro ⟨e,i,rfl⟩
  obtain ⟨a,g⟩:=List.mem_filter.1 i
  exact ⟨e,a,by simpa using g,rfl⟩
 ·rintro ⟨e,a,g,rfl⟩
  exact ⟨e,List.mem_filter.2 ⟨a,by simp [g]⟩,rfl⟩
theorem zdV {L:List CE} (h:zaJ L) (left:Lit→Bool) (f:List UInt8→Value):zaJ (zbP L left f):=by
 unfold zbP zaJ
 rw [List.pairwise_map]
 exact List.Pairwise.sublist List.filter_sublist h
theorem zcW (a b:List UInt8):(Lit.string a).sameKey (.string b)=(a==b):=rfl
theorem ziB {L:List CE} (h:zaJ L) {e:CE} (o:e∈L) {left:Lit→Bool} {f:List UInt8→Value} {v:Value}:zbP L (fun z=>left z&& !z.sameKey (.string e.nm)) (updV f e.nm v)=putE ⟨e.nm,e.un,v⟩ (zbP L left f):=by
 refine (zdV h _ _).ext ((zdV h _ _).put _) fun x=> ?_
 rw [zfX,zcT,zfX]
 constructor
 ·rintro ⟨a,i,g,rfl⟩
  rw [zcW] at g
  by_cases q:a.nm=e.nm
  ·left
   rw [h.one i o q]
   simp [updV]
  ·right
   rw [show (a.nm==e.nm)=false from beq_eq_false_iff_ne.2 q] at g
   refine ⟨⟨a,i,by simpa using g,?_⟩,q⟩
   simp [updV,q]
 ·rintro (rfl|⟨⟨a,i,g,rfl⟩,p⟩)
  ·exact ⟨e,o,by rw [zcW];simp,by simp [updV]⟩
  ·exact ⟨a,i,by rw [g];rfl,by have j: ¬a.nm=e.nm:=p;simp [updV,j]⟩
theorem zhX {L:List CE} {left:Lit→Bool} (h: ∀e∈L,left (.string e.nm)=true) (f:List UInt8→Value):zbP L left f=[]:=by
 unfold zbP
 rw [List.filter_eq_nil_iff.2 (fun e a=>by simp [h e a])]
 rfl
theorem zlD {L:List CE} {left:Lit→Bool} (h: ∀e∈L,left (.string e.nm)=false) (f:List UInt8→Value):zbP L left f=L.map fun e=>⟨e.nm,e.un,f e.nm⟩:=by
 unfold zbP
 rw [List.filter_eq_self.2 (fun e a=>by simp [h e a])]
theorem map_none {x:World} {M:Nat} {L:List CE} (h:MapS x M L): ∀p:Addr,p.block=M→x.cell? p=none:=fun p f=>by
 obtain ⟨⟨g,k,a,_⟩,_⟩:=h
 exact zfZ (by rw [f];exact a)
theorem zjV {x:World} {r:Nat} {m:Option Nat} {a b:Nat} {s:Array Nat} (h:x.heap[r]? =some (.mapIter m a s b)): ∀p:Addr,p.block=r→x.cell? p=none:=fun p f=>by
 unfold World.cell?
 rw [f,h]
theorem zbK {x y:World} {k:Nat} (g:x.grownBy y (some k)) (f: ∀p:Addr,p.block=k→x.cell? p=none) {p:Addr} {v:Value} (h:x.cell? p=some v):y.cell? p=some v:=
 (World.cell?_of_block (a:=p) (g.block p.block (World.block_lt_of_cell? x _ h) (fun e=>by rw [f p (Option.some.inj e)] at h;cases h))).trans h
theorem zbU {x y:World} {k:Nat} (A:x.grownBy y (some k)) (f: ∀p:Addr,p.block=k→x.cell? p=none) {ao:Option Addr} {a:List AZ} (h:RowX 1 clZ x ao a):RowX 1 clZ y ao a:=fun j z B=>by
 obtain ⟨o,e,g⟩:=h j z B
 refine ⟨o,e,fun i hi=> ?_⟩
 have C:i=0:=by omega
 subst C
 have q:(clZ z)[0]? =some z.val:=rfl
 rw [q]
 exact zbK A f (by rw [←q];exact g 0 hi)
def zdB (x:World) (L:List CE) (left:Lit→Bool) (f:List UInt8→Value) (zf:List UInt8→List AZ):Prop:= ∀g∈L,left (.string g.nm)=false→ ∃ao cp,f g.nm= .slice ao (zf g.nm).length cp∧RowX 1 clZ x ao (zf g.nm)
theorem zdB.grown {x y:World} {k:Nat} {L:List CE} {left:Lit→Bool} {f:List UInt8→Value} {zf:List UInt8→List AZ} (h:zdB x L left f zf) (z:x.grownBy y (some k)) (j: ∀p:Addr,p.block=k→x.cell? p=none):zdB y L left f zf:=fun g a o=>by
 obtain ⟨ao,cp,i,q⟩:=h g a o
 exact ⟨ao,cp,i,zbU z j q⟩
theorem zdB.keep {x y:World} {L:List CE} {left:Lit→Bool} {f:List UInt8→Value} {zf:List UInt8→List AZ} (h:zdB x L left f zf) (i:Below x.heap.size x y):zdB y L left f zf:=fun g a o=>by
 obtain ⟨ao,cp,j,p⟩:=h g a o
 exact ⟨ao,cp,j,RowX.keep zaP p i⟩
theorem zjP {x y z:World} {A:Nat} {L:List CE} {left:Lit→Bool} {f:List UInt8→Value} {zf:List UInt8→List AZ} (h:zdB x L left f zf) (D:Below x.heap.size x y) (B: ∀p:Addr,p.block=A→y.cell? p=none) {e:CE} {j:Option Addr} {o:Nat} (H:RowX 1 clZ y j (zf e.nm)) (C:y.grownBy z (some A)):
  zdB z L (fun t=>left t&& !t.sameKey (.string e.nm)) (updV f e.nm (.slice j (zf e.nm).length o)) zf:=fun g i a=>by
 by_cases q:g.nm=e.nm
 ·rw [q]
  exact ⟨j,o,by simp [updV],zbU C B H⟩
 ·dsimp only at a
  rw [zcW,show (g.nm==e.nm)=false from beq_eq_false_iff_ne.2 q] at a
  obtain ⟨ao,cp,E,G⟩:=h g i (by simpa using a)
  exact ⟨ao,cp,by simp [updV,q,E],zbU C B (RowX.keep zaP G D)⟩
theorem came {L:List CE} {n:List UInt8} {i:DataW Value} (h: ∀zd,(DL L).atKey (.string n) zd=i): ∃e∈L,e.nm=n∧i= .held e.val:=by
 cases f:zaL n L with
 |none=>
  have a:=h (.held (.bool true))
  have j:=h (.held (.bool false))
  rw [zkO,f] at a j
  rw [←j] at a
  simp at a
 |some e=>
  obtain ⟨o,g⟩:=zbG f
  have a:=h (.held (.bool true))
  rw [zkO,f] at a
  exact ⟨e,o,g,a.symm⟩
theorem zmR (c M:Nat) (L:List CE) (zf:List UInt8→List AZ) (w:World) (h:CacZ w c M L zf):
  Calls Tryz.prog 11 #[.pointer (some ⟨c,0,none⟩)] w fun e w'=> ∃(O J:Nat) (f:List UInt8→Value),e= .returned (.pointer (some ⟨O,0,none⟩))∧CacZ w' O J (L.map fun e=>⟨e.nm,e.un,f e.nm⟩) zf∧w.heap.size≤O∧w.heap.size≤J∧Below w.heap.size w w':=by
 have HH:=znJ h
 have hc:=zaD h.cac.box 0
 simp at hc
 have HC:=znJ hc
 have HN:=znJ (zeA w)
 have qJ:=znJ h.cac.map.2
 have qS:=znJ h.len
 clear h hc
 go_enter Tryz.func11,Tryz.ntmps11
 go_wp2_with fail
 refine HN.out.mono ?_
 rintro e0 x1 ⟨O,J,rfl,B,qU,qL,qf⟩
 have qn:=(HH.out.cac.keep qf).map.1
 have Qg:=(qf.cell (World.block_lt_of_cell? w _ HC.out)).trans HC.out
 have I:=znJ B
 have qk:=znJ qL
 have Qn:=znJ qU
 have U:=znJ qf
 have Qq:Hid (M<w.heap.size):=HH.out.cac.map.1.lt
 clear B qU qL qf
 go_wp2_with (first
  |(at_range;refine wpList_range_own _ rfl _ 55 rfl 34 60 zaK Tryz.underlying55 zbD M L.length _ rfl qn ?_;intro w0 qo R Ql)
  |go_in)
 try go_frame
 have qb:Below x1.heap.size x1 w0:=⟨R.os,R.tape,R.output,R.size,fun k hk=>R.block k hk (by simp)⟩
 have qN:=znJ (I.out.keep qb)
 have qX:=znJ (U.out.trans (qb.mono U.out.size))
 have qj:Hid (J<x1.heap.size∧O<x1.heap.size):=⟨I.out.map.1.lt,zaH I.out.box⟩
 have qy:=znJ qo
 clear qn Qg qo R Ql qb I
 generalize x1.heap.size=r at*
 go_loopw [14] (fun _ wr=> ∃(left:Lit→Bool) (qK:Nat) (f:List UInt8→Value),Hid (wr.ranges Tryz.prog 34 zbD M r L.length (DL L) left qK)∧Hid (CacS wr O J (zbP L left f))∧Hid (zdB wr L left f zf)∧Hid (Below w.heap.size w wr))
  (fun _ wr=>wr.rangeLeft M r)
 case atStart=>
  have hl: ∀e∈L,Maps.has (DL L) (.string e.nm)=true:=fun e V=>by rw [zmF,zbR qJ.out V];rfl
  exact ⟨Maps.has (DL L),Maps.size (DL L),fun _=> .bool true,qy,by rw [zhX hl];exact qN,(fun g hg Qe=>absurd ((hl g hg).symm.trans Qe) (by decide)),qX⟩
 case round=>
  obtain ⟨left,qK,f,qP,T,qC,qg⟩:=hrel
  have Y:=qP.out
  go_wp2_with (first
   |(at_next;refine wpList_next_ranges (α:=ByteArray) (β:=Int×Option Addr×Nat×Nat) _ rfl _ rfl 34 zaK zbD (fun s=> .string s) (fun p=> .agg #[.int .i64 p.1,.slice p.2.1 p.2.2.1 p.2.2.2]) (fun Qv kl hk=>by
     obtain ⟨s,rfl,_⟩:=WideMaps.string_of_keyOf Tryz.underlying34 hk
     exact ⟨s,rfl⟩) (fun v y hv=>by
     obtain ⟨u,a,k,c,rfl,_⟩:=zaS hv
     exact ⟨(u,a,k,c),rfl⟩) M r L.length _ _ _ rfl Y ?_ ?_)
   |go_in)
  ·intro _ qV
   have HE:Hid (∀e∈L,left (.string e.nm)=false):=fun e _=>qV _
   clear Y qV
   go_wp2
   go_ret
   refine ⟨O,J,f,rfl,⟨by rw [←zlD HE.out f];exact T.out,fun x hx=> ?_,fun x hx=> ?_,by rw [List.length_map];exact qS.out⟩,Qn.out,qk.out,qg.out⟩
   ·obtain ⟨e,V,rfl⟩:=List.mem_map.1 hx
    exact qC.out e V (HE.out e V)
   ·obtain ⟨e,V,rfl⟩:=List.mem_map.1 hx
    exact HH.out.few e V
  ·intro s u a k c3 kl yd yp w1 qx ql qO hv qT qc qG qa B Qm
   obtain ⟨s',es,rfl,Qh⟩:=WideMaps.string_of_keyOf Tryz.underlying34 ql
   cases es
   obtain ⟨e,V,qr,rfl⟩:=came qT
   obtain ⟨u0,a0,k0,c0,Qc,hy⟩:=zaS hv
   have N:e.val= .agg #[.int .i64 u,.slice a k c3]:=by
    simp only [Prod.mk.injEq,DataW.held.injEq] at hy
    exact hy.1
   obtain ⟨ao,cp,qR,qw⟩:=HH.out.row e V
   unfold CE.val at N
   rw [qR] at N
   simp at N
   obtain ⟨rfl,rfl,rfl,rfl⟩:=N
   obtain rfl:s=⟨e.nm.toArray⟩:=by cases s;simp [qr]
   rw [show (⟨e.nm.toArray⟩:ByteArray).data.toList=e.nm by simp] at qO qc
   have Qk:=znJ V
   have Qr:=znJ (HH.out.few e V).1
   have qD: ∀p:Addr,p.block=r→wr.cell? p=none:=by
    obtain ⟨_,_,_,_,_,_,_,_,_,hr,_⟩:=Y
    exact zjV hr
   have I:Hid (CacS w1 O J (zbP L left f)):=⟨(qa.block O (zaH T.out.box) (fun q=>by have:=qj.out.2;have:=Option.some.inj q;omega)).trans T.out.box,T.out.map.same (qa.block J T.out.map.1.lt (fun q=>by have:=qj.out.1;have:=Option.some.inj q;omega))⟩
   have qW:=znJ (qC.out.grown qa qD)
   have Qp:Hid (w.heap.size≤r):=by have:=qj.out.1;have:=qk.out;show w.heap.size≤r;omega
   have U:=znJ (qg.out.grown qa qg.out.size (fun k hk=>by cases hk;exact Qp.out))
   have Qj:=znJ Y.left_eq
   have Qb:=znJ qG
   obtain ⟨G,Z⟩: ∃y,y=w1.alloc (.cells #[.int .i64 e.un,.slice ao (zf e.nm).length cp] 60):=⟨_,rfl⟩
   have P:Below w1.heap.size w1 G:=by rw [Z];exact (znM _ _).alloc (znK _) _
   have qI:Hid (G.ranges Tryz.prog 34 zbD M r L.length (DL L) (fun z=>left z&& !z.sameKey (.string e.nm)) qx):=by rw [Z];exact qc.alloc _
   have qd:G.heap[wr.heap.size]? =some (.cells #[.int .i64 e.un,.slice ao (zf e.nm).length cp] 60):=by rw [Z,←B];exact heap_alloc_new w1 _
   have qM:=znJ (I.out.keep P)
   have Qs:=znJ (qW.out.keep P)
   have Q:=znJ (U.out.trans (P.mono U.out.size))
   have e0:=zaD qd 0
   have e1:=zaD qd 1
   simp at e0 e1
   have qA:=zaD qM.out.box 0
   simp at qA
   have HE:Hid (G.cell? ⟨O,0,none⟩=some (.map (some J))∧G.cell? ⟨wr.heap.size,0,none⟩=some (.int .i64 e.un)∧G.cell? ⟨wr.heap.size,1,none⟩=some (.slice ao (zf e.nm).length cp)):=⟨qA,e0,e1⟩
   have Qd:Hid (∀X,Below G.heap.size G X→Calls Tryz.prog 25 #[.slice ao (zf e.nm).length cp] X fun e w'=> ∃v,e= .returned v∧OwnX 48 1 clZ w' X.heap.size v (zf _)∧Below X.heap.size X w'):=fun X hX=>zaY ao cp (zf e.nm) X (RowX.keep zaP qw (Q.out.trans (hX.mono Q.out.size))) (HH.out.few e V).2.2
   have qE:Hid (some M≠some J∧some r≠some J):=⟨fun q=>by have:=Option.some.inj q;have:=Qq.out;have:=qk.out;omega,fun q=>by have:=Option.some.inj q;have:=qj.out.1;omega⟩
   have qQ:G.drew.cell? ⟨O,0,none⟩=some (.map (some J))∧G.drew.cell? ⟨wr.heap.size,0,none⟩=some (.int .i64 e.un)∧G.drew.cell? ⟨wr.heap.size,1,none⟩=some (.slice ao (zf e.nm).length cp):=HE.out
   clear Y qc qa qD qO qT ql qG qd e0 e1 qA qw qR hv Qc hy P qP T qC qg qy qN qX I qW U V Qh qr
   go_upto_region 7 with fail
   rw [←Z]
   clear Z Qm
   go_wp2_with fail
   refine wp_region_held_drew (S:=fun W=>W.cell? ⟨O,0,none⟩=some (.map (some J))∧W.cell? ⟨wr.heap.size,0,none⟩=some (.int .i64 e.un)∧W.cell? ⟨wr.heap.size,1,none⟩=some (.slice ao (zf e.nm).length cp)) (by kernel_rfl) ?_ (fun A=> ?_)
   ·exact qQ
   refine tkQ 0 (some 19) (v:= ?_) rfl (.inl ⟨by rfl,?_⟩) A ?_
   rotate_left
   ·intro w i
    (try dsimp only at i)
    obtain ⟨B,D,E⟩:=i
    go_simp
    try with_reducible rfl
   try simp only [Act.put,tkQa,tkQb,tkQc]
   refine tkQ 1 (some 20) (v:= ?_) rfl (.inl ⟨by rfl,?_⟩) A ?_
   rotate_left
   ·intro w i
    (try dsimp only at i)
    obtain ⟨B,D,E⟩:=i
    go_simp
    try with_reducible rfl
   try simp only [Act.put,tkQa,tkQb,tkQc]
   refine tkQ 2 (some 21) (v:= ?_) rfl (.inl ⟨by rfl,?_⟩) A ?_
   rotate_left
   ·intro w i
    (try dsimp only at i)
    obtain ⟨B,D,E⟩:=i
    go_simp
    try with_reducible rfl
   try simp only [Act.put,tkQa,tkQb,tkQc]
   refine tkQ 3 (some 22) (v:= ?_) rfl (.inl ⟨by rfl,?_⟩) A ?_
   rotate_left
   ·intro w i
    (try dsimp only at i)
    obtain ⟨B,D,E⟩:=i
    go_simp
    try with_reducible rfl
   try simp only [Act.put,tkQa,tkQb,tkQc]
   refine tkQ 4 (some 23) (v:= ?_) rfl (.inl ⟨by rfl,?_⟩) A ?_
   rotate_left
   ·intro w i
    (try dsimp only at i)
    obtain ⟨B,D,E⟩:=i
    go_simp
    try with_reducible rfl
   try simp only [Act.put,tkQa,tkQb,tkQc]
   refine tkQ 5 (some 24) (v:= ?_) rfl (.inl ⟨by rfl,?_⟩) A ?_
   rotate_left
   ·intro w i
    (try dsimp only at i)
    obtain ⟨B,D,E⟩:=i
    go_simp
    try with_reducible rfl
   try simp only [Act.put,tkQa,tkQb,tkQc]
   refine tkQ 6 (some 25) (v:= ?_) rfl (.inl ⟨by rfl,?_⟩) A ?_
   rotate_left
   ·intro w i
    (try dsimp only at i)
    obtain ⟨B,D,E⟩:=i
    go_simp
    try with_reducible rfl
   try simp only [Act.put,tkQa,tkQb,tkQc]
   refine tkQ 7 (some 26) (v:= ?_) rfl (.inl ⟨by rfl,?_⟩) A ?_
   rotate_left
   ·intro w i
    (try dsimp only at i)
    obtain ⟨B,D,E⟩:=i
    go_simp
    try with_reducible rfl
   try simp only [Act.put,tkQa,tkQb,tkQc]
   refine tkQ 8 (some 27) (v:= ?_) rfl (.inl ⟨by rfl,?_⟩) A ?_
   rotate_left
   ·intro w i
    (try dsimp only at i)
    obtain ⟨B,D,E⟩:=i
    go_simp
    try with_reducible rfl
   try simp only [Act.put,tkQa,tkQb,tkQc]
   refine wpAnyH_ready (rs:=[9]) (by kernel_rfl) (by simp) ?_
   refine AllReadyH.cons (o:=⟨some 28,_,_,_,_,_⟩) rfl (fun K hK=> ?_) AllReadyH.nil
   go_simp
   go_at_call 25
   refine (Qd.out _ (zaG _)).mono ?_
   rintro e5 x5 ⟨v5,rfl,qz,qY⟩
   obtain ⟨a5,c5,rfl⟩:=qz.form
   have j:=(zaG G).trans qY
   have H:=qM.out.keep j
   have qF:G.grownBy x5 none:=⟨j.os,j.tape,j.output,j.size,fun k hk _=>j.block k hk⟩
   have qp:=qI.out.kept qF (by simp) (by simp)
   have qi:x5.cell? ⟨O,0,none⟩=some (.map (some J))∧x5.cell? ⟨wr.heap.size,0,none⟩=some (.int .i64 e.un)∧x5.cell? ⟨wr.heap.size,1,none⟩=some (.slice ao (zf e.nm).length cp):=⟨(j.cell (World.block_lt_of_cell? G _ HE.out.1)).trans HE.out.1,(j.cell (World.block_lt_of_cell? G _ HE.out.2.1)).trans HE.out.2.1,(j.cell (World.block_lt_of_cell? G _ HE.out.2.2)).trans HE.out.2.2⟩
   obtain ⟨x6,Qt,qe,C⟩:=H.map.1.update zaK Tryz.underlying55 (by have:=zhH L left f;have:=qS.out;unfold maxLen;omega) (zbF Qr.out) (zaZ e.un a5 (zf e.nm).length c5)
   have qB:=zdD (e:=⟨e.nm,e.un,.slice a5 (zf e.nm).length c5⟩) H qe C
   rw [←ziB qJ.out Qk.out] at qB
   have Qo:=znJ qB
   have qv:=znJ (qp.kept C qE.out.1 qE.out.2)
   have Qf:=znJ ((Q.out.trans (j.mono Q.out.size)).grown C (Q.out.trans (j.mono Q.out.size)).size (fun k hk=>by cases hk;exact qk.out))
   have Qi:Hid (∀g∈L,(left (.string g.nm)&& !(Lit.string g.nm).sameKey (.string e.nm))=false→ ∃ao cp,updV f e.nm (.slice a5 (zf e.nm).length c5) g.nm= .slice ao (zf g.nm).length cp∧RowX 1 clZ x6 ao (zf g.nm)):=zjP Qs.out j (map_none H.map) (e:=e) (qz.row zaP) C
   have qH:x6.cell? ⟨O,0,none⟩=some (.map (some J))∧x6.cell? ⟨wr.heap.size,0,none⟩=some (.int .i64 e.un)∧x6.cell? ⟨wr.heap.size,1,none⟩=some (.slice ao (zf e.nm).length cp):=⟨(zbK C (map_none H.map) qi.1),(zbK C (map_none H.map) qi.2.1),(zbK C (map_none H.map) qi.2.2)⟩
   have Qa:=znJ qH
   clear H qz qY j qe C qF qp qB qH
   (try go_wp2_with fail)
   obtain ⟨qs,qm,qq⟩:=qi
   refine hK.out _ _ ?_ (fun qh=> ?_)
   ·exact ⟨qs,qm,qq⟩
   clear hK K
   try simp only [Act.put,tkQa,tkQb,tkQc]
   refine tkQ 10 (some 29) (v:= ?_) rfl (.inl ⟨by rfl,?_⟩) qh ?_
   rotate_left
   ·intro w i
    (try dsimp only at i)
    obtain ⟨B,D,E⟩:=i
    go_simp
    try with_reducible rfl
   try simp only [Act.put,tkQa,tkQb,tkQc]
   refine wpAnyH_ready (rs:=[11]) (by kernel_rfl) (by simp) ?_
   refine AllReadyH.cons (o:=⟨none,_,_,_,_,_⟩) rfl (fun K hK=> ?_) AllReadyH.nil
   go_simp
   refine hK.out _ _ ?_ (fun qZ=> ?_)
   ·exact Qa.out
   clear hK K
   try simp only [Act.put,tkQa,tkQb,tkQc]
   refine wpAnyH_done (by kernel_rfl) ?_ _
   clear qs qm qq qQ
   go_wp2
   go_roundw
   case rel=>exact ⟨_,qx,_,qv,Qo,Qi,Qf⟩
   case measure=>rw [qv.out.left_eq,Qj.out];exact Qb.out
def On.az (x:On):AZ:=AZ.make x.is (x.hi:Nat) (x.lo:Nat)
theorem RowX.at3 {wr:World} {a:Option Addr} {g:List On} (h:RowX 3 On.cl wr a g) {j:Nat} (o:j<g.length):
  ∃(f:Addr) (_:a=some f) (x:On),g[j]? =some x∧wr.cell? (f.add (j*3))=some (.bool x.is)∧wr.cell? ⟨(f.add (j*3)).block,(f.add (j*3)).off+1,none⟩=some (.int .u64 (x.hi:Nat))∧wr.cell? ⟨(f.add (j*3)).block,(f.add (j*3)).off+2,none⟩=some (.int .u64 (x.lo:Nat)):=by
 obtain ⟨f,q,i⟩:=h j g[j] (List.getElem?_eq_getElem o)
 have y:f.add (j*3+1)=⟨(f.add (j*3)).block,(f.add (j*3)).off+1,none⟩:=by rw [←Go.Deep.add_add];rfl
 have p:f.add (j*3+2)=⟨(f.add (j*3)).block,(f.add (j*3)).off+2,none⟩:=by rw [←Go.Deep.add_add];rfl
 refine ⟨f,q,g[j],List.getElem?_eq_getElem o,?_,?_,?_⟩
 ·exact i 0 (by omega)
 ·rw [←y];exact i 1 (by omega)
 ·rw [←p];exact i 2 (by omega)
theorem zhB (w:World) (v:Value) (t:TypeId): ∀(j:Nat) (u:Value),[v][j]? =some u→(w.alloc (.cells #[v] t)).cell? ((⟨w.heap.size,0,none⟩:Addr).add j)=some u:=by
 intro j u a
 have e:(⟨w.heap.size,0,none⟩:Addr).add j=⟨w.heap.size,j,none⟩:=by simp [Addr.add];intro h;omega
 rw [e,zaD (heap_alloc_new w _)]
 simpa using a
theorem AZ.oneC (x:AZ): ∀u∈[x.val],u.oneCell'=true:=by
 intro u a
 simp at a
 subst a
 cases x<;>rfl
theorem zgN (la:Option Addr) (lc:Nat) (l:List On) (w:World) (T:RowX 3 On.cl w la l) (hl:l.length≤1000):
  Calls Tryz.prog 13 #[.slice la l.length lc] w fun e w'=> ∃v,e= .returned v∧OwnX 48 1 clZ w' w.heap.size v (l.map On.az)∧Below w.heap.size w w':=by
 have A:=znJ T
 clear T
 obtain ⟨i0,J,P,R,K⟩:=zeK infoA
 have qb:Hid (70≠48):=by show _≠_;decide
 go_enter Tryz.func13,Tryz.ntmps13
 go_wp2
 go_loopw [3,8] (fun v i wr=> ∃j:Nat,j≤l.length∧i= .int .i64 j∧Hid (LX 48 1 clZ w wr w.heap.size [] v ((l.take j).map On.az))) (fun _ i _=>l.length - (intOf i).toNat)
 case atStart=>exact ⟨0,Nat.zero_le _,rfl,LX.first [] (znM _ _) (Blks.empty _)⟩
 case round=>
  obtain ⟨j,hj,rfl,D⟩:=hrel
  by_cases O:j<l.length
  ·have qa:(j:Int)<l.length:=by omega
   obtain ⟨ad,rfl,x,hx,r0,Z,r2⟩:=(RowX.keep On.len A.out D.out.below).at3 O
   have HN:Hid ((l.take (j+1)).map On.az=(l.take j).map On.az++[x.az]):=by show _=_;rw [List.take_add_one,hx,List.map_append];rfl
   have qc:((l.take j).map On.az).length≤1000:=by rw [List.length_map,List.length_take];omega
   generalize (l.take j).map On.az=V at*
   obtain ⟨y,E⟩: ∃y,y=wr.alloc (.cells #[.bool x.is,.int .u64 (x.hi:Nat),.int .u64 (x.lo:Nat)] 70):=⟨_,rfl⟩
   have S:Below wr.heap.size wr y:=by rw [E];exact (znM _ _).alloc (znK _) _
   have a:y.heap[wr.heap.size]? =some (.cells #[.bool x.is,.int .u64 (x.hi:Nat),.int .u64 (x.lo:Nat)] 70):=by rw [E];exact heap_alloc_new wr _
   have U:=znJ (D.out.keep S)
   have Y:=zaD a 0
   have e1:=zaD a 1
   have e2:=zaD a 2
   simp at Y e1 e2
   clear a S
   go_upto_region 5 with fail
   rw [←E]
   clear E r0 Z r2
   obtain ⟨p,o,f⟩: ∃p o,x.az.val= .iface p o:=by cases x.az<;>exact ⟨_,_,rfl⟩
   have HM:Hid (∀W,Calls Tryz.prog 27 #[.bool x.is,.int .u64 (x.hi:Nat),.int .u64 (x.lo:Nat)] W fun e w'=>e= .returned (.iface p o)∧W=w'):=fun W=>f▸ziY x.is (x.hi:Nat) (x.lo:Nat) W
   have Q:Hid (clZ x.az=[.iface p o]):=by show [x.az.val]=_;rw [f]
   have C:=AZ.oneC x.az
   rw [f] at C
   have G:=zhB y (.iface p o) 48
   have B:=znJ (U.out.keep ((znM _ _).alloc (znK _) (.cells #[.iface p o] 48)))
   clear f
   go_wp2_with fail
   refine (HM.out _).mono ?_
   rintro e z ⟨rfl,rfl⟩
   go_wp2_with (first
    |(at_builtin;refine wpList_append_own _ rfl _ _ 37 rfl w.heap.size 48 i0 .nilIface 1 16 Tryz.underlying37 J P R K rfl (by decide) u3 V.length (V.flatMap clZ) rfl B.out.row ⟨y.heap.size,0,none⟩ 1 1 [.iface p o] rfl rfl G C (by unfold maxLen;omega) (by omega) B.out.size ?_;intro s1 w1 q g _)
    |go_in)
   have H:=znJ (U.out.app (e:=x.az) ((znM _ _).alloc (znK _) _) g (by rw [Q.out];exact q))
   have N:Hid (LX 48 1 clZ w w1 w.heap.size [] s1 ((l.take (j+1)).map On.az)):=by rw [HN.out];exact H.out
   go_roundw
   case rel=>exact ⟨j+1,by omega,by go_num,N⟩
   case measure=>simp [intOf];omega
  ·have I:j=l.length:=by omega
   subst I
   rw [List.take_length] at D
   go_wp2
   go_ret
   exact ⟨_,rfl,D.out.row,D.out.below⟩
theorem zlN (c:Nat) (n:ByteArray) (u:Int) (ao:Option Addr) (cp:Nat) (w:World):
  Calls Tryz.prog 12 #[.pointer (some ⟨c,0,none⟩),.string n,.int .i64 u,.slice ao 0 cp] w fun e w'=>e= .returned (.bool false)∧w=w':=by
 go_enter Tryz.func12,Tryz.ntmps12
 go_wp2
 go_ret
 exact ⟨rfl,rfl⟩
theorem RowX.r1A {w:World} {a:Option Addr} {g:List AZ} (h:RowX 1 clZ w a g) {k:Nat} {x:AZ} (j:g[k]? =some x): ∃(f:Addr) (_:a=some f),w.cell? (f.add k)=some x.val:=by
 obtain ⟨f,i,o⟩:=h k x j
 have:=o 0 (by omega)
 rw [Nat.mul_one] at this
 exact ⟨f,i,this⟩
theorem zeB (a b:Option Addr) (y B:Nat) (l:List AZ) (w:World) (j:RowX 1 clZ w a l) (g:RowX 1 clZ w b l) (o:l.length≤1000000):
  Calls Tryz.prog 19 #[.slice a l.length y,.slice b l.length B] w fun e w'=>e= .returned (.bool true)∧Below w.heap.size w w':=by
 have q:=znJ j
 have z:=znJ g
 clear j g
 go_enter Tryz.func19,Tryz.ntmps19
 go_wp2
 go_loopw [13] (fun i wr=> ∃k m:Nat,k≤l.length∧i= .int .i64 k∧wr=w.drewN m) (fun i _=>l.length - (intOf i).toNat)
 case atStart=>exact ⟨0,0,Nat.zero_le _,rfl,rfl⟩
 case round=>
  obtain ⟨k,m,I,rfl,rfl⟩:=hrel
  by_cases f:k<l.length
  ·obtain ⟨x,p⟩: ∃x,l[k]? =some x:=⟨_,List.getElem?_eq_getElem f⟩
   obtain ⟨H,rfl,K⟩:=q.out.r1A p
   obtain ⟨D,rfl,C⟩:=z.out.r1A p
   have A:(k:Int)<l.length:=by omega
   have J:=zlF x
   have E:=zdC x
   generalize x.val=G at*
   go_wp2
   go_quiet (fail)
   go_wp2
   go_roundw
   case rel=>exact ⟨k+1,_,by omega,by go_num,rfl⟩
   case measure=>simp [intOf];omega
  ·go_wp2
   go_ret
   exact ⟨rfl,zfE (znM _ _) _⟩
theorem zbW {x y:World} {B M:Nat} (h:Only [M] x y) (g:B≤M) (f:B≤x.heap.size):Below B x y:=
 ⟨h.os,h.tape,h.output,h.size,fun k a=>h.block k (by omega) (fun e=>by have:=List.mem_singleton.1 e;omega)⟩
theorem zmW (c M:Nat) (L:List CE) (zf:List UInt8→List AZ) (n:List UInt8) (u:Int) (ao:Option Addr) (a:List AZ) (cp:Nat) (w:World) (h:CacZ w c M L zf) (q:n.length≤maxLen) (i:a.length≤1000000) (o:RowX 1 clZ w ao a):
  Calls Tryz.prog 12 #[.pointer (some ⟨c,0,none⟩),.string ⟨n.toArray⟩,.int .i64 u,.slice ao a.length cp] w fun e w'=>e= .returned (.bool (!a.isEmpty))∧ ∃y f,CacZ w' c M y f∧Only [M] w w':=by
 cases g:a with
 |nil=>
  refine (zlN c _ u ao cp w).mono ?_
  rintro e w' ⟨rfl,rfl⟩
  exact ⟨rfl,L,zf,h,Only.of_below (znM _ _)⟩
 |cons z l=>
  rw [←g]
  refine (put_z c M L zf n u ao a cp w h q (by rw [g];simp) i o).mono ?_
  rintro e w' ⟨rfl,v,j,p⟩
  exact ⟨by rw [g];rfl,_,_,j,p⟩
theorem CacZ.other {x y:World} {M a f:Nat} {L j:List CE} {zf:List UInt8→List AZ} (h:CacZ x a f j zf) (o:MapS x M L) (g:Only [M] x y) (i:f≠M):CacZ y a f j zf:=by
 have C:a≠M:=fun e=>by
  obtain ⟨⟨D,k,z,_⟩,_⟩:=o
  have:=h.cac.box
  rw [e,z] at this
  cases this
 have B:CacS y a f j:=⟨(g.block a (zaH h.cac.box) (fun e=>C (List.mem_singleton.1 e))).trans h.cac.box,h.cac.map.same (g.block f h.cac.map.1.lt (fun e=>i (List.mem_singleton.1 e)))⟩
 exact ⟨B,fun e q=>by
  obtain ⟨ao,cp,A,p⟩:=h.row e q
  exact ⟨ao,cp,A,zbI p (zcY o p (h.few e q).2.1) g⟩,h.few,h.len⟩
theorem RowX.at4 {wr:World} {a:Option Addr} {g:List Ac} (h:RowX 4 Ac.cl wr a g) {j:Nat} (o:j<g.length):
  ∃(f:Addr) (_:a=some f) (x:Ac),g[j]? =some x∧x∈g∧wr.cell? (f.add (j*4))=some (.int .u8 x.d)∧wr.cell? ⟨(f.add (j*4)).block,(f.add (j*4)).off+1,none⟩=some (.string x.nm)∧wr.cell? ⟨(f.add (j*4)).block,(f.add (j*4)).off+2,none⟩=some (.int .i64 x.at')∧wr.cell? ⟨(f.add (j*4)).block,(f.add (j*4)).off+3,none⟩=some (.slice x.la x.l.length x.lc):=by
 obtain ⟨f,q,i⟩:=h j g[j] (List.getElem?_eq_getElem o)
 have z:f.add (j*4+1)=⟨(f.add (j*4)).block,(f.add (j*4)).off+1,none⟩:=by rw [←Go.Deep.add_add];rfl
 have p:f.add (j*4+2)=⟨(f.add (j*4)).block,(f.add (j*4)).off+2,none⟩:=by rw [←Go.Deep.add_add];rfl
 have y:f.add (j*4+3)=⟨(f.add (j*4)).block,(f.add (j*4)).off+3,none⟩:=by rw [←Go.Deep.add_add];rfl
 refine ⟨f,q,g[j],List.getElem?_eq_getElem o,List.getElem_mem o,?_,?_,?_,?_⟩
 ·exact i 0 (by omega)
 ·rw [←z];exact i 1 (by omega)
 ·rw [←p];exact i 2 (by omega)
 ·rw [←y];exact i 3 (by omega)
theorem RowX.r1N {w:World} {a:Option Addr} {g:List (List UInt8)} (h:RowX 1 clN w a g) {k:Nat} {x:List UInt8} (j:g[k]? =some x): ∃(f:Addr) (_:a=some f),w.cell? (f.add k)=some (.string ⟨x.toArray⟩):=by
 obtain ⟨f,i,o⟩:=h k x j
 have:=o 0 (by omega)
 rw [Nat.mul_one] at this
 exact ⟨f,i,this⟩
theorem zcZ (c M:Nat) (L:List CE) (zf:List UInt8→List AZ) (a:Int) (w:World) (h:CacZ w c M L zf) {e:CE} (i:e∈L) {n:List UInt8} (y:e.nm=n) (g:Bool) (p:zaM a e=g):
  Calls Tryz.prog 18 #[.pointer (some ⟨c,0,none⟩),.string ⟨n.toArray⟩,.int .i64 a] w fun r w'=> ∃v,r= .returned (.tuple #[v,.bool g])∧(g=true→OwnX 48 1 clZ w' w.heap.size v (zf n))∧Below w.heap.size w w':=by
 subst y p
 have j:=zbR h.cac.map.2 i
 by_cases q:a<e.un
 ·refine (zjK c M L zf e.nm a w h (h.few e i).1 j q).mono ?_
  rintro r w' ⟨v,rfl,z,f⟩
  exact ⟨v,by rw [show zaM a e=true from decide_eq_true q],fun _=>z,f⟩
 ·refine (zlE c M L e.nm a w h.cac (h.few e i).1 (fun A o=>by rw [j] at o;cases o;exact q)).mono ?_
  rintro r w' ⟨rfl,f⟩
  exact ⟨_,by rw [show zaM a e=false from znL q],(fun k=>absurd ((show zaM a e=false from znL q).symm.trans k) (by decide)),f⟩
end
end Go.Proofs.YteajemblhlbfpaaGreatDoor
