/-
  What the law CacheLast leans on, and its walk (17 of 21).
-/
import Derived.BigQuiet
import Derived.Test.YtkiehdigpchebaaGreatDoorCacheLastPkO
import Derived.Test.YtkiehdigpchebaaGreatDoorCacheLastPkP
import Derived.Test.YtkiehdigpchebaaGreatDoorCacheLastPkL
namespace Go.Proofs.YtkiehdigpchebaaGreatDoor
set_option maxRecDepth 100000
set_option maxHeartbeats 16000000
theorem tkQ {P : Program} {o : Region.Mode} {g : Array Oper} {Q : Exit → Act → World → Prop} {S : World → Prop} (i : Nat) (s : Option Nat) {p : Op} {y : TypeId} {j : String} {z : _} {q : _} {v : Value} {fuel : Nat} {f : Array Bool} {a : Act} {w : World} (hi : g[i]? = some ⟨s, p, y, j, z, q⟩)
 (K : YieldsIf P g S ⟨s, p, y, j, z, q⟩ v a) (I : S w)
 (h : wpAnyH P o g Q S fuel (f.setIfInBounds i true) (a.put s v) w)
 (J : Region.noSelect g = true := by kernel_rfl) (E : Region.free o g f i = true := by kernel_rfl) (G : (Region.ready o g f).contains i = true := by kernel_rfl)
 (C : ∀ c a w, Q (.panic c) (a.put s v) w → Q (.panic c) a w := by exact fun _ _ _ h => h) : wpAnyH P o g Q S (fuel + 1) f a w :=
 wpAnyH_take hi J E G C K I h
theorem tkQa {α : Type _} (l : List α) (i : Nat) (a : α) : l.toArray.setIfInBounds i a = (l.set i a).toArray := List.setIfInBounds_toArray ..
theorem tkQb {α : Type _} (x y : α) (l : List α) : (x :: l).set 0 y = y :: l := rfl
theorem tkQc {α : Type _} (x y : α) (l : List α) (n : Nat) : (x :: l).set (n + 1) y = x :: l.set n y := rfl
abbrev znL := @Lib.hid
abbrev znM := @Go.RowKit.Below.refl
section
open Go.RowKit Go.Maps Go.Sort Go.Shelf Go.Lib
def unOf (L:List CE) (n:List UInt8):Int:=((zaL n L).map CE.un).getD 0
abbrev NmT:={n:List UInt8//n.length≤maxLen}
instance:Inhabited NmT:=⟨⟨[],by simp⟩⟩
def encN (n:NmT):Value:=encStr n.1
def cfN (L:List CE) (a b:NmT):Int:=cmpI (unOf L a.1) (unOf L b.1)
theorem zcI (x:Int) (w:World):Calls Tryz.prog 54 #[.int .i64 x] w fun e w'=>e= .returned (.bool false)∧w=w':=by
 go_enter Tryz.func54,Tryz.ntmps54
 go_wp2
 go_ret
 simp
theorem zdE (x y:Int) (w:World):Calls Tryz.prog 43 #[.int .i64 x,.int .i64 y] w fun e w'=>e= .returned (.int .i64 (cmpI x y))∧w'=w:=by
 have g:=znL (zcI x w)
 have i:=znL (zcI y w)
 unfold cmpI
 by_cases f:x<y
 ·rw [if_pos f]
  have j:decide (x<y)=true:=decide_eq_true f
  clear f
  go_enter Tryz.func43,Tryz.ntmps43
  go_wp2_with fail
  refine g.out.mono ?_
  rintro e x ⟨rfl,rfl⟩
  go_wp2_with fail
  refine i.out.mono ?_
  rintro e x ⟨rfl,rfl⟩
  go_wp2
  go_ret
  exact ⟨rfl,rfl⟩
 ·rw [if_neg f]
  have j:decide (x<y)=false:=decide_eq_false f
  clear f
  by_cases a:y<x
  ·rw [if_pos a]
   have o:decide (y<x)=true:=decide_eq_true a
   clear a
   go_enter Tryz.func43,Tryz.ntmps43
   go_wp2_with fail
   refine g.out.mono ?_
   rintro e x ⟨rfl,rfl⟩
   go_wp2_with fail
   refine i.out.mono ?_
   rintro e x ⟨rfl,rfl⟩
   go_wp2
   go_ret
   exact ⟨rfl,rfl⟩
  ·rw [if_neg a]
   have o:decide (y<x)=false:=decide_eq_false a
   clear a
   go_enter Tryz.func43,Tryz.ntmps43
   go_wp2_with fail
   refine g.out.mono ?_
   rintro e x ⟨rfl,rfl⟩
   go_wp2_with fail
   refine i.out.mono ?_
   rintro e x ⟨rfl,rfl⟩
   go_wp2
   go_ret
   exact ⟨rfl,rfl⟩
def svOf (L:List CE) (n:List UInt8):Value:=((zaL n L).map CE.sv).getD (.slice none 0 0)
theorem MapS.look1 {x:World} {M:Nat} {L:List CE} (h:MapS x M L) {n:List UInt8} (p:n.length≤maxLen):
  (Instr.lookup 81 (.map (some M)) (.string ⟨n.toArray⟩) false).run Tryz.prog x= .ok (.agg #[.int .i64 (unOf L n),svOf L n]) x:=by
 obtain ⟨v,E,f,o⟩:=h.1.lookup zbS Tryz.underlying81 (zjJ x) (zbN 0 none 0 0) (zbR p)
 rw [zmO] at o
 obtain ⟨u,a,k,c,i,g⟩:=zcR o
 subst i
 simp only [Prod.mk.injEq] at g
 rw [f]
 unfold unOf svOf
 cases j:zaL n L with
 |none=>
  rw [j] at g
  have:=g.1
  simp at this
  obtain ⟨y,z,q,C⟩:=this
  simp [←y,←z,←q,←C]
 |some e=>
  rw [j] at g
  have:=g.1
  simp [CE.val] at this
  simp [this]
theorem zkQ (u:Int) (v:Value) (W:World):(Instr.field 88 (.agg #[.int .i64 u,v]) 0).run Tryz.prog W= .ok (.int .i64 u) W:=by kernel_rfl
theorem zhE (c M G:Nat) (L:List CE) (a b:NmT) (w:World) (h:CacS w c M L) (N:w.cell? ⟨G,0,none⟩=some (.pointer (some ⟨c,0,none⟩))):
  Calls Tryz.prog 42 #[encN a,encN b,.pointer (some ⟨G,0,none⟩)] w fun e w'=>e= .returned (.int .i64 (cfN L a b))∧ ∃q,w'=w.drewN q:=by
 have I:=zaE h.box 0
 simp at I
 have E:=MapS.look1 (x:=w.drew) h.map a.2
 have C:=MapS.look1 (x:=w.drew) h.map b.2
 have qa:=zkQ (unOf L a.1) (svOf L a.1)
 have Y:=zkQ (unOf L b.1) (svOf L b.1)
 have V:=znL (zdE (unOf L a.1) (unOf L b.1))
 unfold encN encStr cfN
 generalize unOf L a.1=ua at*
 generalize unOf L b.1=Z at*
 generalize svOf L a.1=Q at*
 generalize svOf L b.1=vb at*
 obtain ⟨O,_⟩:=a
 obtain ⟨U,_⟩:=b
 dsimp only at E C ⊢
 clear h
 go_enter Tryz.func42,Tryz.ntmps42
 go_wp2
 -- REGION
 refine wp_region_held_drew (S:=fun W=>W.cell? ⟨G,0,none⟩=some (.pointer (some ⟨c,0,none⟩))∧W.cell? ⟨c,0,none⟩=some (.map (some M))∧(Instr.lookup 81 (.map (some M)) (.string ⟨O.toArray⟩) false).run Tryz.prog W= .ok (.agg #[.int .i64 ua,Q]) W∧(Instr.lookup 81 (.map (some M)) (.string ⟨U.toArray⟩) false).run Tryz.prog W= .ok (.agg #[.int .i64 Z,vb]) W) (by kernel_rfl) ?_ (fun g=> ?_)
 ·exact ⟨N,I,E,C⟩
 refine tkQ 0 (some 6) (v:= ?_) rfl (.inl ⟨by rfl,?_⟩) g ?_
 rotate_left
 ·intro w f
  (try dsimp only at f)
  obtain ⟨p,j,y,i⟩:=f
  go_simp
  try with_reducible rfl
 try simp only [Act.put,tkQa,tkQb,tkQc]
 refine tkQ 1 (some 7) (v:= ?_) rfl (.inl ⟨by rfl,?_⟩) g ?_
 rotate_left
 ·intro w f
  (try dsimp only at f)
  obtain ⟨p,j,y,i⟩:=f
  go_simp
  try with_reducible rfl
 try simp only [Act.put,tkQa,tkQb,tkQc]
 refine tkQ 2 (some 8) (v:= ?_) rfl (.inl ⟨by rfl,?_⟩) g ?_
 rotate_left
 ·intro w f
  (try dsimp only at f)
  obtain ⟨p,j,y,i⟩:=f
  go_simp
  try with_reducible rfl
 try simp only [Act.put,tkQa,tkQb,tkQc]
 refine tkQ 3 (some 9) (v:= ?_) rfl (.inl ⟨by rfl,?_⟩) g ?_
 rotate_left
 ·intro w f
  (try dsimp only at f)
  obtain ⟨p,j,y,i⟩:=f
  go_simp
  try with_reducible rfl
 try simp only [Act.put,tkQa,tkQb,tkQc]
 refine tkQ 4 (some 10) (v:= ?_) rfl (.inl ⟨by rfl,?_⟩) g ?_
 rotate_left
 ·intro w f
  (try dsimp only at f)
  obtain ⟨p,j,y,i⟩:=f
  go_simp
  try with_reducible rfl
 try simp only [Act.put,tkQa,tkQb,tkQc]
 refine tkQ 5 (some 11) (v:= ?_) rfl (.inl ⟨by rfl,?_⟩) g ?_
 rotate_left
 ·intro w f
  (try dsimp only at f)
  obtain ⟨p,j,y,i⟩:=f
  go_simp
  try with_reducible rfl
 try simp only [Act.put,tkQa,tkQb,tkQc]
 refine tkQ 6 (some 12) (v:= ?_) rfl (.inl ⟨by rfl,?_⟩) g ?_
 rotate_left
 ·intro w f
  (try dsimp only at f)
  obtain ⟨p,j,y,i⟩:=f
  go_simp
  try with_reducible rfl
 try simp only [Act.put,tkQa,tkQb,tkQc]
 refine tkQ 7 (some 13) (v:= ?_) rfl (.inl ⟨by rfl,?_⟩) g ?_
 rotate_left
 ·intro w f
  (try dsimp only at f)
  obtain ⟨p,j,y,i⟩:=f
  go_simp
  try with_reducible rfl
 try simp only [Act.put,tkQa,tkQb,tkQc]
 refine tkQ 8 (some 14) (v:= ?_) rfl (.inl ⟨by rfl,?_⟩) g ?_
 rotate_left
 ·intro w f
  (try dsimp only at f)
  obtain ⟨p,j,y,i⟩:=f
  go_simp
  try with_reducible rfl
 try simp only [Act.put,tkQa,tkQb,tkQc]
 refine tkQ 9 (some 15) (v:= ?_) rfl (.inl ⟨by rfl,?_⟩) g ?_
 rotate_left
 ·intro w f
  (try dsimp only at f)
  obtain ⟨p,j,y,i⟩:=f
  go_simp
  try with_reducible rfl
 try simp only [Act.put,tkQa,tkQb,tkQc]
 refine tkQ 10 (some 16) (v:= ?_) rfl (.inl ⟨by rfl,?_⟩) g ?_
 rotate_left
 ·intro w f
  (try dsimp only at f)
  obtain ⟨p,j,y,i⟩:=f
  go_simp
  try with_reducible rfl
 try simp only [Act.put,tkQa,tkQb,tkQc]
 refine tkQ 11 (some 17) (v:= ?_) rfl (.inl ⟨by rfl,?_⟩) g ?_
 rotate_left
 ·intro w f
  (try dsimp only at f)
  obtain ⟨p,j,y,i⟩:=f
  go_simp
  try with_reducible rfl
 try simp only [Act.put,tkQa,tkQb,tkQc]
 refine tkQ 12 (some 18) (v:= ?_) rfl (.inl ⟨by rfl,?_⟩) g ?_
 rotate_left
 ·intro w f
  (try dsimp only at f)
  obtain ⟨p,j,y,i⟩:=f
  go_simp
  try with_reducible rfl
 try simp only [Act.put,tkQa,tkQb,tkQc]
 refine tkQ 13 (some 19) (v:= ?_) rfl (.inl ⟨by rfl,?_⟩) g ?_
 rotate_left
 ·intro w f
  (try dsimp only at f)
  obtain ⟨p,j,y,i⟩:=f
  go_simp
  try with_reducible rfl
 try simp only [Act.put,tkQa,tkQb,tkQc]
 refine wpAnyH_ready (rs:=[14]) (by kernel_rfl) (by simp) ?_
 refine AllReadyH.cons (o:=⟨some 20,_,_,_,_,_⟩) rfl (fun K J=> ?_) AllReadyH.nil
 go_simp
 go_at_call 43
 refine (V.out _).mono ?_
 rintro e w' ⟨rfl,rfl⟩
 (try go_wp2_with fail)
 refine J.out _ _ ?_ (fun z=> ?_)
 ·exact ⟨N,I,E,C⟩
 clear J K
 try simp only [Act.put,tkQa,tkQb,tkQc]
 refine tkQ 15 (some 5) (v:= ?_) rfl (.inl ⟨by rfl,?_⟩) z ?_
 rotate_left
 ·intro w f
  (try dsimp only at f)
  obtain ⟨p,j,y,i⟩:=f
  go_simp
  try with_reducible rfl
 try simp only [Act.put,tkQa,tkQb,tkQc]
 refine wpAnyH_done (by kernel_rfl) ?_ _
 -- END REGION
 go_wp2
 go_ret
 exact ⟨rfl,1,rfl⟩
def attN (L:List CE) (a: ∀e∈L,e.nm.length≤maxLen):List NmT:=L.attach.map fun e=>⟨e.1.nm,a e.1 e.2⟩
theorem zgF (L:List CE) (hn):(attN L hn).map encN=(L.map CE.nm).map encStr:=by
 unfold attN encN
 rw [List.map_map,List.map_map]
 conv=>rhs;rw [←List.attach_map_subtype_val L]
 rw [List.map_map]
 rfl
theorem zdB (L:List CE) (hn) (j:Nat) (a:j<L.length):(L.map CE.nm).toArray[j]! =((attN L hn).toArray[j]!).1:=by
 rw [getElem!_pos _ _ (by simpa using a),getElem!_pos _ _ (by simpa [attN] using a)]
 simp [attN]
theorem zcG (L:List CE) (hn):(attN L hn).length=L.length:=by unfold attN;simp
def zcJ (L:List CE) (a: ∀e∈L,e.nm.length≤maxLen):NmT:=Lib.pickBy (fun x m=>decide (cfN L x m<0)) (attN L a).toArray (L.length - 1)
theorem zdF {enc:NmT→Value} {f W:World} {a off:Nat} {d:Array NmT} (h:SW enc f a off d W) (b:Nat) (i:b<f.heap.size) (g:b≠a):W.heap[b]? =f.heap[b]? :=by
 obtain ⟨n,os,rfl⟩:=h
 unfold sortWorld grow putRow mapBlock Go.Sort.ahead
 simp only
 rw [Array.getElem?_append_left (by rw [Array.size_modify];exact i),Array.getElem?_modify,if_neg (fun e=>g e.symm)]
theorem zlK {enc:NmT→Value} {f W:World} {a off:Nat} {d:Array NmT} (h:SW enc f a off d W) (i:Holds enc f a off d):Below f.heap.size f W:=by
 obtain ⟨n,os,rfl⟩:=h
 have e:putRow enc (Go.Sort.ahead f n) a off d=Go.Sort.ahead f n:=by rw [putRow_ahead,putRow_self enc f a off d i]
 unfold sortWorld
 rw [e]
 exact ⟨rfl,rfl,rfl,by rw [Go.Sort.size_grow];exact Nat.le_add_right _ _,fun k g=>by unfold grow Go.Sort.ahead;simp only;rw [Array.getElem?_append_left g]⟩
theorem zdG (c M:Nat) (L:List CE) (w:World) (h:CacS w c M L) (hL:L.length≤1000000) (h0:L≠[]) (o: ∀e∈L,e.nm.length≤maxLen):
  Calls Tryz.prog 28 #[.pointer (some ⟨c,0,none⟩)] w fun e w'=>e= .returned (encN (zcJ L o))∧Below w.heap.size w w':=by
 obtain ⟨y,Y⟩: ∃y,y=w.alloc (.cells #[.pointer (some ⟨c,0,none⟩)] 24):=⟨_,rfl⟩
 have hb:Below w.heap.size w y:=by rw [Y];exact (znM _ _).alloc (Nat.le_refl _) _
 have p:y.heap[w.heap.size]? =some (.cells #[.pointer (some ⟨c,0,none⟩)] 24):=by rw [Y];exact heap_alloc_new w _
 have qg:y.heap.size=w.heap.size+1:=by rw [Y];simp
 have hS:=h.keep hb
 have e0:=zaE p 0
 simp at e0
 have HN:=znL (zfD c M L y hS hL)
 have HM:Hid (∀x v,OwnX 34 1 clN x y.heap.size v (L.map CE.nm)→Below y.heap.size y x→ ∃f cp,v= .slice (some ⟨f,0,none⟩) L.length cp∧
   Calls Tryz.prog 41 #[.slice (some ⟨f,0,none⟩) L.length cp,.func (.func 42) #[] #[.pointer (some ⟨w.heap.size,0,none⟩)]] x fun e w'=>e= .returned (encN (zcJ L o))∧Below x.heap.size x w'):=by
  intro x v q i
  unfold OwnX at q
  rw [flatN,←zgF L o] at q
  rcases q.2 with ⟨rfl,C⟩|⟨f,K,qf,rfl,qc,Q,r1,r2,r3,r4⟩
  ·rw [List.length_map] at C
   exact absurd (List.eq_nil_of_length_eq_zero C) h0
  ·have qb:Holds encStr x f 0 (L.map CE.nm).toArray:=holds_of_block Q (by rw [zgF] at r4;simpa using r4)
   have hH:Holds encN x f 0 (attN L o).toArray:=fun j hj=>by
    have E:j<L.length:=by simpa [zcG] using hj
    have:=qb j (by simpa using E)
    rw [zdB L o j E] at this
    exact this
   have qa:f<x.heap.size:=(Array.getElem?_eq_some_iff.1 Q).1
   have qe:0<L.length:=List.length_pos_iff.2 h0
   refine ⟨f,K,by rw [List.length_map],?_⟩
   have qd:x.cell? ⟨w.heap.size,0,none⟩=some (.pointer (some ⟨c,0,none⟩)):=(i.cell (World.block_lt_of_cell? y _ e0)).trans e0
   have N:=hS.keep i
   have S:CmpReads Tryz.prog 42 #[.pointer (some ⟨w.heap.size,0,none⟩)] encN (cfN L) f 0 (attN L o).toArray.size x:=fun m os O J a b=>by
    have g:SW encN x f 0 O (sortWorld encN x f 0 m O os):=⟨m,os,rfl⟩
    have qi:c<y.heap.size:=by have:=zaH h.box;omega
    have qh:M<y.heap.size:=by have:=hS.map.1.lt;omega
    have I:(sortWorld encN x f 0 m O os).heap[c]? =x.heap[c]? :=zdF g c (by have:=i.size;omega) (by omega)
    have G:(sortWorld encN x f 0 m O os).heap[M]? =x.heap[M]? :=zdF g M (by have:=i.size;omega) (by omega)
    have U:(sortWorld encN x f 0 m O os).heap[w.heap.size]? =x.heap[w.heap.size]? :=zdF g w.heap.size (by have:=i.size;omega) (by omega)
    exact zhE c M w.heap.size L a b _ ⟨I.trans N.box,N.map.same G⟩ ((World.cell?_of_block (a:=⟨w.heap.size,0,none⟩) U).trans qd)
   have Z:=Any.slices_MinFunc_s minN encN (fun a=>rfl) (cfN L) 42 #[.pointer (some ⟨w.heap.size,0,none⟩)] f 0 K (attN L o).toArray x (enters_of Tryz.func42 (by kernel_rfl) rfl) S.lays hH qa (by simp [zcG];omega) (by simp [zcG];omega)
   have J:(attN L o).toArray.size=L.length:=by simp [zcG]
   rw [J] at Z
   refine Z.mono ?_
   rintro e w' ⟨rfl,g⟩
   exact ⟨rfl,zlK g hH⟩
 have HB:=znL hb
 clear h hb p hS h0 hL
 generalize zcJ L o=fg at*
 go_enter Tryz.func28,Tryz.ntmps28
 go_upto_region 1 with fail
 rw [←Y]
 clear Y
 go_wp2_with fail
 refine HN.out.mono ?_
 rintro e x ⟨v,rfl,q,i⟩
 obtain ⟨f,cp,rfl,hm⟩:=HM.out x v q i
 have V:=znL hm
 have HX:=znL (HB.out.trans (i.mono HB.out.size))
 clear q i hm HM HN e0
 go_wp2_with fail
 refine V.out.mono ?_
 rintro e z ⟨rfl,C⟩
 have HZ:=znL (HX.out.trans (C.mono HX.out.size))
 clear C V
 go_wp2
 go_ret
 exact ⟨rfl,HZ.out⟩
/-! ### which name makes room -/
def zbC (m:CE):List CE→CE
 |[]=>m
 |a::l=>zbC (if a.un<m.un then a else m) l
def zbP:List CE→List UInt8
 |[]=>[]
 |a::l=>(zbC a l).nm
theorem zcO (x:CE): ∀(l:List CE) (m:CE),zbC m (l++[x])=if x.un<(zbC m l).un then x else zbC m l
 |[],_=>rfl
 |a::l,m=>zcO x l (if a.un<m.un then a else m)
theorem zcB: ∀(l:List CE) (m:CE),zbC m l∈m::l
 |[],_=>by simp [zbC]
 |a::l,m=>by
  unfold zbC
  have:=zcB l (if a.un<m.un then a else m)
  rcases List.mem_cons.1 this with h|h
  ·rw [h];split<;>simp
  ·exact List.mem_cons_of_mem _ (List.mem_cons_of_mem _ h)
theorem zhA (x y:Int):(cmpI x y<0)↔x<y:=by unfold cmpI;split<;>(try split)<;>omega
theorem zfR {L:List CE} (h:zaV L) {e:CE} (a:e∈L):unOf L e.nm=e.un:=by unfold unOf;rw [zbI h a];rfl
theorem zcV {a:CE} {l:List CE} (h:zaV (a::l)) (hn): ∀t,t≤l.length→(Lib.pickBy (fun x m=>decide (cfN (a::l) x m<0)) (attN (a::l) hn).toArray t).1=(zbC a (l.take t)).nm
 |0,_=>by
  have:=zdB (a::l) hn 0 (by simp)
  unfold Lib.pickBy
  rw [←this]
  simp [zbC]
 |t+1,y=>by
  have i:=zcV h hn t (by omega)
  have o:=zdB (a::l) hn (t+1) (by simp;omega)
  have g:(a::l).map CE.nm|>.toArray[t+1]! =(l[t]'(by omega)).nm:=by
   rw [getElem!_pos _ _ (by simp;omega)]
   simp
  have f:l.take (t+1)=l.take t++[l[t]'(by omega)]:=by rw [List.take_add_one];simp [List.getElem?_eq_getElem (show t<l.length by omega)]
  unfold Lib.pickBy
  rw [f,zcO]
  have p:zbC a (l.take t)∈a::l:=by
   rcases List.mem_cons.1 (zcB (l.take t) a) with q|q
   ·rw [q];simp
   ·exact List.mem_cons_of_mem _ (List.mem_of_mem_take q)
  have j:(cfN (a::l) (attN (a::l) hn).toArray[t+1]! (Lib.pickBy (fun x m=>decide (cfN (a::l) x m<0)) (attN (a::l) hn).toArray t)<0)↔(l[t]'(by omega)).un<(zbC a (l.take t)).un:=by
   show cmpI _ _<0↔_
   rw [zhA,←o,g,i,zfR h (List.mem_cons_of_mem _ (List.getElem_mem _)),zfR h p]
  by_cases q:(l[t]'(by omega)).un<(zbC a (l.take t)).un
  ·rw [if_pos q,if_pos (by rw [decide_eq_true_eq];exact j.2 q),←o,g]
  ·rw [if_neg q,if_neg (by rw [decide_eq_true_eq];exact fun z=>q (j.1 z)),i]
theorem zeC {L:List CE} (h:zaV L) (f:L≠[]) (hn):(zcJ L hn).1=zbP L:=by
 cases L with
 |nil=>exact absurd rfl f
 |cons a l=>
  unfold zcJ zbP
  rw [show (a::l).length - 1=l.length by simp,zcV h hn l.length (Nat.le_refl _),List.take_length]
theorem zcW {L:List CE} (f:L≠[]): ∃e∈L,e.nm=zbP L:=by
 cases L with
 |nil=>exact absurd rfl f
 |cons a l=>exact ⟨_,zcB l a,rfl⟩
/-! ### what is there behind a Put -/
def zeT (n:List UInt8) (L:List CE):List CE:=zhG (zbP L) n L
theorem zbX {f n:List UInt8} {L:List CE} {x:CE} (h:x∈zhG f n L):x∈L:=by
 unfold zhG at h
 split at h
 ·exact (zdA.1 h).1
 ·exact h
theorem zlM {L:List CE} (e:CE) (n:List UInt8) (j:e.nm=n) (h:zaV L) (p:L.length≤64):(putE e (zeT n L)).length≤64:=by
 subst j
 unfold putE zeT zhG
 rw [zdD]
 by_cases a:(zaL e.nm L).isNone&&decide (64≤L.length)
 ·rw [if_pos a]
  simp only [Bool.and_eq_true,decide_eq_true_eq,Option.isNone_iff_eq_none] at a
  obtain ⟨x,i,f⟩:=zcW (L:=L) (fun q=>by rw [q] at a;simp at a)
  have:=zgC h (n:=zbP L) (e:=x) (by rw [←f];exact zbI h i)
  have o:(delE e.nm (delE (zbP L) L)).length≤(delE (zbP L) L).length:=List.length_filter_le _ _
  omega
 ·rw [if_neg a]
  have o:(delE e.nm L).length≤L.length:=List.length_filter_le _ _
  cases g:zaL e.nm L with
  |none=>
   rw [g] at a
   simp at a
   omega
  |some x=>
   have:=zgC h g
   omega
/-! ### a cache with what it holds -/
def upd (zf:List UInt8→List AZ) (n:List UInt8) (a:List AZ):List UInt8→List AZ:=fun k=>if k=n then a else zf k
structure CacZ (x:World) (c M:Nat) (L:List CE) (zf:List UInt8→List AZ):Prop where
 cac:CacS x c M L
 row: ∀e∈L,∃ao cp,e.sv= .slice ao (zf e.nm).length cp∧RowX 1 clZ x ao (zf e.nm)
 few: ∀e∈L,e.nm.length≤maxLen∧zf e.nm≠[]∧(zf e.nm).length≤1000000
 len:L.length≤64
theorem ziM (a:Addr) (k:Nat):(a.add k).block=a.block:=by unfold Addr.add;split<;>rfl
theorem zdM {x:World} {ao:Option Addr} {a:List AZ} (h:RowX 1 clZ x ao a) (i:a≠[]) {f:Addr} (g:ao=some f): ∃p v,p.block=f.block∧x.cell? p=some v:=by
 cases a with
 |nil=>exact absurd rfl i
 |cons z l=>
  obtain ⟨o,e,j⟩:=h 0 z rfl
  rw [g] at e
  obtain rfl:=Option.some.inj e
  exact ⟨_,z.val,ziM _ _,j 0 (by omega)⟩
theorem zdI {x:World} {p:Addr} {a:Array MapEntry} {k:Nat} (h:x.heap[p.block]? =some (.map a k)):x.cell? p=none:=by
 unfold World.cell?
 rw [h]
theorem zjY {x:World} {M:Nat} {L:List CE} (h:MapS x M L) {ao:Option Addr} {f:List AZ} (y:RowX 1 clZ x ao f) (o:f≠[]): ∀a,ao=some a→a.block≠M:=fun a i e=>by
 obtain ⟨p,v,j,g⟩:=zdM y o i
 obtain ⟨⟨z,k,q,_⟩,_⟩:=h
 rw [zdI (by rw [j,e];exact q)] at g
 cases g
theorem CacZ.keep {x y:World} {c M:Nat} {L:List CE} {zf:List UInt8→List AZ} (h:CacZ x c M L zf) (a:Below x.heap.size x y):CacZ y c M L zf:=
 ⟨h.cac.keep a,fun e f=>by obtain ⟨ao,cp,i,g⟩:=h.row e f;exact ⟨ao,cp,i,RowX.keep zaS g a⟩,h.few,h.len⟩
theorem CacZ.new {x:World} {c M:Nat} (h:CacS x c M []) (zf:List UInt8→List AZ):CacZ x c M [] zf:=⟨h,(fun _ a=>nomatch a),(fun _ a=>nomatch a),Nat.zero_le _⟩
theorem zeA (c M:Nat) (L:List CE) (zf:List UInt8→List AZ) (n:List UInt8) (a:Int) (w:World) (h:CacZ w c M L zf) (p:n.length≤maxLen) {e:CE} (j:zaL n L=some e) (q:a<e.un):
  Calls Tryz.prog 11 #[.pointer (some ⟨c,0,none⟩),.string ⟨n.toArray⟩,.int .i64 a] w fun e w'=> ∃v,e= .returned (.tuple #[v,.bool true])∧OwnX 38 1 clZ w' w.heap.size v (zf n)∧Below w.heap.size w w':=by
 obtain ⟨g,f⟩:=zaP j
 obtain ⟨ao,cp,o,i⟩:=h.row e g
 rw [f] at o i
 exact zkT c M L n a w h.cac p j q o i (by have:=(h.few e g).2.2;rw [f] at this;exact this)
theorem map_none {x:World} {M:Nat} {L:List CE} (h:MapS x M L): ∀p:Addr,p.block=M→x.cell? p=none:=fun p a=>by
 obtain ⟨⟨g,k,f,_⟩,_⟩:=h
 exact zdI (by rw [a];exact f)
def On.az (x:On):AZ:=AZ.make x.is (x.hi:Nat) (x.lo:Nat)
theorem RowX.at3 {wr:World} {a:Option Addr} {g:List On} (h:RowX 3 On.cl wr a g) {j:Nat} (o:j<g.length):
  ∃(f:Addr) (_:a=some f) (x:On),g[j]? =some x∧wr.cell? (f.add (j*3))=some (.bool x.is)∧wr.cell? ⟨(f.add (j*3)).block,(f.add (j*3)).off+1,none⟩=some (.int .u64 (x.hi:Nat))∧wr.cell? ⟨(f.add (j*3)).block,(f.add (j*3)).off+2,none⟩=some (.int .u64 (x.lo:Nat)):=by
 obtain ⟨f,p,i⟩:=h j g[j] (List.getElem?_eq_getElem o)
 have q:f.add (j*3+1)=⟨(f.add (j*3)).block,(f.add (j*3)).off+1,none⟩:=by rw [←Go.Deep.add_add];rfl
 have y:f.add (j*3+2)=⟨(f.add (j*3)).block,(f.add (j*3)).off+2,none⟩:=by rw [←Go.Deep.add_add];rfl
 refine ⟨f,p,g[j],List.getElem?_eq_getElem o,?_,?_,?_⟩
 ·exact i 0 (by omega)
 ·rw [←q];exact i 1 (by omega)
 ·rw [←y];exact i 2 (by omega)
theorem zgW (w:World) (v:Value) (t:TypeId): ∀(j:Nat) (u:Value),[v][j]? =some u→(w.alloc (.cells #[v] t)).cell? ((⟨w.heap.size,0,none⟩:Addr).add j)=some u:=by
 intro j u a
 have e:(⟨w.heap.size,0,none⟩:Addr).add j=⟨w.heap.size,j,none⟩:=by simp [Addr.add];intro h;omega
 rw [e,zaE (heap_alloc_new w _)]
 simpa using a
theorem AZ.oneC (x:AZ): ∀u∈[x.val],u.oneCell'=true:=by
 intro u a
 simp at a
 subst a
 cases x<;>rfl
theorem zcU (la:Option Addr) (lc:Nat) (l:List On) (w:World) (hr:RowX 3 On.cl w la l) (hl:l.length≤1000):
  Calls Tryz.prog 8 #[.slice la l.length lc] w fun e w'=> ∃v,e= .returned v∧OwnX 38 1 clZ w' w.heap.size v (l.map On.az)∧Below w.heap.size w w':=by
 have C:=znL hr
 clear hr
 obtain ⟨i0,V,N,K,S⟩:=zeM infoA
 have qb:Hid (85≠38):=by show _≠_;decide
 go_enter Tryz.func8,Tryz.ntmps8
 go_wp2
 go_loopw [3,8] (fun v i wr=> ∃j:Nat,j≤l.length∧i= .int .i64 j∧Hid (LX 38 1 clZ w wr w.heap.size [] v ((l.take j).map On.az))) (fun _ i _=>l.length - (intOf i).toNat)
 case atStart=>exact ⟨0,Nat.zero_le _,rfl,LX.first [] (znM _ _) (Blks.empty _)⟩
 case round=>
  obtain ⟨j,hj,rfl,I⟩:=hrel
  by_cases U:j<l.length
  ·have qc:(j:Int)<l.length:=by omega
   obtain ⟨ad,rfl,x,hx,r0,r1,r2⟩:=(RowX.keep On.len C.out I.out.below).at3 U
   have HN:Hid ((l.take (j+1)).map On.az=(l.take j).map On.az++[x.az]):=by show _=_;rw [List.take_add_one,hx,List.map_append];rfl
   have qd:((l.take j).map On.az).length≤1000:=by rw [List.length_map,List.length_take];omega
   generalize (l.take j).map On.az=m0 at*
   obtain ⟨y,J⟩: ∃y,y=wr.alloc (.cells #[.bool x.is,.int .u64 (x.hi:Nat),.int .u64 (x.lo:Nat)] 85):=⟨_,rfl⟩
   have hb:Below wr.heap.size wr y:=by rw [J];exact (znM _ _).alloc (Nat.le_refl _) _
   have a:y.heap[wr.heap.size]? =some (.cells #[.bool x.is,.int .u64 (x.hi:Nat),.int .u64 (x.lo:Nat)] 85):=by rw [J];exact heap_alloc_new wr _
   have HI:=znL (I.out.keep hb)
   have e0:=zaE a 0
   have e1:=zaE a 1
   have e2:=zaE a 2
   simp at e0 e1 e2
   clear a hb
   go_upto_region 5 with fail
   rw [←J]
   clear J r0 r1 r2
   obtain ⟨o,q,g⟩: ∃o q,x.az.val= .iface o q:=by cases x.az<;>exact ⟨_,_,rfl⟩
   have HM:Hid (∀W,Calls Tryz.prog 27 #[.bool x.is,.int .u64 (x.hi:Nat),.int .u64 (x.lo:Nat)] W fun e w'=>e= .returned (.iface o q)∧W=w'):=fun W=>g▸zhT x.is (x.hi:Nat) (x.lo:Nat) W
   have O:Hid (clZ x.az=[.iface o q]):=by show [x.az.val]=_;rw [g]
   have G:=AZ.oneC x.az
   rw [g] at G
   have Z:=zgW y (.iface o q) 38
   have E:=znL (HI.out.keep ((znM _ _).alloc (Nat.le_refl _) (.cells #[.iface o q] 38)))
   clear g
   go_wp2_with fail
   refine (HM.out _).mono ?_
   rintro e z ⟨rfl,rfl⟩
   go_wp2_with (first
    |(at_builtin;refine wpList_append_own _ rfl _ _ 31 rfl w.heap.size 38 i0 .nilIface 1 16 Tryz.underlying31 V N K S rfl (by decide) u3 m0.length (m0.flatMap clZ) rfl E.out.row ⟨y.heap.size,0,none⟩ 1 1 [.iface o q] rfl rfl Z G (by unfold maxLen;omega) (by omega) E.out.size ?_;intro s1 w1 p f _)
    |go_in)
   have qa:=znL (HI.out.app (e:=x.az) ((znM _ _).alloc (Nat.le_refl _) _) f (by rw [O.out];exact p))
   have Q:Hid (LX 38 1 clZ w w1 w.heap.size [] s1 ((l.take (j+1)).map On.az)):=by rw [HN.out];exact qa.out
   go_roundw
   case rel=>exact ⟨j+1,by omega,by go_num,Q⟩
   case measure=>simp [intOf];omega
  ·have Y:j=l.length:=by omega
   subst Y
   rw [List.take_length] at I
   go_wp2
   go_ret
   exact ⟨_,rfl,I.out.row,I.out.below⟩
theorem zlU (c:Nat) (n:ByteArray) (u:Int) (ao:Option Addr) (cp:Nat) (w:World):
  Calls Tryz.prog 9 #[.pointer (some ⟨c,0,none⟩),.string n,.int .i64 u,.slice ao 0 cp] w fun e w'=>e= .returned (.bool false)∧w=w':=by
 go_enter Tryz.func9,Tryz.ntmps9
 go_wp2
 go_ret
 exact ⟨rfl,rfl⟩
theorem RowX.r1A {w:World} {a:Option Addr} {g:List AZ} (h:RowX 1 clZ w a g) {k:Nat} {x:AZ} (i:g[k]? =some x): ∃(f:Addr) (_:a=some f),w.cell? (f.add k)=some x.val:=by
 obtain ⟨f,j,o⟩:=h k x i
 have:=o 0 (by omega)
 rw [Nat.mul_one] at this
 exact ⟨f,j,this⟩
theorem zcF (a b:Option Addr) (C q:Nat) (l:List AZ) (w:World) (g:RowX 1 clZ w a l) (p:RowX 1 clZ w b l) (j:l.length≤1000000):
  Calls Tryz.prog 12 #[.slice a l.length C,.slice b l.length q] w fun e w'=>e= .returned (.bool true)∧Below w.heap.size w w':=by
 have z:=znL g
 have E:=znL p
 clear g p
 go_enter Tryz.func12,Tryz.ntmps12
 go_wp2
 go_loopw [13] (fun i wr=> ∃k m:Nat,k≤l.length∧i= .int .i64 k∧wr=w.drewN m) (fun i _=>l.length - (intOf i).toNat)
 case atStart=>exact ⟨0,0,Nat.zero_le _,rfl,rfl⟩
 case round=>
  obtain ⟨k,m,J,rfl,rfl⟩:=hrel
  by_cases f:k<l.length
  ·obtain ⟨x,o⟩: ∃x,l[k]? =some x:=⟨_,List.getElem?_eq_getElem f⟩
   obtain ⟨N,rfl,I⟩:=z.out.r1A o
   obtain ⟨S,rfl,O⟩:=E.out.r1A o
   have y:(k:Int)<l.length:=by omega
   have K:=zlA x
   have Q:=zdK x
   generalize x.val=G at*
   go_wp2
   go_quiet (fail)
   go_wp2
   go_roundw
   case rel=>exact ⟨k+1,_,by omega,by go_num,rfl⟩
   case measure=>simp [intOf];omega
  ·go_wp2
   go_ret
   exact ⟨rfl,zfI (znM _ _) _⟩
theorem zbE {x y:World} {B M:Nat} (h:Only [M] x y) (a:B≤M) (f:B≤x.heap.size):Below B x y:=
 ⟨h.os,h.tape,h.output,h.size,fun k g=>h.block k (by omega) (fun e=>by have:=List.mem_singleton.1 e;omega)⟩
theorem RowX.at4 {wr:World} {a:Option Addr} {g:List Ac} (h:RowX 4 Ac.cl wr a g) {j:Nat} (o:j<g.length):
  ∃(f:Addr) (_:a=some f) (x:Ac),g[j]? =some x∧x∈g∧wr.cell? (f.add (j*4))=some (.int .u8 x.d)∧wr.cell? ⟨(f.add (j*4)).block,(f.add (j*4)).off+1,none⟩=some (.string x.nm)∧wr.cell? ⟨(f.add (j*4)).block,(f.add (j*4)).off+2,none⟩=some (.int .i64 x.at')∧wr.cell? ⟨(f.add (j*4)).block,(f.add (j*4)).off+3,none⟩=some (.slice x.la x.l.length x.lc):=by
 obtain ⟨f,p,i⟩:=h j g[j] (List.getElem?_eq_getElem o)
 have q:f.add (j*4+1)=⟨(f.add (j*4)).block,(f.add (j*4)).off+1,none⟩:=by rw [←Go.Deep.add_add];rfl
 have y:f.add (j*4+2)=⟨(f.add (j*4)).block,(f.add (j*4)).off+2,none⟩:=by rw [←Go.Deep.add_add];rfl
 have z:f.add (j*4+3)=⟨(f.add (j*4)).block,(f.add (j*4)).off+3,none⟩:=by rw [←Go.Deep.add_add];rfl
 refine ⟨f,p,g[j],List.getElem?_eq_getElem o,List.getElem_mem o,?_,?_,?_,?_⟩
 ·exact i 0 (by omega)
 ·rw [←q];exact i 1 (by omega)
 ·rw [←y];exact i 2 (by omega)
 ·rw [←z];exact i 3 (by omega)
end
section
open Go.RowKit Go.Maps Go.ChangeMaps Go.WideElems
theorem zcA: ∀(l:List MapEntry) (j:Nat) (e:MapEntry),l[j]? =some e→(l.map (·.born)).Nodup→l.findIdx? (fun x=>(x.born:Int)==(e.born:Int))=some j
 |[],j,e,h,_=>by simp at h
 |a::l,0,e,h,_=>by
  simp only [List.getElem?_cons_zero,Option.some.injEq] at h
  subst h
  rw [List.findIdx?_cons]
  simp
 |a::l,j+1,e,h,f=>by
  rw [List.getElem?_cons_succ] at h
  rw [List.map_cons,List.nodup_cons] at f
  have g:a.born≠e.born:=fun q=>f.1 (by rw [q];exact List.mem_map_of_mem (List.mem_of_getElem? h))
  rw [List.findIdx?_cons,zcA l j e h f.2]
  have i:((a.born:Int)==(e.born:Int))=false:=beq_eq_false_iff_ne.2 (by omega)
  rw [i]
  rfl
theorem zgE (a:Array MapEntry) (p:MapEntry→Bool):a.findIdx? p=a.toList.findIdx? p:=by cases a;simp
theorem zdX {α:Type}: ∀{l:List α} {j:Nat} {e:α},l[j]? =some e→l.set j e=l
 |[],_,_,h=>by simp at h
 |a::l,0,e,h=>by simp at h;rw [h];rfl
 |a::l,j+1,e,h=>by rw [List.set_cons_succ,zdX (by simpa using h)]
variable {H:Type} {P:Program} {k:TypeId} {R:Value→Option (DataW H×List MemPlace)} {w:World} {b n:Nat} {D:DataW H}
theorem zfG {t e:TypeId} (h:w.ownsMap P k R b n D) (K:Keyed P k) (Q:P.underlying t=some (.map k e)) (hn:n<maxLen) {z:Value} (hz:(zeroValue e).run P w= .ok z w) {key val:Value} {Z:Lit} {d:DataW H} {ps:List MemPlace}
  (f:keyOf P k key=some Z) (hv:R val=some (d,ps)):
  ∃(v:Value) (st:Int) (w1:World),(Instr.mapEntry t (.map (some b)) key).run P w= .ok (.tuple #[v,.int .i64 st]) w1∧w.grownBy w1 (some b)∧
   ∀W:World,W.heap[b]? =w1.heap[b]? → ∃N,(Instr.entryStore t (.map (some b)) (.int .i64 st) val).run P W= .ok () N∧N.ownsMap P k R b (n+1) (D.put Z d)∧W.grownBy N (some b):=by
 obtain ⟨w',J,S,_⟩:=h.update K Q hn f hv
 obtain ⟨g,a,y,F,hs,hD⟩:=h
 have p: ∀(W:World) (O:Array MapEntry) (c0:Nat) (o:Obj),W.heap[b]? =some (.map O c0)→W.grownBy (setBlock W b o) (some b):=fun W O c0 o q=>
  ⟨rfl,rfl,rfl,by simp [setBlock],fun i _ hi=>heap_setBlock_other q _ (fun e=>hi (by rw [e]))⟩
 have E: ∀(N:World),N.heap[b]? =w'.heap[b]? →N.ownsMap P k R b (n+1) (D.put Z d):=fun N q=>by
  obtain ⟨qb,c2,qa,r⟩:=S
  exact ⟨qb,c2,q.trans qa,r⟩
 rcases K.find w f g.toList F.keys with ⟨V,I⟩|⟨j,C,V,I,Y⟩
 ·have U:(Instr.mapUpdate t (.map (some b)) key val).run P w= .ok () (setBlock w b (.map (g.push ⟨key,val,a⟩) (a+1))):=by
   simp [Instr.mapUpdate,run_underlying Q,MapKept.run_getObj_map y,K.check w false f,V,MapKept.run_setObj_map _ y,Result.andThen,setBlock]
  rw [J] at U
  have e2:w'=setBlock w b (.map (g.push ⟨key,val,a⟩) (a+1)):=by injection U
  subst e2
  refine ⟨z,a,setBlock w b (.map (g.push ⟨key,z,a⟩) (a+1)),?_,p w _ _ _ y,fun W q=> ?_⟩
  ·simp [Instr.mapEntry,run_underlying Q,MapKept.run_getObj_map y,K.check w false f,V,hz,MapKept.run_setObj_map _ y,Result.andThen,setBlock,goInt]
  ·rw [heap_setBlock_same y] at q
   have hf:(g.push ⟨key,z,a⟩).findIdx? (fun x=>(x.born:Int)==(a:Int))=some g.size:=by
    rw [zgE]
    have qd:=(Go.MapKept.stamped_push (key:=key) (val:=z) F.stamped I).2.1
    have:=zcA (g.push ⟨key,z,a⟩).toList g.size ⟨key,z,a⟩ (by simp) qd
    simpa using this
   refine ⟨setBlock W b (.map (g.push ⟨key,val,a⟩) (a+1)),?_,E _ ?_,p W _ _ _ q⟩
   ·have hm:(g.push ⟨key,z,a⟩).modify g.size (fun e=>{e with val:=val})=g.push ⟨key,val,a⟩:=by
     apply Array.ext'
     rw [Array.toList_modify,modify_eq_set _ _ _ _ (show (g.push ⟨key,z,a⟩).toList[g.size]? =some ⟨key,z,a⟩ by simp)]
     simp
    simp [Instr.entryStore,MapKept.run_getObj_map q,asInt,asIntOf,hf,MapKept.run_setObj_map _ q,Result.andThen,setBlock,hm]
   ·rw [heap_setBlock_same q,heap_setBlock_same y]
 ·have hj:g[j]? =some C:=by simpa using I
  have U:(Instr.mapUpdate t (.map (some b)) key val).run P w= .ok () (setBlock w b (.map (g.modify j (fun G=>{G with key:=key,val:=val})) a)):=by
   simp [Instr.mapUpdate,run_underlying Q,MapKept.run_getObj_map y,K.check w false f,V,hj,Y,K.stays w f,MapKept.run_setObj_map _ y,Result.andThen,setBlock]
  rw [J] at U
  have e2:w'=setBlock w b (.map (g.modify j (fun G=>{G with key:=key,val:=val})) a):=by injection U
  subst e2
  have qc:g.modify j (fun G=>{G with key:=key})=g:=by
   apply Array.ext'
   rw [Array.toList_modify,modify_eq_set _ _ _ _ I]
   have:({C with key:=key}:MapEntry)=C:=by cases C;cases Y;rfl
   rw [this]
   exact zdX I
  refine ⟨C.val,C.born,setBlock w b (.map g a),?_,p w _ _ _ y,fun W q=> ?_⟩
  ·simp [Instr.mapEntry,run_underlying Q,MapKept.run_getObj_map y,K.check w false f,V,hj,Y,K.stays w f,MapKept.run_setObj_map _ y,Result.andThen,setBlock,goInt,qc]
  ·rw [heap_setBlock_same y] at q
   have hf:g.findIdx? (fun x=>(x.born:Int)==(C.born:Int))=some j:=by
    rw [zgE]
    exact zcA g.toList j C I F.stamped.2.1
   refine ⟨setBlock W b (.map (g.modify j (fun G=>{G with key:=key,val:=val})) a),?_,E _ ?_,p W _ _ _ q⟩
   ·have hm:g.modify j (fun e=>{e with val:=val})=g.modify j (fun G=>{G with key:=key,val:=val}):=by
     apply Array.ext'
     rw [Array.toList_modify,Array.toList_modify,modify_eq_set _ _ _ _ I,modify_eq_set _ _ _ _ I]
     have:({C with val:=val}:MapEntry)={C with key:=key,val:=val}:=by cases C;cases Y;rfl
     rw [this]
    simp [Instr.entryStore,MapKept.run_getObj_map q,asInt,asIntOf,hf,MapKept.run_setObj_map _ q,Result.andThen,setBlock,hm]
   ·rw [heap_setBlock_same q,heap_setBlock_same y]
end
section
open Go.RowKit Go.Maps Go.Sort Go.Shelf Go.Lib
def DG (g:CE→Value) (L:List CE):DataW Value:= .map (L.map fun e=>(.string e.nm,.held (g e)))
theorem zmR (g:CE→Value) (L:List CE):Maps.size (DG g L)=L.length:=by unfold DG;rw [Maps.size_eq,List.length_map]
theorem ziY (g:CE→Value) (n:List UInt8): ∀L:List CE,(L.map fun e=>((.string e.nm,.held (g e)):Lit×DataW Value)).find? (fun p=>p.1.sameKey (.string n))=(zaL n L).map fun e=>(.string e.nm,.held (g e))
 |[]=>rfl
 |a::l=>by
  unfold zaL
  rw [List.map_cons,List.find?_cons,List.find?_cons]
  show (match a.nm==n with|true=>_|false=>_)=_
  cases a.nm==n with
  |true=>rfl
  |false=>exact ziY g n l
theorem zmX (g:CE→Value) (n:List UInt8) (L:List CE) (z:DataW Value):(DG g L).atKey (.string n) z=((zaL n L).map fun e=>DataW.held (g e)).getD z:=by
 unfold DG DataW.atKey
 simp only
 rw [ziY]
 cases zaL n L<;>rfl
theorem DG_del (g:CE→Value) (n:List UInt8) (L:List CE):(DG g L).del (.string n)=DG g (delE n L):=by
 unfold DG DataW.del delE
 simp only
 congr 1
 rw [List.filter_map]
 rfl
theorem zmD (g:CE→Value) (e:CE): ∀L:List CE,DataW.insert (.string e.nm,.held (g e)) (L.map fun e=>((.string e.nm,.held (g e)):Lit×DataW Value))=(insE e L).map fun e=>(.string e.nm,.held (g e))
 |[]=>rfl
 |a::l=>by
  unfold insE
  rw [List.map_cons]
  unfold DataW.insert
  show (if bytesBefore e.nm a.nm then _ else _)=_
  split
  ·rfl
  ·rw [zmD g e l];rfl
theorem zmG (g:CE→Value) (e:CE) (L:List CE):(DG g L).put (.string e.nm) (.held (g e))=DG g (putE e L):=by
 have h:=DG_del g e.nm L
 unfold DG DataW.del at h
 unfold DG DataW.put putE
 simp only at h ⊢
 rw [DataW.map.injEq] at h
 rw [h]
 exact congrArg DataW.map (zmD g e (delE e.nm L))
def zbH (v:Value):Option (DataW Value×List MemPlace):=match v with
 | .slice _ _ _=>some (.held v,[])
 |_=>none
def zhJ (v:Value):Option (DataW Value×List MemPlace):=match v with
 | .int .i64 _=>some (.held v,[])
 |_=>none
theorem zhP (a:Option Addr) (n c:Nat):zbH (.slice a n c)=some (.held (.slice a n c),[]):=rfl
theorem zfU (x:Int):zhJ (.int .i64 x)=some (.held (.int .i64 x),[]):=rfl
theorem zbL {v:Value} {y:DataW Value×List MemPlace} (h:zbH v=some y): ∃a n c,v= .slice a n c∧y=(.held v,[]):=by
 unfold zbH at h
 split at h
 ·rename_i a n c;cases h;exact ⟨a,n,c,rfl,rfl⟩
 ·cases h
theorem zjD {v:Value} {y:DataW Value×List MemPlace} (h:zhJ v=some y): ∃x,v= .int .i64 x∧y=(.held v,[]):=by
 unfold zhJ at h
 split at h
 ·rename_i x;cases h;exact ⟨x,rfl,rfl⟩
 ·cases h
theorem zcK:Maps.Keyed Tryz.prog 9:=Maps.string_keyed Tryz.underlying9
theorem ziV {n:List UInt8} (h:n.length≤maxLen):keyOf Tryz.prog 9 (.string ⟨n.toArray⟩)=some (.string n):=WideMaps.keyOf_string_mk Tryz.underlying9 (by rw [zfC];exact h)
theorem put_zo (c M:Nat) (L:List CE) (zf:List UInt8→List AZ) (n:List UInt8) (u:Int) (ao:Option Addr) (g:List AZ) (cp:Nat) (w:World) (h:CacZ w c M L zf) (S:n.length≤maxLen) (E:g≠[]) (q:g.length≤1000000) (Q:RowX 1 clZ w ao g):
  Calls Tryz.prog 9 #[.pointer (some ⟨c,0,none⟩),.string ⟨n.toArray⟩,.int .i64 u,.slice ao g.length cp] w fun e w'=>e= .returned (.bool true)∧ ∃p y,CacZ w' c M (putE ⟨n,u,.slice p g.length y⟩ (zeT n L)) (upd zf n g)∧OwnX 38 1 clZ w' w.heap.size (.slice p g.length y) g∧Only [M] w w':=by
 have C:(zbP L).length≤maxLen:=by
  cases V:L with
  |nil=>simp [zbP]
  |cons a l=>
   obtain ⟨e,J,G⟩:=zcW (L:=L) (by rw [V];simp)
   rw [←V,←G]
   exact (h.few e J).1
 refine (zjM c M L n (zbP L) u ao g cp w h.cac S C E q Q (zjY h.cac.map Q E) (by have:=h.len;omega) (fun _ z W Y=> ?_)).mono ?_
 ·have O:L≠[]:=fun e=>by rw [e] at z;simp at z
  have:=zdG c M L W (h.cac.keep Y) (by have:=h.len;omega) O (fun e J=>(h.few e J).1)
  unfold encN encStr at this
  rw [zeC h.cac.map.2 O] at this
  exact this
 ·rintro e w' ⟨rfl,p,y,Z,U,f⟩
  refine ⟨rfl,p,y,⟨Z,fun x i=> ?_,fun x i=> ?_,zlM _ n rfl h.cac.map.2 h.len⟩,U,f⟩
  ·rcases zaU.1 i with rfl|⟨i,j⟩
   ·refine ⟨p,y,?_,?_⟩
    ·unfold upd;rw [if_pos rfl]
    ·unfold upd;rw [if_pos rfl];exact U.row zaS
   ·have o:=zbX i
    obtain ⟨I,K,h1,N⟩:=h.row x o
    unfold upd
    rw [if_neg j]
    exact ⟨I,K,h1,zaO N (zjY h.cac.map N (h.few x o).2.1) f⟩
  ·rcases zaU.1 i with rfl|⟨i,j⟩
   ·unfold upd;rw [if_pos rfl];exact ⟨S,E,q⟩
   ·unfold upd;rw [if_neg j];exact h.few x (zbX i)
theorem CacZ.beside {x y:World} {c M B:Nat} {L:List CE} {zf:List UInt8→List AZ} (h:CacZ x c M L zf) (f:Only [B] x y) (z:c≠B) (q:M≠B) (p: ∀e∈L,∀a n k,e.sv= .slice (some a) n k→a.block≠B):CacZ y c M L zf:=
 ⟨⟨(f.block c (zaH h.cac.box) (fun e=>z (List.mem_singleton.1 e))).trans h.cac.box,h.cac.map.same (f.block M h.cac.map.1.lt (fun e=>q (List.mem_singleton.1 e)))⟩,fun e g=>by
  obtain ⟨ao,cp,i,o⟩:=h.row e g
  exact ⟨ao,cp,i,zaO o (fun C j=>p e g C _ _ (by rw [i,j])) f⟩,h.few,h.len⟩
def unV (e:CE):Value:= .int .i64 e.un
theorem zbQ {x:World} {k:TypeId} {R:Value→Option (DataW Value×List MemPlace)} {A n:Nat} {g:CE→Value} {T:List CE} (h:x.ownsMap Tryz.prog k R A n (DG g T)):x.ownsMap Tryz.prog k R A T.length (DG g T):=by
 have a:=zmR g T
 obtain ⟨i,c,j,F,_,f⟩:=h
 refine ⟨i,c,j,F,?_,f⟩
 rw [f] at a
 simp [Maps.size,length_sorted] at a
 omega
theorem zaM {x y:World} {k:TypeId} {R:Value→Option (DataW Value×List MemPlace)} {A n:Nat} {D:DataW Value} (h:x.ownsMap Tryz.prog k R A n D) (f:y.heap[A]? =x.heap[A]?):y.ownsMap Tryz.prog k R A n D:=by
 obtain ⟨a,c,g,r⟩:=h
 exact ⟨a,c,f.trans g,r⟩
structure zbD (x:World) (A B:Nat) (T:List CE) (yf:List UInt8→List AZ):Prop where
 la:x.ownsMap Tryz.prog 9 zbH A T.length (DG CE.sv T)
 lb:x.ownsMap Tryz.prog 9 zhJ B T.length (DG unV T)
 so:zaV T
 row: ∀e∈T,∃ao cp,e.sv= .slice ao (yf e.nm).length cp∧RowX 1 clZ x ao (yf e.nm)
 few: ∀e∈T,e.nm.length≤maxLen∧yf e.nm≠[]∧(yf e.nm).length≤1000
theorem zbD.keep {x y:World} {A B:Nat} {T:List CE} {yf:List UInt8→List AZ} (h:zbD x A B T yf) (a:Below x.heap.size x y):zbD y A B T yf:=
 ⟨zaM h.la (a.block A h.la.lt),zaM h.lb (a.block B h.lb.lt),h.so,fun e f=>by obtain ⟨ao,cp,i,g⟩:=h.row e f;exact ⟨ao,cp,i,RowX.keep zaS g a⟩,h.few⟩
theorem zbD.only {x y:World} {A B K:Nat} {T:List CE} {yf:List UInt8→List AZ} (h:zbD x A B T yf) (f:Only [K] x y) (o:A≠K) (z:B≠K) (q: ∀e∈T,∀a n k,e.sv= .slice (some a) n k→a.block≠K):zbD y A B T yf:=
 ⟨zaM h.la (f.block A h.la.lt (fun e=>o (List.mem_singleton.1 e))),zaM h.lb (f.block B h.lb.lt (fun e=>z (List.mem_singleton.1 e))),h.so,fun e g=>by
  obtain ⟨ao,cp,i,p⟩:=h.row e g
  exact ⟨ao,cp,i,zaO p (fun C j=>q e g C _ _ (by rw [i,j])) f⟩,h.few⟩
theorem zbD.at {x:World} {A B:Nat} {T:List CE} {yf:List UInt8→List AZ} (h:zbD x A B T yf) {e:CE} (g:e∈T) {a:Addr} {n k:Nat} (f:e.sv= .slice (some a) n k): ∃p v,p.block=a.block∧x.cell? p=some v:=by
 obtain ⟨ao,cp,j,i⟩:=h.row e g
 rw [j] at f
 simp only [Value.slice.injEq] at f
 exact zdM i (h.few e g).2.1 f.1
theorem CacZ.at {x:World} {c M:Nat} {L:List CE} {zf:List UInt8→List AZ} (h:CacZ x c M L zf) {e:CE} (g:e∈L) {a:Addr} {n k:Nat} (f:e.sv= .slice (some a) n k): ∃p v,p.block=a.block∧x.cell? p=some v:=by
 obtain ⟨ao,cp,j,i⟩:=h.row e g
 rw [j] at f
 simp only [Value.slice.injEq] at f
 exact zdM i (h.few e g).2.1 f.1
def RelZ (L T:List CE) (zf yf:List UInt8→List AZ):Prop:= ∀e∈L,∃a∈T,a.nm=e.nm∧a.un=e.un∧zf e.nm=yf e.nm
theorem RelZ.put {L T:List CE} {zf yf:List UInt8→List AZ} (h:RelZ L T zf yf) (n:List UInt8) (u:Int) (v o:Value) (j:List AZ):RelZ (putE ⟨n,u,v⟩ (zeT n L)) (putE ⟨n,u,o⟩ T) (upd zf n j) (upd yf n j):=fun e f=>by
 rcases zaU.1 f with rfl|⟨f,g⟩
 ·exact ⟨⟨n,u,o⟩,zaU.2 (.inl rfl),rfl,rfl,by unfold upd;rw [if_pos rfl,if_pos rfl]⟩
 ·have a: ¬e.nm=n:=g
  obtain ⟨y,p,i,z,C⟩:=h e (zbX f)
  refine ⟨y,zaU.2 (.inr ⟨p,fun q=>a (i.symm.trans q)⟩),i,z,?_⟩
  unfold upd
  rw [if_neg a,if_neg a]
  exact C
theorem zbD.put {x:World} {A B:Nat} {T:List CE} {n:List UInt8} {u:Int} {ao:Option Addr} {cp:Nat} {f:List AZ} {yf:List UInt8→List AZ} (p:zaV T) (o: ∀e∈T,e.nm.length≤maxLen∧yf e.nm≠[]∧(yf e.nm).length≤1000) (j: ∀e∈T,∃ao cp,e.sv= .slice ao (yf e.nm).length cp∧RowX 1 clZ x ao (yf e.nm))
  (C:x.ownsMap Tryz.prog 9 zbH A (T.length+1) ((DG CE.sv T).put (.string n) (.held (.slice ao f.length cp)))) (J:x.ownsMap Tryz.prog 9 zhJ B (T.length+1) ((DG unV T).put (.string n) (.held (.int .i64 u)))) (G:RowX 1 clZ x ao f) (I:n.length≤maxLen) (E:f≠[]) (q:f.length≤1000):
  zbD x A B (putE ⟨n,u,.slice ao f.length cp⟩ T) (upd yf n f):=by
 have z:=zmG CE.sv ⟨n,u,.slice ao f.length cp⟩ T
 have y:=zmG unV ⟨n,u,.slice ao f.length cp⟩ T
 dsimp only [unV] at z y
 refine ⟨zbQ (n:=T.length+1) (by rw [←z];exact C),zbQ (n:=T.length+1) (by rw [←y];exact J),p.put _,fun e i=> ?_,fun e i=> ?_⟩
 ·rcases zaU.1 i with rfl|⟨i,g⟩
  ·unfold upd;rw [if_pos rfl];exact ⟨ao,cp,rfl,G⟩
  ·have a: ¬e.nm=n:=g
   unfold upd;rw [if_neg a];exact j e i
 ·rcases zaU.1 i with rfl|⟨i,g⟩
  ·unfold upd;rw [if_pos rfl];exact ⟨I,E,q⟩
  ·have a: ¬e.nm=n:=g
   unfold upd;rw [if_neg a];exact o e i
theorem zbD.len {T:List CE} (e:CE):(putE e T).length≤T.length+1:=by
 unfold putE
 rw [zdD]
 have:(delE e.nm T).length≤T.length:=List.length_filter_le _ _
 omega
end
end Go.Proofs.YtkiehdigpchebaaGreatDoor
