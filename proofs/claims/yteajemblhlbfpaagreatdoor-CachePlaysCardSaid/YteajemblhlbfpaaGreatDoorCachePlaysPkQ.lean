/-
  What the law CachePlays leans on, and its walk (17 of 21).
-/
import Derived.BigQuiet
import Derived.Test.YteajemblhlbfpaaGreatDoorCachePlaysPkO
import Derived.Test.YteajemblhlbfpaaGreatDoorCachePlaysPkP
import Derived.Test.YteajemblhlbfpaaGreatDoorCachePlaysPkL
namespace Go.Proofs.YteajemblhlbfpaaGreatDoor
set_option maxRecDepth 100000
set_option maxHeartbeats 16000000
theorem tkQ {P : Program} {o : Region.Mode} {g : Array Oper} {Q : Exit → Act → World → Prop} {S : World → Prop} (i : Nat) (s : Option Nat) {A : Op} {B : TypeId} {j : String} {y : _} {p : _} {v : Value} {fuel : Nat} {f : Array Bool} {a : Act} {w : World} (hi : g[i]? = some ⟨s, A, B, j, y, p⟩)
 (I : YieldsIf P g S ⟨s, A, B, j, y, p⟩ v a) (H : S w)
 (h : wpAnyH P o g Q S fuel (f.setIfInBounds i true) (a.put s v) w)
 (C : Region.noSelect g = true := by kernel_rfl) (D : Region.free o g f i = true := by kernel_rfl) (G : (Region.ready o g f).contains i = true := by kernel_rfl)
 (E : ∀ c a w, Q (.panic c) (a.put s v) w → Q (.panic c) a w := by exact fun _ _ _ h => h) : wpAnyH P o g Q S (fuel + 1) f a w :=
 wpAnyH_take hi C D G E I H h
theorem tkQa {α : Type _} (l : List α) (i : Nat) (a : α) : l.toArray.setIfInBounds i a = (l.set i a).toArray := List.setIfInBounds_toArray ..
theorem tkQb {α : Type _} (x y : α) (l : List α) : (x :: l).set 0 y = y :: l := rfl
theorem tkQc {α : Type _} (x y : α) (l : List α) (n : Nat) : (x :: l).set (n + 1) y = x :: l.set n y := rfl
abbrev zoV := @Lib.hid
abbrev zoW := @Nat.le_refl
abbrev zoX := @decide_eq_false
abbrev zoY := @decide_eq_true
abbrev zoZ := @Go.RowKit.Below.refl
section
open Go.RowKit Go.Maps Go.Sort Go.Shelf Go.Lib
def unOf (L:List CE) (n:List UInt8):Int:=((zaJ n L).map CE.un).getD 0
abbrev NmT:={n:List UInt8//n.length≤maxLen}
instance:Inhabited NmT:=⟨⟨[],by simp⟩⟩
def encN (n:NmT):Value:=encStr n.1
def cfN (L:List CE) (a b:NmT):Int:=cmpI (unOf L a.1) (unOf L b.1)
theorem zdE (x:Int) (w:World):Calls Tryz.prog 46 #[.int .i64 x] w fun e w'=>e= .returned (.bool false)∧w=w':=by
 go_enter Tryz.func46,Tryz.ntmps46
 go_wp2
 go_ret
 simp
theorem zdZ (x y:Int) (w:World):Calls Tryz.prog 37 #[.int .i64 x,.int .i64 y] w fun e w'=>e= .returned (.int .i64 (cmpI x y))∧w'=w:=by
 have i:=zoV (zdE x w)
 have j:=zoV (zdE y w)
 unfold cmpI
 by_cases g:x<y
 ·rw [if_pos g]
  have o:decide (x<y)=true:=zoY g
  clear g
  go_enter Tryz.func37,Tryz.ntmps37
  go_wp2_with fail
  refine i.out.mono ?_
  rintro e x ⟨rfl,rfl⟩
  go_wp2_with fail
  refine j.out.mono ?_
  rintro e x ⟨rfl,rfl⟩
  go_wp2
  go_ret
  exact ⟨rfl,rfl⟩
 ·rw [if_neg g]
  have o:decide (x<y)=false:=zoX g
  clear g
  by_cases f:y<x
  ·rw [if_pos f]
   have p:decide (y<x)=true:=zoY f
   clear f
   go_enter Tryz.func37,Tryz.ntmps37
   go_wp2_with fail
   refine i.out.mono ?_
   rintro e x ⟨rfl,rfl⟩
   go_wp2_with fail
   refine j.out.mono ?_
   rintro e x ⟨rfl,rfl⟩
   go_wp2
   go_ret
   exact ⟨rfl,rfl⟩
  ·rw [if_neg f]
   have p:decide (y<x)=false:=zoX f
   clear f
   go_enter Tryz.func37,Tryz.ntmps37
   go_wp2_with fail
   refine i.out.mono ?_
   rintro e x ⟨rfl,rfl⟩
   go_wp2_with fail
   refine j.out.mono ?_
   rintro e x ⟨rfl,rfl⟩
   go_wp2
   go_ret
   exact ⟨rfl,rfl⟩
def svOf (L:List CE) (n:List UInt8):Value:=((zaJ n L).map CE.sv).getD (.slice none 0 0)
theorem MapS.look1 {x:World} {M:Nat} {L:List CE} (h:MapS x M L) {n:List UInt8} (C:n.length≤maxLen):
  (Instr.lookup 55 (.map (some M)) (.string ⟨n.toArray⟩) false).run Tryz.prog x= .ok (.agg #[.int .i64 (unOf L n),svOf L n]) x:=by
 obtain ⟨v,D,f,o⟩:=h.1.lookup zaO Tryz.underlying55 (zlC x) (zbI 0 none 0 0) (zbM C)
 rw [zkK] at o
 obtain ⟨u,a,k,c,i,g⟩:=zaX o
 subst i
 simp only [Prod.mk.injEq] at g
 rw [f]
 unfold unOf svOf
 cases j:zaJ n L with
 |none=>
  rw [j] at g
  have:=g.1
  simp at this
  obtain ⟨A,p,B,y⟩:=this
  simp [←A,←p,←B,←y]
 |some e=>
  rw [j] at g
  have:=g.1
  simp [CE.val] at this
  simp [this]
theorem zlR (u:Int) (v:Value) (W:World):(Instr.field 60 (.agg #[.int .i64 u,v]) 0).run Tryz.prog W= .ok (.int .i64 u) W:=by kernel_rfl
theorem zhT (c M C:Nat) (L:List CE) (a b:NmT) (w:World) (h:CacS w c M L) (G:w.cell? ⟨C,0,none⟩=some (.pointer (some ⟨c,0,none⟩))):
  Calls Tryz.prog 36 #[encN a,encN b,.pointer (some ⟨C,0,none⟩)] w fun e w'=>e= .returned (.int .i64 (cfN L a b))∧ ∃q,w'=w.drewN q:=by
 have E:=zaD h.box 0
 simp at E
 have D:=MapS.look1 (x:=w.drew) h.map a.2
 have B:=MapS.look1 (x:=w.drew) h.map b.2
 have P:=zlR (unOf L a.1) (svOf L a.1)
 have U:=zlR (unOf L b.1) (svOf L b.1)
 have N:=zoV (zdZ (unOf L a.1) (unOf L b.1))
 unfold encN encStr cfN
 generalize unOf L a.1=T at*
 generalize unOf L b.1=J at*
 generalize svOf L a.1=R at*
 generalize svOf L b.1=V at*
 obtain ⟨O,_⟩:=a
 obtain ⟨I,_⟩:=b
 dsimp only at D B ⊢
 clear h
 go_enter Tryz.func36,Tryz.ntmps36
 go_wp2
 -- REGION
 refine wp_region_held_drew (S:=fun W=>W.cell? ⟨C,0,none⟩=some (.pointer (some ⟨c,0,none⟩))∧W.cell? ⟨c,0,none⟩=some (.map (some M))∧(Instr.lookup 55 (.map (some M)) (.string ⟨O.toArray⟩) false).run Tryz.prog W= .ok (.agg #[.int .i64 T,R]) W∧(Instr.lookup 55 (.map (some M)) (.string ⟨I.toArray⟩) false).run Tryz.prog W= .ok (.agg #[.int .i64 J,V]) W) (by kernel_rfl) ?_ (fun g=> ?_)
 ·exact ⟨G,E,D,B⟩
 refine tkQ 0 (some 6) (v:= ?_) rfl (.inl ⟨by rfl,?_⟩) g ?_
 rotate_left
 ·intro w f
  (try dsimp only at f)
  obtain ⟨y,i,j,p⟩:=f
  go_simp
  try with_reducible rfl
 try simp only [Act.put,tkQa,tkQb,tkQc]
 refine tkQ 1 (some 7) (v:= ?_) rfl (.inl ⟨by rfl,?_⟩) g ?_
 rotate_left
 ·intro w f
  (try dsimp only at f)
  obtain ⟨y,i,j,p⟩:=f
  go_simp
  try with_reducible rfl
 try simp only [Act.put,tkQa,tkQb,tkQc]
 refine tkQ 2 (some 8) (v:= ?_) rfl (.inl ⟨by rfl,?_⟩) g ?_
 rotate_left
 ·intro w f
  (try dsimp only at f)
  obtain ⟨y,i,j,p⟩:=f
  go_simp
  try with_reducible rfl
 try simp only [Act.put,tkQa,tkQb,tkQc]
 refine tkQ 3 (some 9) (v:= ?_) rfl (.inl ⟨by rfl,?_⟩) g ?_
 rotate_left
 ·intro w f
  (try dsimp only at f)
  obtain ⟨y,i,j,p⟩:=f
  go_simp
  try with_reducible rfl
 try simp only [Act.put,tkQa,tkQb,tkQc]
 refine tkQ 4 (some 10) (v:= ?_) rfl (.inl ⟨by rfl,?_⟩) g ?_
 rotate_left
 ·intro w f
  (try dsimp only at f)
  obtain ⟨y,i,j,p⟩:=f
  go_simp
  try with_reducible rfl
 try simp only [Act.put,tkQa,tkQb,tkQc]
 refine tkQ 5 (some 11) (v:= ?_) rfl (.inl ⟨by rfl,?_⟩) g ?_
 rotate_left
 ·intro w f
  (try dsimp only at f)
  obtain ⟨y,i,j,p⟩:=f
  go_simp
  try with_reducible rfl
 try simp only [Act.put,tkQa,tkQb,tkQc]
 refine tkQ 6 (some 12) (v:= ?_) rfl (.inl ⟨by rfl,?_⟩) g ?_
 rotate_left
 ·intro w f
  (try dsimp only at f)
  obtain ⟨y,i,j,p⟩:=f
  go_simp
  try with_reducible rfl
 try simp only [Act.put,tkQa,tkQb,tkQc]
 refine tkQ 7 (some 13) (v:= ?_) rfl (.inl ⟨by rfl,?_⟩) g ?_
 rotate_left
 ·intro w f
  (try dsimp only at f)
  obtain ⟨y,i,j,p⟩:=f
  go_simp
  try with_reducible rfl
 try simp only [Act.put,tkQa,tkQb,tkQc]
 refine tkQ 8 (some 14) (v:= ?_) rfl (.inl ⟨by rfl,?_⟩) g ?_
 rotate_left
 ·intro w f
  (try dsimp only at f)
  obtain ⟨y,i,j,p⟩:=f
  go_simp
  try with_reducible rfl
 try simp only [Act.put,tkQa,tkQb,tkQc]
 refine tkQ 9 (some 15) (v:= ?_) rfl (.inl ⟨by rfl,?_⟩) g ?_
 rotate_left
 ·intro w f
  (try dsimp only at f)
  obtain ⟨y,i,j,p⟩:=f
  go_simp
  try with_reducible rfl
 try simp only [Act.put,tkQa,tkQb,tkQc]
 refine tkQ 10 (some 16) (v:= ?_) rfl (.inl ⟨by rfl,?_⟩) g ?_
 rotate_left
 ·intro w f
  (try dsimp only at f)
  obtain ⟨y,i,j,p⟩:=f
  go_simp
  try with_reducible rfl
 try simp only [Act.put,tkQa,tkQb,tkQc]
 refine tkQ 11 (some 17) (v:= ?_) rfl (.inl ⟨by rfl,?_⟩) g ?_
 rotate_left
 ·intro w f
  (try dsimp only at f)
  obtain ⟨y,i,j,p⟩:=f
  go_simp
  try with_reducible rfl
 try simp only [Act.put,tkQa,tkQb,tkQc]
 refine tkQ 12 (some 18) (v:= ?_) rfl (.inl ⟨by rfl,?_⟩) g ?_
 rotate_left
 ·intro w f
  (try dsimp only at f)
  obtain ⟨y,i,j,p⟩:=f
  go_simp
  try with_reducible rfl
 try simp only [Act.put,tkQa,tkQb,tkQc]
 refine tkQ 13 (some 19) (v:= ?_) rfl (.inl ⟨by rfl,?_⟩) g ?_
 rotate_left
 ·intro w f
  (try dsimp only at f)
  obtain ⟨y,i,j,p⟩:=f
  go_simp
  try with_reducible rfl
 try simp only [Act.put,tkQa,tkQb,tkQc]
 refine wpAnyH_ready (rs:=[14]) (by kernel_rfl) (by simp) ?_
 refine AllReadyH.cons (o:=⟨some 20,_,_,_,_,_⟩) rfl (fun K H=> ?_) AllReadyH.nil
 go_simp
 go_at_call 37
 refine (N.out _).mono ?_
 rintro e w' ⟨rfl,rfl⟩
 (try go_wp2_with fail)
 refine H.out _ _ ?_ (fun A=> ?_)
 ·exact ⟨G,E,D,B⟩
 clear H K
 try simp only [Act.put,tkQa,tkQb,tkQc]
 refine tkQ 15 (some 5) (v:= ?_) rfl (.inl ⟨by rfl,?_⟩) A ?_
 rotate_left
 ·intro w f
  (try dsimp only at f)
  obtain ⟨y,i,j,p⟩:=f
  go_simp
  try with_reducible rfl
 try simp only [Act.put,tkQa,tkQb,tkQc]
 refine wpAnyH_done (by kernel_rfl) ?_ _
 -- END REGION
 go_wp2
 go_ret
 exact ⟨rfl,1,rfl⟩
def attN (L:List CE) (f: ∀e∈L,e.nm.length≤maxLen):List NmT:=L.attach.map fun e=>⟨e.1.nm,f e.1 e.2⟩
theorem zhG (L:List CE) (hn):(attN L hn).map encN=(L.map CE.nm).map encStr:=by
 unfold attN encN
 rw [List.map_map,List.map_map]
 conv=>rhs;rw [←List.attach_map_subtype_val L]
 rw [List.map_map]
 rfl
theorem zdU (L:List CE) (hn) (j:Nat) (f:j<L.length):(L.map CE.nm).toArray[j]! =((attN L hn).toArray[j]!).1:=by
 rw [getElem!_pos _ _ (by simpa using f),getElem!_pos _ _ (by simpa [attN] using f)]
 simp [attN]
theorem zcT (L:List CE) (hn):(attN L hn).length=L.length:=by unfold attN;simp
def zcZ (L:List CE) (f: ∀e∈L,e.nm.length≤maxLen):NmT:=Lib.pickBy (fun x m=>decide (cfN L x m<0)) (attN L f).toArray (L.length - 1)
theorem zdQ {enc:NmT→Value} {i W:World} {f j:Nat} {d:Array NmT} (h:SW enc i f j d W) (b:Nat) (o:b<i.heap.size) (g:b≠f):W.heap[b]? =i.heap[b]? :=by
 obtain ⟨n,os,rfl⟩:=h
 unfold sortWorld grow putRow mapBlock Go.Sort.ahead
 simp only
 rw [Array.getElem?_append_left (by rw [Array.size_modify];exact o),Array.getElem?_modify,if_neg (fun e=>g e.symm)]
theorem zmY {enc:NmT→Value} {i W:World} {f g:Nat} {d:Array NmT} (h:SW enc i f g d W) (j:Holds enc i f g d):Below i.heap.size i W:=by
 obtain ⟨n,os,rfl⟩:=h
 have e:putRow enc (Go.Sort.ahead i n) f g d=Go.Sort.ahead i n:=by rw [putRow_ahead,putRow_self enc i f g d j]
 unfold sortWorld
 rw [e]
 exact ⟨rfl,rfl,rfl,by rw [Go.Sort.size_grow];exact Nat.le_add_right _ _,fun k o=>by unfold grow Go.Sort.ahead;simp only;rw [Array.getElem?_append_left o]⟩
theorem zdY (c M:Nat) (L:List CE) (w:World) (h:CacS w c M L) (hL:L.length≤1000000) (h0:L≠[]) (o: ∀e∈L,e.nm.length≤maxLen):
  Calls Tryz.prog 26 #[.pointer (some ⟨c,0,none⟩)] w fun e w'=>e= .returned (encN (zcZ L o))∧Below w.heap.size w w':=by
 obtain ⟨y,S⟩: ∃y,y=w.alloc (.cells #[.pointer (some ⟨c,0,none⟩)] 24):=⟨_,rfl⟩
 have V:Below w.heap.size w y:=by rw [S];exact (zoZ _ _).alloc (zoW _) _
 have p:y.heap[w.heap.size]? =some (.cells #[.pointer (some ⟨c,0,none⟩)] 24):=by rw [S];exact heap_alloc_new w _
 have qe:y.heap.size=w.heap.size+1:=by rw [S];simp
 have U:=h.keep V
 have T:=zaD p 0
 simp at T
 have HN:=zoV (zdC c M L y U hL)
 have HM:Hid (∀x v,OwnX 34 1 clN x y.heap.size v (L.map CE.nm)→Below y.heap.size y x→ ∃f cp,v= .slice (some ⟨f,0,none⟩) L.length cp∧
   Calls Tryz.prog 35 #[.slice (some ⟨f,0,none⟩) L.length cp,.func (.func 36) #[] #[.pointer (some ⟨w.heap.size,0,none⟩)]] x fun e w'=>e= .returned (encN (zcZ L o))∧Below x.heap.size x w'):=by
  intro x v A i
  unfold OwnX at A
  rw [flatN,←zhG L o] at A
  rcases A.2 with ⟨rfl,C⟩|⟨f,I,qd,rfl,Y,K,r1,r2,r3,r4⟩
  ·rw [List.length_map] at C
   exact absurd (List.eq_nil_of_length_eq_zero C) h0
  ·have qb:Holds encStr x f 0 (L.map CE.nm).toArray:=holds_of_block K (by rw [zhG] at r4;simpa using r4)
   have hH:Holds encN x f 0 (attN L o).toArray:=fun j hj=>by
    have D:j<L.length:=by simpa [zcT] using hj
    have:=qb j (by simpa using D)
    rw [zdU L o j D] at this
    exact this
   have Z:f<x.heap.size:=(Array.getElem?_eq_some_iff.1 K).1
   have qc:0<L.length:=List.length_pos_iff.2 h0
   refine ⟨f,I,by rw [List.length_map],?_⟩
   have qa:x.cell? ⟨w.heap.size,0,none⟩=some (.pointer (some ⟨c,0,none⟩)):=(i.cell (World.block_lt_of_cell? y _ T)).trans T
   have N:=U.keep i
   have P:CmpReads Tryz.prog 36 #[.pointer (some ⟨w.heap.size,0,none⟩)] encN (cfN L) f 0 (attN L o).toArray.size x:=fun m os J O a b=>by
    have g:SW encN x f 0 J (sortWorld encN x f 0 m J os):=⟨m,os,rfl⟩
    have qg:c<y.heap.size:=by have:=zaH h.box;omega
    have qf:M<y.heap.size:=by have:=U.map.1.lt;omega
    have R:(sortWorld encN x f 0 m J os).heap[c]? =x.heap[c]? :=zdQ g c (by have:=i.size;omega) (by omega)
    have G:(sortWorld encN x f 0 m J os).heap[M]? =x.heap[M]? :=zdQ g M (by have:=i.size;omega) (by omega)
    have E:(sortWorld encN x f 0 m J os).heap[w.heap.size]? =x.heap[w.heap.size]? :=zdQ g w.heap.size (by have:=i.size;omega) (by omega)
    exact zhT c M w.heap.size L a b _ ⟨R.trans N.box,N.map.same G⟩ ((World.cell?_of_block (a:=⟨w.heap.size,0,none⟩) E).trans qa)
   have H:=Any.slices_MinFunc_s minN encN (fun a=>rfl) (cfN L) 36 #[.pointer (some ⟨w.heap.size,0,none⟩)] f 0 I (attN L o).toArray x (enters_of Tryz.func36 (by kernel_rfl) rfl) P.lays hH Z (by simp [zcT];omega) (by simp [zcT];omega)
   have O:(attN L o).toArray.size=L.length:=by simp [zcT]
   rw [O] at H
   refine H.mono ?_
   rintro e w' ⟨rfl,g⟩
   exact ⟨rfl,zmY g hH⟩
 have HB:=zoV V
 clear h V p U h0 hL
 generalize zcZ L o=fg at*
 go_enter Tryz.func26,Tryz.ntmps26
 go_upto_region 1 with fail
 rw [←S]
 clear S
 go_wp2_with fail
 refine HN.out.mono ?_
 rintro e x ⟨v,rfl,A,i⟩
 obtain ⟨f,cp,rfl,hm⟩:=HM.out x v A i
 have B:=zoV hm
 have HX:=zoV (HB.out.trans (i.mono HB.out.size))
 clear A i hm HM HN T
 go_wp2_with fail
 refine B.out.mono ?_
 rintro e z ⟨rfl,C⟩
 have HZ:=zoV (HX.out.trans (C.mono HX.out.size))
 clear C B
 go_wp2
 go_ret
 exact ⟨rfl,HZ.out⟩
/-! ### which name makes room -/
def zaL (m:CE):List CE→CE
 |[]=>m
 |a::l=>zaL (if a.un<m.un then a else m) l
def zaV:List CE→List UInt8
 |[]=>[]
 |a::l=>(zaL a l).nm
theorem zbX (x:CE): ∀(l:List CE) (m:CE),zaL m (l++[x])=if x.un<(zaL m l).un then x else zaL m l
 |[],_=>rfl
 |a::l,m=>zbX x l (if a.un<m.un then a else m)
theorem zcK: ∀(l:List CE) (m:CE),zaL m l∈m::l
 |[],_=>by simp [zaL]
 |a::l,m=>by
  unfold zaL
  have:=zcK l (if a.un<m.un then a else m)
  rcases List.mem_cons.1 this with h|h
  ·rw [h];split<;>simp
  ·exact List.mem_cons_of_mem _ (List.mem_cons_of_mem _ h)
theorem zhW (x y:Int):(cmpI x y<0)↔x<y:=by unfold cmpI;split<;>(try split)<;>omega
theorem zhJ {L:List CE} (h:zaM L) {e:CE} (f:e∈L):unOf L e.nm=e.un:=by unfold unOf;rw [zcH h f];rfl
theorem zdN {a:CE} {l:List CE} (h:zaM (a::l)) (hn): ∀t,t≤l.length→(Lib.pickBy (fun x m=>decide (cfN (a::l) x m<0)) (attN (a::l) hn).toArray t).1=(zaL a (l.take t)).nm
 |0,_=>by
  have:=zdU (a::l) hn 0 (by simp)
  unfold Lib.pickBy
  rw [←this]
  simp [zaL]
 |t+1,y=>by
  have j:=zdN h hn t (by omega)
  have g:=zdU (a::l) hn (t+1) (by simp;omega)
  have o:(a::l).map CE.nm|>.toArray[t+1]! =(l[t]'(by omega)).nm:=by
   rw [getElem!_pos _ _ (by simp;omega)]
   simp
  have f:l.take (t+1)=l.take t++[l[t]'(by omega)]:=by rw [List.take_add_one];simp [List.getElem?_eq_getElem (show t<l.length by omega)]
  unfold Lib.pickBy
  rw [f,zbX]
  have p:zaL a (l.take t)∈a::l:=by
   rcases List.mem_cons.1 (zcK (l.take t) a) with q|q
   ·rw [q];simp
   ·exact List.mem_cons_of_mem _ (List.mem_of_mem_take q)
  have i:(cfN (a::l) (attN (a::l) hn).toArray[t+1]! (Lib.pickBy (fun x m=>decide (cfN (a::l) x m<0)) (attN (a::l) hn).toArray t)<0)↔(l[t]'(by omega)).un<(zaL a (l.take t)).un:=by
   show cmpI _ _<0↔_
   rw [zhW,←g,o,j,zhJ h (List.mem_cons_of_mem _ (List.getElem_mem _)),zhJ h p]
  by_cases q:(l[t]'(by omega)).un<(zaL a (l.take t)).un
  ·rw [if_pos q,if_pos (by rw [decide_eq_true_eq];exact i.2 q),←g,o]
  ·rw [if_neg q,if_neg (by rw [decide_eq_true_eq];exact fun z=>q (i.1 z)),j]
theorem zfF {L:List CE} (h:zaM L) (f:L≠[]) (hn):(zcZ L hn).1=zaV L:=by
 cases L with
 |nil=>exact absurd rfl f
 |cons a l=>
  unfold zcZ zaV
  rw [show (a::l).length - 1=l.length by simp,zdN h hn l.length (zoW _),List.take_length]
theorem zdI {L:List CE} (f:L≠[]): ∃e∈L,e.nm=zaV L:=by
 cases L with
 |nil=>exact absurd rfl f
 |cons a l=>exact ⟨_,zcK l a,rfl⟩
/-! ### what is there behind a Put -/
def zaP (n:List UInt8) (L:List CE):List CE:=zeP (zaV L) n L
theorem zbC {f n:List UInt8} {L:List CE} {x:CE} (h:x∈zeP f n L):x∈L:=by
 unfold zeP at h
 split at h
 ·exact (zcB.1 h).1
 ·exact h
theorem zmJ {L:List CE} (e:CE) (n:List UInt8) (j:e.nm=n) (h:zaM L) (y:L.length≤64):(putE e (zaP n L)).length≤64:=by
 subst j
 unfold putE zaP zeP
 rw [zdW]
 by_cases f:(zaJ e.nm L).isNone&&decide (64≤L.length)
 ·rw [if_pos f]
  simp only [Bool.and_eq_true,decide_eq_true_eq,Option.isNone_iff_eq_none] at f
  obtain ⟨x,p,g⟩:=zdI (L:=L) (fun q=>by rw [q] at f;simp at f)
  have:=zdR h (n:=zaV L) (e:=x) (by rw [←g];exact zcH h p)
  have o:(delE e.nm (delE (zaV L) L)).length≤(delE (zaV L) L).length:=List.length_filter_le _ _
  omega
 ·rw [if_neg f]
  have o:(delE e.nm L).length≤L.length:=List.length_filter_le _ _
  cases i:zaJ e.nm L with
  |none=>
   rw [i] at f
   simp at f
   omega
  |some x=>
   have:=zdR h i
   omega
/-! ### a cache with what it holds -/
def upd (zf:List UInt8→List AZ) (n:List UInt8) (f:List AZ):List UInt8→List AZ:=fun k=>if k=n then f else zf k
structure CacZ (x:World) (c M:Nat) (L:List CE) (zf:List UInt8→List AZ):Prop where
 cac:CacS x c M L
 row: ∀e∈L,∃ao cp,e.sv= .slice ao (zf e.nm).length cp∧RowX 1 clZ x ao (zf e.nm)
 few: ∀e∈L,e.nm.length≤maxLen∧zf e.nm≠[]∧(zf e.nm).length≤1000000
 len:L.length≤64
theorem zjW (f:Addr) (k:Nat):(f.add k).block=f.block:=by unfold Addr.add;split<;>rfl
theorem row_at {x:World} {ao:Option Addr} {f:List AZ} (h:RowX 1 clZ x ao f) (i:f≠[]) {g:Addr} (y:ao=some g): ∃p v,p.block=g.block∧x.cell? p=some v:=by
 cases f with
 |nil=>exact absurd rfl i
 |cons z l=>
  obtain ⟨o,e,j⟩:=h 0 z rfl
  rw [y] at e
  obtain rfl:=Option.some.inj e
  exact ⟨_,z.val,zjW _ _,j 0 (by omega)⟩
theorem zgH {x:World} {p:Addr} {f:Array MapEntry} {k:Nat} (h:x.heap[p.block]? =some (.map f k)):x.cell? p=none:=by
 unfold World.cell?
 rw [h]
theorem zeB {x:World} {M:Nat} {L:List CE} (h:MapS x M L) {ao:Option Addr} {i:List AZ} (o:RowX 1 clZ x ao i) (j:i≠[]): ∀f,ao=some f→f.block≠M:=fun f B e=>by
 obtain ⟨p,v,A,g⟩:=row_at o j B
 obtain ⟨⟨C,k,y,_⟩,_⟩:=h
 rw [zgH (by rw [A,e];exact y)] at g
 cases g
theorem CacZ.keep {x y:World} {c M:Nat} {L:List CE} {zf:List UInt8→List AZ} (h:CacZ x c M L zf) (f:Below x.heap.size x y):CacZ y c M L zf:=
 ⟨h.cac.keep f,fun e g=>by obtain ⟨ao,cp,j,i⟩:=h.row e g;exact ⟨ao,cp,j,RowX.keep zaQ i f⟩,h.few,h.len⟩
theorem CacZ.only {x y:World} {c M:Nat} {L g:List CE} {zf:List UInt8→List AZ} (h:CacZ x c M L zf) (p:Only [M] x y) (B:CacS y c M g) (i: ∀e∈g,e∈L) (o:g.length≤64):CacZ y c M g zf:=
 ⟨B,fun e f=>by
  obtain ⟨ao,cp,A,j⟩:=h.row e (i e f)
  exact ⟨ao,cp,A,zbT j (zeB h.cac.map j (h.few e (i e f)).2.1) p⟩,fun e f=>h.few e (i e f),o⟩
theorem CacZ.new {x:World} {c M:Nat} (h:CacS x c M []) (zf:List UInt8→List AZ):CacZ x c M [] zf:=⟨h,(fun _ f=>nomatch f),(fun _ f=>nomatch f),Nat.zero_le _⟩
theorem put_z (c M:Nat) (L:List CE) (zf:List UInt8→List AZ) (n:List UInt8) (u:Int) (ao:Option Addr) (j:List AZ) (cp:Nat) (w:World) (h:CacZ w c M L zf) (N:n.length≤maxLen) (C:j≠[]) (o:j.length≤1000000) (K:RowX 1 clZ w ao j):
  Calls Tryz.prog 12 #[.pointer (some ⟨c,0,none⟩),.string ⟨n.toArray⟩,.int .i64 u,.slice ao j.length cp] w fun e w'=>e= .returned (.bool true)∧ ∃v,CacZ w' c M (putE ⟨n,u,v⟩ (zaP n L)) (upd zf n j)∧Only [M] w w':=by
 have B:(zaV L).length≤maxLen:=by
  cases I:L with
  |nil=>simp [zaV]
  |cons a l=>
   obtain ⟨e,A,D⟩:=zdI (L:=L) (by rw [I];simp)
   rw [←I,←D]
   exact (h.few e A).1
 refine (zkY c M L n (zaV L) u ao j cp w h.cac N B C o K (zeB h.cac.map K C) (by have:=h.len;omega) (fun _ p W S=> ?_)).mono ?_
 ·have H:L≠[]:=fun e=>by rw [e] at p;simp at p
  have:=zdY c M L W (h.cac.keep S) (by have:=h.len;omega) H (fun e A=>(h.few e A).1)
  unfold encN encStr at this
  rw [zfF h.cac.map.2 H] at this
  exact this
 ·rintro e w' ⟨rfl,O,R,U,P,f⟩
  refine ⟨rfl,_,⟨U,fun x g=> ?_,fun x g=> ?_,zmJ _ n rfl h.cac.map.2 h.len⟩,f⟩
  ·rcases zbU.1 g with rfl|⟨g,i⟩
   ·refine ⟨O,R,?_,?_⟩
    ·unfold upd;rw [if_pos rfl]
    ·unfold upd;rw [if_pos rfl];exact P.row zaQ
   ·have y:=zbC g
    obtain ⟨E,G,T,J⟩:=h.row x y
    unfold upd
    rw [if_neg i]
    exact ⟨E,G,T,zbT J (zeB h.cac.map J (h.few x y).2.1) f⟩
  ·rcases zbU.1 g with rfl|⟨g,i⟩
   ·unfold upd;rw [if_pos rfl];exact ⟨N,C,o⟩
   ·unfold upd;rw [if_neg i];exact h.few x (zbC g)
theorem zkD (c M:Nat) (L:List CE) (zf:List UInt8→List AZ) (n:List UInt8) (f:Int) (w:World) (h:CacZ w c M L zf) (A:n.length≤maxLen) {e:CE} (i:zaJ n L=some e) (y:f<e.un):
  Calls Tryz.prog 18 #[.pointer (some ⟨c,0,none⟩),.string ⟨n.toArray⟩,.int .i64 f] w fun e w'=> ∃v,e= .returned (.tuple #[v,.bool true])∧OwnX 48 1 clZ w' w.heap.size v (zf n)∧Below w.heap.size w w':=by
 obtain ⟨j,g⟩:=zbD i
 obtain ⟨ao,cp,p,o⟩:=h.row e j
 rw [g] at p o
 exact ziO c M L n f w h.cac A i y p o (by have:=(h.few e j).2.2;rw [g] at this;exact this)
theorem znQ (c M:Nat) (L:List CE) (zf:List UInt8→List AZ) (f:Int) (w:World) (h:CacZ w c M L zf):
  Calls Tryz.prog 9 #[.pointer (some ⟨c,0,none⟩),.int .i64 f] w fun e w'=>e= .returned (.int .i64 ((L.length:Int) - ((L.filter (zaI f)).length:Int)))∧CacZ w' c M (L.filter (zaI f)) zf∧Only [M] w w':=by
 refine (zfT c M L f w h.cac (by have:=h.len;omega)).mono ?_
 rintro e w' ⟨rfl,j,g⟩
 exact ⟨rfl,h.only g j (fun e i=>(List.mem_filter.1 i).1) (Nat.le_trans (List.length_filter_le _ _) h.len),g⟩
theorem zaM.ext {A B:List CE} (i:zaM A) (g:zaM B) (h: ∀x,x∈A↔x∈B):A=B:=by
 have f: ∀{l:List CE},zaM l→l.Nodup:=fun j=>List.Pairwise.imp (fun {a b} q e=>by rw [e,zaR] at q;cases q) j
 refine List.Perm.eq_of_pairwise (le:=fun (a b:CE)=>bytesBefore a.nm b.nm=true) (fun a b _ _ p o=> ?_) i g ((List.perm_ext_iff_of_nodup (f i) (f g)).2 h)
 have:=zaZ p o
 rw [zaR] at this
 cases this
def updV (f:List UInt8→Value) (n:List UInt8) (v:Value):List UInt8→Value:=fun k=>if k=n then v else f k
def zcF (L:List CE) (left:Lit→Bool) (f:List UInt8→Value):List CE:=(L.filter fun e=> !left (.string e.nm)).map fun e=>⟨e.nm,e.un,f e.nm⟩
theorem zjU (L:List CE) (left:Lit→Bool) (f:List UInt8→Value):(zcF L left f).length≤L.length:=by unfold zcF;rw [List.length_map];exact List.length_filter_le _ _
theorem zgL {L:List CE} {left:Lit→Bool} {f:List UInt8→Value} {x:CE}:x∈zcF L left f↔ ∃e∈L,left (.string e.nm)=false∧x=⟨e.nm,e.un,f e.nm⟩:=by
 unfold zcF
 rw [List.mem_map]
 constructor
 ·rintro ⟨e,j,rfl⟩
  obtain ⟨i,g⟩:=List.mem_filter.1 j
  exact ⟨e,i,by simpa using g,rfl⟩
 ·rintro ⟨e,i,g,rfl⟩
  exact ⟨e,List.mem_filter.2 ⟨i,by simp [g]⟩,rfl⟩
theorem zfD {L:List CE} (h:zaM L) (left:Lit→Bool) (f:List UInt8→Value):zaM (zcF L left f):=by
 unfold zcF zaM
 rw [List.pairwise_map]
 exact List.Pairwise.sublist List.filter_sublist h
theorem zdP (a b:List UInt8):(Lit.string a).sameKey (.string b)=(a==b):=rfl
theorem zlU {L:List CE} (h:zaM L) {e:CE} (o:e∈L) {left:Lit→Bool} {f:List UInt8→Value} {v:Value}:zcF L (fun z=>left z&& !z.sameKey (.string e.nm)) (updV f e.nm v)=putE ⟨e.nm,e.un,v⟩ (zcF L left f):=by
 refine (zfD h _ _).ext ((zfD h _ _).put _) fun x=> ?_
 rw [zgL,zbU,zgL]
 constructor
 ·rintro ⟨a,i,g,rfl⟩
  rw [zdP] at g
  by_cases q:a.nm=e.nm
  ·left
   rw [h.one i o q]
   simp [updV]
  ·right
   rw [show (a.nm==e.nm)=false from beq_eq_false_iff_ne.2 q] at g
   refine ⟨⟨a,i,by simpa using g,?_⟩,q⟩
   simp [updV,q]
 ·rintro (rfl|⟨⟨a,i,g,rfl⟩,p⟩)
  ·exact ⟨e,o,by rw [zdP];simp,by simp [updV]⟩
  ·exact ⟨a,i,by rw [g];rfl,by have j: ¬a.nm=e.nm:=p;simp [updV,j]⟩
theorem zjZ {L:List CE} {left:Lit→Bool} (h: ∀e∈L,left (.string e.nm)=true) (f:List UInt8→Value):zcF L left f=[]:=by
 unfold zcF
 rw [List.filter_eq_nil_iff.2 (fun e g=>by simp [h e g])]
 rfl
theorem zmP {L:List CE} {left:Lit→Bool} (h: ∀e∈L,left (.string e.nm)=false) (f:List UInt8→Value):zcF L left f=L.map fun e=>⟨e.nm,e.un,f e.nm⟩:=by
 unfold zcF
 rw [List.filter_eq_self.2 (fun e g=>by simp [h e g])]
theorem map_none {x:World} {M:Nat} {L:List CE} (h:MapS x M L): ∀p:Addr,p.block=M→x.cell? p=none:=fun p g=>by
 obtain ⟨⟨i,k,f,_⟩,_⟩:=h
 exact zgH (by rw [g];exact f)
theorem ziM {x:World} {r:Nat} {m:Option Nat} {a b:Nat} {s:Array Nat} (h:x.heap[r]? =some (.mapIter m a s b)): ∀p:Addr,p.block=r→x.cell? p=none:=fun p f=>by
 unfold World.cell?
 rw [f,h]
theorem zbV {x y:World} {k:Nat} (f:x.grownBy y (some k)) (g: ∀p:Addr,p.block=k→x.cell? p=none) {p:Addr} {v:Value} (h:x.cell? p=some v):y.cell? p=some v:=
 (World.cell?_of_block (a:=p) (f.block p.block (World.block_lt_of_cell? x _ h) (fun e=>by rw [g p (Option.some.inj e)] at h;cases h))).trans h
theorem zcP {x y:World} {k:Nat} (g:x.grownBy y (some k)) (D: ∀p:Addr,p.block=k→x.cell? p=none) {ao:Option Addr} {f:List AZ} (h:RowX 1 clZ x ao f):RowX 1 clZ y ao f:=fun j z o=>by
 obtain ⟨C,e,A⟩:=h j z o
 refine ⟨C,e,fun i hi=> ?_⟩
 have B:i=0:=by omega
 subst B
 have q:(clZ z)[0]? =some z.val:=rfl
 rw [q]
 exact zbV g D (by rw [←q];exact A 0 hi)
def zeA (x:World) (L:List CE) (left:Lit→Bool) (f:List UInt8→Value) (zf:List UInt8→List AZ):Prop:= ∀g∈L,left (.string g.nm)=false→ ∃ao cp,f g.nm= .slice ao (zf g.nm).length cp∧RowX 1 clZ x ao (zf g.nm)
theorem zeA.grown {x y:World} {k:Nat} {L:List CE} {left:Lit→Bool} {f:List UInt8→Value} {zf:List UInt8→List AZ} (h:zeA x L left f zf) (j:x.grownBy y (some k)) (C: ∀p:Addr,p.block=k→x.cell? p=none):zeA y L left f zf:=fun g i o=>by
 obtain ⟨ao,cp,B,A⟩:=h g i o
 exact ⟨ao,cp,B,zcP j C A⟩
theorem zeA.keep {x y:World} {L:List CE} {left:Lit→Bool} {f:List UInt8→Value} {zf:List UInt8→List AZ} (h:zeA x L left f zf) (o:Below x.heap.size x y):zeA y L left f zf:=fun g i j=>by
 obtain ⟨ao,cp,A,p⟩:=h g i j
 exact ⟨ao,cp,A,RowX.keep zaQ p o⟩
theorem zkL {x y z:World} {A:Nat} {L:List CE} {left:Lit→Bool} {f:List UInt8→Value} {zf:List UInt8→List AZ} (h:zeA x L left f zf) (E:Below x.heap.size x y) (C: ∀p:Addr,p.block=A→y.cell? p=none) {e:CE} {o:Option Addr} {B:Nat} (H:RowX 1 clZ y o (zf e.nm)) (D:y.grownBy z (some A)):
  zeA z L (fun t=>left t&& !t.sameKey (.string e.nm)) (updV f e.nm (.slice o (zf e.nm).length B)) zf:=fun g j i=>by
 by_cases q:g.nm=e.nm
 ·rw [q]
  exact ⟨o,B,by simp [updV],zcP D C H⟩
 ·dsimp only at i
  rw [zdP,show (g.nm==e.nm)=false from beq_eq_false_iff_ne.2 q] at i
  obtain ⟨ao,cp,I,G⟩:=h g j (by simpa using i)
  exact ⟨ao,cp,by simp [updV,q,I],zcP D C (RowX.keep zaQ G E)⟩
theorem came {L:List CE} {n:List UInt8} {o:DataW Value} (h: ∀zd,(DL L).atKey (.string n) zd=o): ∃e∈L,e.nm=n∧o= .held e.val:=by
 cases g:zaJ n L with
 |none=>
  have f:=h (.held (.bool true))
  have j:=h (.held (.bool false))
  rw [zkK,g] at f j
  rw [←j] at f
  simp at f
 |some e=>
  obtain ⟨p,i⟩:=zbD g
  have f:=h (.held (.bool true))
  rw [zkK,g] at f
  exact ⟨e,p,i,f.symm⟩
theorem znU (c M:Nat) (L:List CE) (zf:List UInt8→List AZ) (w:World) (h:CacZ w c M L zf):
  Calls Tryz.prog 11 #[.pointer (some ⟨c,0,none⟩)] w fun e w'=> ∃(N I:Nat) (f:List UInt8→Value),e= .returned (.pointer (some ⟨N,0,none⟩))∧CacZ w' N I (L.map fun e=>⟨e.nm,e.un,f e.nm⟩) zf∧w.heap.size≤N∧w.heap.size≤I∧Below w.heap.size w w':=by
 have HH:=zoV h
 have hc:=zaD h.cac.box 0
 simp at hc
 have HC:=zoV hc
 have HN:=zoV (zeG w)
 have qH:=zoV h.cac.map.2
 have qV:=zoV h.len
 clear h hc
 go_enter Tryz.func11,Tryz.ntmps11
 go_wp2_with fail
 refine HN.out.mono ?_
 rintro e0 x1 ⟨N,I,rfl,B,qW,qY,qg⟩
 have qo:=(HH.out.cac.keep qg).map.1
 have Qt:=(qg.cell (World.block_lt_of_cell? w _ HC.out)).trans HC.out
 have H:=zoV B
 have qi:=zoV qY
 have Qm:=zoV qW
 have U:=zoV qg
 have Qh:Hid (M<w.heap.size):=HH.out.cac.map.1.lt
 clear B qW qY qg
 go_wp2_with (first
  |(at_range;refine wpList_range_own _ rfl _ 55 rfl 34 60 zaO Tryz.underlying55 zbL M L.length _ rfl qo ?_;intro w0 qv V Qc)
  |go_in)
 try go_frame
 have qb:Below x1.heap.size x1 w0:=⟨V.os,V.tape,V.output,V.size,fun k hk=>V.block k hk (by simp)⟩
 have qL:=zoV (H.out.keep qb)
 have qX:=zoV (U.out.trans (qb.mono U.out.size))
 have qh:Hid (I<x1.heap.size∧N<x1.heap.size):=⟨H.out.map.1.lt,zaH H.out.box⟩
 have qq:=zoV qv
 clear qo Qt qv V Qc qb H
 generalize x1.heap.size=r at*
 go_loopw [14] (fun _ wr=> ∃(left:Lit→Bool) (qS:Nat) (f:List UInt8→Value),Hid (wr.ranges Tryz.prog 34 zbL M r L.length (DL L) left qS)∧Hid (CacS wr N I (zcF L left f))∧Hid (zeA wr L left f zf)∧Hid (Below w.heap.size w wr))
  (fun _ wr=>wr.rangeLeft M r)
 case atStart=>
  have hl: ∀e∈L,Maps.has (DL L) (.string e.nm)=true:=fun e Y=>by rw [znJ,zcH qH.out Y];rfl
  exact ⟨Maps.has (DL L),Maps.size (DL L),fun _=> .bool true,qq,by rw [zjZ hl];exact qL,(fun g hg Qe=>absurd ((hl g hg).symm.trans Qe) (by decide)),qX⟩
 case round=>
  obtain ⟨left,qS,f,qZ,R,qC,qj⟩:=hrel
  have qc:=qZ.out
  go_wp2_with (first
   |(at_next;refine wpList_next_ranges (α:=ByteArray) (β:=Int×Option Addr×Nat×Nat) _ rfl _ rfl 34 zaO zbL (fun s=> .string s) (fun p=> .agg #[.int .i64 p.1,.slice p.2.1 p.2.2.1 p.2.2.2]) (fun Qw kl hk=>by
     obtain ⟨s,rfl,_⟩:=WideMaps.string_of_keyOf Tryz.underlying34 hk
     exact ⟨s,rfl⟩) (fun v y hv=>by
     obtain ⟨u,a,k,c,rfl,_⟩:=zaX hv
     exact ⟨(u,a,k,c),rfl⟩) M r L.length _ _ _ rfl qc ?_ ?_)
   |go_in)
  ·intro _ qE
   have HE:Hid (∀e∈L,left (.string e.nm)=false):=fun e _=>qE _
   clear qc qE
   go_wp2
   go_ret
   refine ⟨N,I,f,rfl,⟨by rw [←zmP HE.out f];exact R.out,fun x hx=> ?_,fun x hx=> ?_,by rw [List.length_map];exact qV.out⟩,Qm.out,qi.out,qj.out⟩
   ·obtain ⟨e,Y,rfl⟩:=List.mem_map.1 hx
    exact qC.out e Y (HE.out e Y)
   ·obtain ⟨e,Y,rfl⟩:=List.mem_map.1 hx
    exact HH.out.few e Y
  ·intro s u a k c3 kl yd yp w1 qn qx qM hv qG qf qR qa B Qj
   obtain ⟨s',es,rfl,Qi⟩:=WideMaps.string_of_keyOf Tryz.underlying34 qx
   cases es
   obtain ⟨e,Y,qw,rfl⟩:=came qG
   obtain ⟨u0,a0,k0,c0,Qf,hy⟩:=zaX hv
   have P:e.val= .agg #[.int .i64 u,.slice a k c3]:=by
    simp only [Prod.mk.injEq,DataW.held.injEq] at hy
    exact hy.1
   obtain ⟨ao,cp,qU,qp⟩:=HH.out.row e Y
   unfold CE.val at P
   rw [qU] at P
   simp at P
   obtain ⟨rfl,rfl,rfl,rfl⟩:=P
   obtain rfl:s=⟨e.nm.toArray⟩:=by cases s;simp [qw]
   rw [show (⟨e.nm.toArray⟩:ByteArray).data.toList=e.nm by simp] at qM qf
   have Qs:=zoV Y
   have Qd:=zoV (HH.out.few e Y).1
   have qO: ∀p:Addr,p.block=r→wr.cell? p=none:=by
    obtain ⟨_,_,_,_,_,_,_,_,_,hr,_⟩:=qc
    exact ziM hr
   have H:Hid (CacS w1 N I (zcF L left f)):=⟨(qa.block N (zaH R.out.box) (fun q=>by have:=qh.out.2;have:=Option.some.inj q;omega)).trans R.out.box,R.out.map.same (qa.block I R.out.map.1.lt (fun q=>by have:=qh.out.1;have:=Option.some.inj q;omega))⟩
   have qP:=zoV (qC.out.grown qa qO)
   have Qq:Hid (w.heap.size≤r):=by have:=qh.out.1;have:=qi.out;show w.heap.size≤r;omega
   have U:=zoV (qj.out.grown qa qj.out.size (fun k hk=>by cases hk;exact Qq.out))
   have Qk:=zoV qc.left_eq
   have Qr:=zoV qR
   obtain ⟨G,qd⟩: ∃y,y=w1.alloc (.cells #[.int .i64 e.un,.slice ao (zf e.nm).length cp] 60):=⟨_,rfl⟩
   have O:Below w1.heap.size w1 G:=by rw [qd];exact (zoZ _ _).alloc (zoW _) _
   have qT:Hid (G.ranges Tryz.prog 34 zbL M r L.length (DL L) (fun z=>left z&& !z.sameKey (.string e.nm)) qn):=by rw [qd];exact qf.alloc _
   have Z:G.heap[wr.heap.size]? =some (.cells #[.int .i64 e.un,.slice ao (zf e.nm).length cp] 60):=by rw [qd,←B];exact heap_alloc_new w1 _
   have qK:=zoV (H.out.keep O)
   have Qg:=zoV (qP.out.keep O)
   have T:=zoV (U.out.trans (O.mono U.out.size))
   have e0:=zaD Z 0
   have e1:=zaD Z 1
   simp at e0 e1
   have qB:=zaD qK.out.box 0
   simp at qB
   have HE:Hid (G.cell? ⟨N,0,none⟩=some (.map (some I))∧G.cell? ⟨wr.heap.size,0,none⟩=some (.int .i64 e.un)∧G.cell? ⟨wr.heap.size,1,none⟩=some (.slice ao (zf e.nm).length cp)):=⟨qB,e0,e1⟩
   have Qo:Hid (∀X,Below G.heap.size G X→Calls Tryz.prog 25 #[.slice ao (zf e.nm).length cp] X fun e w'=> ∃v,e= .returned v∧OwnX 48 1 clZ w' X.heap.size v (zf _)∧Below X.heap.size X w'):=fun X hX=>zbB ao cp (zf e.nm) X (RowX.keep zaQ qp (T.out.trans (hX.mono T.out.size))) (HH.out.few e Y).2.2
   have qN:Hid (some M≠some I∧some r≠some I):=⟨fun q=>by have:=Option.some.inj q;have:=Qh.out;have:=qi.out;omega,fun q=>by have:=Option.some.inj q;have:=qh.out.1;omega⟩
   have qI:G.drew.cell? ⟨N,0,none⟩=some (.map (some I))∧G.drew.cell? ⟨wr.heap.size,0,none⟩=some (.int .i64 e.un)∧G.drew.cell? ⟨wr.heap.size,1,none⟩=some (.slice ao (zf e.nm).length cp):=HE.out
   clear qc qf qa qO qM qG qx qR Z e0 e1 qB qp qU hv Qf hy O qZ R qC qj qq qL qX H qP U Y Qi qw
   go_upto_region 7 with fail
   rw [←qd]
   clear qd Qj
   go_wp2_with fail
   refine wp_region_held_drew (S:=fun W=>W.cell? ⟨N,0,none⟩=some (.map (some I))∧W.cell? ⟨wr.heap.size,0,none⟩=some (.int .i64 e.un)∧W.cell? ⟨wr.heap.size,1,none⟩=some (.slice ao (zf e.nm).length cp)) (by kernel_rfl) ?_ (fun A=> ?_)
   ·exact qI
   refine tkQ 0 (some 19) (v:= ?_) rfl (.inl ⟨by rfl,?_⟩) A ?_
   rotate_left
   ·intro w i
    (try dsimp only at i)
    obtain ⟨B,D,E⟩:=i
    go_simp
    try with_reducible rfl
   try simp only [Act.put,tkQa,tkQb,tkQc]
   refine tkQ 1 (some 20) (v:= ?_) rfl (.inl ⟨by rfl,?_⟩) A ?_
   rotate_left
   ·intro w i
    (try dsimp only at i)
    obtain ⟨B,D,E⟩:=i
    go_simp
    try with_reducible rfl
   try simp only [Act.put,tkQa,tkQb,tkQc]
   refine tkQ 2 (some 21) (v:= ?_) rfl (.inl ⟨by rfl,?_⟩) A ?_
   rotate_left
   ·intro w i
    (try dsimp only at i)
    obtain ⟨B,D,E⟩:=i
    go_simp
    try with_reducible rfl
   try simp only [Act.put,tkQa,tkQb,tkQc]
   refine tkQ 3 (some 22) (v:= ?_) rfl (.inl ⟨by rfl,?_⟩) A ?_
   rotate_left
   ·intro w i
    (try dsimp only at i)
    obtain ⟨B,D,E⟩:=i
    go_simp
    try with_reducible rfl
   try simp only [Act.put,tkQa,tkQb,tkQc]
   refine tkQ 4 (some 23) (v:= ?_) rfl (.inl ⟨by rfl,?_⟩) A ?_
   rotate_left
   ·intro w i
    (try dsimp only at i)
    obtain ⟨B,D,E⟩:=i
    go_simp
    try with_reducible rfl
   try simp only [Act.put,tkQa,tkQb,tkQc]
   refine tkQ 5 (some 24) (v:= ?_) rfl (.inl ⟨by rfl,?_⟩) A ?_
   rotate_left
   ·intro w i
    (try dsimp only at i)
    obtain ⟨B,D,E⟩:=i
    go_simp
    try with_reducible rfl
   try simp only [Act.put,tkQa,tkQb,tkQc]
   refine tkQ 6 (some 25) (v:= ?_) rfl (.inl ⟨by rfl,?_⟩) A ?_
   rotate_left
   ·intro w i
    (try dsimp only at i)
    obtain ⟨B,D,E⟩:=i
    go_simp
    try with_reducible rfl
   try simp only [Act.put,tkQa,tkQb,tkQc]
   refine tkQ 7 (some 26) (v:= ?_) rfl (.inl ⟨by rfl,?_⟩) A ?_
   rotate_left
   ·intro w i
    (try dsimp only at i)
    obtain ⟨B,D,E⟩:=i
    go_simp
    try with_reducible rfl
   try simp only [Act.put,tkQa,tkQb,tkQc]
   refine tkQ 8 (some 27) (v:= ?_) rfl (.inl ⟨by rfl,?_⟩) A ?_
   rotate_left
   ·intro w i
    (try dsimp only at i)
    obtain ⟨B,D,E⟩:=i
    go_simp
    try with_reducible rfl
   try simp only [Act.put,tkQa,tkQb,tkQc]
   refine wpAnyH_ready (rs:=[9]) (by kernel_rfl) (by simp) ?_
   refine AllReadyH.cons (o:=⟨some 28,_,_,_,_,_⟩) rfl (fun K hK=> ?_) AllReadyH.nil
   go_simp
   go_at_call 25
   refine (Qo.out _ (zaF _)).mono ?_
   rintro e5 x5 ⟨v5,rfl,qA,qQ⟩
   obtain ⟨a5,c5,rfl⟩:=qA.form
   have j:=(zaF G).trans qQ
   have J:=qK.out.keep j
   have qJ:G.grownBy x5 none:=⟨j.os,j.tape,j.output,j.size,fun k hk _=>j.block k hk⟩
   have qz:=qT.out.kept qJ (by simp) (by simp)
   have ql:x5.cell? ⟨N,0,none⟩=some (.map (some I))∧x5.cell? ⟨wr.heap.size,0,none⟩=some (.int .i64 e.un)∧x5.cell? ⟨wr.heap.size,1,none⟩=some (.slice ao (zf e.nm).length cp):=⟨(j.cell (World.block_lt_of_cell? G _ HE.out.1)).trans HE.out.1,(j.cell (World.block_lt_of_cell? G _ HE.out.2.1)).trans HE.out.2.1,(j.cell (World.block_lt_of_cell? G _ HE.out.2.2)).trans HE.out.2.2⟩
   obtain ⟨x6,Qv,qe,C⟩:=J.map.1.update zaO Tryz.underlying55 (by have:=zjU L left f;have:=qV.out;unfold maxLen;omega) (zbM Qd.out) (zbI e.un a5 (zf e.nm).length c5)
   have qD:=zdV (e:=⟨e.nm,e.un,.slice a5 (zf e.nm).length c5⟩) J qe C
   rw [←zlU qH.out Qs.out] at qD
   have Ql:=zoV qD
   have qm:=zoV (qz.kept C qN.out.1 qN.out.2)
   have Qb:=zoV ((T.out.trans (j.mono T.out.size)).grown C (T.out.trans (j.mono T.out.size)).size (fun k hk=>by cases hk;exact qi.out))
   have Qp:Hid (∀g∈L,(left (.string g.nm)&& !(Lit.string g.nm).sameKey (.string e.nm))=false→ ∃ao cp,updV f e.nm (.slice a5 (zf e.nm).length c5) g.nm= .slice ao (zf g.nm).length cp∧RowX 1 clZ x6 ao (zf g.nm)):=zkL Qg.out j (map_none J.map) (e:=e) (qA.row zaQ) C
   have qF:x6.cell? ⟨N,0,none⟩=some (.map (some I))∧x6.cell? ⟨wr.heap.size,0,none⟩=some (.int .i64 e.un)∧x6.cell? ⟨wr.heap.size,1,none⟩=some (.slice ao (zf e.nm).length cp):=⟨(zbV C (map_none J.map) ql.1),(zbV C (map_none J.map) ql.2.1),(zbV C (map_none J.map) ql.2.2)⟩
   have Qn:=zoV qF
   clear J qA qQ j qe C qJ qz qD qF
   (try go_wp2_with fail)
   obtain ⟨qr,qs,qy⟩:=ql
   refine hK.out _ _ ?_ (fun qk=> ?_)
   ·exact ⟨qr,qs,qy⟩
   clear hK K
   try simp only [Act.put,tkQa,tkQb,tkQc]
   refine tkQ 10 (some 29) (v:= ?_) rfl (.inl ⟨by rfl,?_⟩) qk ?_
   rotate_left
   ·intro w i
    (try dsimp only at i)
    obtain ⟨B,D,E⟩:=i
    go_simp
    try with_reducible rfl
   try simp only [Act.put,tkQa,tkQb,tkQc]
   refine wpAnyH_ready (rs:=[11]) (by kernel_rfl) (by simp) ?_
   refine AllReadyH.cons (o:=⟨none,_,_,_,_,_⟩) rfl (fun K hK=> ?_) AllReadyH.nil
   go_simp
   refine hK.out _ _ ?_ (fun Qa=> ?_)
   ·exact Qn.out
   clear hK K
   try simp only [Act.put,tkQa,tkQb,tkQc]
   refine wpAnyH_done (by kernel_rfl) ?_ _
   clear qr qs qy qI
   go_wp2
   go_roundw
   case rel=>exact ⟨_,qn,_,qm,Ql,Qp,Qb⟩
   case measure=>rw [qm.out.left_eq,Qk.out];exact Qr.out
def On.az (x:On):AZ:=AZ.make x.is (x.hi:Nat) (x.lo:Nat)
theorem RowX.at3 {wr:World} {a:Option Addr} {g:List On} (h:RowX 3 On.cl wr a g) {j:Nat} (o:j<g.length):
  ∃(f:Addr) (_:a=some f) (x:On),g[j]? =some x∧wr.cell? (f.add (j*3))=some (.bool x.is)∧wr.cell? ⟨(f.add (j*3)).block,(f.add (j*3)).off+1,none⟩=some (.int .u64 (x.hi:Nat))∧wr.cell? ⟨(f.add (j*3)).block,(f.add (j*3)).off+2,none⟩=some (.int .u64 (x.lo:Nat)):=by
 obtain ⟨f,A,i⟩:=h j g[j] (List.getElem?_eq_getElem o)
 have y:f.add (j*3+1)=⟨(f.add (j*3)).block,(f.add (j*3)).off+1,none⟩:=by rw [←Go.Deep.add_add];rfl
 have p:f.add (j*3+2)=⟨(f.add (j*3)).block,(f.add (j*3)).off+2,none⟩:=by rw [←Go.Deep.add_add];rfl
 refine ⟨f,A,g[j],List.getElem?_eq_getElem o,?_,?_,?_⟩
 ·exact i 0 (by omega)
 ·rw [←y];exact i 1 (by omega)
 ·rw [←p];exact i 2 (by omega)
theorem zdK (w:World) (v:Value) (t:TypeId): ∀(j:Nat) (u:Value),[v][j]? =some u→(w.alloc (.cells #[v] t)).cell? ((⟨w.heap.size,0,none⟩:Addr).add j)=some u:=by
 intro j u f
 have e:(⟨w.heap.size,0,none⟩:Addr).add j=⟨w.heap.size,j,none⟩:=by simp [Addr.add];intro h;omega
 rw [e,zaD (heap_alloc_new w _)]
 simpa using f
theorem AZ.oneC (x:AZ): ∀u∈[x.val],u.oneCell'=true:=by
 intro u f
 simp at f
 subst f
 cases x<;>rfl
theorem zbR (la:Option Addr) (lc:Nat) (l:List On) (w:World) (hr:RowX 3 On.cl w la l) (hl:l.length≤1000):
  Calls Tryz.prog 13 #[.slice la l.length lc] w fun e w'=> ∃v,e= .returned v∧OwnX 48 1 clZ w' w.heap.size v (l.map On.az)∧Below w.heap.size w w':=by
 have C:=zoV hr
 clear hr
 obtain ⟨i0,T,N,P,U⟩:=zbF infoA
 have qa:Hid (70≠48):=by show _≠_;decide
 go_enter Tryz.func13,Tryz.ntmps13
 go_wp2
 go_loopw [3,8] (fun v i wr=> ∃j:Nat,j≤l.length∧i= .int .i64 j∧Hid (LX 48 1 clZ w wr w.heap.size [] v ((l.take j).map On.az))) (fun _ i _=>l.length - (intOf i).toNat)
 case atStart=>exact ⟨0,Nat.zero_le _,rfl,LX.first [] (zoZ _ _) (Blks.empty _)⟩
 case round=>
  obtain ⟨j,hj,rfl,G⟩:=hrel
  by_cases I:j<l.length
  ·have qb:(j:Int)<l.length:=by omega
   obtain ⟨ad,rfl,x,hx,r0,r1,r2⟩:=(RowX.keep On.len C.out G.out.below).at3 I
   have HN:Hid ((l.take (j+1)).map On.az=(l.take j).map On.az++[x.az]):=by show _=_;rw [List.take_add_one,hx,List.map_append];rfl
   have qc:((l.take j).map On.az).length≤1000:=by rw [List.length_map,List.length_take];omega
   generalize (l.take j).map On.az=Z at*
   obtain ⟨y,H⟩: ∃y,y=wr.alloc (.cells #[.bool x.is,.int .u64 (x.hi:Nat),.int .u64 (x.lo:Nat)] 70):=⟨_,rfl⟩
   have V:Below wr.heap.size wr y:=by rw [H];exact (zoZ _ _).alloc (zoW _) _
   have f:y.heap[wr.heap.size]? =some (.cells #[.bool x.is,.int .u64 (x.hi:Nat),.int .u64 (x.lo:Nat)] 70):=by rw [H];exact heap_alloc_new wr _
   have Y:=zoV (G.out.keep V)
   have e0:=zaD f 0
   have e1:=zaD f 1
   have e2:=zaD f 2
   simp at e0 e1 e2
   clear f V
   go_upto_region 5 with fail
   rw [←H]
   clear H r0 r1 r2
   obtain ⟨p,B,o⟩: ∃p B,x.az.val= .iface p B:=by cases x.az<;>exact ⟨_,_,rfl⟩
   have HM:Hid (∀W,Calls Tryz.prog 27 #[.bool x.is,.int .u64 (x.hi:Nat),.int .u64 (x.lo:Nat)] W fun e w'=>e= .returned (.iface p B)∧W=w'):=fun W=>o▸zkP x.is (x.hi:Nat) (x.lo:Nat) W
   have J:Hid (clZ x.az=[.iface p B]):=by show [x.az.val]=_;rw [o]
   have D:=AZ.oneC x.az
   rw [o] at D
   have K:=zdK y (.iface p B) 48
   have E:=zoV (Y.out.keep ((zoZ _ _).alloc (zoW _) (.cells #[.iface p B] 48)))
   clear o
   go_wp2_with fail
   refine (HM.out _).mono ?_
   rintro e z ⟨rfl,rfl⟩
   go_wp2_with (first
    |(at_builtin;refine wpList_append_own _ rfl _ _ 37 rfl w.heap.size 48 i0 .nilIface 1 16 Tryz.underlying37 T N P U rfl (by decide) u3 Z.length (Z.flatMap clZ) rfl E.out.row ⟨y.heap.size,0,none⟩ 1 1 [.iface p B] rfl rfl K D (by unfold maxLen;omega) (by omega) E.out.size ?_;intro s1 w1 A g _)
    |go_in)
   have R:=zoV (Y.out.app (e:=x.az) ((zoZ _ _).alloc (zoW _) _) g (by rw [J.out];exact A))
   have S:Hid (LX 48 1 clZ w w1 w.heap.size [] s1 ((l.take (j+1)).map On.az)):=by rw [HN.out];exact R.out
   go_roundw
   case rel=>exact ⟨j+1,by omega,by go_num,S⟩
   case measure=>simp [intOf];omega
  ·have O:j=l.length:=by omega
   subst O
   rw [List.take_length] at G
   go_wp2
   go_ret
   exact ⟨_,rfl,G.out.row,G.out.below⟩
theorem zgE (c:Nat) (n:ByteArray) (u:Int) (ao:Option Addr) (cp:Nat) (w:World):
  Calls Tryz.prog 12 #[.pointer (some ⟨c,0,none⟩),.string n,.int .i64 u,.slice ao 0 cp] w fun e w'=>e= .returned (.bool false)∧w=w':=by
 go_enter Tryz.func12,Tryz.ntmps12
 go_wp2
 go_ret
 exact ⟨rfl,rfl⟩
theorem RowX.r1A {w:World} {a:Option Addr} {g:List AZ} (h:RowX 1 clZ w a g) {k:Nat} {x:AZ} (j:g[k]? =some x): ∃(f:Addr) (_:a=some f),w.cell? (f.add k)=some x.val:=by
 obtain ⟨f,o,i⟩:=h k x j
 have:=i 0 (by omega)
 rw [Nat.mul_one] at this
 exact ⟨f,o,this⟩
theorem zcQ {x y:World} {B M:Nat} (h:Only [M] x y) (g:B≤M) (f:B≤x.heap.size):Below B x y:=
 ⟨h.os,h.tape,h.output,h.size,fun k i=>h.block k (by omega) (fun e=>by have:=List.mem_singleton.1 e;omega)⟩
theorem zoF (c M:Nat) (L:List CE) (zf:List UInt8→List AZ) (n:List UInt8) (u:Int) (ao:Option Addr) (f:List AZ) (cp:Nat) (w:World) (h:CacZ w c M L zf) (A:n.length≤maxLen) (g:f.length≤1000000) (y:RowX 1 clZ w ao f):
  Calls Tryz.prog 12 #[.pointer (some ⟨c,0,none⟩),.string ⟨n.toArray⟩,.int .i64 u,.slice ao f.length cp] w fun e w'=>e= .returned (.bool (!f.isEmpty))∧ ∃o j,CacZ w' c M o j∧Only [M] w w':=by
 cases i:f with
 |nil=>
  refine (zgE c _ u ao cp w).mono ?_
  rintro e w' ⟨rfl,rfl⟩
  exact ⟨rfl,L,zf,h,Only.of_below (zoZ _ _)⟩
 |cons z l=>
  rw [←i]
  refine (put_z c M L zf n u ao f cp w h A (by rw [i];simp) g y).mono ?_
  rintro e w' ⟨rfl,v,B,p⟩
  exact ⟨by rw [i];rfl,_,_,B,p⟩
theorem CacZ.other {x y:World} {M g f:Nat} {L o:List CE} {zf:List UInt8→List AZ} (h:CacZ x g f o zf) (A:MapS x M L) (j:Only [M] x y) (i:f≠M):CacZ y g f o zf:=by
 have G:g≠M:=fun e=>by
  obtain ⟨⟨H,k,C,_⟩,_⟩:=A
  have:=h.cac.box
  rw [e,C] at this
  cases this
 have E:CacS y g f o:=⟨(j.block g (zaH h.cac.box) (fun e=>G (List.mem_singleton.1 e))).trans h.cac.box,h.cac.map.same (j.block f h.cac.map.1.lt (fun e=>i (List.mem_singleton.1 e)))⟩
 exact ⟨E,fun e p=>by
  obtain ⟨ao,cp,D,B⟩:=h.row e p
  exact ⟨ao,cp,D,zbT B (zeB A B (h.few e p).2.1) j⟩,h.few,h.len⟩
theorem RowX.at4 {wr:World} {a:Option Addr} {g:List Ac} (h:RowX 4 Ac.cl wr a g) {j:Nat} (o:j<g.length):
  ∃(f:Addr) (_:a=some f) (x:Ac),g[j]? =some x∧x∈g∧wr.cell? (f.add (j*4))=some (.int .u8 x.d)∧wr.cell? ⟨(f.add (j*4)).block,(f.add (j*4)).off+1,none⟩=some (.string x.nm)∧wr.cell? ⟨(f.add (j*4)).block,(f.add (j*4)).off+2,none⟩=some (.int .i64 x.at')∧wr.cell? ⟨(f.add (j*4)).block,(f.add (j*4)).off+3,none⟩=some (.slice x.la x.l.length x.lc):=by
 obtain ⟨f,B,i⟩:=h j g[j] (List.getElem?_eq_getElem o)
 have y:f.add (j*4+1)=⟨(f.add (j*4)).block,(f.add (j*4)).off+1,none⟩:=by rw [←Go.Deep.add_add];rfl
 have p:f.add (j*4+2)=⟨(f.add (j*4)).block,(f.add (j*4)).off+2,none⟩:=by rw [←Go.Deep.add_add];rfl
 have A:f.add (j*4+3)=⟨(f.add (j*4)).block,(f.add (j*4)).off+3,none⟩:=by rw [←Go.Deep.add_add];rfl
 refine ⟨f,B,g[j],List.getElem?_eq_getElem o,List.getElem_mem o,?_,?_,?_,?_⟩
 ·exact i 0 (by omega)
 ·rw [←y];exact i 1 (by omega)
 ·rw [←p];exact i 2 (by omega)
 ·rw [←A];exact i 3 (by omega)
theorem RowX.r1N {w:World} {a:Option Addr} {g:List (List UInt8)} (h:RowX 1 clN w a g) {k:Nat} {x:List UInt8} (j:g[k]? =some x): ∃(f:Addr) (_:a=some f),w.cell? (f.add k)=some (.string ⟨x.toArray⟩):=by
 obtain ⟨f,o,i⟩:=h k x j
 have:=i 0 (by omega)
 rw [Nat.mul_one] at this
 exact ⟨f,o,this⟩
def clE (e:CE):List Value:=[.string ⟨e.nm.toArray⟩,.int .i64 e.un,e.sv]
theorem zaN (e:CE):(clE e).length=3:=rfl
def SlE (e:CE):Prop:= ∃a n c,e.sv= .slice a n c
theorem zoH:(Tryz.prog.info? 64).map (fun i=>(i.zero,i.size,i.bytes))=some (some (.agg #[.string ⟨#[]⟩,.int .i64 0,.slice none 0 0]),3,48):=by kernel_rfl
theorem zaT (w:World) (c:List Value) (t:TypeId): ∀(j:Nat) (u:Value),c[j]? =some u→(w.alloc (.cells c.toArray t)).cell? ((⟨w.heap.size,0,none⟩:Addr).add j)=some u:=by
 intro j u f
 have e:(⟨w.heap.size,0,none⟩:Addr).add j=⟨w.heap.size,j,none⟩:=by simp [Addr.add];intro h;omega
 rw [e,zaD (heap_alloc_new w _)]
 simpa using f
theorem oneE (n:List UInt8) (x:Int) (a:Option Addr) (k c:Nat): ∀u∈[Value.string ⟨n.toArray⟩,.int .i64 x,.slice a k c],u.oneCell'=true:=by
 intro u f
 simp at f
 rcases f with rfl|rfl|rfl<;>rfl
theorem RowX.at3E {wr:World} {a:Option Addr} {g:List CE} (h:RowX 3 clE wr a g) {j:Nat} (o:j<g.length):
  ∃(f:Addr) (_:a=some f) (x:CE),g[j]? =some x∧x∈g∧wr.cell? (f.add (j*3))=some (.string ⟨x.nm.toArray⟩)∧wr.cell? ⟨(f.add (j*3)).block,(f.add (j*3)).off+1,none⟩=some (.int .i64 x.un)∧wr.cell? ⟨(f.add (j*3)).block,(f.add (j*3)).off+2,none⟩=some x.sv:=by
 obtain ⟨f,A,i⟩:=h j g[j] (List.getElem?_eq_getElem o)
 have y:f.add (j*3+1)=⟨(f.add (j*3)).block,(f.add (j*3)).off+1,none⟩:=by rw [←Go.Deep.add_add];rfl
 have p:f.add (j*3+2)=⟨(f.add (j*3)).block,(f.add (j*3)).off+2,none⟩:=by rw [←Go.Deep.add_add];rfl
 refine ⟨f,A,g[j],List.getElem?_eq_getElem o,List.getElem_mem o,?_,?_,?_⟩
 ·exact i 0 (by omega)
 ·rw [←y];exact i 1 (by omega)
 ·rw [←p];exact i 2 (by omega)
theorem zmQ {a b:List UInt8} (h:a≠b):(⟨a.toArray⟩:ByteArray)≠⟨b.toArray⟩:=fun e=>h (by have:=congrArg (fun s:ByteArray=>s.data.toList) e;simpa using this)
theorem zdB {p:CE→Bool} {Q:List CE} {k:Nat} {e:CE} (h:Q[k]? =some e):(Q.take (k+1)).filter p=(Q.take k).filter p++(if p e then [e] else []):=by
 rw [List.take_add_one,h,List.filter_append]
 cases f:p e<;>simp [f]
theorem zcE (ao:Option Addr) (cp:Nat) (Q:List CE) (n:List UInt8) (w:World) (hr:RowX 3 clE w ao Q) (hs: ∀e∈Q,SlE e) (hl:Q.length≤1000):
  Calls Tryz.prog 28 #[.slice ao Q.length cp,.string ⟨n.toArray⟩] w fun e w'=> ∃v,e= .returned v∧OwnX 64 3 clE w' w.heap.size v (delE n Q)∧Below w.heap.size w w':=by
 have D:=zoV hr
 have Y:=zoV hs
 clear hr hs
 obtain ⟨i0,qa,S,U,qb⟩:=zbF zoH
 go_enter Tryz.func28,Tryz.ntmps28
 go_wp2
 go_loopw [5,10] (fun v i wr=> ∃j:Nat,j≤Q.length∧i= .int .i64 j∧Hid (LX 64 3 clE w wr w.heap.size [] v (delE n (Q.take j)))) (fun _ i _=>Q.length - (intOf i).toNat)
 case atStart=>exact ⟨0,Nat.zero_le _,rfl,LX.first [] (zoZ _ _) (Blks.empty _)⟩
 case round=>
  obtain ⟨j,hj,rfl,G⟩:=hrel
  by_cases K:j<Q.length
  ·have qc:(j:Int)<Q.length:=by omega
   have qg:(delE n (Q.take j)).length≤1000:=by
    have h1:(delE n (Q.take j)).length≤(Q.take j).length:=List.length_filter_le _ _
    rw [List.length_take] at h1
    omega
   obtain ⟨ad,rfl,e,he,Z,r0,r1,r2⟩:=(RowX.keep zaN D.out G.out.below).at3E K
   obtain ⟨C,A,o,H⟩:=Y.out e Z
   rw [H] at r2
   obtain ⟨y,J⟩: ∃y,y=wr.alloc (.cells #[.string ⟨e.nm.toArray⟩,.int .i64 e.un,.slice C A o] 64):=⟨_,rfl⟩
   have hb:Below wr.heap.size wr y:=by rw [J];exact (zoZ _ _).alloc (zoW _) _
   have f:y.heap[wr.heap.size]? =some (.cells #[.string ⟨e.nm.toArray⟩,.int .i64 e.un,.slice C A o] 64):=by rw [J];exact heap_alloc_new wr _
   have R:=zoV (G.out.keep hb)
   have e0:=zaD f 0
   have e1:=zaD f 1
   have e2:=zaD f 2
   simp at e0 e1 e2
   clear f hb
   go_upto_region 5 with fail
   rw [←J]
   clear J r0 r1 r2
   have HF:Hid (delE n (Q.take (j+1))=delE n (Q.take j)++(if !(e.nm==n) then [e] else [])):=zdB he
   generalize delE n (Q.take j)=I at*
   by_cases q:e.nm=n
   ·have B:Hid (delE n (Q.take (j+1))=I):=by show _=_;have:=HF.out;rw [q] at this;simpa using this
    rw [q] at e0
    go_wp2
    go_roundw
    case rel=>exact ⟨j+1,by omega,by go_num,by rw [B.out];exact R⟩
    case measure=>simp [intOf];omega
   ·have B:Hid (delE n (Q.take (j+1))=I++[e]):=by show _=_;have:=HF.out;rw [show (e.nm==n)=false from beq_eq_false_iff_ne.2 q] at this;simpa using this
    have hq:=zmQ q
    have qf:(e.nm !=n)=true:=by simpa using q
    have qe:(e.nm==n)=false:=by simpa using q
    have qd:decide (e.nm=n)=false:=by simpa using q
    clear HF
    have N:=oneE e.nm e.un C A o
    have O:=zaT y [.string ⟨e.nm.toArray⟩,.int .i64 e.un,.slice C A o] 64
    have E:=zoV (R.out.keep ((zoZ _ _).alloc (zoW _) (.cells #[.string ⟨e.nm.toArray⟩,.int .i64 e.un,.slice C A o] 64)))
    go_wp2_with (first
    |(at_builtin;refine wpList_append_own _ rfl _ _ 26 rfl w.heap.size 64 i0 (.agg #[.string ⟨#[]⟩,.int .i64 0,.slice none 0 0]) 3 48 Tryz.underlying26 qa S U qb rfl (by decide) u5 I.length (I.flatMap clE) rfl E.out.row ⟨y.heap.size,0,none⟩ 1 1 [.string ⟨e.nm.toArray⟩,.int .i64 e.un,.slice C A o] rfl rfl O N (by unfold maxLen;omega) (by omega) E.out.size ?_;intro s1 w1 p g _)
    |go_in)
    have P:Hid (clE e=[.string ⟨e.nm.toArray⟩,.int .i64 e.un,.slice C A o]):=by show clE e=_;unfold clE;rw [H]
    have V:=zoV (R.out.app (e:=e) ((zoZ _ _).alloc (zoW _) _) g (by rw [P.out];exact p))
    go_roundw
    case rel=>exact ⟨j+1,by omega,by go_num,by rw [B.out];exact V⟩
    case measure=>simp [intOf];omega
  ·have T:j=Q.length:=by omega
   subst T
   rw [List.take_length] at G
   go_wp2
   go_ret
   exact ⟨_,rfl,G.out.row,G.out.below⟩
theorem zdH (ao:Option Addr) (cp:Nat) (Q:List CE) (f:Int) (w:World) (hr:RowX 3 clE w ao Q) (hs: ∀e∈Q,SlE e) (hl:Q.length≤1000):
  Calls Tryz.prog 10 #[.slice ao Q.length cp,.int .i64 f] w fun e w'=> ∃v,e= .returned (.tuple #[v,.int .i64 ((Q.length:Int) - ((Q.filter (zaI f)).length:Int))])∧OwnX 64 3 clE w' w.heap.size v (Q.filter (zaI f))∧Below w.heap.size w w':=by
 have G:=zoV hr
 have qd:=zoV hs
 clear hr hs
 obtain ⟨i0,qg,V,qb,qh⟩:=zbF zoH
 go_enter Tryz.func10,Tryz.ntmps10
 go_wp2
 go_loopw [6,11] (fun v i wr=> ∃j:Nat,j≤Q.length∧i= .int .i64 j∧Hid (LX 64 3 clE w wr w.heap.size [] v ((Q.take j).filter (zaI f)))) (fun _ i _=>Q.length - (intOf i).toNat)
 case atStart=>exact ⟨0,Nat.zero_le _,rfl,LX.first [] (zoZ _ _) (Blks.empty _)⟩
 case round=>
  obtain ⟨j,hj,rfl,B⟩:=hrel
  by_cases P:j<Q.length
  ·have qi:(j:Int)<Q.length:=by omega
   have qj:((Q.take j).filter (zaI f)).length≤1000:=by
    have h1:((Q.take j).filter (zaI f)).length≤(Q.take j).length:=List.length_filter_le _ _
    rw [List.length_take] at h1
    omega
   obtain ⟨ad,rfl,e,he,qe,r0,r1,r2⟩:=(RowX.keep zaN G.out B.out.below).at3E P
   obtain ⟨E,C,p,J⟩:=qd.out e qe
   rw [J] at r2
   obtain ⟨y,O⟩: ∃y,y=wr.alloc (.cells #[.string ⟨e.nm.toArray⟩,.int .i64 e.un,.slice E C p] 64):=⟨_,rfl⟩
   have hb:Below wr.heap.size wr y:=by rw [O];exact (zoZ _ _).alloc (zoW _) _
   have g:y.heap[wr.heap.size]? =some (.cells #[.string ⟨e.nm.toArray⟩,.int .i64 e.un,.slice E C p] 64):=by rw [O];exact heap_alloc_new wr _
   have U:=zoV (B.out.keep hb)
   have e0:=zaD g 0
   have e1:=zaD g 1
   have e2:=zaD g 2
   simp at e0 e1 e2
   clear g hb
   go_upto_region 5 with fail
   rw [←O]
   clear O r0 r1 r2
   have HF:Hid ((Q.take (j+1)).filter (zaI f)=(Q.take j).filter (zaI f)++(if zaI f e then [e] else [])):=zdB he
   generalize (Q.take j).filter (zaI f)=N at*
   cases hd:decide (f<e.un) with
   |false=>
    have D:Hid ((Q.take (j+1)).filter (zaI f)=N):=by show _=_;have:=HF.out;rw [show zaI f e=false from hd] at this;simpa using this
    go_wp2
    go_roundw
    case rel=>exact ⟨j+1,by omega,by go_num,by rw [D.out];exact U⟩
    case measure=>simp [intOf];omega
   |true=>
    have D:Hid ((Q.take (j+1)).filter (zaI f)=N++[e]):=by show _=_;have:=HF.out;rw [show zaI f e=true from hd] at this;simpa using this
    clear HF
    have R:=oneE e.nm e.un E C p
    have S:=zaT y [.string ⟨e.nm.toArray⟩,.int .i64 e.un,.slice E C p] 64
    have I:=zoV (U.out.keep ((zoZ _ _).alloc (zoW _) (.cells #[.string ⟨e.nm.toArray⟩,.int .i64 e.un,.slice E C p] 64)))
    go_wp2_with (first
    |(at_builtin;refine wpList_append_own _ rfl _ _ 26 rfl w.heap.size 64 i0 (.agg #[.string ⟨#[]⟩,.int .i64 0,.slice none 0 0]) 3 48 Tryz.underlying26 qg V qb qh rfl (by decide) u6 N.length (N.flatMap clE) rfl I.out.row ⟨y.heap.size,0,none⟩ 1 1 [.string ⟨e.nm.toArray⟩,.int .i64 e.un,.slice E C p] rfl rfl S R (by unfold maxLen;omega) (by omega) I.out.size ?_;intro s1 w1 A o _)
    |go_in)
    have T:Hid (clE e=[.string ⟨e.nm.toArray⟩,.int .i64 e.un,.slice E C p]):=by show clE e=_;unfold clE;rw [J]
    have qc:=zoV (U.out.app (e:=e) ((zoZ _ _).alloc (zoW _) _) o (by rw [T.out];exact A))
    go_roundw
    case rel=>exact ⟨j+1,by omega,by go_num,by rw [D.out];exact qc⟩
    case measure=>simp [intOf];omega
  ·have Y:j=Q.length:=by omega
   subst Y
   rw [List.take_length] at B
   obtain ⟨a9,c9,h9⟩:=B.out.row.form
   subst h9
   have qf:(Q.filter (zaI f)).length≤Q.length:=List.length_filter_le _ _
   have hw:IntKind.i64.wrap ((Q.length:Int) - ((Q.filter (zaI f)).length:Int))=(Q.length:Int) - ((Q.filter (zaI f)).length:Int):=by rw [IntKind.wrap_i64];omega
   have H:=zoV B.out.row
   have qa:=zoV B.out.below
   clear B qf
   generalize K:Q.filter (zaI f)=Q2 at hw H ⊢
   have Z:=zoV K
   clear K
   go_wp2
   refine bodyPost_ret (v:= .tuple #[.slice a9 Q2.length c9,.int .i64 ((Q.length:Int) - (Q2.length:Int))]) (by simp [results,Tryz.results10,go_sem]) rfl ?_
   rw [Z.out]
   exact ⟨_,rfl,H.out,qa.out⟩
theorem zfA (ao:Option Addr) (cp:Nat) (Q:List CE) (n:List UInt8) (f:Int) (w:World) (hr:RowX 3 clE w ao Q) (hs: ∀e∈Q,SlE e) (hl:Q.length≤1000):
  Calls Tryz.prog 30 #[.slice ao Q.length cp,.string ⟨n.toArray⟩,.int .i64 f] w fun e w'=>(∃v g,e= .returned (.tuple #[v,.bool g])∧(g=true→ ∃x∈Q,x.nm=n∧zaI f x=true∧v=x.sv)∧(g=false→v= .slice none 0 0∧ ∀x∈Q,x.nm=n→zaI f x=false))∧Below w.heap.size w w':=by
 have C:=zoV hr
 have T:=zoV hs
 clear hr hs
 go_enter Tryz.func30,Tryz.ntmps30
 go_wp2
 go_loopw [12] (fun i wr=> ∃j:Nat,j≤Q.length∧i= .int .i64 j∧Hid (∀x∈Q.take j,x.nm=n→zaI f x=false)∧Hid (Below w.heap.size w wr)) (fun i _=>Q.length - (intOf i).toNat)
 case atStart=>exact ⟨0,Nat.zero_le _,rfl,(fun _ h=>nomatch h),zoZ _ _⟩
 case round=>
  obtain ⟨j,hj,rfl,p,H⟩:=hrel
  by_cases O:j<Q.length
  ·have qa:(j:Int)<Q.length:=by omega
   obtain ⟨ad,rfl,e,E,A,r0,r1,r2⟩:=(RowX.keep zaN C.out H.out).at3E O
   obtain ⟨J,I,D,B⟩:=T.out e A
   rw [B] at r2
   obtain ⟨y,K⟩: ∃y,y=wr.alloc (.cells #[.string ⟨e.nm.toArray⟩,.int .i64 e.un,.slice J I D] 64):=⟨_,rfl⟩
   have V:Below wr.heap.size wr y:=by rw [K];exact (zoZ _ _).alloc (zoW _) _
   have o:y.heap[wr.heap.size]? =some (.cells #[.string ⟨e.nm.toArray⟩,.int .i64 e.un,.slice J I D] 64):=by rw [K];exact heap_alloc_new wr _
   have R:=zoV (H.out.trans (V.mono H.out.size))
   have N:=zaD o 0
   have e1:=zaD o 1
   have e2:=zaD o 2
   simp at N e1 e2
   clear o V
   go_upto_region 4 with fail
   rw [←K]
   clear K r0 r1 r2
   have HT:Hid ((e.nm=n→zaI f e=false)→ ∀x∈Q.take (j+1),x.nm=n→zaI f x=false):=fun h x Y=>by
    rw [List.take_add_one,E] at Y
    rcases List.mem_append.1 Y with U|U
    ·exact p.out x U
    ·have:x=e:=by simpa using U
     rw [this]
     exact h
   by_cases q:e.nm=n
   ·cases Z:decide (f<e.un) with
    |true=>
     have G:Hid (e∈Q∧e.nm=n∧zaI f e=true∧e.sv= .slice J I D):=⟨A,q,Z,B⟩
     rw [q] at N
     clear A q B E HT p
     go_wp2
     refine bodyPost_ret (v:= .tuple #[.slice J I D,.bool true]) (by simp [results,Tryz.results30,go_sem]) rfl ?_
     exact ⟨⟨_,true,rfl,fun _=>⟨e,G.out.1,G.out.2.1,G.out.2.2.1,G.out.2.2.2.symm⟩,fun h=>nomatch h⟩,R.out⟩
    |false=>
     have P:=zoV (HT.out fun _=>Z)
     rw [q] at N
     clear A q B E HT p
     go_wp2
     go_roundw
     case rel=>exact ⟨j+1,by omega,by go_num,P,R⟩
     case measure=>simp [intOf];omega
   ·have P:=zoV (HT.out fun h=>absurd h q)
    have qd:(e.nm !=n)=true:=by simpa using q
    have qc:(e.nm==n)=false:=by simpa using q
    have qb:decide (e.nm=n)=false:=by simpa using q
    clear A B E HT p
    go_wp2
    go_roundw
    case rel=>exact ⟨j+1,by omega,by go_num,P,R⟩
    case measure=>simp [intOf];omega
  ·have S:j=Q.length:=by omega
   subst S
   rw [List.take_length] at p
   go_wp2
   refine bodyPost_ret (v:= .tuple #[.slice none 0 0,.bool false]) (by simp [results,Tryz.results30,go_sem]) rfl ?_
   exact ⟨⟨_,false,rfl,fun h=>(nomatch h),fun _=>⟨rfl,p.out⟩⟩,H.out⟩
def anyB (n:List UInt8) (l:List CE):Bool:=l.any fun x=>bytesBefore n x.nm
theorem zjI (n:List UInt8) (l:List CE) (x:CE):anyB n (l++[x])=(anyB n l||bytesBefore n x.nm):=by unfold anyB;rw [List.any_append];simp
theorem zgG {e x:CE}: ∀{l:List CE},anyB e.nm l=true→insE e (l++[x])=insE e l++[x]
 |[],h=>by cases h
 |a::l,h=>by
  rw [List.cons_append]
  unfold insE
  cases g:bytesBefore e.nm a.nm with
  |true=>simp
  |false=>
   have f:anyB e.nm l=true:=by unfold anyB at h ⊢;rw [List.any_cons,g] at h;simpa using h
   simp [zgG f]
theorem zhA {e:CE}: ∀{l:List CE},anyB e.nm l=false→insE e l=l++[e]
 |[],_=>rfl
 |a::l,h=>by
  unfold anyB at h
  rw [List.any_cons,Bool.or_eq_false_iff] at h
  unfold insE
  rw [h.1]
  simp [zhA (l:=l) h.2]
theorem zgJ {e x:CE}: ∀{l:List CE},anyB e.nm l=false→bytesBefore e.nm x.nm=true→insE e (l++[x])=l++[e]++[x]
 |[],_,f=>by show (if _ then _ else _)=_;rw [if_pos f];rfl
 |a::l,h,f=>by
  unfold anyB at h
  rw [List.any_cons,Bool.or_eq_false_iff] at h
  rw [List.cons_append]
  unfold insE
  rw [h.1]
  simp [zgJ (l:=l) h.2 f]
theorem zcA: ∀a b:List UInt8,Op.bytesLess a b=bytesBefore a b
 |[],[]=>rfl
 |[],_::_=>rfl
 |_::_,[]=>rfl
 |a::l,b::m=>by unfold Op.bytesLess bytesBefore;rw [zcA l m]
theorem znY {a b:List UInt8} (h:bytesBefore b a=true):Op.bytesLess a b=false∧(a==b)=false:=by
 constructor
 ·rw [zcA]
  cases f:bytesBefore a b with
  |false=>rfl
  |true=>have:=zaZ h f;rw [zaR] at this;cases this
 ·refine beq_eq_false_iff_ne.2 fun e=> ?_
  rw [e,zaR] at h
  cases h
theorem gtr_no {a b:List UInt8} (h:bytesBefore b a=false):Op.bytesLess a b=true∨(a==b)=true:=by
 rw [zcA]
 by_cases q:a=b
 ·right;simp [q]
 ·left;exact zbO h (fun e=>q e.symm)
def insV (e:CE) (l:List CE):List CE:=if anyB e.nm l then insE e l else l
theorem znI (e:CE) (l:List CE):(insV e l).length≤l.length+1:=by unfold insV;split<;>(try rw [zdW])<;>omega
theorem zfU (a:CE) (l:List CE):zaL a (a::l)=zaL a l:=by
 show zaL (if a.un<a.un then a else a) l=_
 rw [if_neg (Int.lt_irrefl _)]
theorem zeK (ao:Option Addr) (cp:Nat) (Q:List CE) (n:List UInt8) (u:Int) (la:Option Addr) (T lc:Nat) (w:World) (hr:RowX 3 clE w ao Q) (hs: ∀e∈Q,SlE e) (qW:zaM Q) (hl:Q.length≤100) (Qh:T≠0):
  Calls Tryz.prog 14 #[.slice ao Q.length cp,.string ⟨n.toArray⟩,.int .i64 u,.slice la T lc] w fun e w'=> ∃v,e= .returned (.tuple #[v,.bool true])∧OwnX 64 3 clE w' w.heap.size v (putE ⟨n,u,.slice la T lc⟩ (zaP n Q))∧Below w.heap.size w w':=by
 have qP:=zoV hr
 have qG:=zoV hs
 have Qm:=zoV qW
 have Qs:((T:Int)==0)=false:=beq_eq_false_iff_ne.2 (by omega)
 have qL:=zoV (zcE ao cp Q n w hr hs (by omega))
 have qz:=zoV hl
 clear hr hs qW Qh
 obtain ⟨i0,qd,qh,ql,qk⟩:=zbF zoH
 go_enter Tryz.func14,Tryz.ntmps14
 go_wp2_with fail
 refine qL.out.mono ?_
 rintro e x1 ⟨v1,rfl,qA,qe⟩
 obtain ⟨a1,c1,rfl⟩:=qA.form
 have qf:=zoV qA
 have qj:=zoV qe
 have Qv:(Q.length:Int)≤100:=by omega
 clear qA qe qL hl
 have qi:((zaJ n Q).isNone&&decide (64≤Q.length))=true∧(delE n Q).length=Q.length∧(64:Int)≤Q.length∨((zaJ n Q).isNone&&decide (64≤Q.length))=false∧((delE n Q).length=Q.length∧ ¬(64:Int)≤Q.length∨ ¬(delE n Q).length=Q.length):=by
  cases hf:zaJ n Q with
  |none=>
   have B:=zdD hf
   by_cases qm:64≤Q.length
   ·left;exact ⟨by simp [qm],by rw [B],by omega⟩
   ·right;exact ⟨by simp [qm],.inl ⟨by rw [B],by omega⟩⟩
  |some x=>
   right
   have:=zdR Qm.out hf
   exact ⟨rfl,.inr (by omega)⟩
 have U:=zoV qi
 have qE:Hid (zaP n Q=if ((zaJ n Q).isNone&&decide (64≤Q.length)) then delE (zaV Q) Q else Q):=rfl
 have qp:Hid (((zaJ n Q).isNone&&decide (64≤Q.length))=true→zaJ n Q=none∧64≤Q.length):=fun h=>by simpa using h
 clear qi
 generalize ((zaJ n Q).isNone&&decide (64≤Q.length))=fb at*
 have qU:Hid (fb=true→delE n (zaP n Q)=delE (zaV Q) Q):=fun h=>by
  rw [qE.out,if_pos h]
  exact zdD (by
   cases hq:zaJ n (delE (zaV Q) Q) with
   |none=>rfl
   |some x=>obtain ⟨h1,h2⟩:=zbD hq;exact absurd h2 (zcN (qp.out h).1 x (zcB.1 h1).1))
 have qX:Hid (fb=false→zaP n Q=Q):=fun h=>by rw [qE.out,if_neg (by simp [h])]
 have qF:Hid (fb=true→delE n Q=Q):=fun h=>zdD (qp.out h).1
 have qJ:Hid (delE n Q=delE n Q):=rfl
 generalize qQ:delE n Q=A at qf U qF qJ ⊢
 have qY:=zoV qQ
 clear qQ qE qJ
 go_upto_region 4 with fail
 go_cut [33] (fun v wc=>v= .bool fb∧x1=wc)
 case first=>
  as_aux_lemma=>
   rcases U.out with ⟨rfl,h1,h2⟩|⟨rfl,⟨h1,h2⟩|h1⟩
   ·have qx:((A.length:Int)==(Q.length:Int))=true:=by rw [h1];simp
    have qK:decide ((64:Int)≤Q.length)=true:=zoY h2
    clear h1 h2
    go_wp2
    go_meet
    exact ⟨rfl,rfl⟩
   ·have qx:((A.length:Int)==(Q.length:Int))=true:=by rw [h1];simp
    have qK:decide ((64:Int)≤Q.length)=false:=zoX (by omega)
    clear h1 h2
    go_wp2
    go_meet
    exact ⟨rfl,rfl⟩
   ·have qx:((A.length:Int)==(Q.length:Int))=false:=beq_eq_false_iff_ne.2 (by omega)
    clear h1
    go_wp2
    go_meet
    exact ⟨rfl,rfl⟩
 case rest=>
 obtain ⟨rfl,rfl⟩:=hcut
 go_upto_if 33 with fail
 go_cut [10] (fun v wc=> ∃(a:Option Addr) (c:Nat),v= .slice a (delE n (zaP n Q)).length c∧Hid (RowX 3 clE wc a (delE n (zaP n Q)))∧Hid (Below w.heap.size w wc))
 case first=>
  as_aux_lemma=>
   cases fb with
   |true=>
    obtain rfl:=qF.out rfl
    have qm:=(qp.out rfl).2
    obtain ⟨a,l,hQ⟩: ∃a l,A=a::l:=by
     cases A with
     |nil=>simp at qm
     |cons a l=>exact ⟨a,l,rfl⟩
    have qs:=zoV (qf.out.row zaN)
    have qM:Hid (∀x,x=zaL a A→x.nm=zaV A):=fun x hx=>by rw [hx,hQ,zfU];rfl
    have HQ:=zoV hQ
    clear qf hQ qm
    go_wp2
    go_loopw [11,36] (fun li i wr=> ∃(j k:Nat),j≤A.length∧i= .int .i64 j∧li= .int .i64 k∧k<A.length∧Hid (A[k]? =some (zaL a (A.take j)))∧Hid (Below x1.heap.size x1 wr)) (fun _ i _=>A.length - (intOf i).toNat)
    case atStart=>exact ⟨0,0,Nat.zero_le _,rfl,rfl,(by rw [HQ.out];simp),(by show A[0]? =_;rw [HQ.out];rfl),zoZ _ _⟩
    case round=>
     obtain ⟨j,k,hj,rfl,rfl,hk,HK,O⟩:=hrel
     by_cases qo:j<A.length
     ·have Ql:(j:Int)<A.length:=by omega
      have Qk:(k:Int)<A.length:=by omega
      obtain ⟨d1,e1,e,he,qI,r0,r1,r2⟩:=(RowX.keep zaN qs.out O.out).at3E qo
      subst e1
      obtain ⟨d2,e2,g,hg,Qb,s0,s1,s2⟩:=(RowX.keep zaN qs.out O.out).at3E hk
      obtain rfl:=Option.some.inj e2
      have qy:g=zaL a (A.take j):=by have:=HK.out;rw [hg] at this;exact Option.some.inj this
      have HT:Hid (zaL a (A.take (j+1))=if e.un<g.un then e else g):=by show _=_;rw [List.take_add_one,he,qy];exact zbX e (A.take j) a
      cases B:decide (e.un<g.un) with
      |true=>
       have qD:Hid (A[j]? =some (zaL a (A.take (j+1)))):=by show _=_;rw [HT.out,if_pos (of_decide_eq_true B)];exact he
       clear HT HK qy
       go_upto_region 9 with fail
       go_quiet (fail)
       go_wp2
       go_roundw
       case rel=>exact ⟨j+1,j,by omega,by go_num,rfl,by omega,qD,zbY O.out _⟩
       case measure=>simp [intOf];omega
      |false=>
       have qD:Hid (A[k]? =some (zaL a (A.take (j+1)))):=by show _=_;rw [HT.out,if_neg (of_decide_eq_false B)];exact hg
       clear HT HK qy
       go_upto_region 9 with fail
       go_quiet (fail)
       go_wp2
       go_roundw
       case rel=>exact ⟨j+1,k,by omega,by go_num,rfl,by omega,qD,zbY O.out _⟩
       case measure=>simp [intOf];omega
     ·have qH:j=A.length:=by omega
      subst qH
      rw [List.take_length] at HK
      have Qk:(k:Int)<A.length:=by omega
      obtain ⟨d2,rfl,g,hg,Qb,s0,s1,s2⟩:=(RowX.keep zaN qs.out O.out).at3E hk
      have qZ:=qM.out g (by have:=HK.out;rw [hg] at this;exact Option.some.inj this)
      rw [qZ] at s0
      have qV:=zoV (zcE (some d2) c1 A (zaV A) wr (RowX.keep zaN qs.out O.out) qG.out (by have:=qz.out;omega))
      clear hg Qb qZ HK qM s1 s2 qo
      go_wp2_with fail
      refine qV.out.mono ?_
      rintro e x3 ⟨v3,rfl,qC,qT⟩
      obtain ⟨a3,c3,rfl⟩:=qC.form
      have qw:=zoV (qC.row zaN)
      have Z:=zoV ((qj.out.trans (O.out.mono qj.out.size)).trans (qT.mono (Nat.le_trans qj.out.size O.out.size)))
      clear qC qT qV
      go_wp2
      go_meet
      rw [qU.out (by first|rfl|trivial)]
      exact ⟨a3,c3,rfl,qw,Z⟩
   |false=>
    have Qi:=zoV (qf.out.row zaN)
    go_wp2
    go_meet
    rw [qX.out (by first|rfl|trivial),qY.out]
    exact ⟨a1,c1,rfl,Qi,qj⟩
 case rest=>
  rename World=>wc
  obtain ⟨a3,c3,rfl,qw,Z⟩:=hcut
  have qR:Hid (∀e∈delE n (zaP n Q),SlE e):=fun e he=>qG.out e (zbC (zcB.1 he).1)
  have Qa:Hid ((delE n (zaP n Q)).length≤100):=by
   have h1:(delE n (zaP n Q)).length≤(zaP n Q).length:=List.length_filter_le _ _
   have h2:(zaP n Q).length≤Q.length:=by
    unfold zaP zeP
    split
    ·exact List.length_filter_le _ _
    ·exact zoW _
   have:=qz.out
   show _≤_
   omega
  obtain ⟨N,hN⟩: ∃N:CE,N=⟨n,u,.slice la T lc⟩:=⟨_,rfl⟩
  have E:Hid (N.nm=n):=by show _=_;rw [hN]
  have qO:Hid (clE N=[.string ⟨n.toArray⟩,.int .i64 u,.slice la T lc]):=by show _=_;rw [hN];rfl
  have qn:Hid (putE ⟨n,u,.slice la T lc⟩ (zaP n Q)=insE N (delE n (zaP n Q))):=by show _=_;rw [hN];rfl
  have Qw:=zoV hN
  clear qU qX qF qY U qp qf qj qP qG qz hN
  generalize Qn:delE n (zaP n Q)=f at qw qR Qa qn ⊢
  clear Qn
  have Qx:=Qa.out
  have Qt:(f.length:Int)≤100:=by omega
  go_wp2
  go_loopw [13,14,61] (fun v b i wr=> ∃j:Nat,j≤f.length∧i= .int .i64 j∧b= .bool (anyB n (f.take j))∧Hid (LX 64 3 clE wc wr wc.heap.size [] v (insV N (f.take j)))) (fun _ _ i _=>f.length - (intOf i).toNat)
  case atStart=>exact ⟨0,Nat.zero_le _,rfl,rfl,LX.first [] (zoZ _ _) (Blks.empty _)⟩
  case round=>
   obtain ⟨j,hj,rfl,rfl,HS⟩:=hrel
   by_cases qo:j<f.length
   ·have Ql:(j:Int)<f.length:=by omega
    obtain ⟨ad,rfl,e,he,qI,r0,r1,r2⟩:=(RowX.keep zaN qw.out HS.out.below).at3E qo
    obtain ⟨J,H,I,qq⟩:=qR.out e qI
    rw [qq] at r2
    obtain ⟨y,hy⟩: ∃y,y=wr.alloc (.cells #[.string ⟨e.nm.toArray⟩,.int .i64 e.un,.slice J H I] 64):=⟨_,rfl⟩
    have hb:Below wr.heap.size wr y:=by rw [hy];exact (zoZ _ _).alloc (zoW _) _
    have K:y.heap[wr.heap.size]? =some (.cells #[.string ⟨e.nm.toArray⟩,.int .i64 e.un,.slice J H I] 64):=by rw [hy];exact heap_alloc_new wr _
    have HI:=zoV (HS.out.keep hb)
    have e0:=zaD K 0
    have e1:=zaD K 1
    have e2:=zaD K 2
    simp at e0 e1 e2
    have qr:=zoV K
    clear K hb
    have Y:Hid (f.take (j+1)=f.take j++[e]):=by show _=_;rw [List.take_add_one,he];rfl
    have G:Hid (anyB n (f.take (j+1))=(anyB n (f.take j)||bytesBefore n e.nm)):=by show _=_;rw [Y.out];exact zjI n _ e
    have Qe:(insV N (f.take j)).length≤1000:=by
     have h1:=znI N (f.take j)
     rw [List.length_take] at h1
     omega
    have Qg:Hid (u13.ownBlock≠some wr.heap.size):=fun q=>by have:=(World.ownsRow.lt HS.out.row _ q).2;omega
    clear he qI
    go_upto_region 18 with fail
    rw [←hy]
    clear hy r0 r1 r2
    cases B:anyB n (f.take j) with
    |true=>
     have HV:Hid (insV N (f.take (j+1))=insV N (f.take j)++[e]):=by
      show _=_
      unfold insV
      rw [E.out,G.out,B,Y.out]
      simp only [Bool.true_or,if_true]
      exact zgG (by rw [E.out];exact B)
     have HA:Hid (anyB n (f.take (j+1))=true):=by show _=_;rw [G.out,B];rfl
     clear G Y B
     generalize insV N (f.take j)=m0 at*
     have P:=oneE e.nm e.un J H I
     have S:=zaT y [.string ⟨e.nm.toArray⟩,.int .i64 e.un,.slice J H I] 64
     have R:=zoV (HI.out.keep ((zoZ _ _).alloc (zoW _) (.cells #[.string ⟨e.nm.toArray⟩,.int .i64 e.un,.slice J H I] 64)))
     go_wp2_with (first
      |(at_builtin;refine wpList_append_own _ rfl _ _ 26 rfl wc.heap.size 64 i0 (.agg #[.string ⟨#[]⟩,.int .i64 0,.slice none 0 0]) 3 48 Tryz.underlying26 qd qh ql qk rfl (by decide) u13 (m0).length ((m0).flatMap clE) rfl R.out.row ⟨y.heap.size,0,none⟩ 1 1 [.string ⟨e.nm.toArray⟩,.int .i64 e.un,.slice J H I] rfl rfl S P (by unfold maxLen;omega) (by omega) R.out.size ?_;intro s1 w1 C p _)
      |go_in)
     have qg:Hid (clE e=[.string ⟨e.nm.toArray⟩,.int .i64 e.un,.slice J H I]):=by show clE e=_;unfold clE;rw [qq]
     have qc:=zoV (HI.out.app (e:=e) ((zoZ _ _).alloc (zoW _) _) p (by rw [qg.out];exact C))
     go_roundw
     case rel=>exact ⟨j+1,by omega,by go_num,by rw [HA.out],by rw [HV.out];exact qc⟩
     case measure=>simp [intOf];omega
    |false=>
     cases hq:bytesBefore n e.nm with
     |true=>
      obtain ⟨qe,Qy⟩:=znY hq
      have HV:Hid (insV N (f.take (j+1))=f.take j++[N]++[e]):=by
       show _=_
       unfold insV
       rw [E.out,G.out,B,hq,Y.out]
       simp only [Bool.or_true,if_true]
       exact zgJ (by rw [E.out];exact B) (by rw [E.out];exact hq)
      have Qc:Hid (insV N (f.take j)=f.take j):=by show _=_;unfold insV;rw [E.out,B];rfl
      have HA:Hid (anyB n (f.take (j+1))=true):=by show _=_;rw [G.out,B,hq];rfl
      rw [Qc.out] at Qe HI
      clear G Y B Qc
      generalize f.take j=m0 at*
      have qb:=oneE n u la T lc
      have qa:=zaT y [.string ⟨n.toArray⟩,.int .i64 u,.slice la T lc] 64
      have V:=zoV (HI.out.keep ((zoZ _ _).alloc (zoW _) (.cells #[.string ⟨n.toArray⟩,.int .i64 u,.slice la T lc] 64)))
      go_upto_region 20 with (first
       |(at_builtin;refine wpList_append_own _ rfl _ _ 26 rfl wc.heap.size 64 i0 (.agg #[.string ⟨#[]⟩,.int .i64 0,.slice none 0 0]) 3 48 Tryz.underlying26 qd qh ql qk rfl (by decide) u13 m0.length (m0.flatMap clE) rfl V.out.row ⟨y.heap.size,0,none⟩ 1 1 [.string ⟨n.toArray⟩,.int .i64 u,.slice la T lc] rfl rfl qa qb (by unfold maxLen;omega) (by omega) V.out.size ?_;intro s2 w2 D o _)
       |go_in)
      have HJ:=zoV (HI.out.app (e:=N) ((zoZ _ _).alloc (zoW _) _) o (by rw [qO.out];exact D))
      have qB:=(zoZ y.heap.size y).alloc (zoW _) (.cells #[.string ⟨n.toArray⟩,.int .i64 u,.slice la T lc] 64)
      have qv:w2.heap[wr.heap.size]? =some (.cells #[.string ⟨e.nm.toArray⟩,.int .i64 e.un,.slice J H I] 64):=(o.block wr.heap.size (Nat.lt_of_lt_of_le (zaH qr.out) qB.size) (fun e=>Qg.out e.symm)).trans ((qB.block _ (zaH qr.out)).trans qr.out)
      have Qj:=zaD qv 0
      have Qp:=zaD qv 1
      have Qo:=zaD qv 2
      simp at Qj Qp Qo
      have Qr:(m0++[N]).length≤1001:=by rw [List.length_append];show m0.length+1≤1001;omega
      have qN:Hid (LX 64 3 clE wc w2 wc.heap.size [] s2 (m0++[N])):=HJ.out
      clear V D o qa qb qv HJ e0 e1 e2 HI qr qB
      generalize m0++[N]=m2 at*
      have P:=oneE e.nm e.un J H I
      have S:=zaT w2 [.string ⟨e.nm.toArray⟩,.int .i64 e.un,.slice J H I] 64
      have R:=zoV (qN.out.keep ((zoZ _ _).alloc (zoW _) (.cells #[.string ⟨e.nm.toArray⟩,.int .i64 e.un,.slice J H I] 64)))
      go_wp2_with (first
       |(at_builtin;refine wpList_append_own _ rfl _ _ 26 rfl wc.heap.size 64 i0 (.agg #[.string ⟨#[]⟩,.int .i64 0,.slice none 0 0]) 3 48 Tryz.underlying26 qd qh ql qk rfl (by decide) s2 (m2).length ((m2).flatMap clE) rfl R.out.row ⟨w2.heap.size,0,none⟩ 1 1 [.string ⟨e.nm.toArray⟩,.int .i64 e.un,.slice J H I] rfl rfl S P (by unfold maxLen;omega) (by omega) R.out.size ?_;intro s1 w1 C p _)
       |go_in)
      have qg:Hid (clE e=[.string ⟨e.nm.toArray⟩,.int .i64 e.un,.slice J H I]):=by show clE e=_;unfold clE;rw [qq]
      have qc:=zoV (qN.out.app (e:=e) ((zoZ _ _).alloc (zoW _) _) p (by rw [qg.out];exact C))
      go_roundw
      case rel=>exact ⟨j+1,by omega,by go_num,by rw [HA.out],by rw [HV.out];exact qc⟩
      case measure=>simp [intOf];omega
     |false=>
      have HV:Hid (insV N (f.take (j+1))=insV N (f.take j)++[e]):=by
       show _=_
       unfold insV
       rw [E.out,G.out,B,hq,Y.out]
       rfl
      have HA:Hid (anyB n (f.take (j+1))=false):=by show _=_;rw [G.out,B,hq];rfl
      have Qf:=gtr_no hq
      clear G Y B
      generalize insV N (f.take j)=m0 at*
      rcases Qf with qe|qe
      all_goals
       have P:=oneE e.nm e.un J H I
       have S:=zaT y [.string ⟨e.nm.toArray⟩,.int .i64 e.un,.slice J H I] 64
       have R:=zoV (HI.out.keep ((zoZ _ _).alloc (zoW _) (.cells #[.string ⟨e.nm.toArray⟩,.int .i64 e.un,.slice J H I] 64)))
       go_wp2_with (first
        |(at_builtin;refine wpList_append_own _ rfl _ _ 26 rfl wc.heap.size 64 i0 (.agg #[.string ⟨#[]⟩,.int .i64 0,.slice none 0 0]) 3 48 Tryz.underlying26 qd qh ql qk rfl (by decide) u13 (m0).length ((m0).flatMap clE) rfl R.out.row ⟨y.heap.size,0,none⟩ 1 1 [.string ⟨e.nm.toArray⟩,.int .i64 e.un,.slice J H I] rfl rfl S P (by unfold maxLen;omega) (by omega) R.out.size ?_;intro s1 w1 C p _)
        |go_in)
       have qg:Hid (clE e=[.string ⟨e.nm.toArray⟩,.int .i64 e.un,.slice J H I]):=by show clE e=_;unfold clE;rw [qq]
       have qc:=zoV (HI.out.app (e:=e) ((zoZ _ _).alloc (zoW _) _) p (by rw [qg.out];exact C))
       go_roundw
       case rel=>exact ⟨j+1,by omega,by go_num,by rw [HA.out],by rw [HV.out];exact qc⟩
       case measure=>simp [intOf];omega
   ·have qH:j=f.length:=by omega
    subst qH
    rw [List.take_length] at HS ⊢
    have Qq:Hid (Below w.heap.size w wr):=Z.out.trans (HS.out.below.mono Z.out.size)
    have qS:Hid (w.heap.size≤wc.heap.size):=Z.out.size
    cases B:anyB n f with
    |true=>
     have HV:Hid (insV N f=insE N f):=by show _=_;unfold insV;rw [E.out,B];rfl
     rw [HV.out] at HS
     obtain ⟨a9,c9,h9⟩:=HS.out.row.form
     have Qd:=zoV HS.out.row
     clear HS HV B
     subst h9
     go_wp2
     refine bodyPost_ret (v:= .tuple #[.slice a9 (insE N f).length c9,.bool true]) (by simp [results,Tryz.results14,go_sem]) rfl ?_
     rw [qn.out]
     exact ⟨_,rfl,Qd.out.lower qS.out,Qq.out⟩
    |false=>
     have HV:Hid (insV N f=f):=by show _=_;unfold insV;rw [E.out,B];rfl
     have HE:Hid (insE N f=f++[N]):=zhA (by rw [E.out];exact B)
     rw [HV.out] at HS
     clear HV B
     have qb:=oneE n u la T lc
     have qa:=zaT wr [.string ⟨n.toArray⟩,.int .i64 u,.slice la T lc] 64
     have V:=zoV (HS.out.keep ((zoZ _ _).alloc (zoW _) (.cells #[.string ⟨n.toArray⟩,.int .i64 u,.slice la T lc] 64)))
     go_wp2_with (first
      |(at_builtin;refine wpList_append_own _ rfl _ _ 26 rfl wc.heap.size 64 i0 (.agg #[.string ⟨#[]⟩,.int .i64 0,.slice none 0 0]) 3 48 Tryz.underlying26 qd qh ql qk rfl (by decide) u13 f.length (f.flatMap clE) rfl V.out.row ⟨wr.heap.size,0,none⟩ 1 1 [.string ⟨n.toArray⟩,.int .i64 u,.slice la T lc] rfl rfl qa qb (by unfold maxLen;omega) (by omega) V.out.size ?_;intro s2 w2 D o _)
      |go_in)
     have HJ:=zoV (HS.out.app (e:=N) ((zoZ _ _).alloc (zoW _) _) o (by rw [qO.out];exact D))
     clear D o V
     refine bodyPost_ret (v:= .tuple #[s2,.bool true]) (by simp [results,Tryz.results14,go_sem]) rfl ?_
     rw [qn.out,HE.out]
     exact ⟨_,rfl,HJ.out.row.lower qS.out,Z.out.trans (HJ.out.below.mono Z.out.size)⟩
def AZ.rB:AZ→Bool
 | .four _=>false
 | .six _ _=>true
def AZ.rH:AZ→Int
 | .four _=>0
 | .six hi _=>hi
def AZ.rL:AZ→Int
 | .four n=>281470681743360+n
 | .six _ lo=>lo
def clR (a:AZ):List Value:=[.bool a.rB,.int .u64 a.rH,.int .u64 a.rL]
theorem zbN (a:AZ):(clR a).length=3:=rfl
theorem lawOfR (a:AZ) (w:World) (h:a.Ok):Calls Tryz.prog 29 #[a.val] w fun e w'=>e= .returned (.agg #[.bool a.rB,.int .u64 a.rH,.int .u64 a.rL])∧Below w.heap.size w w':=by
 cases a with
 |four n=>exact zhY n w h.1 h.2
 |six hi lo=>exact zjN hi lo w
theorem infoR:(Tryz.prog.info? 74).map (fun i=>(i.zero,i.size,i.bytes))=some (some (.agg #[.bool false,.int .u64 0,.int .u64 0]),3,24):=by kernel_rfl
theorem oneR (b:Bool) (x y:Int): ∀u∈[Value.bool b,.int .u64 x,.int .u64 y],u.oneCell'=true:=by
 intro u f
 simp at f
 rcases f with rfl|rfl|rfl<;>rfl
theorem zdO (ao:Option Addr) (cp:Nat) (l:List AZ) (w:World) (V:RowX 1 clZ w ao l) (hl:l.length≤1000) (A: ∀a∈l,a.Ok):
  Calls Tryz.prog 15 #[.slice ao l.length cp] w fun e w'=> ∃v,e= .returned v∧OwnX 74 3 clR w' w.heap.size v l∧Below w.heap.size w w':=by
 have o:=zoV V
 have C:=zoV A
 clear V A
 obtain ⟨i0,O,H,J,P⟩:=zbF infoR
 go_enter Tryz.func15,Tryz.ntmps15
 go_wp2
 go_loopw [3,8] (fun v i wr=> ∃j:Nat,j≤l.length∧i= .int .i64 j∧Hid (LX 74 3 clR w wr w.heap.size [] v (l.take j))) (fun _ i _=>l.length - (intOf i).toNat)
 case atStart=>exact ⟨0,Nat.zero_le _,rfl,LX.first [] (zoZ _ _) (Blks.empty _)⟩
 case round=>
  obtain ⟨j,hj,rfl,y⟩:=hrel
  by_cases D:j<l.length
  ·have Z:(j:Int)<l.length:=by omega
   obtain ⟨x,B⟩: ∃x,l[j]? =some x:=⟨_,List.getElem?_eq_getElem D⟩
   obtain ⟨ad,rfl,r0⟩:=(RowX.keep zaQ o.out y.out.below).r1A B
   have Y:Hid (l.take (j+1)=l.take j++[x]):=by show _=_;rw [List.take_add_one,B];rfl
   have S:=zoV (fun W=>lawOfR x W (C.out x (List.mem_of_getElem? B)))
   have qa:(l.take j).length≤1000:=by rw [List.length_take];omega
   have N:Hid (clR x=[.bool x.rB,.int .u64 x.rH,.int .u64 x.rL]):=rfl
   generalize l.take j=U at*
   generalize x.val=xv at*
   generalize x.rB=b at*
   generalize x.rH=hi at*
   generalize x.rL=lo at*
   clear B
   go_upto_region 5 with fail
   go_wp2_with fail
   refine (S.out _).mono ?_
   rintro e z ⟨rfl,R⟩
   have T:=zoV (y.out.keep R)
   have E:=oneR b hi lo
   have G:=zaT z [.bool b,.int .u64 hi,.int .u64 lo] 74
   have p:=zoV (T.out.keep ((zoZ _ _).alloc (zoW _) (.cells #[.bool b,.int .u64 hi,.int .u64 lo] 74)))
   clear R r0 S
   go_wp2_with (first
    |(at_builtin;refine wpList_append_own _ rfl _ _ 41 rfl w.heap.size 74 i0 (.agg #[.bool false,.int .u64 0,.int .u64 0]) 3 24 Tryz.underlying41 O H J P rfl (by decide) u3 U.length (U.flatMap clR) rfl p.out.row ⟨z.heap.size,0,none⟩ 1 1 [.bool b,.int .u64 hi,.int .u64 lo] rfl rfl G E (by unfold maxLen;omega) (by omega) p.out.size ?_;intro s1 w1 g f _)
    |go_in)
   have K:=zoV (T.out.app (e:=x) ((zoZ _ _).alloc (zoW _) _) f (by rw [N.out];exact g))
   go_roundw
   case rel=>exact ⟨j+1,by omega,by go_num,by rw [Y.out];exact K⟩
   case measure=>simp [intOf];omega
  ·have I:j=l.length:=by omega
   subst I
   rw [List.take_length] at y
   go_wp2
   go_ret
   exact ⟨_,rfl,y.out.row,y.out.below⟩
theorem ziD (u v:Array Value): ∀(p q:Operand) (W:World),(eqGuard .neq 74 p q (.agg u) (.agg v)).run Tryz.prog W= .ok () W:=by
 intro p q W;kernel_rfl
theorem neqR (a:Bool) (b c:Int): ∀W:World,(binOp .neq 74 (.agg #[.bool a,.int .u64 b,.int .u64 c]) (.agg #[.bool a,.int .u64 b,.int .u64 c])).run Tryz.prog W= .ok (.bool false) W:=by
 intro W
 have f:(Op.equal 74 (.agg #[.bool a,.int .u64 b,.int .u64 c]) (.agg #[.bool a,.int .u64 b,.int .u64 c])).run Tryz.prog W= .ok true W:=by
  show (Op.equalIn 10000 74 _ _).run Tryz.prog W=_
  rw [run_equalIn_struct W 9999 74 _ _ (by kernel_rfl) (by kernel_rfl)]
  simp [Program.fieldsOf,Tryz.underlying74,Op.eqFields,go_sem,part,Tryz.sizeOf68,Tryz.isAgg68,Tryz.underlying68,Tryz.sizeOf4,Tryz.isAgg4,Tryz.underlying4]
 show ((Op.equal _ _ _>>=fun b=>pure (Value.bool !b)):Sem Value).run _ _=_
 rw [Sem.run_bind,f];rfl
theorem RowX.r3R {w:World} {a:Option Addr} {i:List AZ} (h:RowX 3 clR w a i) {k:Nat} {x:AZ} (o:i[k]? =some x): ∃(f:Addr) (_:a=some f),w.cell? (f.add (k*3))=some (.bool x.rB)∧w.cell? ⟨(f.add (k*3)).block,(f.add (k*3)).off+1,none⟩=some (.int .u64 x.rH)∧w.cell? ⟨(f.add (k*3)).block,(f.add (k*3)).off+2,none⟩=some (.int .u64 x.rL):=by
 obtain ⟨f,y,g⟩:=h k x o
 have p:f.add (k*3+1)=⟨(f.add (k*3)).block,(f.add (k*3)).off+1,none⟩:=by rw [←Go.Deep.add_add];rfl
 have j:f.add (k*3+2)=⟨(f.add (k*3)).block,(f.add (k*3)).off+2,none⟩:=by rw [←Go.Deep.add_add];rfl
 exact ⟨f,y,g 0 (by omega),by rw [←p];exact g 1 (by omega),by rw [←j];exact g 2 (by omega)⟩
theorem zfQ (a b:Option Addr) (B D:Nat) (l:List AZ) (w:World) (o:RowX 3 clR w a l) (g:RowX 3 clR w b l) (p:l.length≤1000000):
  Calls Tryz.prog 31 #[.slice a l.length B,.slice b l.length D] w fun e w'=>e= .returned (.bool true)∧Below w.heap.size w w':=by
 have C:=zoV o
 have y:=zoV g
 clear o g
 go_enter Tryz.func31,Tryz.ntmps31
 go_wp2
 go_loopw [13] (fun i wr=> ∃k m:Nat,k≤l.length∧i= .int .i64 k∧wr=w.drewN m) (fun i _=>l.length - (intOf i).toNat)
 case atStart=>exact ⟨0,0,Nat.zero_le _,rfl,rfl⟩
 case round=>
  obtain ⟨k,m,E,rfl,rfl⟩:=hrel
  by_cases f:k<l.length
  ·obtain ⟨x,j⟩: ∃x,l[k]? =some x:=⟨_,List.getElem?_eq_getElem f⟩
   obtain ⟨K,rfl,O,H,I⟩:=C.out.r3R j
   obtain ⟨J,rfl,G,S,R⟩:=y.out.r3R j
   have A:(k:Int)<l.length:=by omega
   have P:=neqR x.rB x.rH x.rL
   have N:=ziD
   generalize x.rB=b at*
   generalize x.rH=hi at*
   generalize x.rL=lo at*
   go_wp2
   go_quiet (fail)
   go_wp2
   go_roundw
   case rel=>exact ⟨k+1,_,by omega,by go_num,rfl⟩
   case measure=>simp [intOf];omega
  ·go_wp2
   go_ret
   exact ⟨rfl,zbY (zoZ _ _) _⟩
theorem znH (c M:Nat) (L:List CE) (zf:List UInt8→List AZ) (f:Int) (w:World) (h:CacZ w c M L zf) {e:CE} (i:e∈L) {n:List UInt8} (A:e.nm=n) (g:Bool) (y:zaI f e=g):
  Calls Tryz.prog 18 #[.pointer (some ⟨c,0,none⟩),.string ⟨n.toArray⟩,.int .i64 f] w fun r w'=> ∃v,r= .returned (.tuple #[v,.bool g])∧OwnX 48 1 clZ w' w.heap.size v (if g then zf n else [])∧Below w.heap.size w w':=by
 subst A y
 have j:=zcH h.cac.map.2 i
 by_cases q:f<e.un
 ·rw [show zaI f e=true from zoY q,if_pos rfl]
  exact zkD c M L zf e.nm f w h (h.few e i).1 j q
 ·rw [show zaI f e=false from zoX q,if_neg (by decide)]
  refine (znD c M L e.nm f w h.cac (h.few e i).1 (fun B o=>by rw [j] at o;cases o;exact q)).mono ?_
  rintro r w' ⟨rfl,p⟩
  exact ⟨_,rfl,OwnX.nil _ _,p⟩
theorem zhP (ao:Option Addr) (cp:Nat) (Q:List CE) (zf:List UInt8→List AZ) (f:Int) (w:World) (N:RowX 3 clE w ao Q) (D: ∀q∈Q,∃a c,q.sv= .slice a (zf q.nm).length c∧RowX 3 clR w a (zf q.nm)) (p:zaM Q) (I:Q.length≤1000) {e:CE} (C:e∈Q) {n:List UInt8} (O:e.nm=n) (g:Bool) (K:zaI f e=g):
  Calls Tryz.prog 30 #[.slice ao Q.length cp,.string ⟨n.toArray⟩,.int .i64 f] w fun r w'=>(∃a c,r= .returned (.tuple #[.slice a (if g then zf n else []).length c,.bool g])∧RowX 3 clR w a (if g then zf n else []))∧Below w.heap.size w w':=by
 subst O K
 refine (zfA ao cp Q e.nm f w N (fun q G=>by obtain ⟨a,c,A,_⟩:=D q G;exact ⟨a,_,c,A⟩) I).mono ?_
 rintro r w' ⟨⟨v,g,rfl,A,J⟩,E⟩
 refine ⟨?_,E⟩
 cases g with
 |true=>
  obtain ⟨x,i,o,y,rfl⟩:=A rfl
  obtain rfl:=p.one i C o
  obtain ⟨a,c,B,H⟩:=D x i
  rw [y,if_pos rfl,B]
  exact ⟨a,c,rfl,H⟩
 |false=>
  obtain ⟨rfl,B⟩:=J rfl
  rw [B e C rfl,if_neg (by decide)]
  exact ⟨none,0,rfl,fun j x i=>by simp at i⟩
def keyE (e:CE):List UInt8×Int:=(e.nm,e.un)
structure zdS (x:World) (c M:Nat) (L:List CE) (zf:List UInt8→List AZ) (aq:Option Addr) (Q:List CE):Prop where
 cac:CacZ x c M L zf
 sim:Q.map keyE=L.map keyE
 row:RowX 3 clE x aq Q
 lst: ∀q∈Q,∃a c,q.sv= .slice a (zf q.nm).length c∧RowX 3 clR x a (zf q.nm)
 ok: ∀q∈Q,∀z∈zf q.nm,z.Ok
 short: ∀e∈L,(zf e.nm).length≤1000
theorem zcL {Q L:List CE} (h:Q.map keyE=L.map keyE):Q.length=L.length:=by simpa using congrArg List.length h
theorem zhC {Q L:List CE} (h:Q.map keyE=L.map keyE) (g:zaM L):zaM Q:=by
 have f:(L.map keyE).Pairwise fun a b=>bytesBefore a.1 b.1=true:=List.pairwise_map.2 g
 rw [←h] at f
 exact List.pairwise_map.1 f
theorem sim_at {Q L:List CE} (h:Q.map keyE=L.map keyE) {k:Nat} {e:CE} (i:L[k]? =some e): ∃q,Q[k]? =some q∧q.nm=e.nm∧q.un=e.un:=by
 have f:=congrArg (fun l=>l[k]?) h
 simp only [List.getElem?_map,i,Option.map_some] at f
 cases g:Q[k]? with
 |none=>rw [g] at f;cases f
 |some q=>
  rw [g] at f
  simp only [Option.map_some,Option.some.injEq] at f
  exact ⟨q,rfl,congrArg Prod.fst f,congrArg Prod.snd f⟩
theorem zdS.keep {x y:World} {c M:Nat} {L Q:List CE} {zf:List UInt8→List AZ} {aq:Option Addr} (h:zdS x c M L zf aq Q) (f:Below x.heap.size x y):zdS y c M L zf aq Q:=
 ⟨h.cac.keep f,h.sim,RowX.keep zaN h.row f,fun q j=>by obtain ⟨a,k,i,g⟩:=h.lst q j;exact ⟨a,k,i,RowX.keep zbN g f⟩,h.ok,h.short⟩
theorem zbP (c M:Nat) (L Q:List CE) (zf:List UInt8→List AZ) (aq:Option Addr) (cq:Nat) (j:Int) (w:World) (h:zdS w c M L zf aq Q):
  Calls Tryz.prog 16 #[.pointer (some ⟨c,0,none⟩),.slice aq Q.length cq,.int .i64 j] w fun e w'=>e= .returned (.bool true)∧Below w.heap.size w w':=by
 have HP:=zoV h
 have P:=zcL h.sim
 have S:=zoV P
 have V:Hid (L.length≤64):=h.cac.len
 have qj:=zoV (zdC c M L w h.cac.cac (by have:=V.out;omega))
 rw [P]
 clear h P
 go_enter Tryz.func16,Tryz.ntmps16
 go_wp2_with fail
 refine qj.out.mono ?_
 rintro e x1 ⟨v1,rfl,T,N⟩
 obtain ⟨a1,k1,rfl⟩:=T.form
 have qs:=zoV (T.row ziU)
 have D:=zoV (HP.out.keep N)
 have qh:=zoV N
 have qv:=zoV (zjJ c M L x1 D.out.cac.cac)
 have qg:(L.map CE.nm).length=L.length:=List.length_map _
 rw [qg]
 clear T N qg qj HP
 go_wp2_with fail
 refine qv.out.mono ?_
 rintro e x2 ⟨rfl,rfl⟩
 go_wp2
 go_loopw [30] (fun i wr=> ∃k:Nat,k≤L.length∧i= .int .i64 k∧Hid (Below x1.heap.size x1 wr)) (fun i _=>L.length - (intOf i).toNat)
 case atStart=>exact ⟨0,Nat.zero_le _,rfl,zoZ _ _⟩
 case round=>
  obtain ⟨k,hk,rfl,p⟩:=hrel
  by_cases qk:k<L.length
  ·have qz:(k:Int)<L.length:=by omega
   have qC:(L.length:Int)≤64:=by have:=V.out;omega
   obtain ⟨e,Y⟩: ∃e,L[k]? =some e:=⟨_,List.getElem?_eq_getElem qk⟩
   obtain ⟨q,hq,y,ql⟩:=sim_at D.out.sim Y
   have qx:k<Q.length:=by have:=S.out;omega
   obtain ⟨ad,rfl,r0⟩:=(RowX.keep ziU qs.out p.out).r1N (k:=k) (x:=e.nm) (by rw [List.getElem?_map,Y];rfl)
   have f:=zoV (D.out.keep p.out)
   obtain ⟨qd,qw,q2,U,K,s0,_,_⟩:=f.out.row.at3E qx
   obtain rfl:q2=q:=by rw [hq] at U;exact (Option.some.inj U).symm
   rw [y] at s0
   subst qw
   obtain ⟨g,hg⟩: ∃g,zaI j e=g:=⟨_,rfl⟩
   have qe:zaI j q2=g:=by rw [←hg];show decide (j<q2.un)=decide (j<e.un);rw [ql]
   have qc:=zoV (znH c M L zf j wr f.out.cac (List.mem_of_getElem? Y) (n:=e.nm) rfl g hg)
   have G:Hid (∀W,Below wr.heap.size wr W→Calls Tryz.prog 30 #[.slice (some qd) Q.length cq,.string ⟨e.nm.toArray⟩,.int .i64 j] W fun r w'=>(∃a c,r= .returned (.tuple #[.slice a (if g then zf e.nm else []).length c,.bool g])∧RowX 3 clR W a (if g then zf e.nm else []))∧Below W.heap.size W w'):=fun W hW=>
    zhP (some qd) cq Q zf j W (f.out.keep hW).row (f.out.keep hW).lst (zhC f.out.sim f.out.cac.cac.map.2) (by have:=S.out;have:=V.out;omega) K y g qe
   rw [S.out] at G
   have qp:Hid (∀z∈(if g then zf e.nm else []),z.Ok):=fun z hz=>by
    cases g with
    |true=>exact f.out.ok q2 K z (by rw [y];simpa using hz)
    |false=>simp at hz
   have qa:Hid ((if g then zf e.nm else []).length≤1000):=by
    show _≤_
    cases g with
    |true=>exact f.out.short e (List.mem_of_getElem? Y)
    |false=>simp
   have qn:=zoV s0
   generalize (if g then zf e.nm else [])=A at*
   clear Y hq U K y ql hg qe s0
   go_upto_region 7 with fail
   go_wp2_with fail
   refine qc.out.mono ?_
   rintro e7 x7 ⟨v7,rfl,J,O⟩
   obtain ⟨a7,k7,rfl⟩:=J.form
   have qo:=zoV (J.row zaQ)
   have E:=zoV O
   have c0:=(O.cell (World.block_lt_of_cell? wr _ qn.out)).trans qn.out
   clear J O qc
   go_wp2_with fail
   refine (G.out x7 E.out).mono ?_
   rintro e8 x8 ⟨⟨a8,k8,rfl,Z⟩,o⟩
   have c1:=(o.cell (World.block_lt_of_cell? x7 _ c0)).trans c0
   have qr:=zoV (RowX.keep zbN Z o)
   have B:=zoV (RowX.keep zaQ qo.out o)
   have R:=zoV (E.out.trans (o.mono E.out.size))
   have qb:=zoV (zdO a7 k7 A x8 B.out qa.out qp.out)
   clear Z o G c0 qo B
   go_wp2_with fail
   refine qb.out.mono ?_
   rintro e9 x9 ⟨v9,rfl,H,I⟩
   obtain ⟨a9,k9,rfl⟩:=H.form
   have qi:=zoV (R.out.trans (I.mono R.out.size))
   have qf:=zoV (zfQ a9 a8 k9 k8 A x9 (H.row zbN) (RowX.keep zbN qr.out I) (by have:=qa.out;omega))
   clear H I qb R c1
   go_wp2_with fail
   refine qf.out.mono ?_
   rintro qB qA ⟨rfl,C⟩
   have qm:=zoV (p.out.trans ((qi.out.trans (C.mono qi.out.size)).mono p.out.size))
   clear C qf
   go_wp2
   go_roundw
   case rel=>exact ⟨k+1,by omega,by go_num,qm⟩
   case measure=>simp [intOf];omega
  ·have qq:k=L.length:=by omega
   subst qq
   clear qk
   have qy:=zoV (qh.out.trans (p.out.mono qh.out.size))
   go_wp2
   go_ret
   exact ⟨rfl,qy.out⟩
theorem ziF {Q L:List CE} (h:Q.map keyE=L.map keyE) (f:Int):(Q.filter (zaI f)).map keyE=(L.filter (zaI f)).map keyE:=by
 have e: ∀l:List CE,(l.filter (zaI f)).map keyE=(l.map keyE).filter fun k=>decide (f<k.2):=fun l=>by rw [List.filter_map];rfl
 rw [e,e,h]
theorem zjT {Q L:List CE} (h:Q.map keyE=L.map keyE) (n:List UInt8):(delE n Q).map keyE=(delE n L).map keyE:=by
 have e: ∀l:List CE,(delE n l).map keyE=(l.map keyE).filter fun k=> !(k.1==n):=fun l=>by unfold delE;rw [List.filter_map];rfl
 rw [e,e,h]
theorem znF {Q L:List CE} (h:Q.map keyE=L.map keyE) (n:List UInt8):(zaJ n Q).isNone=(zaJ n L).isNone:=by
 have e: ∀l:List CE,(zaJ n l).isNone= !(l.map keyE).any fun k=>k.1==n:=fun l=>by
  unfold zaJ
  induction l with
  |nil=>rfl
  |cons a l f=>
   rw [List.find?_cons,List.map_cons,List.any_cons]
   show _= !((a.nm==n)||_)
   cases a.nm==n with
   |true=>rfl
   |false=>simpa using f
 rw [e,e,h]
def zfI (m:List UInt8×Int):List (List UInt8×Int)→List UInt8×Int
 |[]=>m
 |a::l=>zfI (if a.2<m.2 then a else m) l
theorem zfN: ∀(l:List CE) (m:CE),keyE (zaL m l)=zfI (keyE m) (l.map keyE)
 |[],_=>rfl
 |a::l,m=>by
  rw [List.map_cons]
  unfold zaL zfI
  rw [zfN l]
  show _=zfI (if a.un<m.un then keyE a else keyE m) _
  split<;>rfl
theorem sim_go {Q L:List CE} (h:Q.map keyE=L.map keyE):zaV Q=zaV L:=by
 have e: ∀l:List CE,zaV l=match l.map keyE with|[]=>[]|a::r=>(zfI a r).1:=fun l=>by
  cases l with
  |nil=>rfl
  |cons a l=>show (keyE (zaL a l)).1=_;rw [zfN];rfl
 rw [e,e,h]
theorem zmR {Q L:List CE} (h:Q.map keyE=L.map keyE) (n:List UInt8):(zaP n Q).map keyE=(zaP n L).map keyE:=by
 unfold zaP zeP
 rw [znF h,zcL h,sim_go h]
 split
 ·exact zjT h _
 ·exact h
def insK (e:List UInt8×Int):List (List UInt8×Int)→List (List UInt8×Int)
 |[]=>[e]
 |a::l=>if bytesBefore e.1 a.1 then e::a::l else a::insK e l
theorem zfR (e:CE): ∀l:List CE,(insE e l).map keyE=insK (keyE e) (l.map keyE)
 |[]=>rfl
 |a::l=>by
  rw [List.map_cons]
  unfold insE insK
  show _=if bytesBefore e.nm a.nm then _ else _
  split
  ·rfl
  ·rw [List.map_cons,zfR e l]
theorem zoB {Q L:List CE} (h:Q.map keyE=L.map keyE) (n:List UInt8) (u:Int) (v f:Value):(putE ⟨n,u,v⟩ (zaP n Q)).map keyE=(putE ⟨n,u,f⟩ (zaP n L)).map keyE:=by
 unfold putE
 rw [zfR,zfR]
 show insK (n,u) ((delE n (zaP n Q)).map keyE)=insK (n,u) ((delE n (zaP n L)).map keyE)
 rw [zjT (zmR h n)]
theorem zcX {X:Type} {s:Nat} {cl:X→List Value} (B: ∀x,(cl x).length=s) {x y:World} {M:Nat} {ao:Option Addr} {g:List X} (h:RowX s cl x ao g) (E: ∀p:Addr,p.block=M→x.cell? p=none) (D:Only [M] x y):RowX s cl y ao g:=fun j z o=>by
 obtain ⟨A,e,G⟩:=h j z o
 refine ⟨A,e,fun i hi=> ?_⟩
 have q:(cl z)[i]? =some ((cl z)[i]'(by rw [B];exact hi)):=List.getElem?_eq_getElem _
 have f:=G i hi
 rw [q] at f ⊢
 exact (World.cell?_of_block (D.block _ (World.block_lt_of_cell? x _ f) (fun C=>by rw [E _ (List.mem_singleton.1 C)] at f;cases f))).trans f
structure LstZ (x:World) (zf:List UInt8→List AZ) (aq:Option Addr) (Q:List CE):Prop where
 row:RowX 3 clE x aq Q
 lst: ∀q∈Q,∃a c,q.sv= .slice a (zf q.nm).length c∧RowX 3 clR x a (zf q.nm)
 ok: ∀q∈Q,∀z∈zf q.nm,z.Ok
theorem LstZ.only {x y:World} {M:Nat} {zf:List UInt8→List AZ} {aq:Option Addr} {Q:List CE} (h:LstZ x zf aq Q) (g: ∀p:Addr,p.block=M→x.cell? p=none) (f:Only [M] x y):LstZ y zf aq Q:=
 ⟨zcX zaN h.row g f,fun q o=>by obtain ⟨a,k,j,i⟩:=h.lst q o;exact ⟨a,k,j,zcX zbN i g f⟩,h.ok⟩
theorem LstZ.keep {x y:World} {zf:List UInt8→List AZ} {aq:Option Addr} {Q:List CE} (h:LstZ x zf aq Q) (f:Below x.heap.size x y):LstZ y zf aq Q:=
 ⟨RowX.keep zaN h.row f,fun q j=>by obtain ⟨a,k,i,g⟩:=h.lst q j;exact ⟨a,k,i,RowX.keep zbN g f⟩,h.ok⟩
theorem LstZ.slices {x:World} {zf:List UInt8→List AZ} {aq:Option Addr} {Q:List CE} (h:LstZ x zf aq Q): ∀q∈Q,SlE q:=fun q g=>by obtain ⟨a,k,f,_⟩:=h.lst q g;exact ⟨a,_,k,f⟩
theorem zdS.two {x:World} {c M:Nat} {L Q:List CE} {zf:List UInt8→List AZ} {aq:Option Addr} (h:zdS x c M L zf aq Q):LstZ x zf aq Q:=⟨h.row,h.lst,h.ok⟩
theorem LstZ.play {x:World} {c M:Nat} {L Q:List CE} {zf:List UInt8→List AZ} {aq:Option Addr} (h:LstZ x zf aq Q) (f:CacZ x c M L zf) (i:Q.map keyE=L.map keyE) (g: ∀e∈L,(zf e.nm).length≤1000):zdS x c M L zf aq Q:=⟨f,i,h.row,h.lst,h.ok,g⟩
theorem LstZ.fewer {x y:World} {zf:List UInt8→List AZ} {aq j:Option Addr} {Q f:List CE} (h:LstZ x zf aq Q) (p:Below x.heap.size x y) (o:RowX 3 clE y j f) (i: ∀q∈f,q∈Q):LstZ y zf j f:=
 ⟨o,fun q g=>(h.keep p).lst q (i q g),fun q g=>h.ok q (i q g)⟩
theorem LstZ.put {x y:World} {zf:List UInt8→List AZ} {aq A:Option Addr} {Q:List CE} {n:List UInt8} {u:Int} {la:Option Addr} {lc:Nat} {j:List AZ} (h:LstZ x zf aq Q) (p:Below x.heap.size x y) (B:RowX 3 clR x la j) (o: ∀z∈j,z.Ok) (C:RowX 3 clE y A (putE ⟨n,u,.slice la j.length lc⟩ (zaP n Q))):LstZ y (upd zf n j) A (putE ⟨n,u,.slice la j.length lc⟩ (zaP n Q)):=by
 refine ⟨C,fun q g=> ?_,fun q g=> ?_⟩
 ·rcases zbU.1 g with rfl|⟨g,i⟩
  ·unfold upd;rw [if_pos rfl];exact ⟨la,lc,rfl,RowX.keep zbN B p⟩
  ·have f: ¬q.nm=n:=i
   unfold upd;rw [if_neg f];exact (h.keep p).lst q (zbC g)
 ·rcases zbU.1 g with rfl|⟨g,i⟩
  ·unfold upd;rw [if_pos rfl];exact o
  ·have f: ¬q.nm=n:=i
   unfold upd;rw [if_neg f];exact h.ok q (zbC g)
theorem ziW {L:List CE} {zf:List UInt8→List AZ} {n:List UInt8} {u:Int} {v:Value} {j:List AZ} (h: ∀e∈L,(zf e.nm).length≤1000) (o:j.length≤1000): ∀e∈putE ⟨n,u,v⟩ (zaP n L),(upd zf n j e.nm).length≤1000:=fun e g=>by
 rcases zbU.1 g with rfl|⟨g,i⟩
 ·unfold upd;rw [if_pos rfl];exact o
 ·have f: ¬e.nm=n:=i
  unfold upd;rw [if_neg f];exact h e (zbC g)
theorem On.ok {x:On} (h:x.Ok):x.az.Ok:=by
 unfold On.az AZ.make
 have f:=h.1
 have g:=h.2
 cases x.is with
 |true=>exact ⟨⟨by omega,by omega⟩,by omega,by omega⟩
 |false=>exact ⟨by show 0≤(x.lo:Int) % 4294967296;omega,by show (x.lo:Int) % 4294967296≤4294967295;omega⟩
theorem zfS (ao:Option Addr) (cp f:Nat) (n:ByteArray) (u:Int) (la:Option Addr) (lc:Nat) (w:World):
  Calls Tryz.prog 14 #[.slice ao f cp,.string n,.int .i64 u,.slice la 0 lc] w fun e w'=>e= .returned (.tuple #[.slice ao f cp,.bool false])∧w=w':=by
 go_enter Tryz.func14,Tryz.ntmps14
 go_wp2
 refine bodyPost_ret (v:= .tuple #[.slice ao f cp,.bool false]) (by simp [results,Tryz.results14,go_sem]) rfl ?_
 exact ⟨rfl,rfl⟩
end
end Go.Proofs.YteajemblhlbfpaaGreatDoor
