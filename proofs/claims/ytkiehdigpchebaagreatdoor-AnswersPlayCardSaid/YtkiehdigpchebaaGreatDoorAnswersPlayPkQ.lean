/-
  What the law AnswersPlay leans on, and its walk (17 of 22).
-/
import Derived.BigQuiet
import Derived.Test.YtkiehdigpchebaaGreatDoorAnswersPlayPkO
import Derived.Test.YtkiehdigpchebaaGreatDoorAnswersPlayPkP
import Derived.Test.YtkiehdigpchebaaGreatDoorAnswersPlayPkL
namespace Go.Proofs.YtkiehdigpchebaaGreatDoor
set_option maxRecDepth 100000
set_option maxHeartbeats 16000000
theorem tkQ {P : Program} {p : Region.Mode} {f : Array Oper} {Q : Exit → Act → World → Prop} {S : World → Prop} (i : Nat) (s : Option Nat) {E : Op} {G : TypeId} {o : String} {H : _} {C : _} {v : Value} {fuel : Nat} {d : Array Bool} {a : Act} {w : World} (hi : f[i]? = some ⟨s, E, G, o, H, C⟩)
 (J : YieldsIf P f S ⟨s, E, G, o, H, C⟩ v a) (O : S w)
 (h : wpAnyH P p f Q S fuel (d.setIfInBounds i true) (a.put s v) w)
 (I : Region.noSelect f = true := by kernel_rfl) (K : Region.free p f d i = true := by kernel_rfl) (R : (Region.ready p f d).contains i = true := by kernel_rfl)
 (N : ∀ c a w, Q (.panic c) (a.put s v) w → Q (.panic c) a w := by exact fun _ _ _ h => h) : wpAnyH P p f Q S (fuel + 1) d a w :=
 wpAnyH_take hi I K R N J O h
theorem tkQa {α : Type _} (l : List α) (i : Nat) (a : α) : l.toArray.setIfInBounds i a = (l.set i a).toArray := List.setIfInBounds_toArray ..
theorem tkQb {α : Type _} (x y : α) (l : List α) : (x :: l).set 0 y = y :: l := rfl
theorem tkQc {α : Type _} (x y : α) (l : List α) (n : Nat) : (x :: l).set (n + 1) y = x :: l.set n y := rfl
abbrev zqI := @Lib.hid
abbrev zqJ := @Nat.le_refl
abbrev zqK := @Go.RowKit.Below.refl
abbrev zqL := @congrArg
section
open Go.RowKit Go.Maps Go.Sort Go.Shelf Go.Lib
def unOf (L:List CE) (n:List UInt8):Int:=((zaL n L).map CE.un).getD 0
abbrev NmT:={n:List UInt8//n.length≤maxLen}
instance:Inhabited NmT:=⟨⟨[],by simp⟩⟩
def encN (n:NmT):Value:=encStr n.1
def cfN (L:List CE) (a b:NmT):Int:=cmpI (unOf L a.1) (unOf L b.1)
theorem zdA (x:Int) (w:World):Calls Tryz.prog 54 #[.int .i64 x] w fun e w'=>e= .returned (.bool false)∧w=w':=by
 go_enter Tryz.func54,Tryz.ntmps54
 go_wp2
 go_ret
 simp
theorem zeF (x y:Int) (w:World):Calls Tryz.prog 43 #[.int .i64 x,.int .i64 y] w fun e w'=>e= .returned (.int .i64 (cmpI x y))∧w'=w:=by
 have o:=zqI (zdA x w)
 have p:=zqI (zdA y w)
 unfold cmpI
 by_cases f:x<y
 ·rw [if_pos f]
  have C:decide (x<y)=true:=decide_eq_true f
  clear f
  go_enter Tryz.func43,Tryz.ntmps43
  go_wp2_with fail
  refine o.out.mono ?_
  rintro e x ⟨rfl,rfl⟩
  go_wp2_with fail
  refine p.out.mono ?_
  rintro e x ⟨rfl,rfl⟩
  go_wp2
  go_ret
  exact ⟨rfl,rfl⟩
 ·rw [if_neg f]
  have C:decide (x<y)=false:=decide_eq_false f
  clear f
  by_cases d:y<x
  ·rw [if_pos d]
   have E:decide (y<x)=true:=decide_eq_true d
   clear d
   go_enter Tryz.func43,Tryz.ntmps43
   go_wp2_with fail
   refine o.out.mono ?_
   rintro e x ⟨rfl,rfl⟩
   go_wp2_with fail
   refine p.out.mono ?_
   rintro e x ⟨rfl,rfl⟩
   go_wp2
   go_ret
   exact ⟨rfl,rfl⟩
  ·rw [if_neg d]
   have E:decide (y<x)=false:=decide_eq_false d
   clear d
   go_enter Tryz.func43,Tryz.ntmps43
   go_wp2_with fail
   refine o.out.mono ?_
   rintro e x ⟨rfl,rfl⟩
   go_wp2_with fail
   refine p.out.mono ?_
   rintro e x ⟨rfl,rfl⟩
   go_wp2
   go_ret
   exact ⟨rfl,rfl⟩
def svOf (L:List CE) (n:List UInt8):Value:=((zaL n L).map CE.sv).getD (.slice none 0 0)
theorem MapS.look1 {x:World} {M:Nat} {L:List CE} (h:MapS x M L) {n:List UInt8} (E:n.length≤maxLen):
  (Instr.lookup 81 (.map (some M)) (.string ⟨n.toArray⟩) false).run Tryz.prog x= .ok (.agg #[.int .i64 (unOf L n),svOf L n]) x:=by
 obtain ⟨v,K,d,p⟩:=h.1.lookup zbG Tryz.underlying81 (zkH x) (zbJ 0 none 0 0) (zbP E)
 rw [zkC] at p
 obtain ⟨u,a,k,c,o,f⟩:=zbQ p
 subst o
 simp only [Prod.mk.injEq] at f
 rw [d]
 unfold unOf svOf
 cases C:zaL n L with
 |none=>
  rw [C] at f
  have:=f.1
  simp at this
  obtain ⟨G,H,J,I⟩:=this
  simp [←G,←H,←J,←I]
 |some e=>
  rw [C] at f
  have:=f.1
  simp [CE.val] at this
  simp [this]
theorem zjU (u:Int) (v:Value) (W:World):(Instr.field 88 (.agg #[.int .i64 u,v]) 0).run Tryz.prog W= .ok (.int .i64 u) W:=by kernel_rfl
theorem ziS (c M J:Nat) (L:List CE) (a b:NmT) (w:World) (h:CacS w c M L) (U:w.cell? ⟨J,0,none⟩=some (.pointer (some ⟨c,0,none⟩))):
  Calls Tryz.prog 42 #[encN a,encN b,.pointer (some ⟨J,0,none⟩)] w fun e w'=>e= .returned (.int .i64 (cfN L a b))∧ ∃q,w'=w.drewN q:=by
 have N:=zaA h.box 0
 simp at N
 have O:=MapS.look1 (x:=w.drew) h.map a.2
 have I:=MapS.look1 (x:=w.drew) h.map b.2
 have qb:=zjU (unOf L a.1) (svOf L a.1)
 have qa:=zjU (unOf L b.1) (svOf L b.1)
 have HC:=zqI (zeF (unOf L a.1) (unOf L b.1))
 unfold encN encStr cfN
 generalize unOf L a.1=Y at*
 generalize unOf L b.1=ub at*
 generalize svOf L a.1=va at*
 generalize svOf L b.1=Z at*
 obtain ⟨V,_⟩:=a
 obtain ⟨nb,_⟩:=b
 dsimp only at O I ⊢
 clear h
 go_enter Tryz.func42,Tryz.ntmps42
 go_wp2
 -- REGION
 refine wp_region_held_drew (S:=fun W=>W.cell? ⟨J,0,none⟩=some (.pointer (some ⟨c,0,none⟩))∧W.cell? ⟨c,0,none⟩=some (.map (some M))∧(Instr.lookup 81 (.map (some M)) (.string ⟨V.toArray⟩) false).run Tryz.prog W= .ok (.agg #[.int .i64 Y,va]) W∧(Instr.lookup 81 (.map (some M)) (.string ⟨nb.toArray⟩) false).run Tryz.prog W= .ok (.agg #[.int .i64 ub,Z]) W) (by kernel_rfl) ?_ (fun f=> ?_)
 ·exact ⟨U,N,O,I⟩
 refine tkQ 0 (some 6) (v:= ?_) rfl (.inl ⟨by rfl,?_⟩) f ?_
 rotate_left
 ·intro w d
  (try dsimp only at d)
  obtain ⟨E,G,C,p⟩:=d
  go_simp
  try with_reducible rfl
 try simp only [Act.put,tkQa,tkQb,tkQc]
 refine tkQ 1 (some 7) (v:= ?_) rfl (.inl ⟨by rfl,?_⟩) f ?_
 rotate_left
 ·intro w d
  (try dsimp only at d)
  obtain ⟨E,G,C,p⟩:=d
  go_simp
  try with_reducible rfl
 try simp only [Act.put,tkQa,tkQb,tkQc]
 refine tkQ 2 (some 8) (v:= ?_) rfl (.inl ⟨by rfl,?_⟩) f ?_
 rotate_left
 ·intro w d
  (try dsimp only at d)
  obtain ⟨E,G,C,p⟩:=d
  go_simp
  try with_reducible rfl
 try simp only [Act.put,tkQa,tkQb,tkQc]
 refine tkQ 3 (some 9) (v:= ?_) rfl (.inl ⟨by rfl,?_⟩) f ?_
 rotate_left
 ·intro w d
  (try dsimp only at d)
  obtain ⟨E,G,C,p⟩:=d
  go_simp
  try with_reducible rfl
 try simp only [Act.put,tkQa,tkQb,tkQc]
 refine tkQ 4 (some 10) (v:= ?_) rfl (.inl ⟨by rfl,?_⟩) f ?_
 rotate_left
 ·intro w d
  (try dsimp only at d)
  obtain ⟨E,G,C,p⟩:=d
  go_simp
  try with_reducible rfl
 try simp only [Act.put,tkQa,tkQb,tkQc]
 refine tkQ 5 (some 11) (v:= ?_) rfl (.inl ⟨by rfl,?_⟩) f ?_
 rotate_left
 ·intro w d
  (try dsimp only at d)
  obtain ⟨E,G,C,p⟩:=d
  go_simp
  try with_reducible rfl
 try simp only [Act.put,tkQa,tkQb,tkQc]
 refine tkQ 6 (some 12) (v:= ?_) rfl (.inl ⟨by rfl,?_⟩) f ?_
 rotate_left
 ·intro w d
  (try dsimp only at d)
  obtain ⟨E,G,C,p⟩:=d
  go_simp
  try with_reducible rfl
 try simp only [Act.put,tkQa,tkQb,tkQc]
 refine tkQ 7 (some 13) (v:= ?_) rfl (.inl ⟨by rfl,?_⟩) f ?_
 rotate_left
 ·intro w d
  (try dsimp only at d)
  obtain ⟨E,G,C,p⟩:=d
  go_simp
  try with_reducible rfl
 try simp only [Act.put,tkQa,tkQb,tkQc]
 refine tkQ 8 (some 14) (v:= ?_) rfl (.inl ⟨by rfl,?_⟩) f ?_
 rotate_left
 ·intro w d
  (try dsimp only at d)
  obtain ⟨E,G,C,p⟩:=d
  go_simp
  try with_reducible rfl
 try simp only [Act.put,tkQa,tkQb,tkQc]
 refine tkQ 9 (some 15) (v:= ?_) rfl (.inl ⟨by rfl,?_⟩) f ?_
 rotate_left
 ·intro w d
  (try dsimp only at d)
  obtain ⟨E,G,C,p⟩:=d
  go_simp
  try with_reducible rfl
 try simp only [Act.put,tkQa,tkQb,tkQc]
 refine tkQ 10 (some 16) (v:= ?_) rfl (.inl ⟨by rfl,?_⟩) f ?_
 rotate_left
 ·intro w d
  (try dsimp only at d)
  obtain ⟨E,G,C,p⟩:=d
  go_simp
  try with_reducible rfl
 try simp only [Act.put,tkQa,tkQb,tkQc]
 refine tkQ 11 (some 17) (v:= ?_) rfl (.inl ⟨by rfl,?_⟩) f ?_
 rotate_left
 ·intro w d
  (try dsimp only at d)
  obtain ⟨E,G,C,p⟩:=d
  go_simp
  try with_reducible rfl
 try simp only [Act.put,tkQa,tkQb,tkQc]
 refine tkQ 12 (some 18) (v:= ?_) rfl (.inl ⟨by rfl,?_⟩) f ?_
 rotate_left
 ·intro w d
  (try dsimp only at d)
  obtain ⟨E,G,C,p⟩:=d
  go_simp
  try with_reducible rfl
 try simp only [Act.put,tkQa,tkQb,tkQc]
 refine tkQ 13 (some 19) (v:= ?_) rfl (.inl ⟨by rfl,?_⟩) f ?_
 rotate_left
 ·intro w d
  (try dsimp only at d)
  obtain ⟨E,G,C,p⟩:=d
  go_simp
  try with_reducible rfl
 try simp only [Act.put,tkQa,tkQb,tkQc]
 refine wpAnyH_ready (rs:=[14]) (by kernel_rfl) (by simp) ?_
 refine AllReadyH.cons (o:=⟨some 20,_,_,_,_,_⟩) rfl (fun K R=> ?_) AllReadyH.nil
 go_simp
 go_at_call 43
 refine (HC.out _).mono ?_
 rintro e w' ⟨rfl,rfl⟩
 (try go_wp2_with fail)
 refine R.out _ _ ?_ (fun H=> ?_)
 ·exact ⟨U,N,O,I⟩
 clear R K
 try simp only [Act.put,tkQa,tkQb,tkQc]
 refine tkQ 15 (some 5) (v:= ?_) rfl (.inl ⟨by rfl,?_⟩) H ?_
 rotate_left
 ·intro w d
  (try dsimp only at d)
  obtain ⟨E,G,C,p⟩:=d
  go_simp
  try with_reducible rfl
 try simp only [Act.put,tkQa,tkQb,tkQc]
 refine wpAnyH_done (by kernel_rfl) ?_ _
 -- END REGION
 go_wp2
 go_ret
 exact ⟨rfl,1,rfl⟩
def attN (L:List CE) (d: ∀e∈L,e.nm.length≤maxLen):List NmT:=L.attach.map fun e=>⟨e.1.nm,d e.1 e.2⟩
theorem zhT (L:List CE) (hn):(attN L hn).map encN=(L.map CE.nm).map encStr:=by
 unfold attN encN
 rw [List.map_map,List.map_map]
 conv=>rhs;rw [←List.attach_map_subtype_val L]
 rw [List.map_map]
 rfl
theorem zdZ (L:List CE) (hn) (j:Nat) (d:j<L.length):(L.map CE.nm).toArray[j]! =((attN L hn).toArray[j]!).1:=by
 rw [getElem!_pos _ _ (by simpa using d),getElem!_pos _ _ (by simpa [attN] using d)]
 simp [attN]
theorem zcW (L:List CE) (hn):(attN L hn).length=L.length:=by unfold attN;simp
def zcZ (L:List CE) (d: ∀e∈L,e.nm.length≤maxLen):NmT:=Lib.pickBy (fun x m=>decide (cfN L x m<0)) (attN L d).toArray (L.length - 1)
theorem zeI {enc:NmT→Value} {o W:World} {blk off:Nat} {d:Array NmT} (h:SW enc o blk off d W) (b:Nat) (p:b<o.heap.size) (f:b≠blk):W.heap[b]? =o.heap[b]? :=by
 obtain ⟨n,os,rfl⟩:=h
 unfold sortWorld grow putRow mapBlock Go.Sort.ahead
 simp only
 rw [Array.getElem?_append_left (by rw [Array.size_modify];exact p),Array.getElem?_modify,if_neg (fun e=>f e.symm)]
theorem zoK {enc:NmT→Value} {f W:World} {blk off:Nat} {d:Array NmT} (h:SW enc f blk off d W) (o:Holds enc f blk off d):Below f.heap.size f W:=by
 obtain ⟨n,os,rfl⟩:=h
 have e:putRow enc (Go.Sort.ahead f n) blk off d=Go.Sort.ahead f n:=by rw [putRow_ahead,putRow_self enc f blk off d o]
 unfold sortWorld
 rw [e]
 exact ⟨rfl,rfl,rfl,by rw [Go.Sort.size_grow];exact Nat.le_add_right _ _,fun k p=>by unfold grow Go.Sort.ahead;simp only;rw [Array.getElem?_append_left p]⟩
theorem zeD (c M:Nat) (L:List CE) (w:World) (h:CacS w c M L) (hL:L.length≤1000000) (h0:L≠[]) (o: ∀e∈L,e.nm.length≤maxLen):
  Calls Tryz.prog 28 #[.pointer (some ⟨c,0,none⟩)] w fun e w'=>e= .returned (encN (zcZ L o))∧Below w.heap.size w w':=by
 obtain ⟨y,G⟩: ∃y,y=w.alloc (.cells #[.pointer (some ⟨c,0,none⟩)] 24):=⟨_,rfl⟩
 have hb:Below w.heap.size w y:=by rw [G];exact (zqK _ _).alloc (zqJ _) _
 have C:y.heap[w.heap.size]? =some (.cells #[.pointer (some ⟨c,0,none⟩)] 24):=by rw [G];exact heap_alloc_new w _
 have qh:y.heap.size=w.heap.size+1:=by rw [G];simp
 have hS:=h.keep hb
 have e0:=zaA C 0
 simp at e0
 have HN:=zqI (zdN c M L y hS hL)
 have HM:Hid (∀x v,OwnX 34 1 clN x y.heap.size v (L.map CE.nm)→Below y.heap.size y x→ ∃d cp,v= .slice (some ⟨d,0,none⟩) L.length cp∧
   Calls Tryz.prog 41 #[.slice (some ⟨d,0,none⟩) L.length cp,.func (.func 42) #[] #[.pointer (some ⟨w.heap.size,0,none⟩)]] x fun e w'=>e= .returned (encN (zcZ L o))∧Below x.heap.size x w'):=by
  intro x v E p
  unfold OwnX at E
  rw [flatN,←zhT L o] at E
  rcases E.2 with ⟨rfl,S⟩|⟨d,Y,cur,rfl,qc,U,r1,r2,r3,r4⟩
  ·rw [List.length_map] at S
   exact absurd (List.eq_nil_of_length_eq_zero S) h0
  ·have qb:Holds encStr x d 0 (L.map CE.nm).toArray:=holds_of_block U (by rw [zhT] at r4;simpa using r4)
   have hH:Holds encN x d 0 (attN L o).toArray:=fun j hj=>by
    have O:j<L.length:=by simpa [zcW] using hj
    have:=qb j (by simpa using O)
    rw [zdZ L o j O] at this
    exact this
   have qe:d<x.heap.size:=(Array.getElem?_eq_some_iff.1 U).1
   have qf:0<L.length:=List.length_pos_iff.2 h0
   refine ⟨d,Y,by rw [List.length_map],?_⟩
   have qd:x.cell? ⟨w.heap.size,0,none⟩=some (.pointer (some ⟨c,0,none⟩)):=(p.cell (World.block_lt_of_cell? y _ e0)).trans e0
   have I:=hS.keep p
   have Z:CmpReads Tryz.prog 42 #[.pointer (some ⟨w.heap.size,0,none⟩)] encN (cfN L) d 0 (attN L o).toArray.size x:=fun m os V N a b=>by
    have f:SW encN x d 0 V (sortWorld encN x d 0 m V os):=⟨m,os,rfl⟩
    have qg:c<y.heap.size:=by have:=zaG h.box;omega
    have qi:M<y.heap.size:=by have:=hS.map.1.lt;omega
    have R:(sortWorld encN x d 0 m V os).heap[c]? =x.heap[c]? :=zeI f c (by have:=p.size;omega) (by omega)
    have H:(sortWorld encN x d 0 m V os).heap[M]? =x.heap[M]? :=zeI f M (by have:=p.size;omega) (by omega)
    have qa:(sortWorld encN x d 0 m V os).heap[w.heap.size]? =x.heap[w.heap.size]? :=zeI f w.heap.size (by have:=p.size;omega) (by omega)
    exact ziS c M w.heap.size L a b _ ⟨R.trans I.box,I.map.same H⟩ ((World.cell?_of_block (a:=⟨w.heap.size,0,none⟩) qa).trans qd)
   have K:=Any.slices_MinFunc_s minN encN (fun a=>rfl) (cfN L) 42 #[.pointer (some ⟨w.heap.size,0,none⟩)] d 0 Y (attN L o).toArray x (enters_of Tryz.func42 (by kernel_rfl) rfl) Z.lays hH qe (by simp [zcW];omega) (by simp [zcW];omega)
   have N:(attN L o).toArray.size=L.length:=by simp [zcW]
   rw [N] at K
   refine K.mono ?_
   rintro e w' ⟨rfl,f⟩
   exact ⟨rfl,zoK f hH⟩
 have HB:=zqI hb
 clear h hb C hS h0 hL
 generalize zcZ L o=fg at*
 go_enter Tryz.func28,Tryz.ntmps28
 go_upto_region 1 with fail
 rw [←G]
 clear G
 go_wp2_with fail
 refine HN.out.mono ?_
 rintro e x ⟨v,rfl,E,p⟩
 obtain ⟨d,cp,rfl,hm⟩:=HM.out x v E p
 have J:=zqI hm
 have HX:=zqI (HB.out.trans (p.mono HB.out.size))
 clear E p hm HM HN e0
 go_wp2_with fail
 refine J.out.mono ?_
 rintro e z ⟨rfl,S⟩
 have HZ:=zqI (HX.out.trans (S.mono HX.out.size))
 clear S J
 go_wp2
 go_ret
 exact ⟨rfl,HZ.out⟩
/-! ### which name makes room -/
def zaN (m:CE):List CE→CE
 |[]=>m
 |a::l=>zaN (if a.un<m.un then a else m) l
def zaU:List CE→List UInt8
 |[]=>[]
 |a::l=>(zaN a l).nm
theorem zcE (x:CE): ∀(l:List CE) (m:CE),zaN m (l++[x])=if x.un<(zaN m l).un then x else zaN m l
 |[],_=>rfl
 |a::l,m=>zcE x l (if a.un<m.un then a else m)
theorem zcR: ∀(l:List CE) (m:CE),zaN m l∈m::l
 |[],_=>by simp [zaN]
 |a::l,m=>by
  unfold zaN
  have:=zcR l (if a.un<m.un then a else m)
  rcases List.mem_cons.1 this with h|h
  ·rw [h];split<;>simp
  ·exact List.mem_cons_of_mem _ (List.mem_cons_of_mem _ h)
theorem ziR (x y:Int):(cmpI x y<0)↔x<y:=by unfold cmpI;split<;>(try split)<;>omega
theorem zhG {L:List CE} (h:zaO L) {e:CE} (d:e∈L):unOf L e.nm=e.un:=by unfold unOf;rw [zdF h d];rfl
theorem zdS {a:CE} {l:List CE} (h:zaO (a::l)) (hn): ∀t,t≤l.length→(Lib.pickBy (fun x m=>decide (cfN (a::l) x m<0)) (attN (a::l) hn).toArray t).1=(zaN a (l.take t)).nm
 |0,_=>by
  have:=zdZ (a::l) hn 0 (by simp)
  unfold Lib.pickBy
  rw [←this]
  simp [zaN]
 |t+1,G=>by
  have p:=zdS h hn t (by omega)
  have C:=zdZ (a::l) hn (t+1) (by simp;omega)
  have o:(a::l).map CE.nm|>.toArray[t+1]! =(l[t]'(by omega)).nm:=by
   rw [getElem!_pos _ _ (by simp;omega)]
   simp
  have d:l.take (t+1)=l.take t++[l[t]'(by omega)]:=by rw [List.take_add_one];simp [List.getElem?_eq_getElem (show t<l.length by omega)]
  unfold Lib.pickBy
  rw [d,zcE]
  have E:zaN a (l.take t)∈a::l:=by
   rcases List.mem_cons.1 (zcR (l.take t) a) with q|q
   ·rw [q];simp
   ·exact List.mem_cons_of_mem _ (List.mem_of_mem_take q)
  have f:(cfN (a::l) (attN (a::l) hn).toArray[t+1]! (Lib.pickBy (fun x m=>decide (cfN (a::l) x m<0)) (attN (a::l) hn).toArray t)<0)↔(l[t]'(by omega)).un<(zaN a (l.take t)).un:=by
   show cmpI _ _<0↔_
   rw [ziR,←C,o,p,zhG h (List.mem_cons_of_mem _ (List.getElem_mem _)),zhG h E]
  by_cases q:(l[t]'(by omega)).un<(zaN a (l.take t)).un
  ·rw [if_pos q,if_pos (by rw [decide_eq_true_eq];exact f.2 q),←C,o]
  ·rw [if_neg q,if_neg (by rw [decide_eq_true_eq];exact fun z=>q (f.1 z)),p]
theorem zfH {L:List CE} (h:zaO L) (d:L≠[]) (hn):(zcZ L hn).1=zaU L:=by
 cases L with
 |nil=>exact absurd rfl d
 |cons a l=>
  unfold zcZ zaU
  rw [show (a::l).length - 1=l.length by simp,zdS h hn l.length (zqJ _),List.take_length]
theorem zdU {L:List CE} (d:L≠[]): ∃e∈L,e.nm=zaU L:=by
 cases L with
 |nil=>exact absurd rfl d
 |cons a l=>exact ⟨_,zcR l a,rfl⟩
/-! ### what is there behind a Put -/
def zaQ (n:List UInt8) (L:List CE):List CE:=zfG (zaU L) n L
theorem zbI {f n:List UInt8} {L:List CE} {x:CE} (h:x∈zfG f n L):x∈L:=by
 unfold zfG at h
 split at h
 ·exact (zcH.1 h).1
 ·exact h
theorem zoU {L:List CE} (e:CE) (n:List UInt8) (C:e.nm=n) (h:zaO L) (G:L.length≤64):(putE e (zaQ n L)).length≤64:=by
 subst C
 unfold putE zaQ zfG
 rw [zeO]
 by_cases d:(zaL e.nm L).isNone&&decide (64≤L.length)
 ·rw [if_pos d]
  simp only [Bool.and_eq_true,decide_eq_true_eq,Option.isNone_iff_eq_none] at d
  obtain ⟨x,E,f⟩:=zdU (L:=L) (fun q=>by rw [q] at d;simp at d)
  have:=zeG h (n:=zaU L) (e:=x) (by rw [←f];exact zdF h E)
  have p:(delE e.nm (delE (zaU L) L)).length≤(delE (zaU L) L).length:=List.length_filter_le _ _
  omega
 ·rw [if_neg d]
  have p:(delE e.nm L).length≤L.length:=List.length_filter_le _ _
  cases o:zaL e.nm L with
  |none=>
   rw [o] at d
   simp at d
   omega
  |some x=>
   have:=zeG h o
   omega
/-! ### a cache with what it holds -/
def upd (zf:List UInt8→List AZ) (n:List UInt8) (zs:List AZ):List UInt8→List AZ:=fun k=>if k=n then zs else zf k
structure CacZ (x:World) (c M:Nat) (L:List CE) (zf:List UInt8→List AZ):Prop where
 cac:CacS x c M L
 row: ∀e∈L,∃ao cp,e.sv= .slice ao (zf e.nm).length cp∧RowX 1 clZ x ao (zf e.nm)
 few: ∀e∈L,e.nm.length≤maxLen∧zf e.nm≠[]∧(zf e.nm).length≤1000000
 len:L.length≤64
theorem zbC (ad:Addr) (k:Nat):(ad.add k).block=ad.block:=by unfold Addr.add;split<;>rfl
theorem row_at {x:World} {ao:Option Addr} {zs:List AZ} (h:RowX 1 clZ x ao zs) (f:zs≠[]) {ad:Addr} (C:ao=some ad): ∃p v,p.block=ad.block∧x.cell? p=some v:=by
 cases zs with
 |nil=>exact absurd rfl f
 |cons z l=>
  obtain ⟨d,e,o⟩:=h 0 z rfl
  rw [C] at e
  obtain rfl:=Option.some.inj e
  exact ⟨_,z.val,zbC _ _,o 0 (by omega)⟩
theorem ziK {x:World} {p:Addr} {d:Array MapEntry} {k:Nat} (h:x.heap[p.block]? =some (.map d k)):x.cell? p=none:=by
 unfold World.cell?
 rw [h]
theorem zlU {x:World} {M:Nat} {L:List CE} (h:MapS x M L) {ao:Option Addr} {zs:List AZ} (f:RowX 1 clZ x ao zs) (C:zs≠[]): ∀ad,ao=some ad→ad.block≠M:=fun ad E e=>by
 obtain ⟨p,v,G,d⟩:=row_at f C E
 obtain ⟨⟨H,k,o,_⟩,_⟩:=h
 rw [ziK (by rw [G,e];exact o)] at d
 cases d
theorem CacZ.keep {x y:World} {c M:Nat} {L:List CE} {zf:List UInt8→List AZ} (h:CacZ x c M L zf) (d:Below x.heap.size x y):CacZ y c M L zf:=
 ⟨h.cac.keep d,fun e p=>by obtain ⟨ao,cp,o,f⟩:=h.row e p;exact ⟨ao,cp,o,RowX.keep zaI f d⟩,h.few,h.len⟩
theorem CacZ.new {x:World} {c M:Nat} (h:CacS x c M []) (zf:List UInt8→List AZ):CacZ x c M [] zf:=⟨h,(fun _ d=>nomatch d),(fun _ d=>nomatch d),Nat.zero_le _⟩
theorem put_z (c M:Nat) (L:List CE) (zf:List UInt8→List AZ) (n:List UInt8) (u:Int) (ao:Option Addr) (zs:List AZ) (cp:Nat) (w:World) (h:CacZ w c M L zf) (S:n.length≤maxLen) (J:zs≠[]) (E:zs.length≤1000000) (U:RowX 1 clZ w ao zs):
  Calls Tryz.prog 9 #[.pointer (some ⟨c,0,none⟩),.string ⟨n.toArray⟩,.int .i64 u,.slice ao zs.length cp] w fun e w'=>e= .returned (.bool true)∧ ∃v,CacZ w' c M (putE ⟨n,u,v⟩ (zaQ n L)) (upd zf n zs)∧Only [M] w w':=by
 have N:(zaU L).length≤maxLen:=by
  cases O:L with
  |nil=>simp [zaU]
  |cons a l=>
   obtain ⟨e,H,K⟩:=zdU (L:=L) (by rw [O];simp)
   rw [←O,←K]
   exact (h.few e H).1
 refine (zjV c M L n (zaU L) u ao zs cp w h.cac S N J E U (zlU h.cac.map U J) (by have:=h.len;omega) (fun _ C W hW=> ?_)).mono ?_
 ·have R:L≠[]:=fun e=>by rw [e] at C;simp at C
  have:=zeD c M L W (h.cac.keep hW) (by have:=h.len;omega) R (fun e H=>(h.few e H).1)
  unfold encN encStr at this
  rw [zfH h.cac.map.2 R] at this
  exact this
 ·rintro e w' ⟨rfl,Z,Y,hS,hO,d⟩
  refine ⟨rfl,_,⟨hS,fun x o=> ?_,fun x o=> ?_,zoU _ n rfl h.cac.map.2 h.len⟩,d⟩
  ·rcases zbV.1 o with rfl|⟨o,f⟩
   ·refine ⟨Z,Y,?_,?_⟩
    ·unfold upd;rw [if_pos rfl]
    ·unfold upd;rw [if_pos rfl];exact hO.row zaI
   ·have p:=zbI o
    obtain ⟨I,G,h1,V⟩:=h.row x p
    unfold upd
    rw [if_neg f]
    exact ⟨I,G,h1,zcX V (zlU h.cac.map V (h.few x p).2.1) d⟩
  ·rcases zbV.1 o with rfl|⟨o,f⟩
   ·unfold upd;rw [if_pos rfl];exact ⟨S,J,E⟩
   ·unfold upd;rw [if_neg f];exact h.few x (zbI o)
theorem znE (c M:Nat) (L:List CE) (zf:List UInt8→List AZ) (n:List UInt8) (now:Int) (w:World) (h:CacZ w c M L zf) (E:n.length≤maxLen) {e:CE} (C:zaL n L=some e) (G:now<e.un):
  Calls Tryz.prog 11 #[.pointer (some ⟨c,0,none⟩),.string ⟨n.toArray⟩,.int .i64 now] w fun e w'=> ∃v,e= .returned (.tuple #[v,.bool true])∧OwnX 38 1 clZ w' w.heap.size v (zf n)∧Below w.heap.size w w':=by
 obtain ⟨f,d⟩:=zbA C
 obtain ⟨ao,cp,p,o⟩:=h.row e f
 rw [d] at p o
 exact zjX c M L n now w h.cac E C G p o (by have:=(h.few e f).2.2;rw [d] at this;exact this)
theorem zaO.ext {A B:List CE} (o:zaO A) (f:zaO B) (h: ∀x,x∈A↔x∈B):A=B:=by
 have d: ∀{l:List CE},zaO l→l.Nodup:=fun p=>List.Pairwise.imp (fun {a b} q e=>by rw [e,zaR] at q;cases q) p
 refine List.Perm.eq_of_pairwise (le:=fun (a b:CE)=>bytesBefore a.nm b.nm=true) (fun a b _ _ E C=> ?_) o f ((List.perm_ext_iff_of_nodup (d o) (d f)).2 h)
 have:=zbF E C
 rw [zaR] at this
 cases this
def updV (f:List UInt8→Value) (n:List UInt8) (v:Value):List UInt8→Value:=fun k=>if k=n then v else f k
def zcM (L:List CE) (left:Lit→Bool) (f:List UInt8→Value):List CE:=(L.filter fun e=> !left (.string e.nm)).map fun e=>⟨e.nm,e.un,f e.nm⟩
theorem zkK (L:List CE) (left:Lit→Bool) (f:List UInt8→Value):(zcM L left f).length≤L.length:=by unfold zcM;rw [List.length_map];exact List.length_filter_le _ _
theorem ziN {L:List CE} {left:Lit→Bool} {f:List UInt8→Value} {x:CE}:x∈zcM L left f↔ ∃e∈L,left (.string e.nm)=false∧x=⟨e.nm,e.un,f e.nm⟩:=by
 unfold zcM
 rw [List.mem_map]
 constructor
 ·rintro ⟨e,p,rfl⟩
  obtain ⟨o,d⟩:=List.mem_filter.1 p
  exact ⟨e,o,by simpa using d,rfl⟩
 ·rintro ⟨e,o,d,rfl⟩
  exact ⟨e,List.mem_filter.2 ⟨o,by simp [d]⟩,rfl⟩
theorem zfU {L:List CE} (h:zaO L) (left:Lit→Bool) (f:List UInt8→Value):zaO (zcM L left f):=by
 unfold zcM zaO
 rw [List.pairwise_map]
 exact List.Pairwise.sublist List.filter_sublist h
theorem zeN (a b:List UInt8):(Lit.string a).sameKey (.string b)=(a==b):=rfl
theorem zlG {L:List CE} (h:zaO L) {e:CE} (C:e∈L) {left:Lit→Bool} {f:List UInt8→Value} {v:Value}:zcM L (fun z=>left z&& !z.sameKey (.string e.nm)) (updV f e.nm v)=putE ⟨e.nm,e.un,v⟩ (zcM L left f):=by
 refine (zfU h _ _).ext ((zfU h _ _).put _) fun x=> ?_
 rw [ziN,zbV,ziN]
 constructor
 ·rintro ⟨a,o,d,rfl⟩
  rw [zeN] at d
  by_cases q:a.nm=e.nm
  ·left
   rw [h.one o C q]
   simp [updV]
  ·right
   rw [show (a.nm==e.nm)=false from beq_eq_false_iff_ne.2 q] at d
   refine ⟨⟨a,o,by simpa using d,?_⟩,q⟩
   simp [updV,q]
 ·rintro (rfl|⟨⟨a,o,d,rfl⟩,E⟩)
  ·exact ⟨e,C,by rw [zeN];simp,by simp [updV]⟩
  ·exact ⟨a,o,by rw [d];rfl,by have p: ¬a.nm=e.nm:=E;simp [updV,p]⟩
theorem zmR {L:List CE} {left:Lit→Bool} (h: ∀e∈L,left (.string e.nm)=true) (f:List UInt8→Value):zcM L left f=[]:=by
 unfold zcM
 rw [List.filter_eq_nil_iff.2 (fun e d=>by simp [h e d])]
 rfl
theorem zoN {L:List CE} {left:Lit→Bool} (h: ∀e∈L,left (.string e.nm)=false) (f:List UInt8→Value):zcM L left f=L.map fun e=>⟨e.nm,e.un,f e.nm⟩:=by
 unfold zcM
 rw [List.filter_eq_self.2 (fun e d=>by simp [h e d])]
theorem map_none {x:World} {M:Nat} {L:List CE} (h:MapS x M L): ∀p:Addr,p.block=M→x.cell? p=none:=fun p f=>by
 obtain ⟨⟨o,k,d,_⟩,_⟩:=h
 exact ziK (by rw [f];exact d)
theorem zlR {x:World} {r:Nat} {m:Option Nat} {a b:Nat} {s:Array Nat} (h:x.heap[r]? =some (.mapIter m a s b)): ∀p:Addr,p.block=r→x.cell? p=none:=fun p d=>by
 unfold World.cell?
 rw [d,h]
theorem zbU {x y:World} {k:Nat} (d:x.grownBy y (some k)) (f: ∀p:Addr,p.block=k→x.cell? p=none) {p:Addr} {v:Value} (h:x.cell? p=some v):y.cell? p=some v:=
 (World.cell?_of_block (a:=p) (d.block p.block (World.block_lt_of_cell? x _ h) (fun e=>by rw [f p (Option.some.inj e)] at h;cases h))).trans h
theorem zcQ {x y:World} {k:Nat} (C:x.grownBy y (some k)) (E: ∀p:Addr,p.block=k→x.cell? p=none) {ao:Option Addr} {zs:List AZ} (h:RowX 1 clZ x ao zs):RowX 1 clZ y ao zs:=fun j z d=>by
 obtain ⟨ad,e,f⟩:=h j z d
 refine ⟨ad,e,fun i hi=> ?_⟩
 have o:i=0:=by omega
 subst o
 have q:(clZ z)[0]? =some z.val:=rfl
 rw [q]
 exact zbU C E (by rw [←q];exact f 0 hi)
def zeK (x:World) (L:List CE) (left:Lit→Bool) (f:List UInt8→Value) (zf:List UInt8→List AZ):Prop:= ∀g∈L,left (.string g.nm)=false→ ∃ao cp,f g.nm= .slice ao (zf g.nm).length cp∧RowX 1 clZ x ao (zf g.nm)
theorem zeK.grown {x y:World} {k:Nat} {L:List CE} {left:Lit→Bool} {f:List UInt8→Value} {zf:List UInt8→List AZ} (h:zeK x L left f zf) (G:x.grownBy y (some k)) (H: ∀p:Addr,p.block=k→x.cell? p=none):zeK y L left f zf:=fun g d o=>by
 obtain ⟨ao,cp,E,C⟩:=h g d o
 exact ⟨ao,cp,E,zcQ G H C⟩
theorem zeK.keep {x y:World} {L:List CE} {left:Lit→Bool} {f:List UInt8→Value} {zf:List UInt8→List AZ} (h:zeK x L left f zf) (E:Below x.heap.size x y):zeK y L left f zf:=fun g d o=>by
 obtain ⟨ao,cp,C,p⟩:=h g d o
 exact ⟨ao,cp,C,RowX.keep zaI p E⟩
theorem zmD {x y z:World} {I:Nat} {L:List CE} {left:Lit→Bool} {f:List UInt8→Value} {zf:List UInt8→List AZ} (h:zeK x L left f zf) (K:Below x.heap.size x y) (H: ∀p:Addr,p.block=I→y.cell? p=none) {e:CE} {d:Option Addr} {E:Nat} (J:RowX 1 clZ y d (zf e.nm)) (G:y.grownBy z (some I)):
  zeK z L (fun t=>left t&& !t.sameKey (.string e.nm)) (updV f e.nm (.slice d (zf e.nm).length E)) zf:=fun g C o=>by
 by_cases q:g.nm=e.nm
 ·rw [q]
  exact ⟨d,E,by simp [updV],zcQ G H J⟩
 ·dsimp only at o
  rw [zeN,show (g.nm==e.nm)=false from beq_eq_false_iff_ne.2 q] at o
  obtain ⟨ao,cp,O,N⟩:=h g C (by simpa using o)
  exact ⟨ao,cp,by simp [updV,q,O],zcQ G H (RowX.keep zaI N K)⟩
theorem came {L:List CE} {n:List UInt8} {p:DataW Value} (h: ∀zd,(DL L).atKey (.string n) zd=p): ∃e∈L,e.nm=n∧p= .held e.val:=by
 cases o:zaL n L with
 |none=>
  have d:=h (.held (.bool true))
  have C:=h (.held (.bool false))
  rw [zkC,o] at d C
  rw [←C] at d
  simp at d
 |some e=>
  obtain ⟨E,f⟩:=zbA o
  have d:=h (.held (.bool true))
  rw [zkC,o] at d
  exact ⟨e,E,f,d.symm⟩
theorem zpN (c M:Nat) (L:List CE) (zf:List UInt8→List AZ) (w:World) (h:CacZ w c M L zf):
  Calls Tryz.prog 33 #[.pointer (some ⟨c,0,none⟩)] w fun e w'=> ∃(Y U:Nat) (f:List UInt8→Value),e= .returned (.pointer (some ⟨Y,0,none⟩))∧CacZ w' Y U (L.map fun e=>⟨e.nm,e.un,f e.nm⟩) zf∧w.heap.size≤Y∧w.heap.size≤U∧Below w.heap.size w w':=by
 have HH:=zqI h
 have hc:=zaA h.cac.box 0
 simp at hc
 have HC:=zqI hc
 have HN:=zqI (zgE w)
 have qR:=zqI h.cac.map.2
 have Qd:=zqI h.len
 clear h hc
 go_enter Tryz.func33,Tryz.ntmps33
 go_wp2_with fail
 refine HN.out.mono ?_
 rintro e0 x1 ⟨Y,U,rfl,G,Qe,Qc,qm⟩
 have qD:=(HH.out.cac.keep qm).map.1
 have Qr:=(qm.cell (World.block_lt_of_cell? w _ HC.out)).trans HC.out
 have R:=zqI G
 have qo:=zqI Qc
 have Qp:=zqI Qe
 have qd:=zqI qm
 have Qz:Hid (M<w.heap.size):=HH.out.cac.map.1.lt
 clear G Qe Qc qm
 go_wp2_with (first
  |(at_range;refine wpList_range_own _ rfl _ 81 rfl 34 88 zbG Tryz.underlying81 zcT M L.length _ rfl qD ?_;intro w0 qs qc Qg)
  |go_in)
 try go_frame
 have qk:Below x1.heap.size x1 w0:=⟨qc.os,qc.tape,qc.output,qc.size,fun k hk=>qc.block k hk (by simp)⟩
 have qJ:=zqI (R.out.keep qk)
 have Qa:=zqI (qd.out.trans (qk.mono qd.out.size))
 have qn:Hid (U<x1.heap.size∧Y<x1.heap.size):=⟨R.out.map.1.lt,zaG R.out.box⟩
 have qE:=zqI qs
 clear qD Qr qs qc Qg qk R
 generalize x1.heap.size=r at*
 go_loopw [14] (fun _ wr=> ∃(left:Lit→Bool) (qK:Nat) (f:List UInt8→Value),Hid (wr.ranges Tryz.prog 34 zcT M r L.length (DL L) left qK)∧Hid (CacS wr Y U (zcM L left f))∧Hid (zeK wr L left f zf)∧Hid (Below w.heap.size w wr))
  (fun _ wr=>wr.rangeLeft M r)
 case atStart=>
  have hl: ∀e∈L,Maps.has (DL L) (.string e.nm)=true:=fun e he=>by rw [zpA,zdF qR.out he];rfl
  exact ⟨Maps.has (DL L),Maps.size (DL L),fun _=> .bool true,qE,by rw [zmR hl];exact qJ,(fun g hg Qy=>absurd ((hl g hg).symm.trans Qy) (by decide)),Qa⟩
 case round=>
  obtain ⟨left,qK,f,qO,qb,qI,qp⟩:=hrel
  have qf:=qO.out
  go_wp2_with (first
   |(at_next;refine wpList_next_ranges (α:=ByteArray) (β:=Int×Option Addr×Nat×Nat) _ rfl _ rfl 34 zbG zcT (fun s=> .string s) (fun p=> .agg #[.int .i64 p.1,.slice p.2.1 p.2.2.1 p.2.2.2]) (fun key kl hk=>by
     obtain ⟨s,rfl,_⟩:=WideMaps.string_of_keyOf Tryz.underlying34 hk
     exact ⟨s,rfl⟩) (fun v y hv=>by
     obtain ⟨u,a,k,c,rfl,_⟩:=zbQ hv
     exact ⟨(u,a,k,c),rfl⟩) M r L.length _ _ _ rfl qf ?_ ?_)
   |go_in)
  ·intro _ qL
   have HE:Hid (∀e∈L,left (.string e.nm)=false):=fun e _=>qL _
   clear qf qL
   go_wp2
   go_ret
   refine ⟨Y,U,f,rfl,⟨by rw [←zoN HE.out f];exact qb.out,fun x hx=> ?_,fun x hx=> ?_,by rw [List.length_map];exact Qd.out⟩,Qp.out,qo.out,qp.out⟩
   ·obtain ⟨e,he,rfl⟩:=List.mem_map.1 hx
    exact qI.out e he (HE.out e he)
   ·obtain ⟨e,he,rfl⟩:=List.mem_map.1 hx
    exact HH.out.few e he
  ·intro s u a k c3 kl yd yp w1 qB qA qP hv qT qi Qb qj G Qi
   obtain ⟨s',es,rfl,Qh⟩:=WideMaps.string_of_keyOf Tryz.underlying34 qA
   cases es
   obtain ⟨e,he,qy,rfl⟩:=came qT
   obtain ⟨u0,a0,k0,c0,Qm,hy⟩:=zbQ hv
   have V:e.val= .agg #[.int .i64 u,.slice a k c3]:=by
    simp only [Prod.mk.injEq,DataW.held.injEq] at hy
    exact hy.1
   obtain ⟨ao,cp,qQ,qw⟩:=HH.out.row e he
   unfold CE.val at V
   rw [qQ] at V
   simp at V
   obtain ⟨rfl,rfl,rfl,rfl⟩:=V
   obtain rfl:s=⟨e.nm.toArray⟩:=by cases s;simp [qy]
   rw [show (⟨e.nm.toArray⟩:ByteArray).data.toList=e.nm by simp] at qP qi
   have Qs:=zqI he
   have Qq:=zqI (HH.out.few e he).1
   have qX: ∀p:Addr,p.block=r→wr.cell? p=none:=by
    obtain ⟨_,_,_,_,_,_,_,_,_,hr,_⟩:=qf
    exact zlR hr
   have R:Hid (CacS w1 Y U (zcM L left f)):=⟨(qj.block Y (zaG qb.out.box) (fun q=>by have:=qn.out.2;have:=Option.some.inj q;omega)).trans qb.out.box,qb.out.map.same (qj.block U qb.out.map.1.lt (fun q=>by have:=qn.out.1;have:=Option.some.inj q;omega))⟩
   have qZ:=zqI (qI.out.grown qj qX)
   have Qx:Hid (w.heap.size≤r):=by have:=qn.out.1;have:=qo.out;show w.heap.size≤r;omega
   have qd:=zqI (qp.out.grown qj qp.out.size (fun k hk=>by cases hk;exact Qx.out))
   have Ql:=zqI qf.left_eq
   have Qt:=zqI Qb
   obtain ⟨N,qh⟩: ∃y,y=w1.alloc (.cells #[.int .i64 e.un,.slice ao (zf e.nm).length cp] 88):=⟨_,rfl⟩
   have Z:Below w1.heap.size w1 N:=by rw [qh];exact (zqK _ _).alloc (zqJ _) _
   have qY:Hid (N.ranges Tryz.prog 34 zcT M r L.length (DL L) (fun z=>left z&& !z.sameKey (.string e.nm)) qB):=by rw [qh];exact qi.alloc _
   have qg:N.heap[wr.heap.size]? =some (.cells #[.int .i64 e.un,.slice ao (zf e.nm).length cp] 88):=by rw [qh,←G];exact heap_alloc_new w1 _
   have qN:=zqI (R.out.keep Z)
   have Qj:=zqI (qZ.out.keep Z)
   have qa:=zqI (qd.out.trans (Z.mono qd.out.size))
   have e0:=zaA qg 0
   have e1:=zaA qg 1
   simp at e0 e1
   have qF:=zaA qN.out.box 0
   simp at qF
   have HE:Hid (N.cell? ⟨Y,0,none⟩=some (.map (some U))∧N.cell? ⟨wr.heap.size,0,none⟩=some (.int .i64 e.un)∧N.cell? ⟨wr.heap.size,1,none⟩=some (.slice ao (zf e.nm).length cp)):=⟨qF,e0,e1⟩
   have Qo:Hid (∀X,Below N.heap.size N X→Calls Tryz.prog 29 #[.slice ao (zf e.nm).length cp] X fun e w'=> ∃v,e= .returned v∧OwnX 38 1 clZ w' X.heap.size v (zf _)∧Below X.heap.size X w'):=fun X hX=>zaZ ao cp (zf e.nm) X (RowX.keep zaI qw (qa.out.trans (hX.mono qa.out.size))) (HH.out.few e he).2.2
   have qS:Hid (some M≠some U∧some r≠some U):=⟨fun q=>by have:=Option.some.inj q;have:=Qz.out;have:=qo.out;omega,fun q=>by have:=Option.some.inj q;have:=qn.out.1;omega⟩
   have qW:N.drew.cell? ⟨Y,0,none⟩=some (.map (some U))∧N.drew.cell? ⟨wr.heap.size,0,none⟩=some (.int .i64 e.un)∧N.drew.cell? ⟨wr.heap.size,1,none⟩=some (.slice ao (zf e.nm).length cp):=HE.out
   clear qf qi qj qX qP qT qA Qb qg e0 e1 qF qw qQ hv Qm hy Z qO qb qI qp qE qJ Qa R qZ qd he Qh qy
   go_upto_region 7 with fail
   rw [←qh]
   clear qh Qi
   go_wp2_with fail
   refine wp_region_held_drew (S:=fun W=>W.cell? ⟨Y,0,none⟩=some (.map (some U))∧W.cell? ⟨wr.heap.size,0,none⟩=some (.int .i64 e.un)∧W.cell? ⟨wr.heap.size,1,none⟩=some (.slice ao (zf e.nm).length cp)) (by kernel_rfl) ?_ (fun E=> ?_)
   ·exact qW
   refine tkQ 0 (some 19) (v:= ?_) rfl (.inl ⟨by rfl,?_⟩) E ?_
   rotate_left
   ·intro w d
    (try dsimp only at d)
    obtain ⟨G,J,I⟩:=d
    go_simp
    try with_reducible rfl
   try simp only [Act.put,tkQa,tkQb,tkQc]
   refine tkQ 1 (some 20) (v:= ?_) rfl (.inl ⟨by rfl,?_⟩) E ?_
   rotate_left
   ·intro w d
    (try dsimp only at d)
    obtain ⟨G,J,I⟩:=d
    go_simp
    try with_reducible rfl
   try simp only [Act.put,tkQa,tkQb,tkQc]
   refine tkQ 2 (some 21) (v:= ?_) rfl (.inl ⟨by rfl,?_⟩) E ?_
   rotate_left
   ·intro w d
    (try dsimp only at d)
    obtain ⟨G,J,I⟩:=d
    go_simp
    try with_reducible rfl
   try simp only [Act.put,tkQa,tkQb,tkQc]
   refine tkQ 3 (some 22) (v:= ?_) rfl (.inl ⟨by rfl,?_⟩) E ?_
   rotate_left
   ·intro w d
    (try dsimp only at d)
    obtain ⟨G,J,I⟩:=d
    go_simp
    try with_reducible rfl
   try simp only [Act.put,tkQa,tkQb,tkQc]
   refine tkQ 4 (some 23) (v:= ?_) rfl (.inl ⟨by rfl,?_⟩) E ?_
   rotate_left
   ·intro w d
    (try dsimp only at d)
    obtain ⟨G,J,I⟩:=d
    go_simp
    try with_reducible rfl
   try simp only [Act.put,tkQa,tkQb,tkQc]
   refine tkQ 5 (some 24) (v:= ?_) rfl (.inl ⟨by rfl,?_⟩) E ?_
   rotate_left
   ·intro w d
    (try dsimp only at d)
    obtain ⟨G,J,I⟩:=d
    go_simp
    try with_reducible rfl
   try simp only [Act.put,tkQa,tkQb,tkQc]
   refine tkQ 6 (some 25) (v:= ?_) rfl (.inl ⟨by rfl,?_⟩) E ?_
   rotate_left
   ·intro w d
    (try dsimp only at d)
    obtain ⟨G,J,I⟩:=d
    go_simp
    try with_reducible rfl
   try simp only [Act.put,tkQa,tkQb,tkQc]
   refine tkQ 7 (some 26) (v:= ?_) rfl (.inl ⟨by rfl,?_⟩) E ?_
   rotate_left
   ·intro w d
    (try dsimp only at d)
    obtain ⟨G,J,I⟩:=d
    go_simp
    try with_reducible rfl
   try simp only [Act.put,tkQa,tkQb,tkQc]
   refine tkQ 8 (some 27) (v:= ?_) rfl (.inl ⟨by rfl,?_⟩) E ?_
   rotate_left
   ·intro w d
    (try dsimp only at d)
    obtain ⟨G,J,I⟩:=d
    go_simp
    try with_reducible rfl
   try simp only [Act.put,tkQa,tkQb,tkQc]
   refine wpAnyH_ready (rs:=[9]) (by kernel_rfl) (by simp) ?_
   refine AllReadyH.cons (o:=⟨some 28,_,_,_,_,_⟩) rfl (fun K hK=> ?_) AllReadyH.nil
   go_simp
   go_at_call 29
   refine (Qo.out _ (zaF _)).mono ?_
   rintro e5 x5 ⟨v5,rfl,qH,qU⟩
   obtain ⟨a5,c5,rfl⟩:=qH.form
   have C:=(zaF N).trans qU
   have O:=qN.out.keep C
   have qM:N.grownBy x5 none:=⟨C.os,C.tape,C.output,C.size,fun k hk _=>C.block k hk⟩
   have qv:=qY.out.kept qM (by simp) (by simp)
   have qq:x5.cell? ⟨Y,0,none⟩=some (.map (some U))∧x5.cell? ⟨wr.heap.size,0,none⟩=some (.int .i64 e.un)∧x5.cell? ⟨wr.heap.size,1,none⟩=some (.slice ao (zf e.nm).length cp):=⟨(C.cell (World.block_lt_of_cell? N _ HE.out.1)).trans HE.out.1,(C.cell (World.block_lt_of_cell? N _ HE.out.2.1)).trans HE.out.2.1,(C.cell (World.block_lt_of_cell? N _ HE.out.2.2)).trans HE.out.2.2⟩
   obtain ⟨x6,QA,qe,H⟩:=O.map.1.update zbG Tryz.underlying81 (by have:=zkK L left f;have:=Qd.out;unfold maxLen;omega) (zbP Qq.out) (zbJ e.un a5 (zf e.nm).length c5)
   have qG:=zeH (e:=⟨e.nm,e.un,.slice a5 (zf e.nm).length c5⟩) O qe H
   rw [←zlG qR.out Qs.out] at qG
   have Qn:=zqI qG
   have qC:=zqI (qv.kept H qS.out.1 qS.out.2)
   have Qk:=zqI ((qa.out.trans (C.mono qa.out.size)).grown H (qa.out.trans (C.mono qa.out.size)).size (fun k hk=>by cases hk;exact qo.out))
   have Qw:Hid (∀g∈L,(left (.string g.nm)&& !(Lit.string g.nm).sameKey (.string e.nm))=false→ ∃ao cp,updV f e.nm (.slice a5 (zf e.nm).length c5) g.nm= .slice ao (zf g.nm).length cp∧RowX 1 clZ x6 ao (zf g.nm)):=zmD Qj.out C (map_none O.map) (e:=e) (qH.row zaI) H
   have qV:x6.cell? ⟨Y,0,none⟩=some (.map (some U))∧x6.cell? ⟨wr.heap.size,0,none⟩=some (.int .i64 e.un)∧x6.cell? ⟨wr.heap.size,1,none⟩=some (.slice ao (zf e.nm).length cp):=⟨(zbU H (map_none O.map) qq.1),(zbU H (map_none O.map) qq.2.1),(zbU H (map_none O.map) qq.2.2)⟩
   have Qv:=zqI qV
   clear O qH qU C qe H qM qv qG qV
   (try go_wp2_with fail)
   obtain ⟨qx,qz,qr⟩:=qq
   refine hK.out _ _ ?_ (fun ql=> ?_)
   ·exact ⟨qx,qz,qr⟩
   clear hK K
   try simp only [Act.put,tkQa,tkQb,tkQc]
   refine tkQ 10 (some 29) (v:= ?_) rfl (.inl ⟨by rfl,?_⟩) ql ?_
   rotate_left
   ·intro w d
    (try dsimp only at d)
    obtain ⟨G,J,I⟩:=d
    go_simp
    try with_reducible rfl
   try simp only [Act.put,tkQa,tkQb,tkQc]
   refine wpAnyH_ready (rs:=[11]) (by kernel_rfl) (by simp) ?_
   refine AllReadyH.cons (o:=⟨none,_,_,_,_,_⟩) rfl (fun K hK=> ?_) AllReadyH.nil
   go_simp
   refine hK.out _ _ ?_ (fun Qf=> ?_)
   ·exact Qv.out
   clear hK K
   try simp only [Act.put,tkQa,tkQb,tkQc]
   refine wpAnyH_done (by kernel_rfl) ?_ _
   clear qx qz qr qW
   go_wp2
   go_roundw
   case rel=>exact ⟨_,qB,_,qC,Qn,Qw,Qk⟩
   case measure=>rw [qC.out.left_eq,Ql.out];exact Qt.out
def On.az (x:On):AZ:=AZ.make x.is (x.hi:Nat) (x.lo:Nat)
theorem RowX.at3 {wr:World} {a:Option Addr} {zs:List On} (h:RowX 3 On.cl wr a zs) {j:Nat} (f:j<zs.length):
  ∃(ad:Addr) (_:a=some ad) (x:On),zs[j]? =some x∧wr.cell? (ad.add (j*3))=some (.bool x.is)∧wr.cell? ⟨(ad.add (j*3)).block,(ad.add (j*3)).off+1,none⟩=some (.int .u64 (x.hi:Nat))∧wr.cell? ⟨(ad.add (j*3)).block,(ad.add (j*3)).off+2,none⟩=some (.int .u64 (x.lo:Nat)):=by
 obtain ⟨ad,C,d⟩:=h j zs[j] (List.getElem?_eq_getElem f)
 have p:ad.add (j*3+1)=⟨(ad.add (j*3)).block,(ad.add (j*3)).off+1,none⟩:=by rw [←Go.Deep.add_add];rfl
 have o:ad.add (j*3+2)=⟨(ad.add (j*3)).block,(ad.add (j*3)).off+2,none⟩:=by rw [←Go.Deep.add_add];rfl
 refine ⟨ad,C,zs[j],List.getElem?_eq_getElem f,?_,?_,?_⟩
 ·exact d 0 (by omega)
 ·rw [←p];exact d 1 (by omega)
 ·rw [←o];exact d 2 (by omega)
theorem zjJ (w:World) (v:Value) (t:TypeId): ∀(j:Nat) (u:Value),[v][j]? =some u→(w.alloc (.cells #[v] t)).cell? ((⟨w.heap.size,0,none⟩:Addr).add j)=some u:=by
 intro j u d
 have e:(⟨w.heap.size,0,none⟩:Addr).add j=⟨w.heap.size,j,none⟩:=by simp [Addr.add];intro h;omega
 rw [e,zaA (heap_alloc_new w _)]
 simpa using d
theorem AZ.oneC (x:AZ): ∀u∈[x.val],u.oneCell'=true:=by
 intro u d
 simp at d
 subst d
 cases x<;>rfl
theorem zdR (la:Option Addr) (lc:Nat) (l:List On) (w:World) (hr:RowX 3 On.cl w la l) (hl:l.length≤1000):
  Calls Tryz.prog 8 #[.slice la l.length lc] w fun e w'=> ∃v,e= .returned v∧OwnX 38 1 clZ w' w.heap.size v (l.map On.az)∧Below w.heap.size w w':=by
 have I:=zqI hr
 clear hr
 obtain ⟨i0,Y,qb,O,S⟩:=zaW infoA
 have qe:Hid (85≠38):=by show _≠_;decide
 go_enter Tryz.func8,Tryz.ntmps8
 go_wp2
 go_loopw [3,8] (fun v i wr=> ∃j:Nat,j≤l.length∧i= .int .i64 j∧Hid (LX 38 1 clZ w wr w.heap.size [] v ((l.take j).map On.az))) (fun _ i _=>l.length - (intOf i).toNat)
 case atStart=>exact ⟨0,Nat.zero_le _,rfl,LX.first [] (zqK _ _) (Blks.empty _)⟩
 case round=>
  obtain ⟨j,hj,rfl,H⟩:=hrel
  by_cases V:j<l.length
  ·have qd:(j:Int)<l.length:=by omega
   obtain ⟨ad,rfl,x,hx,r0,r1,r2⟩:=(RowX.keep On.len I.out H.out.below).at3 V
   have HN:Hid ((l.take (j+1)).map On.az=(l.take j).map On.az++[x.az]):=by show _=_;rw [List.take_add_one,hx,List.map_append];rfl
   have qc:((l.take j).map On.az).length≤1000:=by rw [List.length_map,List.length_take];omega
   generalize (l.take j).map On.az=m0 at*
   obtain ⟨y,K⟩: ∃y,y=wr.alloc (.cells #[.bool x.is,.int .u64 (x.hi:Nat),.int .u64 (x.lo:Nat)] 85):=⟨_,rfl⟩
   have hb:Below wr.heap.size wr y:=by rw [K];exact (zqK _ _).alloc (zqJ _) _
   have d:y.heap[wr.heap.size]? =some (.cells #[.bool x.is,.int .u64 (x.hi:Nat),.int .u64 (x.lo:Nat)] 85):=by rw [K];exact heap_alloc_new wr _
   have HI:=zqI (H.out.keep hb)
   have e0:=zaA d 0
   have e1:=zaA d 1
   have e2:=zaA d 2
   simp at e0 e1 e2
   clear d hb
   go_upto_region 5 with fail
   rw [←K]
   clear K r0 r1 r2
   obtain ⟨C,E,o⟩: ∃C E,x.az.val= .iface C E:=by cases x.az<;>exact ⟨_,_,rfl⟩
   have HM:Hid (∀W,Calls Tryz.prog 27 #[.bool x.is,.int .u64 (x.hi:Nat),.int .u64 (x.lo:Nat)] W fun e w'=>e= .returned (.iface C E)∧W=w'):=fun W=>o▸zkR x.is (x.hi:Nat) (x.lo:Nat) W
   have Z:Hid (clZ x.az=[.iface C E]):=by show [x.az.val]=_;rw [o]
   have J:=AZ.oneC x.az
   rw [o] at J
   have qa:=zjJ y (.iface C E) 38
   have G:=zqI (HI.out.keep ((zqK _ _).alloc (zqJ _) (.cells #[.iface C E] 38)))
   clear o
   go_wp2_with fail
   refine (HM.out _).mono ?_
   rintro e z ⟨rfl,rfl⟩
   go_wp2_with (first
    |(at_builtin;refine wpList_append_own _ rfl _ _ 31 rfl w.heap.size 38 i0 .nilIface 1 16 Tryz.underlying31 Y qb O S rfl (by decide) u3 m0.length (m0.flatMap clZ) rfl G.out.row ⟨y.heap.size,0,none⟩ 1 1 [.iface C E] rfl rfl qa J (by unfold maxLen;omega) (by omega) G.out.size ?_;intro s1 w1 p f _)
    |go_in)
   have R:=zqI (HI.out.app (e:=x.az) ((zqK _ _).alloc (zqJ _) _) f (by rw [Z.out];exact p))
   have U:Hid (LX 38 1 clZ w w1 w.heap.size [] s1 ((l.take (j+1)).map On.az)):=by rw [HN.out];exact R.out
   go_roundw
   case rel=>exact ⟨j+1,by omega,by go_num,U⟩
   case measure=>simp [intOf];omega
  ·have N:j=l.length:=by omega
   subst N
   rw [List.take_length] at H
   go_wp2
   go_ret
   exact ⟨_,rfl,H.out.row,H.out.below⟩
theorem RowX.r1A {w:World} {a:Option Addr} {zs:List AZ} (h:RowX 1 clZ w a zs) {k:Nat} {x:AZ} (f:zs[k]? =some x): ∃(ad:Addr) (_:a=some ad),w.cell? (ad.add k)=some x.val:=by
 obtain ⟨ad,o,d⟩:=h k x f
 have:=d 0 (by omega)
 rw [Nat.mul_one] at this
 exact ⟨ad,o,this⟩
theorem RowX.r1N {w:World} {a:Option Addr} {zs:List (List UInt8)} (h:RowX 1 clN w a zs) {k:Nat} {x:List UInt8} (f:zs[k]? =some x): ∃(ad:Addr) (_:a=some ad),w.cell? (ad.add k)=some (.string ⟨x.toArray⟩):=by
 obtain ⟨ad,o,d⟩:=h k x f
 have:=d 0 (by omega)
 rw [Nat.mul_one] at this
 exact ⟨ad,o,this⟩
def clE (e:CE):List Value:=[.string ⟨e.nm.toArray⟩,.int .i64 e.un,e.sv]
theorem zaT (e:CE):(clE e).length=3:=rfl
def SlE (e:CE):Prop:= ∃a n c,e.sv= .slice a n c
theorem infoE:(Tryz.prog.info? 79).map (fun i=>(i.zero,i.size,i.bytes))=some (some (.agg #[.string ⟨#[]⟩,.int .i64 0,.slice none 0 0]),3,48):=by kernel_rfl
theorem zaV (w:World) (c:List Value) (t:TypeId): ∀(j:Nat) (u:Value),c[j]? =some u→(w.alloc (.cells c.toArray t)).cell? ((⟨w.heap.size,0,none⟩:Addr).add j)=some u:=by
 intro j u d
 have e:(⟨w.heap.size,0,none⟩:Addr).add j=⟨w.heap.size,j,none⟩:=by simp [Addr.add];intro h;omega
 rw [e,zaA (heap_alloc_new w _)]
 simpa using d
theorem oneE (n:List UInt8) (x:Int) (a:Option Addr) (k c:Nat): ∀u∈[Value.string ⟨n.toArray⟩,.int .i64 x,.slice a k c],u.oneCell'=true:=by
 intro u d
 simp at d
 rcases d with rfl|rfl|rfl<;>rfl
theorem RowX.at3E {wr:World} {a:Option Addr} {zs:List CE} (h:RowX 3 clE wr a zs) {j:Nat} (d:j<zs.length):
  ∃(ad:Addr) (_:a=some ad) (x:CE),zs[j]? =some x∧x∈zs∧wr.cell? (ad.add (j*3))=some (.string ⟨x.nm.toArray⟩)∧wr.cell? ⟨(ad.add (j*3)).block,(ad.add (j*3)).off+1,none⟩=some (.int .i64 x.un)∧wr.cell? ⟨(ad.add (j*3)).block,(ad.add (j*3)).off+2,none⟩=some x.sv:=by
 obtain ⟨ad,C,f⟩:=h j zs[j] (List.getElem?_eq_getElem d)
 have p:ad.add (j*3+1)=⟨(ad.add (j*3)).block,(ad.add (j*3)).off+1,none⟩:=by rw [←Go.Deep.add_add];rfl
 have o:ad.add (j*3+2)=⟨(ad.add (j*3)).block,(ad.add (j*3)).off+2,none⟩:=by rw [←Go.Deep.add_add];rfl
 refine ⟨ad,C,zs[j],List.getElem?_eq_getElem d,List.getElem_mem d,?_,?_,?_⟩
 ·exact f 0 (by omega)
 ·rw [←p];exact f 1 (by omega)
 ·rw [←o];exact f 2 (by omega)
theorem znV {a b:List UInt8} (h:a≠b):(⟨a.toArray⟩:ByteArray)≠⟨b.toArray⟩:=fun e=>h (by have:=zqL (fun s:ByteArray=>s.data.toList) e;simpa using this)
theorem zgQ {p:CE→Bool} {Q:List CE} {k:Nat} {e:CE} (h:Q[k]? =some e):(Q.take (k+1)).filter p=(Q.take k).filter p++(if p e then [e] else []):=by
 rw [List.take_add_one,h,List.filter_append]
 cases d:p e<;>simp [d]
theorem zcL (ao:Option Addr) (cp:Nat) (Q:List CE) (n:List UInt8) (w:World) (hr:RowX 3 clE w ao Q) (hs: ∀e∈Q,SlE e) (hl:Q.length≤1000):
  Calls Tryz.prog 45 #[.slice ao Q.length cp,.string ⟨n.toArray⟩] w fun e w'=> ∃v,e= .returned v∧OwnX 79 3 clE w' w.heap.size v (delE n Q)∧Below w.heap.size w w':=by
 have K:=zqI hr
 have qe:=zqI hs
 clear hr hs
 obtain ⟨i0,qc,qg,S,Y⟩:=zaW infoE
 go_enter Tryz.func45,Tryz.ntmps45
 go_wp2
 go_loopw [5,10] (fun v i wr=> ∃j:Nat,j≤Q.length∧i= .int .i64 j∧Hid (LX 79 3 clE w wr w.heap.size [] v (delE n (Q.take j)))) (fun _ i _=>Q.length - (intOf i).toNat)
 case atStart=>exact ⟨0,Nat.zero_le _,rfl,LX.first [] (zqK _ _) (Blks.empty _)⟩
 case round=>
  obtain ⟨j,hj,rfl,J⟩:=hrel
  by_cases qa:j<Q.length
  ·have qi:(j:Int)<Q.length:=by omega
   have qh:(delE n (Q.take j)).length≤1000:=by
    have h1:(delE n (Q.take j)).length≤(Q.take j).length:=List.length_filter_le _ _
    rw [List.length_take] at h1
    omega
   obtain ⟨ad,rfl,e,he,Z,r0,r1,r2⟩:=(RowX.keep zaT K.out J.out.below).at3E qa
   obtain ⟨p,o,G,I⟩:=qe.out e Z
   rw [I] at r2
   obtain ⟨y,N⟩: ∃y,y=wr.alloc (.cells #[.string ⟨e.nm.toArray⟩,.int .i64 e.un,.slice p o G] 79):=⟨_,rfl⟩
   have hb:Below wr.heap.size wr y:=by rw [N];exact (zqK _ _).alloc (zqJ _) _
   have d:y.heap[wr.heap.size]? =some (.cells #[.string ⟨e.nm.toArray⟩,.int .i64 e.un,.slice p o G] 79):=by rw [N];exact heap_alloc_new wr _
   have U:=zqI (J.out.keep hb)
   have e0:=zaA d 0
   have e1:=zaA d 1
   have e2:=zaA d 2
   simp at e0 e1 e2
   clear d hb
   go_upto_region 5 with fail
   rw [←N]
   clear N r0 r1 r2
   have HF:Hid (delE n (Q.take (j+1))=delE n (Q.take j)++(if !(e.nm==n) then [e] else [])):=zgQ he
   generalize delE n (Q.take j)=O at*
   by_cases q:e.nm=n
   ·have E:Hid (delE n (Q.take (j+1))=O):=by show _=_;have:=HF.out;rw [q] at this;simpa using this
    rw [q] at e0
    go_wp2
    go_roundw
    case rel=>exact ⟨j+1,by omega,by go_num,by rw [E.out];exact U⟩
    case measure=>simp [intOf];omega
   ·have E:Hid (delE n (Q.take (j+1))=O++[e]):=by show _=_;have:=HF.out;rw [show (e.nm==n)=false from beq_eq_false_iff_ne.2 q] at this;simpa using this
    have hq:=znV q
    have qj:(e.nm !=n)=true:=by simpa using q
    have qk:(e.nm==n)=false:=by simpa using q
    have ql:decide (e.nm=n)=false:=by simpa using q
    clear HF
    have qb:=oneE e.nm e.un p o G
    have qf:=zaV y [.string ⟨e.nm.toArray⟩,.int .i64 e.un,.slice p o G] 79
    have H:=zqI (U.out.keep ((zqK _ _).alloc (zqJ _) (.cells #[.string ⟨e.nm.toArray⟩,.int .i64 e.un,.slice p o G] 79)))
    go_wp2_with (first
    |(at_builtin;refine wpList_append_own _ rfl _ _ 53 rfl w.heap.size 79 i0 (.agg #[.string ⟨#[]⟩,.int .i64 0,.slice none 0 0]) 3 48 Tryz.underlying53 qc qg S Y rfl (by decide) u5 O.length (O.flatMap clE) rfl H.out.row ⟨y.heap.size,0,none⟩ 1 1 [.string ⟨e.nm.toArray⟩,.int .i64 e.un,.slice p o G] rfl rfl qf qb (by unfold maxLen;omega) (by omega) H.out.size ?_;intro s1 w1 C f _)
    |go_in)
    have qd:Hid (clE e=[.string ⟨e.nm.toArray⟩,.int .i64 e.un,.slice p o G]):=by show clE e=_;unfold clE;rw [I]
    have V:=zqI (U.out.app (e:=e) ((zqK _ _).alloc (zqJ _) _) f (by rw [qd.out];exact C))
    go_roundw
    case rel=>exact ⟨j+1,by omega,by go_num,by rw [E.out];exact V⟩
    case measure=>simp [intOf];omega
  ·have R:j=Q.length:=by omega
   subst R
   rw [List.take_length] at J
   go_wp2
   go_ret
   exact ⟨_,rfl,J.out.row,J.out.below⟩
theorem zfN (ao:Option Addr) (cp:Nat) (Q:List CE) (n:List UInt8) (now:Int) (w:World) (hr:RowX 3 clE w ao Q) (hs: ∀e∈Q,SlE e) (hl:Q.length≤1000):
  Calls Tryz.prog 35 #[.slice ao Q.length cp,.string ⟨n.toArray⟩,.int .i64 now] w fun e w'=>(∃v g,e= .returned (.tuple #[v,.bool g])∧(g=true→ ∃x∈Q,x.nm=n∧ziU now x=true∧v=x.sv)∧(g=false→v= .slice none 0 0∧ ∀x∈Q,x.nm=n→ziU now x=false))∧Below w.heap.size w w':=by
 have C:=zqI hr
 have Y:=zqI hs
 clear hr hs
 go_enter Tryz.func35,Tryz.ntmps35
 go_wp2
 go_loopw [12] (fun i wr=> ∃j:Nat,j≤Q.length∧i= .int .i64 j∧Hid (∀x∈Q.take j,x.nm=n→ziU now x=false)∧Hid (Below w.heap.size w wr)) (fun i _=>Q.length - (intOf i).toNat)
 case atStart=>exact ⟨0,Nat.zero_le _,rfl,(fun _ h=>nomatch h),zqK _ _⟩
 case round=>
  obtain ⟨j,hj,rfl,f,K⟩:=hrel
  by_cases U:j<Q.length
  ·have qa:(j:Int)<Q.length:=by omega
   obtain ⟨ad,rfl,e,I,o,r0,r1,r2⟩:=(RowX.keep zaT C.out K.out).at3E U
   obtain ⟨J,E,N,p⟩:=Y.out e o
   rw [p] at r2
   obtain ⟨y,H⟩: ∃y,y=wr.alloc (.cells #[.string ⟨e.nm.toArray⟩,.int .i64 e.un,.slice J E N] 79):=⟨_,rfl⟩
   have hb:Below wr.heap.size wr y:=by rw [H];exact (zqK _ _).alloc (zqJ _) _
   have d:y.heap[wr.heap.size]? =some (.cells #[.string ⟨e.nm.toArray⟩,.int .i64 e.un,.slice J E N] 79):=by rw [H];exact heap_alloc_new wr _
   have S:=zqI (K.out.trans (hb.mono K.out.size))
   have O:=zaA d 0
   have e1:=zaA d 1
   have e2:=zaA d 2
   simp at O e1 e2
   clear d hb
   go_upto_region 4 with fail
   rw [←H]
   clear H r0 r1 r2
   have HT:Hid ((e.nm=n→ziU now e=false)→ ∀x∈Q.take (j+1),x.nm=n→ziU now x=false):=fun h x hx=>by
    rw [List.take_add_one,I] at hx
    rcases List.mem_append.1 hx with Z|Z
    ·exact f.out x Z
    ·have:x=e:=by simpa using Z
     rw [this]
     exact h
   by_cases q:e.nm=n
   ·cases hd:decide (now<e.un) with
    |true=>
     have G:Hid (e∈Q∧e.nm=n∧ziU now e=true∧e.sv= .slice J E N):=⟨o,q,hd,p⟩
     rw [q] at O
     clear o q p I HT f
     go_wp2
     refine bodyPost_ret (v:= .tuple #[.slice J E N,.bool true]) (by simp [results,Tryz.results35,go_sem]) rfl ?_
     exact ⟨⟨_,true,rfl,fun _=>⟨e,G.out.1,G.out.2.1,G.out.2.2.1,G.out.2.2.2.symm⟩,fun h=>nomatch h⟩,S.out⟩
    |false=>
     have V:=zqI (HT.out fun _=>hd)
     rw [q] at O
     clear o q p I HT f
     go_wp2
     go_roundw
     case rel=>exact ⟨j+1,by omega,by go_num,V,S⟩
     case measure=>simp [intOf];omega
   ·have V:=zqI (HT.out fun h=>absurd h q)
    have qb:(e.nm !=n)=true:=by simpa using q
    have qc:(e.nm==n)=false:=by simpa using q
    have qd:decide (e.nm=n)=false:=by simpa using q
    clear o p I HT f
    go_wp2
    go_roundw
    case rel=>exact ⟨j+1,by omega,by go_num,V,S⟩
    case measure=>simp [intOf];omega
  ·have R:j=Q.length:=by omega
   subst R
   rw [List.take_length] at f
   go_wp2
   refine bodyPost_ret (v:= .tuple #[.slice none 0 0,.bool false]) (by simp [results,Tryz.results35,go_sem]) rfl ?_
   exact ⟨⟨_,false,rfl,fun h=>(nomatch h),fun _=>⟨rfl,f.out⟩⟩,K.out⟩
def anyB (n:List UInt8) (l:List CE):Bool:=l.any fun x=>bytesBefore n x.nm
theorem znA (n:List UInt8) (l:List CE) (x:CE):anyB n (l++[x])=(anyB n l||bytesBefore n x.nm):=by unfold anyB;rw [List.any_append];simp
theorem ziA {e x:CE}: ∀{l:List CE},anyB e.nm l=true→insE e (l++[x])=insE e l++[x]
 |[],h=>by cases h
 |a::l,h=>by
  rw [List.cons_append]
  unfold insE
  cases f:bytesBefore e.nm a.nm with
  |true=>simp
  |false=>
   have d:anyB e.nm l=true:=by unfold anyB at h ⊢;rw [List.any_cons,f] at h;simpa using h
   simp [ziA d]
theorem zhN {e:CE}: ∀{l:List CE},anyB e.nm l=false→insE e l=l++[e]
 |[],_=>rfl
 |a::l,h=>by
  unfold anyB at h
  rw [List.any_cons,Bool.or_eq_false_iff] at h
  unfold insE
  rw [h.1]
  simp [zhN (l:=l) h.2]
theorem zhU {e x:CE}: ∀{l:List CE},anyB e.nm l=false→bytesBefore e.nm x.nm=true→insE e (l++[x])=l++[e]++[x]
 |[],_,d=>by show (if _ then _ else _)=_;rw [if_pos d];rfl
 |a::l,h,d=>by
  unfold anyB at h
  rw [List.any_cons,Bool.or_eq_false_iff] at h
  rw [List.cons_append]
  unfold insE
  rw [h.1]
  simp [zhU (l:=l) h.2 d]
theorem zcA: ∀a b:List UInt8,Op.bytesLess a b=bytesBefore a b
 |[],[]=>rfl
 |[],_::_=>rfl
 |_::_,[]=>rfl
 |a::l,b::m=>by unfold Op.bytesLess bytesBefore;rw [zcA l m]
theorem zpS {a b:List UInt8} (h:bytesBefore b a=true):Op.bytesLess a b=false∧(a==b)=false:=by
 constructor
 ·rw [zcA]
  cases d:bytesBefore a b with
  |false=>rfl
  |true=>have:=zbF h d;rw [zaR] at this;cases this
 ·refine beq_eq_false_iff_ne.2 fun e=> ?_
  rw [e,zaR] at h
  cases h
theorem gtr_no {a b:List UInt8} (h:bytesBefore b a=false):Op.bytesLess a b=true∨(a==b)=true:=by
 rw [zcA]
 by_cases q:a=b
 ·right;simp [q]
 ·left;exact zbS h (fun e=>q e.symm)
def insV (e:CE) (l:List CE):List CE:=if anyB e.nm l then insE e l else l
theorem znL (e:CE) (l:List CE):(insV e l).length≤l.length+1:=by unfold insV;split<;>(try rw [zeO])<;>omega
theorem zgH (a:CE) (l:List CE):zaN a (a::l)=zaN a l:=by
 show zaN (if a.un<a.un then a else a) l=_
 rw [if_neg (Int.lt_irrefl _)]
theorem zfD (ao:Option Addr) (cp:Nat) (Q:List CE) (n:List UInt8) (u:Int) (la:Option Addr) (Z lc:Nat) (w:World) (hr:RowX 3 clE w ao Q) (hs: ∀e∈Q,SlE e) (qZ:zaO Q) (hl:Q.length≤100) (Qr:Z≠0):
  Calls Tryz.prog 36 #[.slice ao Q.length cp,.string ⟨n.toArray⟩,.int .i64 u,.slice la Z lc] w fun e w'=> ∃v,e= .returned (.tuple #[v,.bool true])∧OwnX 79 3 clE w' w.heap.size v (putE ⟨n,u,.slice la Z lc⟩ (zaQ n Q))∧Below w.heap.size w w':=by
 have Qd:=zqI hr
 have qE:=zqI hs
 have Qn:=zqI qZ
 have Qx:((Z:Int)==0)=false:=beq_eq_false_iff_ne.2 (by omega)
 have qP:=zqI (zcL ao cp Q n w hr hs (by omega))
 have qJ:=zqI hl
 clear hr hs qZ Qr
 obtain ⟨i0,qo,qr,qg,qk⟩:=zaW infoE
 go_enter Tryz.func36,Tryz.ntmps36
 go_wp2_with fail
 refine qP.out.mono ?_
 rintro e x1 ⟨v1,rfl,qF,qh⟩
 obtain ⟨a1,c1,rfl⟩:=qF.form
 have qm:=zqI qF
 have ql:=zqI qh
 have QA:(Q.length:Int)≤100:=by omega
 clear qF qh qP hl
 have qn:((zaL n Q).isNone&&decide (64≤Q.length))=true∧(delE n Q).length=Q.length∧(64:Int)≤Q.length∨((zaL n Q).isNone&&decide (64≤Q.length))=false∧((delE n Q).length=Q.length∧ ¬(64:Int)≤Q.length∨ ¬(delE n Q).length=Q.length):=by
  cases hf:zaL n Q with
  |none=>
   have C:=zdI hf
   by_cases qp:64≤Q.length
   ·left;exact ⟨by simp [qp],by rw [C],by omega⟩
   ·right;exact ⟨by simp [qp],.inl ⟨by rw [C],by omega⟩⟩
  |some x=>
   right
   have:=zeG Qn.out hf
   exact ⟨rfl,.inr (by omega)⟩
 have qa:=zqI qn
 have qL:Hid (zaQ n Q=if ((zaL n Q).isNone&&decide (64≤Q.length)) then delE (zaU Q) Q else Q):=rfl
 have qA:Hid (((zaL n Q).isNone&&decide (64≤Q.length))=true→zaL n Q=none∧64≤Q.length):=fun h=>by simpa using h
 clear qn
 generalize ((zaL n Q).isNone&&decide (64≤Q.length))=fb at*
 have qS:Hid (fb=true→delE n (zaQ n Q)=delE (zaU Q) Q):=fun h=>by
  rw [qL.out,if_pos h]
  exact zdI (by
   cases hq:zaL n (delE (zaU Q) Q) with
   |none=>rfl
   |some x=>obtain ⟨h1,h2⟩:=zbA hq;exact absurd h2 (zbX (qA.out h).1 x (zcH.1 h1).1))
 have Qc:Hid (fb=false→zaQ n Q=Q):=fun h=>by rw [qL.out,if_neg (by simp [h])]
 have qC:Hid (fb=true→delE n Q=Q):=fun h=>zdI (qA.out h).1
 have qY:Hid (delE n Q=delE n Q):=rfl
 generalize qU:delE n Q=p at qm qa qC qY ⊢
 have qT:=zqI qU
 clear qU qL qY
 go_upto_region 4 with fail
 go_cut [33] (fun v wc=>v= .bool fb∧x1=wc)
 case first=>
  as_aux_lemma=>
   rcases qa.out with ⟨rfl,h1,h2⟩|⟨rfl,⟨h1,h2⟩|h1⟩
   ·have qB:((p.length:Int)==(Q.length:Int))=true:=by rw [h1];simp
    have qR:decide ((64:Int)≤Q.length)=true:=decide_eq_true h2
    clear h1 h2
    go_wp2
    go_meet
    exact ⟨rfl,rfl⟩
   ·have qB:((p.length:Int)==(Q.length:Int))=true:=by rw [h1];simp
    have qR:decide ((64:Int)≤Q.length)=false:=decide_eq_false (by omega)
    clear h1 h2
    go_wp2
    go_meet
    exact ⟨rfl,rfl⟩
   ·have qB:((p.length:Int)==(Q.length:Int))=false:=beq_eq_false_iff_ne.2 (by omega)
    clear h1
    go_wp2
    go_meet
    exact ⟨rfl,rfl⟩
 case rest=>
 obtain ⟨rfl,rfl⟩:=hcut
 go_upto_if 33 with fail
 go_cut [10] (fun v wc=> ∃(a:Option Addr) (c:Nat),v= .slice a (delE n (zaQ n Q)).length c∧Hid (RowX 3 clE wc a (delE n (zaQ n Q)))∧Hid (Below w.heap.size w wc))
 case first=>
  as_aux_lemma=>
   cases fb with
   |true=>
    obtain rfl:=qC.out rfl
    have qp:=(qA.out rfl).2
    obtain ⟨a,l,hQ⟩: ∃a l,p=a::l:=by
     cases p with
     |nil=>simp at qp
     |cons a l=>exact ⟨a,l,rfl⟩
    have qv:=zqI (qm.out.row zaT)
    have Qf:Hid (∀x,x=zaN a p→x.nm=zaU p):=fun x hx=>by rw [hx,hQ,zgH];rfl
    have HQ:=zqI hQ
    clear qm hQ qp
    go_wp2
    go_loopw [11,36] (fun li i wr=> ∃(j k:Nat),j≤p.length∧i= .int .i64 j∧li= .int .i64 k∧k<p.length∧Hid (p[k]? =some (zaN a (p.take j)))∧Hid (Below x1.heap.size x1 wr)) (fun _ i _=>p.length - (intOf i).toNat)
    case atStart=>exact ⟨0,0,Nat.zero_le _,rfl,rfl,(by rw [HQ.out];simp),(by show p[0]? =_;rw [HQ.out];rfl),zqK _ _⟩
    case round=>
     obtain ⟨j,k,hj,rfl,rfl,hk,HK,Y⟩:=hrel
     by_cases qx:j<p.length
     ·have Qo:(j:Int)<p.length:=by omega
      have Qh:(k:Int)<p.length:=by omega
      obtain ⟨d1,e1,e,he,qK,r0,r1,r2⟩:=(RowX.keep zaT qv.out Y.out).at3E qx
      subst e1
      obtain ⟨d2,e2,g,hg,Qa,s0,s1,s2⟩:=(RowX.keep zaT qv.out Y.out).at3E hk
      obtain rfl:=Option.some.inj e2
      have qM:g=zaN a (p.take j):=by have:=HK.out;rw [hg] at this;exact Option.some.inj this
      have HT:Hid (zaN a (p.take (j+1))=if e.un<g.un then e else g):=by show _=_;rw [List.take_add_one,he,qM];exact zcE e (p.take j) a
      cases C:decide (e.un<g.un) with
      |true=>
       have qG:Hid (p[j]? =some (zaN a (p.take (j+1)))):=by show _=_;rw [HT.out,if_pos (of_decide_eq_true C)];exact he
       clear HT HK qM
       go_upto_region 9 with fail
       go_quiet (fail)
       go_wp2
       go_roundw
       case rel=>exact ⟨j+1,j,by omega,by go_num,rfl,by omega,qG,zcF Y.out _⟩
       case measure=>simp [intOf];omega
      |false=>
       have qG:Hid (p[k]? =some (zaN a (p.take (j+1)))):=by show _=_;rw [HT.out,if_neg (of_decide_eq_false C)];exact hg
       clear HT HK qM
       go_upto_region 9 with fail
       go_quiet (fail)
       go_wp2
       go_roundw
       case rel=>exact ⟨j+1,k,by omega,by go_num,rfl,by omega,qG,zcF Y.out _⟩
       case measure=>simp [intOf];omega
     ·have qI:j=p.length:=by omega
      subst qI
      rw [List.take_length] at HK
      have Qh:(k:Int)<p.length:=by omega
      obtain ⟨d2,rfl,g,hg,Qa,s0,s1,s2⟩:=(RowX.keep zaT qv.out Y.out).at3E hk
      have Qg:=Qf.out g (by have:=HK.out;rw [hg] at this;exact Option.some.inj this)
      rw [Qg] at s0
      have qV:=zqI (zcL (some d2) c1 p (zaU p) wr (RowX.keep zaT qv.out Y.out) qE.out (by have:=qJ.out;omega))
      clear hg Qa Qg HK Qf s1 s2 qx
      go_wp2_with fail
      refine qV.out.mono ?_
      rintro e x3 ⟨v3,rfl,qH,qX⟩
      obtain ⟨a3,c3,rfl⟩:=qH.form
      have qw:=zqI (qH.row zaT)
      have qb:=zqI ((ql.out.trans (Y.out.mono ql.out.size)).trans (qX.mono (Nat.le_trans ql.out.size Y.out.size)))
      clear qH qX qV
      go_wp2
      go_meet
      rw [qS.out (by first|rfl|trivial)]
      exact ⟨a3,c3,rfl,qw,qb⟩
   |false=>
    have Qm:=zqI (qm.out.row zaT)
    go_wp2
    go_meet
    rw [Qc.out (by first|rfl|trivial),qT.out]
    exact ⟨a1,c1,rfl,Qm,ql⟩
 case rest=>
  rename World=>wc
  obtain ⟨a3,c3,rfl,qw,qb⟩:=hcut
  have Qe:Hid (∀e∈delE n (zaQ n Q),SlE e):=fun e he=>qE.out e (zbI (zcH.1 he).1)
  have qN:Hid ((delE n (zaQ n Q)).length≤100):=by
   have h1:(delE n (zaQ n Q)).length≤(zaQ n Q).length:=List.length_filter_le _ _
   have h2:(zaQ n Q).length≤Q.length:=by
    unfold zaQ zfG
    split
    ·exact List.length_filter_le _ _
    ·exact zqJ _
   have:=qJ.out
   show _≤_
   omega
  obtain ⟨N,hN⟩: ∃N:CE,N=⟨n,u,.slice la Z lc⟩:=⟨_,rfl⟩
  have H:Hid (N.nm=n):=by show _=_;rw [hN]
  have Qb:Hid (clE N=[.string ⟨n.toArray⟩,.int .i64 u,.slice la Z lc]):=by show _=_;rw [hN];rfl
  have qi:Hid (putE ⟨n,u,.slice la Z lc⟩ (zaQ n Q)=insE N (delE n (zaQ n Q))):=by show _=_;rw [hN];rfl
  have QB:=zqI hN
  clear qS Qc qC qT qa qA qm ql Qd qE qJ hN
  generalize Qs:delE n (zaQ n Q)=d at qw Qe qN qi ⊢
  clear Qs
  have Qz:=qN.out
  have Qw:(d.length:Int)≤100:=by omega
  go_wp2
  go_loopw [13,14,61] (fun v b i wr=> ∃j:Nat,j≤d.length∧i= .int .i64 j∧b= .bool (anyB n (d.take j))∧Hid (LX 79 3 clE wc wr wc.heap.size [] v (insV N (d.take j)))) (fun _ _ i _=>d.length - (intOf i).toNat)
  case atStart=>exact ⟨0,Nat.zero_le _,rfl,rfl,LX.first [] (zqK _ _) (Blks.empty _)⟩
  case round=>
   obtain ⟨j,hj,rfl,rfl,HS⟩:=hrel
   by_cases qx:j<d.length
   ·have Qo:(j:Int)<d.length:=by omega
    obtain ⟨ad,rfl,e,he,qK,r0,r1,r2⟩:=(RowX.keep zaT qw.out HS.out.below).at3E qx
    obtain ⟨O,J,K,qy⟩:=Qe.out e qK
    rw [qy] at r2
    obtain ⟨y,hy⟩: ∃y,y=wr.alloc (.cells #[.string ⟨e.nm.toArray⟩,.int .i64 e.un,.slice O J K] 79):=⟨_,rfl⟩
    have hb:Below wr.heap.size wr y:=by rw [hy];exact (zqK _ _).alloc (zqJ _) _
    have S:y.heap[wr.heap.size]? =some (.cells #[.string ⟨e.nm.toArray⟩,.int .i64 e.un,.slice O J K] 79):=by rw [hy];exact heap_alloc_new wr _
    have HI:=zqI (HS.out.keep hb)
    have e0:=zaA S 0
    have e1:=zaA S 1
    have e2:=zaA S 2
    simp at e0 e1 e2
    have qs:=zqI S
    clear S hb
    have qc:Hid (d.take (j+1)=d.take j++[e]):=by show _=_;rw [List.take_add_one,he];rfl
    have I:Hid (anyB n (d.take (j+1))=(anyB n (d.take j)||bytesBefore n e.nm)):=by show _=_;rw [qc.out];exact znA n _ e
    have Qp:(insV N (d.take j)).length≤1000:=by
     have h1:=znL N (d.take j)
     rw [List.length_take] at h1
     omega
    have Qi:Hid (u13.ownBlock≠some wr.heap.size):=fun q=>by have:=(World.ownsRow.lt HS.out.row _ q).2;omega
    clear he qK
    go_upto_region 18 with fail
    rw [←hy]
    clear hy r0 r1 r2
    cases C:anyB n (d.take j) with
    |true=>
     have HV:Hid (insV N (d.take (j+1))=insV N (d.take j)++[e]):=by
      show _=_
      unfold insV
      rw [H.out,I.out,C,qc.out]
      simp only [Bool.true_or,if_true]
      exact ziA (by rw [H.out];exact C)
     have HA:Hid (anyB n (d.take (j+1))=true):=by show _=_;rw [I.out,C];rfl
     clear I qc C
     generalize insV N (d.take j)=m0 at*
     have V:=oneE e.nm e.un O J K
     have U:=zaV y [.string ⟨e.nm.toArray⟩,.int .i64 e.un,.slice O J K] 79
     have R:=zqI (HI.out.keep ((zqK _ _).alloc (zqJ _) (.cells #[.string ⟨e.nm.toArray⟩,.int .i64 e.un,.slice O J K] 79)))
     go_wp2_with (first
      |(at_builtin;refine wpList_append_own _ rfl _ _ 53 rfl wc.heap.size 79 i0 (.agg #[.string ⟨#[]⟩,.int .i64 0,.slice none 0 0]) 3 48 Tryz.underlying53 qo qr qg qk rfl (by decide) u13 (m0).length ((m0).flatMap clE) rfl R.out.row ⟨y.heap.size,0,none⟩ 1 1 [.string ⟨e.nm.toArray⟩,.int .i64 e.un,.slice O J K] rfl rfl U V (by unfold maxLen;omega) (by omega) R.out.size ?_;intro s1 w1 G o _)
      |go_in)
     have qj:Hid (clE e=[.string ⟨e.nm.toArray⟩,.int .i64 e.un,.slice O J K]):=by show clE e=_;unfold clE;rw [qy]
     have qq:=zqI (HI.out.app (e:=e) ((zqK _ _).alloc (zqJ _) _) o (by rw [qj.out];exact G))
     go_roundw
     case rel=>exact ⟨j+1,by omega,by go_num,by rw [HA.out],by rw [HV.out];exact qq⟩
     case measure=>simp [intOf];omega
    |false=>
     cases hq:bytesBefore n e.nm with
     |true=>
      obtain ⟨qh,QC⟩:=zpS hq
      have HV:Hid (insV N (d.take (j+1))=d.take j++[N]++[e]):=by
       show _=_
       unfold insV
       rw [H.out,I.out,C,hq,qc.out]
       simp only [Bool.or_true,if_true]
       exact zhU (by rw [H.out];exact C) (by rw [H.out];exact hq)
      have qW:Hid (insV N (d.take j)=d.take j):=by show _=_;unfold insV;rw [H.out,C];rfl
      have HA:Hid (anyB n (d.take (j+1))=true):=by show _=_;rw [I.out,C,hq];rfl
      rw [qW.out] at Qp HI
      clear I qc C qW
      generalize d.take j=m0 at*
      have qe:=oneE n u la Z lc
      have qf:=zaV y [.string ⟨n.toArray⟩,.int .i64 u,.slice la Z lc] 79
      have qd:=zqI (HI.out.keep ((zqK _ _).alloc (zqJ _) (.cells #[.string ⟨n.toArray⟩,.int .i64 u,.slice la Z lc] 79)))
      go_upto_region 20 with (first
       |(at_builtin;refine wpList_append_own _ rfl _ _ 53 rfl wc.heap.size 79 i0 (.agg #[.string ⟨#[]⟩,.int .i64 0,.slice none 0 0]) 3 48 Tryz.underlying53 qo qr qg qk rfl (by decide) u13 m0.length (m0.flatMap clE) rfl qd.out.row ⟨y.heap.size,0,none⟩ 1 1 [.string ⟨n.toArray⟩,.int .i64 u,.slice la Z lc] rfl rfl qf qe (by unfold maxLen;omega) (by omega) qd.out.size ?_;intro s2 w2 E f _)
       |go_in)
      have HJ:=zqI (HI.out.app (e:=N) ((zqK _ _).alloc (zqJ _) _) f (by rw [Qb.out];exact E))
      have qD:=(zqK y.heap.size y).alloc (zqJ _) (.cells #[.string ⟨n.toArray⟩,.int .i64 u,.slice la Z lc] 79)
      have qz:w2.heap[wr.heap.size]? =some (.cells #[.string ⟨e.nm.toArray⟩,.int .i64 e.un,.slice O J K] 79):=(f.block wr.heap.size (Nat.lt_of_lt_of_le (zaG qs.out) qD.size) (fun e=>Qi.out e.symm)).trans ((qD.block _ (zaG qs.out)).trans qs.out)
      have Qk:=zaA qz 0
      have Qj:=zaA qz 1
      have Qt:=zaA qz 2
      simp at Qk Qj Qt
      have Qy:(m0++[N]).length≤1001:=by rw [List.length_append];show m0.length+1≤1001;omega
      have qO:Hid (LX 79 3 clE wc w2 wc.heap.size [] s2 (m0++[N])):=HJ.out
      clear qd E f qf qe qz HJ e0 e1 e2 HI qs qD
      generalize m0++[N]=m2 at*
      have V:=oneE e.nm e.un O J K
      have U:=zaV w2 [.string ⟨e.nm.toArray⟩,.int .i64 e.un,.slice O J K] 79
      have R:=zqI (qO.out.keep ((zqK _ _).alloc (zqJ _) (.cells #[.string ⟨e.nm.toArray⟩,.int .i64 e.un,.slice O J K] 79)))
      go_wp2_with (first
       |(at_builtin;refine wpList_append_own _ rfl _ _ 53 rfl wc.heap.size 79 i0 (.agg #[.string ⟨#[]⟩,.int .i64 0,.slice none 0 0]) 3 48 Tryz.underlying53 qo qr qg qk rfl (by decide) s2 (m2).length ((m2).flatMap clE) rfl R.out.row ⟨w2.heap.size,0,none⟩ 1 1 [.string ⟨e.nm.toArray⟩,.int .i64 e.un,.slice O J K] rfl rfl U V (by unfold maxLen;omega) (by omega) R.out.size ?_;intro s1 w1 G o _)
       |go_in)
      have qj:Hid (clE e=[.string ⟨e.nm.toArray⟩,.int .i64 e.un,.slice O J K]):=by show clE e=_;unfold clE;rw [qy]
      have qq:=zqI (qO.out.app (e:=e) ((zqK _ _).alloc (zqJ _) _) o (by rw [qj.out];exact G))
      go_roundw
      case rel=>exact ⟨j+1,by omega,by go_num,by rw [HA.out],by rw [HV.out];exact qq⟩
      case measure=>simp [intOf];omega
     |false=>
      have HV:Hid (insV N (d.take (j+1))=insV N (d.take j)++[e]):=by
       show _=_
       unfold insV
       rw [H.out,I.out,C,hq,qc.out]
       rfl
      have HA:Hid (anyB n (d.take (j+1))=false):=by show _=_;rw [I.out,C,hq];rfl
      have Qv:=gtr_no hq
      clear I qc C
      generalize insV N (d.take j)=m0 at*
      rcases Qv with qh|qh
      all_goals
       have V:=oneE e.nm e.un O J K
       have U:=zaV y [.string ⟨e.nm.toArray⟩,.int .i64 e.un,.slice O J K] 79
       have R:=zqI (HI.out.keep ((zqK _ _).alloc (zqJ _) (.cells #[.string ⟨e.nm.toArray⟩,.int .i64 e.un,.slice O J K] 79)))
       go_wp2_with (first
        |(at_builtin;refine wpList_append_own _ rfl _ _ 53 rfl wc.heap.size 79 i0 (.agg #[.string ⟨#[]⟩,.int .i64 0,.slice none 0 0]) 3 48 Tryz.underlying53 qo qr qg qk rfl (by decide) u13 (m0).length ((m0).flatMap clE) rfl R.out.row ⟨y.heap.size,0,none⟩ 1 1 [.string ⟨e.nm.toArray⟩,.int .i64 e.un,.slice O J K] rfl rfl U V (by unfold maxLen;omega) (by omega) R.out.size ?_;intro s1 w1 G o _)
        |go_in)
       have qj:Hid (clE e=[.string ⟨e.nm.toArray⟩,.int .i64 e.un,.slice O J K]):=by show clE e=_;unfold clE;rw [qy]
       have qq:=zqI (HI.out.app (e:=e) ((zqK _ _).alloc (zqJ _) _) o (by rw [qj.out];exact G))
       go_roundw
       case rel=>exact ⟨j+1,by omega,by go_num,by rw [HA.out],by rw [HV.out];exact qq⟩
       case measure=>simp [intOf];omega
   ·have qI:j=d.length:=by omega
    subst qI
    rw [List.take_length] at HS ⊢
    have Qq:Hid (Below w.heap.size w wr):=qb.out.trans (HS.out.below.mono qb.out.size)
    have qQ:Hid (w.heap.size≤wc.heap.size):=qb.out.size
    cases C:anyB n d with
    |true=>
     have HV:Hid (insV N d=insE N d):=by show _=_;unfold insV;rw [H.out,C];rfl
     rw [HV.out] at HS
     obtain ⟨a9,c9,h9⟩:=HS.out.row.form
     have Ql:=zqI HS.out.row
     clear HS HV C
     subst h9
     go_wp2
     refine bodyPost_ret (v:= .tuple #[.slice a9 (insE N d).length c9,.bool true]) (by simp [results,Tryz.results36,go_sem]) rfl ?_
     rw [qi.out]
     exact ⟨_,rfl,Ql.out.lower qQ.out,Qq.out⟩
    |false=>
     have HV:Hid (insV N d=d):=by show _=_;unfold insV;rw [H.out,C];rfl
     have HE:Hid (insE N d=d++[N]):=zhN (by rw [H.out];exact C)
     rw [HV.out] at HS
     clear HV C
     have qe:=oneE n u la Z lc
     have qf:=zaV wr [.string ⟨n.toArray⟩,.int .i64 u,.slice la Z lc] 79
     have qd:=zqI (HS.out.keep ((zqK _ _).alloc (zqJ _) (.cells #[.string ⟨n.toArray⟩,.int .i64 u,.slice la Z lc] 79)))
     go_wp2_with (first
      |(at_builtin;refine wpList_append_own _ rfl _ _ 53 rfl wc.heap.size 79 i0 (.agg #[.string ⟨#[]⟩,.int .i64 0,.slice none 0 0]) 3 48 Tryz.underlying53 qo qr qg qk rfl (by decide) u13 d.length (d.flatMap clE) rfl qd.out.row ⟨wr.heap.size,0,none⟩ 1 1 [.string ⟨n.toArray⟩,.int .i64 u,.slice la Z lc] rfl rfl qf qe (by unfold maxLen;omega) (by omega) qd.out.size ?_;intro s2 w2 E f _)
      |go_in)
     have HJ:=zqI (HS.out.app (e:=N) ((zqK _ _).alloc (zqJ _) _) f (by rw [Qb.out];exact E))
     clear E f qd
     refine bodyPost_ret (v:= .tuple #[s2,.bool true]) (by simp [results,Tryz.results36,go_sem]) rfl ?_
     rw [qi.out,HE.out]
     exact ⟨_,rfl,HJ.out.row.lower qQ.out,qb.out.trans (HJ.out.below.mono qb.out.size)⟩
def AZ.rB:AZ→Bool
 | .four _=>false
 | .six _ _=>true
def AZ.rH:AZ→Int
 | .four _=>0
 | .six hi _=>hi
def AZ.rL:AZ→Int
 | .four n=>281470681743360+n
 | .six _ lo=>lo
def clR (a:AZ):List Value:=[.bool a.rB,.int .u64 a.rH,.int .u64 a.rL]
theorem zaJ (a:AZ):(clR a).length=3:=rfl
theorem lawOfR (a:AZ) (w:World) (h:a.Ok):Calls Tryz.prog 37 #[a.val] w fun e w'=>e= .returned (.agg #[.bool a.rB,.int .u64 a.rH,.int .u64 a.rL])∧Below w.heap.size w w':=by
 cases a with
 |four n=>exact ziQ n w h.1 h.2
 |six hi lo=>exact znI hi lo w
theorem infoR:(Tryz.prog.info? 72).map (fun i=>(i.zero,i.size,i.bytes))=some (some (.agg #[.bool false,.int .u64 0,.int .u64 0]),3,24):=by kernel_rfl
theorem oneR (b:Bool) (x y:Int): ∀u∈[Value.bool b,.int .u64 x,.int .u64 y],u.oneCell'=true:=by
 intro u d
 simp at d
 rcases d with rfl|rfl|rfl<;>rfl
theorem zhL (ao:Option Addr) (cp:Nat) (l:List AZ) (w:World) (hr:RowX 1 clZ w ao l) (hl:l.length≤1000) (p: ∀a∈l,a.Ok):
  Calls Tryz.prog 23 #[.slice ao l.length cp] w fun e w'=> ∃v,e= .returned v∧OwnX 72 3 clR w' w.heap.size v l∧Below w.heap.size w w':=by
 have E:=zqI hr
 have V:=zqI p
 clear hr p
 obtain ⟨i0,S,Y,J,N⟩:=zaW infoR
 go_enter Tryz.func23,Tryz.ntmps23
 go_wp2
 go_loopw [3,8] (fun v i wr=> ∃j:Nat,j≤l.length∧i= .int .i64 j∧Hid (LX 72 3 clR w wr w.heap.size [] v (l.take j))) (fun _ i _=>l.length - (intOf i).toNat)
 case atStart=>exact ⟨0,Nat.zero_le _,rfl,LX.first [] (zqK _ _) (Blks.empty _)⟩
 case round=>
  obtain ⟨j,hj,rfl,C⟩:=hrel
  by_cases O:j<l.length
  ·have qb:(j:Int)<l.length:=by omega
   obtain ⟨x,G⟩: ∃x,l[j]? =some x:=⟨_,List.getElem?_eq_getElem O⟩
   obtain ⟨ad,rfl,r0⟩:=(RowX.keep zaI E.out C.out.below).r1A G
   have HN:Hid (l.take (j+1)=l.take j++[x]):=by show _=_;rw [List.take_add_one,G];rfl
   have Z:=zqI (fun W=>lawOfR x W (V.out x (List.mem_of_getElem? G)))
   have qa:(l.take j).length≤1000:=by rw [List.length_take];omega
   have I:Hid (clR x=[.bool x.rB,.int .u64 x.rH,.int .u64 x.rL]):=rfl
   generalize l.take j=m0 at*
   generalize x.val=xv at*
   generalize x.rB=b at*
   generalize x.rH=hi at*
   generalize x.rL=lo at*
   clear G
   go_upto_region 5 with fail
   go_wp2_with fail
   refine (Z.out _).mono ?_
   rintro e z ⟨rfl,hb⟩
   have HI:=zqI (C.out.keep hb)
   have R:=oneR b hi lo
   have U:=zaV z [.bool b,.int .u64 hi,.int .u64 lo] 72
   have o:=zqI (HI.out.keep ((zqK _ _).alloc (zqJ _) (.cells #[.bool b,.int .u64 hi,.int .u64 lo] 72)))
   clear hb r0 Z
   go_wp2_with (first
    |(at_builtin;refine wpList_append_own _ rfl _ _ 62 rfl w.heap.size 72 i0 (.agg #[.bool false,.int .u64 0,.int .u64 0]) 3 24 Tryz.underlying62 S Y J N rfl (by decide) u3 m0.length (m0.flatMap clR) rfl o.out.row ⟨z.heap.size,0,none⟩ 1 1 [.bool b,.int .u64 hi,.int .u64 lo] rfl rfl U R (by unfold maxLen;omega) (by omega) o.out.size ?_;intro s1 w1 f d _)
    |go_in)
   have K:=zqI (HI.out.app (e:=x) ((zqK _ _).alloc (zqJ _) _) d (by rw [I.out];exact f))
   go_roundw
   case rel=>exact ⟨j+1,by omega,by go_num,by rw [HN.out];exact K⟩
   case measure=>simp [intOf];omega
  ·have H:j=l.length:=by omega
   subst H
   rw [List.take_length] at C
   go_wp2
   go_ret
   exact ⟨_,rfl,C.out.row,C.out.below⟩
theorem ziT (u v:Array Value): ∀(p q:Operand) (W:World),(eqGuard .neq 72 p q (.agg u) (.agg v)).run Tryz.prog W= .ok () W:=by
 intro p q W;kernel_rfl
theorem neqR (a:Bool) (b c:Int): ∀W:World,(binOp .neq 72 (.agg #[.bool a,.int .u64 b,.int .u64 c]) (.agg #[.bool a,.int .u64 b,.int .u64 c])).run Tryz.prog W= .ok (.bool false) W:=by
 intro W
 have d:(Op.equal 72 (.agg #[.bool a,.int .u64 b,.int .u64 c]) (.agg #[.bool a,.int .u64 b,.int .u64 c])).run Tryz.prog W= .ok true W:=by
  show (Op.equalIn 10000 72 _ _).run Tryz.prog W=_
  rw [run_equalIn_struct W 9999 72 _ _ (by kernel_rfl) (by kernel_rfl)]
  simp [Program.fieldsOf,Tryz.underlying72,Op.eqFields,go_sem,part,Tryz.sizeOf70,Tryz.isAgg70,Tryz.underlying70,Tryz.sizeOf4,Tryz.isAgg4,Tryz.underlying4]
 show ((Op.equal _ _ _>>=fun b=>pure (Value.bool !b)):Sem Value).run _ _=_
 rw [Sem.run_bind,d];rfl
theorem RowX.r3R {w:World} {a:Option Addr} {zs:List AZ} (h:RowX 3 clR w a zs) {k:Nat} {x:AZ} (p:zs[k]? =some x): ∃(ad:Addr) (_:a=some ad),w.cell? (ad.add (k*3))=some (.bool x.rB)∧w.cell? ⟨(ad.add (k*3)).block,(ad.add (k*3)).off+1,none⟩=some (.int .u64 x.rH)∧w.cell? ⟨(ad.add (k*3)).block,(ad.add (k*3)).off+2,none⟩=some (.int .u64 x.rL):=by
 obtain ⟨ad,C,d⟩:=h k x p
 have o:ad.add (k*3+1)=⟨(ad.add (k*3)).block,(ad.add (k*3)).off+1,none⟩:=by rw [←Go.Deep.add_add];rfl
 have f:ad.add (k*3+2)=⟨(ad.add (k*3)).block,(ad.add (k*3)).off+2,none⟩:=by rw [←Go.Deep.add_add];rfl
 exact ⟨ad,C,d 0 (by omega),by rw [←o];exact d 1 (by omega),by rw [←f];exact d 2 (by omega)⟩
theorem zgU (a b:Option Addr) (G cb:Nat) (l:List AZ) (w:World) (C:RowX 3 clR w a l) (p:RowX 3 clR w b l) (f:l.length≤1000000):
  Calls Tryz.prog 22 #[.slice a l.length G,.slice b l.length cb] w fun e w'=>e= .returned (.bool true)∧Below w.heap.size w w':=by
 have H:=zqI C
 have E:=zqI p
 clear C p
 go_enter Tryz.func22,Tryz.ntmps22
 go_wp2
 go_loopw [13] (fun i wr=> ∃k m:Nat,k≤l.length∧i= .int .i64 k∧wr=w.drewN m) (fun i _=>l.length - (intOf i).toNat)
 case atStart=>exact ⟨0,0,Nat.zero_le _,rfl,rfl⟩
 case round=>
  obtain ⟨k,m,U,rfl,rfl⟩:=hrel
  by_cases d:k<l.length
  ·obtain ⟨x,o⟩: ∃x,l[k]? =some x:=⟨_,List.getElem?_eq_getElem d⟩
   obtain ⟨d1,rfl,Z,K,O⟩:=H.out.r3R o
   obtain ⟨R,rfl,V,N,J⟩:=E.out.r3R o
   have I:(k:Int)<l.length:=by omega
   have S:=neqR x.rB x.rH x.rL
   have Y:=ziT
   generalize x.rB=b at*
   generalize x.rH=hi at*
   generalize x.rL=lo at*
   go_wp2
   go_quiet (fail)
   go_wp2
   go_roundw
   case rel=>exact ⟨k+1,_,by omega,by go_num,rfl⟩
   case measure=>simp [intOf];omega
  ·go_wp2
   go_ret
   exact ⟨rfl,zcF (zqK _ _) _⟩
def keyE (e:CE):List UInt8×Int:=(e.nm,e.un)
theorem zeJ {Q L:List CE} (h:Q.map keyE=L.map keyE):Q.length=L.length:=by simpa using zqL List.length h
theorem zoM {Q L:List CE} (h:Q.map keyE=L.map keyE) (f:zaO L):zaO Q:=by
 have d:(L.map keyE).Pairwise fun a b=>bytesBefore a.1 b.1=true:=List.pairwise_map.2 f
 rw [←h] at d
 exact List.pairwise_map.1 d
theorem sim_at {Q L:List CE} (h:Q.map keyE=L.map keyE) {k:Nat} {e:CE} (o:L[k]? =some e): ∃q,Q[k]? =some q∧q.nm=e.nm∧q.un=e.un:=by
 have d:=zqL (fun l=>l[k]?) h
 simp only [List.getElem?_map,o,Option.map_some] at d
 cases f:Q[k]? with
 |none=>rw [f] at d;cases d
 |some q=>
  rw [f] at d
  simp only [Option.map_some,Option.some.injEq] at d
  exact ⟨q,rfl,zqL Prod.fst d,zqL Prod.snd d⟩
theorem znH {Q L:List CE} (h:Q.map keyE=L.map keyE) (n:List UInt8):(delE n Q).map keyE=(delE n L).map keyE:=by
 have e: ∀l:List CE,(delE n l).map keyE=(l.map keyE).filter fun k=> !(k.1==n):=fun l=>by unfold delE;rw [List.filter_map];rfl
 rw [e,e,h]
theorem zoQ {Q L:List CE} (h:Q.map keyE=L.map keyE) (n:List UInt8):(zaL n Q).isNone=(zaL n L).isNone:=by
 have e: ∀l:List CE,(zaL n l).isNone= !(l.map keyE).any fun k=>k.1==n:=fun l=>by
  unfold zaL
  induction l with
  |nil=>rfl
  |cons a l d=>
   rw [List.find?_cons,List.map_cons,List.any_cons]
   show _= !((a.nm==n)||_)
   cases a.nm==n with
   |true=>rfl
   |false=>simpa using d
 rw [e,e,h]
def zfA (m:List UInt8×Int):List (List UInt8×Int)→List UInt8×Int
 |[]=>m
 |a::l=>zfA (if a.2<m.2 then a else m) l
theorem zfB: ∀(l:List CE) (m:CE),keyE (zaN m l)=zfA (keyE m) (l.map keyE)
 |[],_=>rfl
 |a::l,m=>by
  rw [List.map_cons]
  unfold zaN zfA
  rw [zfB l]
  show _=zfA (if a.un<m.un then keyE a else keyE m) _
  split<;>rfl
theorem sim_go {Q L:List CE} (h:Q.map keyE=L.map keyE):zaU Q=zaU L:=by
 have e: ∀l:List CE,zaU l=match l.map keyE with|[]=>[]|a::r=>(zfA a r).1:=fun l=>by
  cases l with
  |nil=>rfl
  |cons a l=>show (keyE (zaN a l)).1=_;rw [zfB];rfl
 rw [e,e,h]
theorem zoB {Q L:List CE} (h:Q.map keyE=L.map keyE) (n:List UInt8):(zaQ n Q).map keyE=(zaQ n L).map keyE:=by
 unfold zaQ zfG
 rw [zoQ h,zeJ h,sim_go h]
 split
 ·exact znH h _
 ·exact h
def insK (e:List UInt8×Int):List (List UInt8×Int)→List (List UInt8×Int)
 |[]=>[e]
 |a::l=>if bytesBefore e.1 a.1 then e::a::l else a::insK e l
theorem zgM (e:CE): ∀l:List CE,(insE e l).map keyE=insK (keyE e) (l.map keyE)
 |[]=>rfl
 |a::l=>by
  rw [List.map_cons]
  unfold insE insK
  show _=if bytesBefore e.nm a.nm then _ else _
  split
  ·rfl
  ·rw [List.map_cons,zgM e l]
theorem zpH {Q L:List CE} (h:Q.map keyE=L.map keyE) (n:List UInt8) (u:Int) (v v2:Value):(putE ⟨n,u,v⟩ (zaQ n Q)).map keyE=(putE ⟨n,u,v2⟩ (zaQ n L)).map keyE:=by
 unfold putE
 rw [zgM,zgM]
 show insK (n,u) ((delE n (zaQ n Q)).map keyE)=insK (n,u) ((delE n (zaQ n L)).map keyE)
 rw [znH (zoB h n)]
theorem zdD {X:Type} {s:Nat} {cl:X→List Value} (o: ∀x,(cl x).length=s) {x y:World} {M:Nat} {ao:Option Addr} {zs:List X} (h:RowX s cl x ao zs) (H: ∀p:Addr,p.block=M→x.cell? p=none) (C:Only [M] x y):RowX s cl y ao zs:=fun j z G=>by
 obtain ⟨ad,e,f⟩:=h j z G
 refine ⟨ad,e,fun i hi=> ?_⟩
 have q:(cl z)[i]? =some ((cl z)[i]'(by rw [o];exact hi)):=List.getElem?_eq_getElem _
 have d:=f i hi
 rw [q] at d ⊢
 exact (World.cell?_of_block (C.block _ (World.block_lt_of_cell? x _ d) (fun E=>by rw [H _ (List.mem_singleton.1 E)] at d;cases d))).trans d
structure LstZ (x:World) (zf:List UInt8→List AZ) (aq:Option Addr) (Q:List CE):Prop where
 row:RowX 3 clE x aq Q
 lst: ∀q∈Q,∃a c,q.sv= .slice a (zf q.nm).length c∧RowX 3 clR x a (zf q.nm)
 ok: ∀q∈Q,∀z∈zf q.nm,z.Ok
theorem LstZ.keep {x y:World} {zf:List UInt8→List AZ} {aq:Option Addr} {Q:List CE} (h:LstZ x zf aq Q) (d:Below x.heap.size x y):LstZ y zf aq Q:=
 ⟨RowX.keep zaT h.row d,fun q p=>by obtain ⟨a,k,o,f⟩:=h.lst q p;exact ⟨a,k,o,RowX.keep zaJ f d⟩,h.ok⟩
theorem LstZ.slices {x:World} {zf:List UInt8→List AZ} {aq:Option Addr} {Q:List CE} (h:LstZ x zf aq Q): ∀q∈Q,SlE q:=fun q f=>by obtain ⟨a,k,d,_⟩:=h.lst q f;exact ⟨a,_,k,d⟩
theorem LstZ.put {x y:World} {zf:List UInt8→List AZ} {aq C:Option Addr} {Q:List CE} {n:List UInt8} {u:Int} {la:Option Addr} {lc:Nat} {zs:List AZ} (h:LstZ x zf aq Q) (E:Below x.heap.size x y) (H:RowX 3 clR x la zs) (p: ∀z∈zs,z.Ok) (G:RowX 3 clE y C (putE ⟨n,u,.slice la zs.length lc⟩ (zaQ n Q))):LstZ y (upd zf n zs) C (putE ⟨n,u,.slice la zs.length lc⟩ (zaQ n Q)):=by
 refine ⟨G,fun q o=> ?_,fun q o=> ?_⟩
 ·rcases zbV.1 o with rfl|⟨o,f⟩
  ·unfold upd;rw [if_pos rfl];exact ⟨la,lc,rfl,RowX.keep zaJ H E⟩
  ·have d: ¬q.nm=n:=f
   unfold upd;rw [if_neg d];exact (h.keep E).lst q (zbI o)
 ·rcases zbV.1 o with rfl|⟨o,f⟩
  ·unfold upd;rw [if_pos rfl];exact p
  ·have d: ¬q.nm=n:=f
   unfold upd;rw [if_neg d];exact h.ok q (zbI o)
theorem znB {L:List CE} {zf:List UInt8→List AZ} {n:List UInt8} {u:Int} {v:Value} {zs:List AZ} (h: ∀e∈L,(zf e.nm).length≤1000) (p:zs.length≤1000): ∀e∈putE ⟨n,u,v⟩ (zaQ n L),(upd zf n zs e.nm).length≤1000:=fun e f=>by
 rcases zbV.1 f with rfl|⟨f,o⟩
 ·unfold upd;rw [if_pos rfl];exact p
 ·have d: ¬e.nm=n:=o
  unfold upd;rw [if_neg d];exact h e (zbI f)
theorem On.ok {x:On} (h:x.Ok):x.az.Ok:=by
 unfold On.az AZ.make
 have f:=h.1
 have d:=h.2
 cases x.is with
 |true=>exact ⟨⟨by omega,by omega⟩,by omega,by omega⟩
 |false=>exact ⟨by show 0≤(x.lo:Int) % 4294967296;omega,by show (x.lo:Int) % 4294967296≤4294967295;omega⟩
structure AnG (X:Type) where
 fail:Bool
 ttl:Int
 la:Option Addr
 lc:Nat
 l:List X
def AnG.cl {X:Type} (x:AnG X):List Value:=[.bool x.fail,.int .i64 x.ttl,.slice x.la x.l.length x.lc]
theorem AnG.len {X:Type} (x:AnG X):x.cl.length=3:=rfl
def AnG.key {X:Type} (x:AnG X):Bool×Int×List X:=(x.fail,x.ttl,x.l)
section
variable {X:Type} {s:Nat} {cl:X→List Value}
structure AnsX (s:Nat) (cl:X→List Value) (x:World) (ao:Option Addr) (A:List (AnG X)):Prop where
 row:RowX 3 AnG.cl x ao A
 sub: ∀a∈A,RowX s cl x a.la a.l
theorem AnsX.keep (f: ∀x,(cl x).length=s) {x y:World} {ao:Option Addr} {A:List (AnG X)} (h:AnsX s cl x ao A) (d:Below x.heap.size x y):AnsX s cl y ao A:=
 ⟨RowX.keep AnG.len h.row d,fun a o=>RowX.keep f (h.sub a o) d⟩
theorem AnsX.nil (x:World) (ao:Option Addr):AnsX s cl x ao ([]:List (AnG X)):=⟨fun j x d=>by simp at d,fun _ h=>nomatch h⟩
theorem RowX.at3G {wr:World} {a:Option Addr} {zs:List (AnG X)} (h:RowX 3 AnG.cl wr a zs) {j:Nat} (d:j<zs.length):
  ∃(ad:Addr) (_:a=some ad) (x:AnG X),zs[j]? =some x∧x∈zs∧wr.cell? (ad.add (j*3))=some (.bool x.fail)∧wr.cell? ⟨(ad.add (j*3)).block,(ad.add (j*3)).off+1,none⟩=some (.int .i64 x.ttl)∧wr.cell? ⟨(ad.add (j*3)).block,(ad.add (j*3)).off+2,none⟩=some (.slice x.la x.l.length x.lc):=by
 obtain ⟨ad,C,f⟩:=h j zs[j] (List.getElem?_eq_getElem d)
 have p:ad.add (j*3+1)=⟨(ad.add (j*3)).block,(ad.add (j*3)).off+1,none⟩:=by rw [←Go.Deep.add_add];rfl
 have o:ad.add (j*3+2)=⟨(ad.add (j*3)).block,(ad.add (j*3)).off+2,none⟩:=by rw [←Go.Deep.add_add];rfl
 refine ⟨ad,C,zs[j],List.getElem?_eq_getElem d,List.getElem_mem d,?_,?_,?_⟩
 ·exact f 0 (by omega)
 ·rw [←p];exact f 1 (by omega)
 ·rw [←o];exact f 2 (by omega)
theorem RowX.tail {x:World} {ad:Addr} {z:X} {zs:List X} (h:RowX s cl x (some ad) (z::zs)):RowX s cl x (some (ad.add s)) zs:=fun j v d=>by
 obtain ⟨f,e,o⟩:=h (j+1) v (by simpa using d)
 obtain rfl:=Option.some.inj e
 refine ⟨_,rfl,fun i hi=> ?_⟩
 rw [Go.Deep.add_add,show s+(j*s+i)=(j+1)*s+i by rw [Nat.add_mul,Nat.one_mul];omega]
 exact o i hi
theorem RowX.empty {x:World} {ao:Option Addr}:RowX s cl x ao []:=fun j x d=>by simp at d
theorem AnsX.tail {x:World} {ad:Addr} {a:AnG X} {A:List (AnG X)} (h:AnsX s cl x (some ad) (a::A)):AnsX s cl x (some (ad.add 3)) A:=
 ⟨h.row.tail,fun b d=>h.sub b (List.mem_cons_of_mem _ d)⟩
/-! ### what a write elsewhere leaves -/
def Plain:Option Value→Prop
 |some (.pointer _)=>False
 |some (.slice _ _ _)=>False
 |none=>False
 |_=>True
theorem RowX.only (p: ∀x,(cl x).length=s) {F:List Nat} {x y:World} {ao:Option Addr} {zs:List X} (h:RowX s cl x ao zs) (G: ∀ad,ao=some ad→zs≠[]→ad.block∉F) (C:Only F x y):RowX s cl y ao zs:=fun j z f=>by
 obtain ⟨ad,e,o⟩:=h j z f
 have E:zs≠[]:=fun q=>by rw [q] at f;simp at f
 refine ⟨ad,e,fun i hi=> ?_⟩
 have q:(cl z)[i]? =some ((cl z)[i]'(by rw [p];exact hi)):=List.getElem?_eq_getElem _
 have d:=o i hi
 rw [q] at d ⊢
 exact (World.cell?_of_block (C.block _ (World.block_lt_of_cell? x _ d) (by rw [zbC];exact G ad e E))).trans d
def NP (cs:Array Value):Prop:= ∀(i:Nat) (v:Value),cs[i]? =some v→ ¬Plain (some v)
theorem RowX.off_box (G:0<s) (R: ∀z,Plain (cl z)[0]?) {x:World} {r:Nat} {cs:Array Value} {T:TypeId} (H:NP cs) (S:x.heap[r]? =some (.cells cs T)) {ao:Option Addr} {zs:List X} (h:RowX s cl x ao zs): ∀ad,ao=some ad→zs≠[]→ad.block∉[r]:=fun ad O J I=>by
 obtain ⟨z,l,rfl⟩:=List.exists_cons_of_ne_nil J
 obtain ⟨N,e,K⟩:=h 0 z rfl
 rw [O] at e
 obtain rfl:=Option.some.inj e
 have d:=K 0 G
 have f:=R z
 have C:=List.mem_singleton.1 I
 cases E:(cl z)[0]? with
 |none=>rw [E] at f;exact f
 |some v=>
  rw [E] at d f
  have o:(ad.add (0*s+0)).block=r:=by rw [zbC];exact C
  generalize ad.add (0*s+0)=p at d o
  unfold World.cell? at d
  rw [o,S] at d
  dsimp only at d
  split at d
  ·cases d
  ·exact H _ _ d f
end
theorem zcD (z:AZ):Plain (clZ z)[0]? :=by cases z<;>exact trivial
theorem zbR (z:AZ):Plain (clR z)[0]? :=trivial
theorem zjM (z:CE):Plain (clE z)[0]? :=trivial
theorem zdX (p:Option Addr) (a:Option Addr) (n c:Nat):NP #[.pointer p,.slice a n c]:=fun i v h=>by
 match i,h with
 |0,h=>simp at h;rw [←h];exact id
 |1,h=>simp at h;rw [←h];exact id
 |_+2,h=>simp at h
theorem zbN (a:Option Addr) (n c:Nat) (b:Option Addr) (m d:Nat):NP #[.slice a n c,.slice b m d]:=fun i v h=>by
 match i,h with
 |0,h=>simp at h;rw [←h];exact id
 |1,h=>simp at h;rw [←h];exact id
 |_+2,h=>simp at h
theorem zgL {X:Type} (z:AnG X):Plain (AnG.cl z)[0]? :=trivial
end
section
open Go.RowKit Go.Maps Go.Sort Go.Shelf Go.Lib
structure ResZ (x:World) (r c M:Nat) (L:List CE) (zf:List UInt8→List AZ) (ao:Option Addr) (cp:Nat) (A:List (AnG AZ)):Prop where
 box:x.heap[r]? =some (.cells #[.pointer (some ⟨c,0,none⟩),.slice ao A.length cp] 75)
 ans:AnsX 1 clZ x ao A
 cac:CacZ x c M L zf
 room:A.length≤cp
theorem ResZ.keep {x y:World} {r c M:Nat} {L:List CE} {zf:List UInt8→List AZ} {ao:Option Addr} {cp:Nat} {A:List (AnG AZ)} (h:ResZ x r c M L zf ao cp A) (d:Below x.heap.size x y):ResZ y r c M L zf ao cp A:=
 ⟨(d.block r (zaG h.box)).trans h.box,h.ans.keep zaI d,h.cac.keep d,h.room⟩
section
variable {x y:World} {r:Nat} {cs:Array Value} {T:TypeId}
theorem AnsX.off {X:Type} {s:Nat} {cl:X→List Value} (E: ∀x,(cl x).length=s) (C:0<s) (G: ∀z,Plain (cl z)[0]?) {ao:Option Addr} {A:List (AnG X)} (h:AnsX s cl x ao A) (d:NP cs) (p:x.heap[r]? =some (.cells cs T)) (o:Only [r] x y):AnsX s cl y ao A:=
 ⟨RowX.only AnG.len h.row (RowX.off_box (by decide) zgL d p h.row) o,fun b f=>RowX.only E (h.sub b f) (RowX.off_box C G d p (h.sub b f)) o⟩
theorem CacZ.off {c M:Nat} {L:List CE} {zf:List UInt8→List AZ} (h:CacZ x c M L zf) (C:NP cs) (p:x.heap[r]? =some (.cells cs T)) (o:Only [r] x y):CacZ y c M L zf:=by
 have H:c≠r:=fun e=>by
  have d:=h.cac.box
  rw [e,p] at d
  injection d with d
  injection d with d
  exact C 0 (.map (some M)) (by rw [d];rfl) trivial
 have E:M≠r:=fun e=>by
  obtain ⟨⟨I,k,f,_⟩,_⟩:=h.cac.map
  rw [e,p] at f
  cases f
 refine ⟨⟨(o.block c (zaG h.cac.box) (fun q=>H (List.mem_singleton.1 q))).trans h.cac.box,h.cac.map.same (o.block M h.cac.map.1.lt (fun q=>E (List.mem_singleton.1 q)))⟩,fun e G=> ?_,h.few,h.len⟩
 obtain ⟨ao,cp,d,f⟩:=h.row e G
 exact ⟨ao,cp,d,RowX.only zaI f (RowX.off_box (by decide) zcD C p f) o⟩
theorem LstZ.off {zf:List UInt8→List AZ} {aq:Option Addr} {Q:List CE} (h:LstZ x zf aq Q) (d:NP cs) (p:x.heap[r]? =some (.cells cs T)) (f:Only [r] x y):LstZ y zf aq Q:=
 ⟨RowX.only zaT h.row (RowX.off_box (by decide) zjM d p h.row) f,fun q E=>by
  obtain ⟨b,c,C,o⟩:=h.lst q E
  exact ⟨b,c,C,RowX.only zaJ o (RowX.off_box (by decide) zbR d p o) f⟩,h.ok⟩
end
theorem AnsX.map {X:Type} {s:Nat} {cl:X→List Value} (o: ∀x,(cl x).length=s) {x y:World} {M:Nat} {ao:Option Addr} {A:List (AnG X)} (h:AnsX s cl x ao A) (f: ∀p:Addr,p.block=M→x.cell? p=none) (d:Only [M] x y):AnsX s cl y ao A:=
 ⟨zdD AnG.len h.row f d,fun b C=>zdD o (h.sub b C) f d⟩
theorem ResZ.left {x y:World} {r c M:Nat} {L:List CE} {zf:List UInt8→List AZ} {ao o:Option Addr} {cp f:Nat} {A d:List (AnG AZ)} (h:ResZ x r c M L zf ao cp A) (p:Only [r] x y) (E:y.heap[r]? =some (.cells #[.pointer (some ⟨c,0,none⟩),.slice o d.length f] 75)) (G:AnsX 1 clZ x o d) (C:d.length≤f):ResZ y r c M L zf o f d:=
 ⟨E,G.off zaI (by decide) zcD (zdX _ _ _ _) h.box p,h.cac.off (zdX _ _ _ _) h.box p,C⟩
theorem ResZ.ne {x:World} {r c M:Nat} {L:List CE} {zf:List UInt8→List AZ} {ao:Option Addr} {cp:Nat} {A:List (AnG AZ)} (h:ResZ x r c M L zf ao cp A):r≠M:=fun e=>by
 obtain ⟨⟨f,k,d,_⟩,_⟩:=h.cac.cac.map
 rw [←e,h.box] at d
 cases d
theorem ResZ.put {x y:World} {r c M:Nat} {L f:List CE} {zf d:List UInt8→List AZ} {ao:Option Addr} {cp:Nat} {A:List (AnG AZ)} (h:ResZ x r c M L zf ao cp A) (o:Only [M] x y) (p:CacZ y c M f d):ResZ y r c M f d ao cp A:=
 ⟨(o.block r (zaG h.box) (fun q=>h.ne (List.mem_singleton.1 q))).trans h.box,h.ans.map zaI (map_none h.cac.cac.map) o,p,h.room⟩
theorem ResZ.off {x y:World} {r c M:Nat} {L:List CE} {zf:List UInt8→List AZ} {ao:Option Addr} {cp:Nat} {A:List (AnG AZ)} {d:Nat} {cs:Array Value} {T:TypeId} (h:ResZ x r c M L zf ao cp A) (o:r≠d) (C:NP cs) (p:x.heap[d]? =some (.cells cs T)) (f:Only [d] x y):ResZ y r c M L zf ao cp A:=
 ⟨(f.block r (zaG h.box) (fun q=>o (List.mem_singleton.1 q))).trans h.box,h.ans.off zaI (by decide) zcD C p f,h.cac.off C p f,h.room⟩
theorem ResZ.other {x y:World} {r c M G N J:Nat} {L L2:List CE} {zf I:List UInt8→List AZ} {ao Y:Option Addr} {cp H:Nat} {A A2:List (AnG AZ)} (h:ResZ x r c M L zf ao cp A) (d:ResZ x G N J L2 I Y H A2) (hr:G≠r) (hm:J≠M) (K:Only [r,M] x y):ResZ y G N J L2 I Y H A2:=by
 -- in two steps:what is in r as it was,then as it is
 have hn: ∀p:Addr,p.block=M→x.cell? p=none:=map_none h.cac.cac.map
 have key: ∀{X:Type} {s:Nat} {cl:X→List Value} (_: ∀x,(cl x).length=s) (_:0<s) (_: ∀z,Plain (cl z)[0]?) {b:Option Addr} {zs:List X},RowX s cl x b zs→RowX s cl y b zs:=fun {X s cl} hl V hp {b zs} f=>RowX.only hl f (fun ad Z hz O=>by
  rcases List.mem_cons.1 O with q|q
  ·exact RowX.off_box V hp (zdX _ _ _ _) h.box f ad Z hz (by rw [q];exact .head _)
  ·obtain ⟨z,l,rfl⟩:=List.exists_cons_of_ne_nil hz
   obtain ⟨qa,e,hc⟩:=f 0 z rfl
   rw [Z] at e
   obtain rfl:=Option.some.inj e
   have E:=hc 0 V
   rw [hn _ (by rw [zbC];exact List.mem_singleton.1 q)] at E
   have:=hp z
   rw [←E] at this
   exact this) K
 have U:N∉[r,M]:=fun q=>by
  have o:=d.cac.cac.box
  rcases List.mem_cons.1 q with e|e
  ·rw [e,h.box] at o;simp at o
  ·have e:=List.mem_singleton.1 e
   obtain ⟨⟨es,k,C,_⟩,_⟩:=h.cac.cac.map
   rw [e,C] at o
   cases o
 have S:G∉[r,M]:=fun q=>by
  rcases List.mem_cons.1 q with e|e
  ·exact hr e
  ·have e:=List.mem_singleton.1 e
   obtain ⟨⟨es,k,C,_⟩,_⟩:=h.cac.cac.map
   have o:=d.box
   rw [e,C] at o
   cases o
 have R:J∉[r,M]:=fun q=>by
  rcases List.mem_cons.1 q with e|e
  ·obtain ⟨⟨es,k,C,_⟩,_⟩:=d.cac.cac.map
   rw [e,h.box] at C
   cases C
  ·exact hm (List.mem_singleton.1 e)
 refine ⟨(K.block G (zaG d.box) S).trans d.box,⟨key AnG.len (by decide) zgL d.ans.row,fun b O=>key zaI (by decide) zcD (d.ans.sub b O)⟩,⟨⟨(K.block N (zaG d.cac.cac.box) U).trans d.cac.cac.box,d.cac.cac.map.same (K.block J d.cac.cac.map.1.lt R)⟩,fun e he=> ?_,d.cac.few,d.cac.len⟩,d.room⟩
 obtain ⟨b,k,h4,h5⟩:=d.cac.row e he
 exact ⟨b,k,h4,key zaI (by decide) zcD h5⟩
/-! ### the document's -/
structure DocZ (x:World) (zf:List UInt8→List AZ) (aq:Option Addr) (Q:List CE) (ad:Option Addr) (B:List (AnG AZ)):Prop where
 lst:LstZ x zf aq Q
 ans:AnsX 3 clR x ad B
 ok: ∀b∈B,∀z∈b.l,z.Ok
section
variable {x y:World} {zf:List UInt8→List AZ} {aq ad:Option Addr} {Q:List CE} {B:List (AnG AZ)}
theorem DocZ.keep (h:DocZ x zf aq Q ad B) (d:Below x.heap.size x y):DocZ y zf aq Q ad B:=⟨h.lst.keep d,h.ans.keep zaJ d,h.ok⟩
theorem DocZ.off {d:Nat} {cs:Array Value} {T:TypeId} (h:DocZ x zf aq Q ad B) (f:NP cs) (p:x.heap[d]? =some (.cells cs T)) (o:Only [d] x y):DocZ y zf aq Q ad B:=⟨h.lst.off f p o,h.ans.off zaJ (by decide) zbR f p o,h.ok⟩
theorem DocZ.both {r c M:Nat} {L:List CE} {C:List UInt8→List AZ} {ao:Option Addr} {cp:Nat} {A:List (AnG AZ)} (h:DocZ x zf aq Q ad B) (J:ResZ x r c M L C ao cp A) (O:Only [r,M] x y):DocZ y zf aq Q ad B:=by
 have R: ∀p:Addr,p.block=M→x.cell? p=none:=map_none J.cac.cac.map
 have key: ∀{X:Type} {s:Nat} {cl:X→List Value} (_: ∀x,(cl x).length=s) (_:0<s) (_: ∀z,Plain (cl z)[0]?) {b:Option Addr} {zs:List X},RowX s cl x b zs→RowX s cl y b zs:=fun {X s cl} N E H {b zs} d=>RowX.only N d (fun ad G I o=>by
  rcases List.mem_cons.1 o with q|q
  ·exact RowX.off_box E H (zdX _ _ _ _) J.box d ad G I (by rw [q];exact .head _)
  ·obtain ⟨z,l,rfl⟩:=List.exists_cons_of_ne_nil I
   obtain ⟨S,e,K⟩:=d 0 z rfl
   rw [G] at e
   obtain rfl:=Option.some.inj e
   have f:=K 0 E
   rw [R _ (by rw [zbC];exact List.mem_singleton.1 q)] at f
   have:=H z
   rw [←f] at this
   exact this) O
 exact ⟨⟨key zaT (by decide) zjM h.lst.row,fun q Y=>by
  obtain ⟨b,c,V,U⟩:=h.lst.lst q Y
  exact ⟨b,c,V,key zaJ (by decide) zbR U⟩,h.lst.ok⟩,⟨key AnG.len (by decide) zgL h.ans.row,fun b o=>key zaJ (by decide) zbR (h.ans.sub b o)⟩,h.ok⟩
end
/-! ### what an answer tells -/
section
variable {X:Type}
def chk (a:AnG X):Int:=if a.fail=true then 14 else if a.l.length=0 then 13 else if 16<a.l.length then 19 else 0
def zdO:List (AnG X)→Int
 |[]=>14
 |a::_=>chk a
def ansA:List (AnG X)→List X
 |[]=>[]
 |a::_=>if chk a=0 then a.l else []
def putA (now:Int):List (AnG X)→Option (Int×List X)
 |[]=>none
 |a::_=>if chk a=0∧0<a.ttl then some (now+min a.ttl 2147483648,a.l) else none
theorem znT {A B:List (AnG X)} (h:A.map AnG.key=B.map AnG.key):zdO A=zdO B∧ansA A=ansA B∧(∀now,putA now A=putA now B)∧A.tail.map AnG.key=B.tail.map AnG.key∧A.length=B.length:=by
 have o:A.length=B.length:=by simpa using zqL List.length h
 cases A with
 |nil=>
  cases B with
  |nil=>exact ⟨rfl,rfl,fun _=>rfl,rfl,rfl⟩
  |cons b B=>cases h
 |cons a A=>
  cases B with
  |nil=>cases h
  |cons b B=>
   simp only [List.map_cons,List.cons.injEq,AnG.key,Prod.mk.injEq] at h
   obtain ⟨⟨E,C,d⟩,p⟩:=h
   have f:chk a=chk b:=by unfold chk;rw [E,d]
   refine ⟨f,?_,fun now=> ?_,p,o⟩
   ·unfold ansA;simp only;rw [f,d]
   ·unfold putA;simp only;rw [f,C,d]
end
def StpZ (n:List UInt8) (p:Option (Int×List AZ)) (L:List CE) (zf:List UInt8→List AZ) (f:List CE) (d:List UInt8→List AZ):Prop:=match p with
 |none=>f=L∧d=zf
 |some (u,zs)=>(∃v,f=putE ⟨n,u,v⟩ (zaQ n L))∧d=upd zf n zs
theorem StpZ.sim {n:List UInt8} {p:Option (Int×List AZ)} {L Q f o:List CE} {zf H G:List UInt8→List AZ} (E:StpZ n p L zf f H) (C:StpZ n p Q zf o G) (d:Q.map keyE=L.map keyE):o.map keyE=f.map keyE∧G=H:=by
 cases p with
 |none=>
  obtain ⟨rfl,rfl⟩:=E
  obtain ⟨rfl,rfl⟩:=C
  exact ⟨d,rfl⟩
 |some q=>
  obtain ⟨u,zs⟩:=q
  obtain ⟨⟨v1,rfl⟩,rfl⟩:=E
  obtain ⟨⟨v2,rfl⟩,rfl⟩:=C
  exact ⟨zpH d n u v2 v1,rfl⟩
end
section
open Go.RowKit Go.Maps Go.Sort Go.Shelf Go.Lib
theorem zoW:(Tryz.prog.info? 94).map (fun i=>(i.zero,i.size,i.bytes))=some (some (.agg #[.bool false,.int .i64 0,.slice none 0 0]),3,40):=by kernel_rfl
theorem zgW (ad:Addr) (n c:Nat): ∀W:World,(binOp .eql 47 (.slice (some ad) n c) (.slice none 0 0)).run Tryz.prog W= .ok (.bool false) W:=by
 intro W;kernel_rfl
theorem zgF (n c:Nat): ∀W:World,(binOp .eql 47 (.slice none n c) (.slice none 0 0)).run Tryz.prog W= .ok (.bool true) W:=by
 intro W;kernel_rfl
theorem AnG.one {X:Type} (a:AnG X): ∀u∈a.cl,u.oneCell'=true:=by
 intro u d
 unfold AnG.cl at d
 simp only [List.mem_cons,List.not_mem_nil,or_false] at d
 rcases d with rfl|rfl|rfl<;>rfl
theorem OwnX.room {X:Type} {t:TypeId} {s:Nat} {cl:X→List Value} {w:World} {base:Nat} {a:Option Addr} {n c:Nat} {l:List X} (h:OwnX t s cl w base (.slice a n c) l):l.length≤c:=by
 rcases h.2 with ⟨e,f⟩|⟨g,d,cur,e,_,_,o,_⟩
 ·omega
 ·simp only [Value.slice.injEq] at e
  omega
theorem zjS {X:Type} {cl:X→List Value} {s:Nat} (p:0<s) (h: ∀x,(cl x).length=s) (l:List X) (k:Nat) (u:Value) (d:(l.flatMap cl)[k]? =some u): ∃(j i:Nat) (x:X),l[j]? =some x∧i<s∧k=j*s+i∧(cl x)[i]? =some u:=by
 have C:k<l.length*s:=by
  have:=(List.getElem?_eq_some_iff.1 d).1
  rwa [zdB h] at this
 have f:k/s<l.length:=Nat.div_lt_of_lt_mul (by rwa [Nat.mul_comm] at C)
 have hi:k % s<s:=Nat.mod_lt _ p
 have o:k=k/s*s+k % s:=by have:=Nat.div_add_mod k s;rw [Nat.mul_comm] at this;exact this.symm
 refine ⟨k/s,k % s,l[k/s],List.getElem?_eq_getElem f,hi,o,?_⟩
 rw [←zeE h l (k/s) _ (List.getElem?_eq_getElem f) (k % s) hi,←o]
 exact d
theorem ziW (ao:Option Addr) (c:Nat) (zs:List (AnG AZ)) (w:World) (S:RowX 3 AnG.cl w ao zs) (hl:zs.length≤1000):
  Calls Tryz.prog 44 #[.slice ao zs.length c] w fun e w'=> ∃v,e= .returned v∧OwnX 94 3 AnG.cl w' w.heap.size v zs∧Below w.heap.size w w':=by
 have C:=zqI S
 clear S
 cases ao with
 |none=>
  have Z:zs=[]:=by
   cases zs with
   |nil=>rfl
   |cons x l=>obtain ⟨ad,e,_⟩:=C.out 0 x rfl;cases e
  subst Z
  have hq:=zgF 0 c
  go_enter Tryz.func44,Tryz.ntmps44
  go_wp2
  go_ret
  exact ⟨_,rfl,OwnX.nil _ _,zqK _ _⟩
 |some ad=>
  obtain ⟨i0,N,R,H,K⟩:=zaW zoW
  have hq:=zgW ad zs.length c
  go_enter Tryz.func44,Tryz.ntmps44
  have o:Below w.heap.size w (w.alloc (.cells #[] 94)):=(zqK _ _).alloc (zqJ _) _
  have E:(w.alloc (.cells #[] 94)).ownsRow w.heap.size 94 3 (.slice (some ⟨w.heap.size,0,none⟩) 0 0) 0 []:=⟨rfl,.inr ⟨w.heap.size,0,#[],rfl,zqJ _,Go.Deep.blk_alloc_new _ _,zqJ _,by decide,rfl,rfl⟩⟩
  have p: ∀(k:Nat) (u:Value),(zs.flatMap AnG.cl)[k]? =some u→(w.alloc (.cells #[] 94)).cell? (ad.add k)=some u:=fun k u I=>by
   obtain ⟨j,i,x,O,hi,rfl,U⟩:=zjS (by omega) AnG.len zs k u I
   obtain ⟨V,e,Y⟩:=(RowX.keep AnG.len C.out o) j x O
   obtain rfl:=Option.some.inj e
   exact (Y i hi).trans U
  have G: ∀u∈zs.flatMap AnG.cl,u.oneCell'=true:=fun u I=>by
   obtain ⟨x,_,O⟩:=List.mem_flatMap.1 I
   exact x.one u O
  have J:(zs.flatMap AnG.cl).length=zs.length*3:=zdB AnG.len zs
  go_wp2_with (first
   |(at_builtin;refine wpList_append_own _ rfl _ _ 47 rfl w.heap.size 94 i0 (.agg #[.bool false,.int .i64 0,.slice none 0 0]) 3 40 Tryz.underlying47 N R H K rfl (by decide) (.slice (some ⟨w.heap.size,0,none⟩) 0 0) 0 [] rfl E ad zs.length c (zs.flatMap AnG.cl) rfl J p G (by unfold maxLen;omega) (by omega) (by simp) ?_;intro s1 w1 f d _)
   |go_in)
  go_ret
  refine ⟨_,rfl,?_,o.grown d o.size (fun k hk=> ?_)⟩
  ·unfold OwnX
   simpa using f
  ·simp only [Value.ownBlock,Option.some.injEq] at hk
   omega
/-! ### a row of answers under way in a block -/
structure CpyZ (w x:World) (g:Nat) (A B:List (AnG AZ)):Prop where
 below:Below w.heap.size w x
 blk: ∃cur,x.heap[g]? =some (.cells cur 94)∧ ∀(j:Nat) (b:AnG AZ),B[j]? =some b→ ∀i,i<3→cur[j*3+i]? =b.cl[i]?
 key:B.map AnG.key=A.map AnG.key
 sub: ∀b∈B,RowX 1 clZ x b.la b.l∧ ∀ad,b.la=some ad→b.l≠[]→ad.block∉[g]
 old:w.heap.size≤g
theorem CpyZ.row {w x:World} {g:Nat} {A B:List (AnG AZ)} (h:CpyZ w x g A B):RowX 3 AnG.cl x (some ⟨g,0,none⟩) B:=fun j b o=>by
 obtain ⟨cur,f,d⟩:=h.blk
 refine ⟨_,rfl,fun i hi=> ?_⟩
 have e:(⟨g,0,none⟩:Addr).add (j*3+i)=⟨g,j*3+i,none⟩:=by simp [Addr.add];intro h;omega
 rw [e,zaA f]
 exact d j b o i hi
theorem CpyZ.keep {w x y:World} {g:Nat} {A B:List (AnG AZ)} (h:CpyZ w x g A B) (d:Below x.heap.size x y):CpyZ w y g A B:=by
 obtain ⟨cur,o,p⟩:=h.blk
 exact ⟨zaE h.below d,⟨cur,(d.block g (zaG o)).trans o,p⟩,h.key,fun b f=>⟨RowX.keep zaI (h.sub b f).1 d,(h.sub b f).2⟩,h.old⟩
theorem CpyZ.set {w x:World} {g:Nat} {A B:List (AnG AZ)} (h:CpyZ w x g A B) {k:Nat} {b:AnG AZ} (G:B[k]? =some b) {a:Option Addr} {c:Nat} (O:RowX 1 clZ x a b.l) (K: ∀ad,a=some ad→ad.block≠g):CpyZ w (x.setCell ⟨g,k*3+2,none⟩ (.slice a b.l.length c)) g A (B.set k ⟨b.fail,b.ttl,a,c,b.l⟩):=by
 obtain ⟨cur,R,I⟩:=h.blk
 have J:Only [g] x (x.setCell ⟨g,k*3+2,none⟩ (.slice a b.l.length c)):=(Only.refl [g] x).setCell (p:=⟨g,k*3+2,none⟩) (.inl (.head _)) _
 have C:k<B.length:=(List.getElem?_eq_some_iff.1 G).1
 have H:k*3+2<cur.size:=by
  have:=I k b G 2 (by omega)
  rcases Nat.lt_or_ge (k*3+2) cur.size with q|q
  ·exact q
  ·rw [Array.getElem?_eq_none q] at this;cases this
 refine ⟨h.below.setCell (p:=⟨g,k*3+2,none⟩) h.old _,⟨_,zbL R _ _,fun j z d i hi=> ?_⟩,?_,fun z d=> ?_,h.old⟩
 ·rw [Array.getElem?_setIfInBounds]
  by_cases o:k=j
  ·subst o
   rw [List.getElem?_set_self C] at d
   cases d
   have q:=I k b G i hi
   by_cases E:i=2
   ·subst E
    rw [if_pos rfl,if_pos H]
    rfl
   ·rw [if_neg (by omega),q]
    match i,E,hi with
    |0,_,_=>rfl
    |1,_,_=>rfl
    |2,q,_=>exact absurd rfl q
  ·rw [List.getElem?_set_ne o] at d
   rw [if_neg (by omega)]
   exact I j z d i hi
 ·rw [List.map_set,←h.key]
  refine List.ext_getElem? fun j=> ?_
  by_cases o:k=j
  ·subst o
   rw [List.getElem?_set_self (by rw [List.length_map];exact C),List.getElem?_map,G]
   rfl
  ·rw [List.getElem?_set_ne o]
 ·rcases List.mem_or_eq_of_mem_set d with q|q
  ·exact ⟨RowX.only zaI (h.sub z q).1 (h.sub z q).2 J,(h.sub z q).2⟩
  ·subst q
   have f: ∀ad,a=some ad→b.l≠[]→ad.block∉[g]:=fun ad N _ q=>K ad N (List.mem_singleton.1 q)
   exact ⟨RowX.only zaI O f J,f⟩
theorem CpyZ.first {w x:World} {I:Option Addr} {c1:Nat} {ao:Option Addr} {A:List (AnG AZ)} (E:AnsX 1 clZ w ao A) (G:OwnX 94 3 AnG.cl x w.heap.size (.slice I A.length c1) A) (H:Below w.heap.size w x) (h0:A≠[]): ∃g,I=some ⟨g,0,none⟩∧CpyZ w x g A A:=by
 have hr:=G.row AnG.len
 rcases G.2 with ⟨e,O⟩|⟨g,R,cur,e,Y,J,qa,_,N,U⟩
 ·exact absurd (List.eq_nil_of_length_eq_zero O) h0
 ·simp only [Value.slice.injEq] at e
  obtain ⟨rfl,_,rfl⟩:=e
  refine ⟨g,rfl,H,⟨cur,J,fun j b V i hi=> ?_⟩,rfl,fun b C=>⟨RowX.keep zaI (E.sub b C) H,fun ad K hz S=> ?_⟩,Y⟩
  ·obtain ⟨ad,f,o⟩:=hr j b V
   obtain rfl:=Option.some.inj f
   have:=o i hi
   rw [show (⟨g,0,none⟩:Addr).add (j*3+i)=⟨g,j*3+i,none⟩ by simp [Addr.add];intro h;omega,zaA J] at this
   exact this
  ·obtain ⟨z,l,Z⟩:=List.exists_cons_of_ne_nil hz
   have d:=E.sub b C
   rw [Z] at d
   obtain ⟨qb,f,o⟩:=d 0 z rfl
   rw [K] at f
   obtain rfl:=Option.some.inj f
   have p:=World.block_lt_of_cell? w _ (o 0 (by omega))
   rw [zbC,List.mem_singleton.1 S] at p
   omega
theorem zdG (ao:Option Addr) (cp:Nat) (A:List (AnG AZ)) (w:World) (h:AnsX 1 clZ w ao A) (hl:A.length≤1000) (hz: ∀a∈A,a.l.length≤1000):
  Calls Tryz.prog 32 #[.slice ao A.length cp] w fun e w'=> ∃a2 c2 A2,e= .returned (.slice a2 A2.length c2)∧AnsX 1 clZ w' a2 A2∧A2.map AnG.key=A.map AnG.key∧A2.length≤c2∧Below w.heap.size w w':=by
 have HA:=zqI h
 have HL:=zqI hl
 have HZ:=zqI hz
 have S:=zqI (ziW ao cp A w h.row hl)
 clear h hl hz
 go_enter Tryz.func32,Tryz.ntmps32
 go_wp2_with fail
 refine S.out.mono ?_
 rintro e x1 ⟨v1,rfl,f,o⟩
 obtain ⟨a1,c1,rfl⟩:=f.form
 have qb:=zqI f.room
 clear S
 by_cases h0:A=[]
 ·subst h0
  have qp:=zqI o
  clear o f
  go_wp2
  go_loopw [10] (fun i wr=>i= .int .i64 0∧Hid (Below w.heap.size w wr)) (fun _ _=>0)
  case atStart=>exact ⟨rfl,qp⟩
  case round=>
   obtain ⟨rfl,HB⟩:=hrel
   go_wp2
   go_ret
   exact ⟨a1,c1,[],rfl,AnsX.nil _ _,rfl,qb.out,HB.out⟩
 ·obtain ⟨g,rfl,hC⟩:=CpyZ.first HA.out f o h0
  have qe:=zqI hC
  have qr:(A.length:Int)≤1000:=by have:=HL.out;omega
  clear hC f o h0
  go_wp2
  go_loopw [10] (fun i wr=> ∃(k:Nat) (B:List (AnG AZ)),k≤A.length∧i= .int .i64 k∧Hid (CpyZ w wr g A B)) (fun i _=>A.length - (intOf i).toNat)
  case atStart=>exact ⟨0,A,Nat.zero_le _,rfl,qe⟩
  case round=>
   clear qe
   obtain ⟨k,B,hk,rfl,d⟩:=hrel
   by_cases qn:k<A.length
   ·have qq:(k:Int)<A.length:=by omega
    have I:B.length=A.length:=by simpa using zqL List.length d.out.key
    obtain ⟨ad,C,b,qc,G,r0,r1,K⟩:=d.out.row.at3G (j:=k) (by omega)
    obtain rfl:=Option.some.inj C
    have qd:(⟨g,0,none⟩:Addr).add (k*3)=⟨g,k*3,none⟩:=by simp [Addr.add];intro h;omega
    rw [qd] at r0 r1 K
    dsimp only at r0 r1 K
    have qg:b.l.length≤1000:=by
     have h1:b.key∈A.map AnG.key:=d.out.key▸List.mem_map_of_mem G
     obtain ⟨a,ha,qj⟩:=List.mem_map.1 h1
     have h2:=HZ.out a ha
     have h3:a.l=b.l:=zqL (fun q:Bool×Int×List AZ=>q.2.2) qj
     rw [h3] at h2;exact h2
    have qf:g<wr.heap.size:=by obtain ⟨cur,h1,_⟩:=d.out.blk;exact zaG h1
    have R:=zqI (fun (x:World) (hC:CpyZ w x g A B) (a:Option Addr) (c:Nat) (hr:RowX 1 clZ x a b.l) (hg: ∀ad,a=some ad→ad.block≠g)=>hC.set qc (c:=c) hr hg)
    have H:=zqI (d.out.sub b G).1
    clear C qc G qd
    obtain ⟨bf,bt,O,V,Y⟩:=b
    dsimp only at r0 r1 K qg R H
    obtain ⟨y,hy⟩: ∃y,y=wr.alloc (.cells #[.bool bf,.int .i64 bt,.slice O Y.length V] 94):=⟨_,rfl⟩
    have E:Below wr.heap.size wr y:=by rw [hy];exact (zqK _ _).alloc (zqJ _) _
    have p:y.heap[wr.heap.size]? =some (.cells #[.bool bf,.int .i64 bt,.slice O Y.length V] 94):=by rw [hy];exact heap_alloc_new wr _
    have U:=zqI (d.out.keep E)
    have ql:=zqI E
    have qa:=zqI (zaZ O V Y y (RowX.keep zaI H.out E) (by omega))
    have qo:Hid (g<y.heap.size):=Nat.lt_of_lt_of_le qf E.size
    have e2:=zaA p 2
    simp at e2
    clear p E d H qf
    go_upto_region 5 with fail
    rw [←hy]
    have N:Hid (y.cell? ⟨g,k*3+2,none⟩=some (.slice O Y.length V)):=(ql.out.cell (World.block_lt_of_cell? wr _ K)).trans K
    clear hy r0 r1 K
    go_wp2_with fail
    refine qa.out.mono ?_
    rintro e z ⟨v,rfl,ho,J⟩
    obtain ⟨a5,c5,rfl⟩:=ho.form
    have Z:=zqI (U.out.keep J)
    have qm:=zqI (ho.row zaI)
    have qh:Hid (∀ad,a5=some ad→ad.block≠g):=fun ad ha hq=>by
     have:=(World.ownsRow.lt ho ad.block (by rw [ha];rfl)).1
     have:=qo.out
     omega
    have qi:=zqI (R.out z Z.out a5 c5 qm.out qh.out)
    have c2:z.cell? ⟨g,k*3+2,none⟩=some (.slice O Y.length V):=(J.cell (World.block_lt_of_cell? y _ N.out)).trans N.out
    have c3:z.frozen? ⟨g,k*3+2,none⟩=false:=by
     obtain ⟨cur,h1,h2⟩:=Z.out.blk
     exact zaY h1 _
    clear ho J qa U e2
    go_wp2
    go_roundw
    case rel=>exact ⟨k+1,_,by omega,by go_num,qi⟩
    case measure=>simp [intOf];omega
   ·have qk:k=A.length:=by omega
    subst qk
    clear qn
    go_wp2
    go_ret
    have I:B.length=A.length:=by simpa using zqL List.length d.out.key
    exact ⟨some ⟨g,0,none⟩,c1,B,by rw [I];rfl,⟨d.out.row,fun b E=>(d.out.sub b E).1⟩,d.out.key,by rw [I];exact qb.out,d.out.below⟩
theorem zkT {A B:List (AnG AZ)} (h:B.map AnG.key=A.map AnG.key):B.length=A.length∧ ∀n:Nat,(∀a∈A,a.l.length≤n)→ ∀b∈B,b.l.length≤n:=by
 refine ⟨by simpa using zqL List.length h,fun n o b E=> ?_⟩
 have C:b.key∈A.map AnG.key:=h▸List.mem_map_of_mem E
 obtain ⟨a,p,d⟩:=List.mem_map.1 C
 have f:=o a p
 rw [show a.l=b.l from zqL (fun q:Bool×Int×List AZ=>q.2.2) d] at f
 exact f
theorem zlK (ao:Option Addr) (cp:Nat) (A:List (AnG AZ)) (zf:List UInt8→List AZ) (w:World) (h:AnsX 1 clZ w ao A) (hl:A.length≤1000) (hz: ∀a∈A,a.l.length≤1000):
  Calls Tryz.prog 16 #[.slice ao A.length cp] w fun e w'=> ∃r c M U V S,e= .returned (.pointer (some ⟨r,0,none⟩))∧ResZ w' r c M [] zf U V S∧S.map AnG.key=A.map AnG.key∧w.heap.size≤r∧w.heap.size≤M∧Below w.heap.size w w':=by
 have E:=zqI (zgE w)
 have H:=zqI (fun W (hW:Below w.heap.size w W)=>zdG ao cp A W (h.keep zaI hW) hl hz)
 clear h hl hz
 go_enter Tryz.func16,Tryz.ntmps16
 go_wp2_with fail
 refine E.out.mono ?_
 rintro e x1 ⟨c,M,rfl,O,qb,C,G⟩
 have I:=zqI (CacZ.new O zf)
 have o:=zqI G
 have Z:=zqI C
 clear O qb C G E
 go_wp2_with fail
 refine (H.out x1 o.out).mono ?_
 rintro e J ⟨U,V,S,rfl,N,K,R,p⟩
 have Y:=zqI (I.out.keep p)
 have d:=zqI (o.out.trans (p.mono o.out.size))
 have qd:=zqI N
 have qc:=zqI K
 have qa:=zqI R
 clear N K R p I H
 go_wp2
 go_ret
 have f:Below J.heap.size J (J.alloc (.cells #[.pointer (some ⟨c,0,none⟩),.slice U S.length V] 75)):=(zqK _ _).alloc (zqJ _) _
 exact ⟨J.heap.size,c,M,U,V,S,rfl,⟨heap_alloc_new J _,qd.out.keep zaI f,Y.out.keep f,qa.out⟩,qc.out,d.out.size,Z.out,d.out.trans (f.mono d.out.size)⟩
theorem ziX {r c M:Nat} {L:List CE} {zf:List UInt8→List AZ} {ao:Option Addr} {cp:Nat} {A:List (AnG AZ)} (w:World) (h:ResZ w r c M L zf ao cp A):
  Calls Tryz.prog 24 #[.pointer (some ⟨r,0,none⟩)] w fun e w'=>e= .returned (.int .i64 A.length)∧w=w':=by
 have c1:=zaA h.box 1
 simp at c1
 clear h
 go_enter Tryz.func24,Tryz.ntmps24
 go_wp2
 go_ret
 exact ⟨rfl,rfl⟩
theorem zgK {r c M:Nat} {L:List CE} {zf:List UInt8→List AZ} {ao:Option Addr} {cp:Nat} {A:List (AnG AZ)} (w:World) (h:ResZ w r c M L zf ao cp A) (hl:A.length≤1000) (hz: ∀a∈A,a.l.length≤1000):
  Calls Tryz.prog 17 #[.pointer (some ⟨r,0,none⟩)] w fun e w'=> ∃r2 d H L2 G E o,e= .returned (.pointer (some ⟨r2,0,none⟩))∧ResZ w' r2 d H L2 zf G E o∧L2.map keyE=L.map keyE∧o.map AnG.key=A.map AnG.key∧w.heap.size≤r2∧w.heap.size≤H∧Below w.heap.size w w':=by
 have J:=zaA h.box 0
 have O:=zaA h.box 1
 simp at J O
 have p:Hid (∀W,Below w.heap.size w W→W.cell? ⟨r,0,none⟩=some (.pointer (some ⟨c,0,none⟩))∧W.cell? ⟨r,1,none⟩=some (.slice ao A.length cp)):=fun W I=>⟨(I.cell (World.block_lt_of_cell? w _ J)).trans J,(I.cell (World.block_lt_of_cell? w _ O)).trans O⟩
 have qb:Hid (∀W,Below w.heap.size w W→Calls Tryz.prog 33 #[.pointer (some ⟨c,0,none⟩)] W fun e w'=> ∃(d H:Nat) (f:List UInt8→Value),e= .returned (.pointer (some ⟨d,0,none⟩))∧CacZ w' d H (L.map fun e=>⟨e.nm,e.un,f e.nm⟩) zf∧w.heap.size≤H∧Below W.heap.size W w'∧Below w.heap.size w w'):=fun W I=>(zpN c M L zf W (h.cac.keep I)).mono (by rintro e w' ⟨d,H,f,rfl,h1,h2,h3,Y⟩;exact ⟨d,H,f,rfl,h1,Nat.le_trans I.size h3,Y,zaE I Y⟩)
 have V:Hid (∀W,Below w.heap.size w W→Calls Tryz.prog 32 #[.slice ao A.length cp] W fun e w'=> ∃G d o,e= .returned (.slice G o.length d)∧AnsX 1 clZ w' G o∧o.map AnG.key=A.map AnG.key∧o.length≤d∧Below W.heap.size W w'∧Below w.heap.size w w'):=fun W I=>(zdG ao cp A W (h.ans.keep zaI I) hl hz).mono (by rintro e w' ⟨G,d,o,rfl,h1,h2,h3,Y⟩;exact ⟨G,d,o,rfl,h1,h2,h3,Y,zaE I Y⟩)
 clear h hl hz
 go_enter Tryz.func17,Tryz.ntmps17
 go_wp2_with fail
 go_region_held3 (fun W=>W.cell? ⟨r,0,none⟩=some (.pointer (some ⟨c,0,none⟩))∧W.cell? ⟨r,1,none⟩=some (.slice ao A.length cp)) (first|exact p.out _ (zaF _)|exact p.out _ R|exact p.out _ C|exact p.out _ (C.alloc C.size _)) (first
  |(go_simp;go_at_call 33;((with_reducible refine (qb.out _ (zaF _)).mono ?_);rintro e x5 ⟨d,H,f,rfl,qe,Z,qi,R⟩))
  |(go_simp;go_at_call 32;((with_reducible refine (V.out _ R).mono ?_);rintro e S ⟨G,E,o,rfl,qa,qd,U,qc,C⟩)))
 have qh:=zqI (qe.keep qc)
 have qg:=zqI qa
 have qj:=zqI qd
 have qf:=zqI U
 have qk:=zqI Z
 have K:=zqI C
 clear qe qa qd U Z C R qi qc p qb V
 go_wp2
 go_ret
 have N:Below S.heap.size S (S.alloc (.cells #[.pointer (some ⟨d,0,none⟩),.slice G o.length E] 75)):=(zqK _ _).alloc (zqJ _) _
 exact ⟨S.heap.size,d,H,_,G,E,o,rfl,⟨heap_alloc_new S _,qg.out.keep zaI N,qh.out.keep N,qf.out⟩,by rw [List.map_map];rfl,qj.out,K.out.size,qk.out,K.out.trans (N.mono K.out.size)⟩
theorem zgS (a:AnG AZ) (w:World) (O:a.l.length≤1000):
  Calls Tryz.prog 34 #[.agg #[.bool a.fail,.int .i64 a.ttl,.slice a.la a.l.length a.lc]] w fun e w'=>e= .returned (.int .i64 (chk a))∧Below w.heap.size w w':=by
 obtain ⟨bf,bt,K,I,o⟩:=a
 dsimp only at O ⊢
 obtain ⟨y,f⟩: ∃y,y=w.alloc (.cells #[.bool bf,.int .i64 bt,.slice K o.length I] 94):=⟨_,rfl⟩
 have H:Below w.heap.size w y:=by rw [f];exact (zqK _ _).alloc (zqJ _) _
 have d:y.heap[w.heap.size]? =some (.cells #[.bool bf,.int .i64 bt,.slice K o.length I] 94):=by rw [f];exact heap_alloc_new w _
 have p:=zqI H
 have N:=zaA d 0
 have S:=zaA d 2
 simp at N S
 have R:(o.length:Int)≤1000:=by omega
 unfold chk
 dsimp only
 clear d H
 cases bf with
 |true=>
  rw [if_pos rfl]
  go_enter Tryz.func34,Tryz.ntmps34
  go_upto_region 1 with fail
  rw [←f]
  clear f
  go_wp2
  go_ret
  exact ⟨rfl,p.out⟩
 |false=>
  rw [if_neg (by decide)]
  by_cases C:o.length=0
  ·rw [if_pos C]
   have E:((o.length:Int)==0)=true:=beq_iff_eq.2 (by omega)
   clear C
   go_enter Tryz.func34,Tryz.ntmps34
   go_upto_region 1 with fail
   rw [←f]
   clear f
   go_wp2
   go_ret
   exact ⟨rfl,p.out⟩
  ·rw [if_neg C]
   have E:((o.length:Int)==0)=false:=beq_eq_false_iff_ne.2 (by omega)
   by_cases J:16<o.length
   ·rw [if_pos J]
    have G:(16:Int)<o.length:=by omega
    go_enter Tryz.func34,Tryz.ntmps34
    go_upto_region 1 with fail
    rw [←f]
    clear f
    go_wp2
    go_ret
    exact ⟨rfl,p.out⟩
   ·rw [if_neg J]
    have G: ¬(16:Int)<o.length:=by omega
    go_enter Tryz.func34,Tryz.ntmps34
    go_upto_region 1 with fail
    rw [←f]
    clear f
    go_wp2
    go_ret
    exact ⟨rfl,p.out⟩
theorem zeL {x y:World} {M:Nat} (h:Only [M] x y) (f: ∀p:Addr,p.block=M→x.cell? p=none) {p:Addr} {v:Value} (d:x.cell? p=some v):y.cell? p=some v:=
 (World.cell?_of_block (a:=p) (h.block p.block (World.block_lt_of_cell? x _ d) (fun e=>by rw [f p (List.mem_singleton.1 e)] at d;cases d))).trans d
theorem znD {r c M:Nat} {L:List CE} {zf:List UInt8→List AZ} {ao:Option Addr} {cp:Nat} (n:List UInt8) (now:Int) (w:World) (h:ResZ w r c M L zf ao cp []):
  Calls Tryz.prog 18 #[.pointer (some ⟨r,0,none⟩),.string ⟨n.toArray⟩,.int .i64 now] w fun e w'=>e= .returned (.tuple #[.slice none 0 0,.int .i64 14])∧w=w':=by
 have d:=zaA h.box 1
 simp at d
 clear h
 go_enter Tryz.func18,Tryz.ntmps18
 go_wp2
 refine bodyPost_ret (v:= .tuple #[.slice none 0 0,.int .i64 14]) (by simp [results,Tryz.results18,go_sem]) rfl ?_
 exact ⟨rfl,rfl⟩
theorem zjB {r c M:Nat} {L:List CE} {zf:List UInt8→List AZ} {ao:Option Addr} {cp:Nat} {a:AnG AZ} {A:List (AnG AZ)} (n:List UInt8) (now:Int) (w:World) (h:ResZ w r c M L zf ao cp (a::A)) (hl:A.length≤1000) (hz:a.l.length≤1000) (hn:n.length≤maxLen) (h0:0≤now) (h1:now≤576460752303423488):
  Calls Tryz.prog 18 #[.pointer (some ⟨r,0,none⟩),.string ⟨n.toArray⟩,.int .i64 now] w fun e w'=> ∃(ra:Option Addr) (rc:Nat),e= .returned (.tuple #[.slice ra (if chk a=0 then a.l else []).length rc,.int .i64 (chk a)])∧RowX 1 clZ w' ra (if chk a=0 then a.l else [])∧(∃L2 qm a2 qw,StpZ n (putA now (a::A)) L zf L2 qm∧ResZ w' r c M L2 qm a2 qw A)∧Only [r,M] w w':=by
 have HR:=zqI h
 have qd:=zaA h.box 0
 have S:=zaA h.box 1
 simp at qd S
 obtain ⟨ad,qr,b,hb,qy,r0,r1,r2⟩:=h.ans.row.at3G (j:=0) (by simp)
 simp only [List.getElem?_cons_zero,Option.some.injEq] at hb
 subst hb
 subst qr
 rw [Nat.zero_mul] at r0 r1 r2
 have qn:ad.add 0=ad:=rfl
 rw [qn] at r0 r1 r2
 have R:=zqI (fun W=>zgS a W hz)
 have qD:A.length+1≤cp:=h.room
 have qG:(A.length:Int)+1≤cp:=by omega
 obtain ⟨bf,bt,I,N,o⟩:=a
 dsimp only at r0 r1 r2 hz R ⊢
 obtain ⟨y,hy⟩: ∃y,y=w.alloc (.cells #[.bool bf,.int .i64 bt,.slice I o.length N] 94):=⟨_,rfl⟩
 have hb:Below w.heap.size w y:=by rw [hy];exact (zqK _ _).alloc (zqJ _) _
 have qb:y.heap[w.heap.size]? =some (.cells #[.bool bf,.int .i64 bt,.slice I o.length N] 94):=by rw [hy];exact heap_alloc_new w _
 have qH:r<w.heap.size:=zaG h.box
 have V:=zqI (HR.out.keep hb)
 obtain ⟨a2,O⟩: ∃q:Option Addr,q=if cp=1 then some ad else some ⟨ad.block,ad.off+3,none⟩:=⟨_,rfl⟩
 obtain ⟨x2,E⟩: ∃x,x=y.setCell ⟨r,1,none⟩ (.slice a2 A.length (cp - 1)):=⟨_,rfl⟩
 have H:Only [r] y x2:=by rw [E];exact (Only.refl [r] y).setCell (p:=⟨r,1,none⟩) (.inl (.head _)) _
 have Z:AnsX 1 clZ y a2 A:=by
  rw [O]
  by_cases S:cp=1
  ·rw [if_pos S,List.eq_nil_of_length_eq_zero (show A.length=0 by omega)]
   exact AnsX.nil _ _
  ·rw [if_neg S]
   exact V.out.ans.tail
 have qi:Hid (ResZ x2 r c M L zf a2 (cp - 1) A):=V.out.left H (by rw [E];exact zbL V.out.box 1 _) Z (by omega)
 have qg:Hid (Only [r] w x2):=((Only.of_below (F:=[r]) hb).trans H (fun x hx=> .inl hx))
 have f:x2.heap[w.heap.size]? =some (.cells #[.bool bf,.int .i64 bt,.slice I o.length N] 94):=(H.block _ (zaG qb) (fun q=>by have:=List.mem_singleton.1 q;omega)).trans qb
 have qF:=zqI f
 have qs:Hid (RowX 1 clZ x2 I o):=RowX.only zaI (RowX.keep zaI (HR.out.ans.sub _ (.head _)) hb) (RowX.off_box (by decide) zcD (zdX _ _ _ _) V.out.box (RowX.keep zaI (HR.out.ans.sub _ (.head _)) hb)) H
 have e0:=zaA f 0
 have e1:=zaA f 1
 have e2:=zaA f 2
 simp at e0 e1 e2
 have k1:=zaA V.out.box 1
 have k2:=zaY V.out.box 1
 simp at k1
 have qh:Hid (putA now ((⟨bf,bt,I,N,o⟩:AnG AZ)::A)=if chk (⟨bf,bt,I,N,o⟩:AnG AZ)=0∧0<bt then some (now+min bt 2147483648,o) else none):=rfl
 have qz:Hid (chk (⟨bf,bt,I,N,o⟩:AnG AZ)=0→0<o.length∧o.length≤16):=fun hc=>by
  unfold chk at hc
  dsimp only at hc
  cases bf with
  |true=>rw [if_pos rfl] at hc;cases hc
  |false=>
   rw [if_neg (by decide)] at hc
   by_cases h0:o.length=0
   ·rw [if_pos h0] at hc;cases hc
   ·rw [if_neg h0] at hc
    by_cases h1:16<o.length
    ·rw [if_pos h1] at hc;cases hc
    ·omega
 generalize putA now ((⟨bf,bt,I,N,o⟩:AnG AZ)::A)=pz at*
 generalize chk (⟨bf,bt,I,N,o⟩:AnG AZ)=ck at*
 clear h qy qn hb qb f H Z
 by_cases Y:ck=0
 ·subst Y
  rw [if_pos rfl]
  have qv:o≠[]:=fun q=>by have:=(qz.out rfl).1;rw [q] at this;simp at this
  have qA:=zqI qv
  clear qv
  by_cases qo:0<bt
  ·have qc:Hid (pz=some (now+min bt 2147483648,o)):=by show _=_;rw [qh.out,if_pos ⟨rfl,qo⟩]
   have qB:Hid (IntKind.i64.wrap (now+min bt 2147483648)=now+min bt 2147483648):=by
    have h2:0<min bt 2147483648∧min bt 2147483648≤2147483648:=by omega
    show _=_
    unfold IntKind.wrap
    simp [IntKind.bits,IntKind.signed]
    omega
   go_enter Tryz.func18,Tryz.ntmps18
   go_upto_region 6 with fail
   rw [←hy]
   clear hy qd S r0 r1 r2
   go_upto_region 7 with fail
   rw [←O,←E]
   clear E O k1 k2
   go_wp2_with fail
   refine (R.out _).mono ?_
   rintro e K ⟨rfl,d⟩
   have c1:=(d.cell (World.block_lt_of_cell? x2 _ e1)).trans e1
   have c2:=(d.cell (World.block_lt_of_cell? x2 _ e2)).trans e2
   have C:=zqI (qi.out.keep d)
   have U:=zqI (RowX.keep zaI qs.out d)
   have qa:=zqI ((qg.out.then_below d).mono (G:=[r,M]) (fun x hx=>by rw [List.mem_singleton.1 hx];exact .head _))
   have qe:=zaA C.out.box 0
   simp at qe
   clear d e0 e1 e2 R
   go_upto_region 11 with fail
   have qf:Hid (∀W,Below K.heap.size K W→W.cell? ⟨r,0,none⟩=some (.pointer (some ⟨c,0,none⟩))∧W.cell? ⟨w.heap.size,1,none⟩=some (.int .i64 bt)∧W.cell? ⟨w.heap.size,2,none⟩=some (.slice I o.length N)):=fun W hW=>⟨(hW.cell (World.block_lt_of_cell? K _ qe)).trans qe,(hW.cell (World.block_lt_of_cell? K _ c1)).trans c1,(hW.cell (World.block_lt_of_cell? K _ c2)).trans c2⟩
   have qk:=zqI (fun W (hW:Below K.heap.size K W)=>put_z c M L zf n (IntKind.i64.wrap (now+min bt 2147483648)) I o N W (C.out.cac.keep hW) hn qA.out (by omega) (RowX.keep zaI U.out hW))
   have ql:Hid (∀(v:Value) (W:World),Only [M] K.drew W→W.cell? ⟨r,0,none⟩=some (.pointer (some ⟨c,0,none⟩))∧W.cell? ⟨w.heap.size,1,none⟩=some (.int .i64 bt)∧W.cell? ⟨w.heap.size,2,none⟩=some (.slice I o.length N)):=fun v W hW=>by
    have hn:=map_none (C.out.keep (zaF K)).cac.cac.map
    obtain ⟨q0,q1,q2⟩:=qf.out _ (zaF K)
    exact ⟨zeL hW hn q0,zeL hW hn q1,zeL hW hn q2⟩
   go_region_held3 (fun W=>W.cell? ⟨r,0,none⟩=some (.pointer (some ⟨c,0,none⟩))∧W.cell? ⟨w.heap.size,1,none⟩=some (.int .i64 bt)∧W.cell? ⟨w.heap.size,2,none⟩=some (.slice I o.length N)) (first|exact qf.out _ (zaF _)|exact qj) (first
    |(go_simp;go_at_call 9;((with_reducible refine (qk.out _ (zaF _)).mono ?_);rintro e x5 ⟨rfl,v5,qq,J⟩;have qj:=ql.out v5 x5 J)))
   have qC:=zqI ((C.out.keep (zaF K)).put J qq)
   have qp:=zqI (zdD zaI (RowX.keep zaI U.out (zaF K)) (map_none (C.out.keep (zaF K)).cac.cac.map) J)
   have qx:Hid (Only [r,M] w x5):=(qa.out.then_below (zaF K)).trans J (fun x hx=> .inl (by rw [List.mem_singleton.1 hx];exact .tail _ (.head _)))
   have c5:=qj.2.2
   clear qj qq J qe c1 c2 qf ql qk
   go_wp2
   refine bodyPost_ret (v:= .tuple #[.slice I o.length N,.int .i64 0]) (by simp [results,Tryz.results18,go_sem]) rfl ?_
   exact ⟨I,N,rfl,qp.out,⟨_,_,a2,cp - 1,by rw [qc.out];exact ⟨⟨v5,by rw [qB.out]⟩,rfl⟩,qC.out⟩,qx.out⟩
  ·have qc:Hid (pz=none):=by show _=_;rw [qh.out,if_neg (fun q=>qo q.2)]
   go_enter Tryz.func18,Tryz.ntmps18
   go_upto_region 6 with fail
   rw [←hy]
   clear hy qd S r0 r1 r2
   go_upto_region 7 with fail
   rw [←O,←E]
   clear E O k1 k2
   go_wp2_with fail
   refine (R.out _).mono ?_
   rintro e K ⟨rfl,d⟩
   have c1:=(d.cell (World.block_lt_of_cell? x2 _ e1)).trans e1
   have c2:=(d.cell (World.block_lt_of_cell? x2 _ e2)).trans e2
   have C:=zqI (qi.out.keep d)
   have U:=zqI (RowX.keep zaI qs.out d)
   have qa:=zqI ((qg.out.then_below d).mono (G:=[r,M]) (fun x hx=>by rw [List.mem_singleton.1 hx];exact .head _))
   clear d e0 e1 e2 R
   go_wp2
   refine bodyPost_ret (v:= .tuple #[.slice I o.length N,.int .i64 0]) (by simp [results,Tryz.results18,go_sem]) rfl ?_
   exact ⟨I,N,rfl,U.out,⟨L,zf,a2,cp - 1,by rw [qc.out];exact ⟨rfl,rfl⟩,C.out⟩,qa.out⟩
 ·have qc:Hid (pz=none):=by show _=_;rw [qh.out,if_neg (fun q=>Y q.1)]
  rw [if_neg Y]
  have qE:(ck !=0)=true:=bne_iff_ne.2 Y
  clear Y
  go_enter Tryz.func18,Tryz.ntmps18
  go_upto_region 6 with fail
  rw [←hy]
  clear hy qd S r0 r1 r2
  go_upto_region 7 with fail
  rw [←O,←E]
  clear E O k1 k2
  go_wp2_with fail
  refine (R.out _).mono ?_
  rintro e K ⟨rfl,d⟩
  have C:=zqI (qi.out.keep d)
  have qa:=zqI ((qg.out.then_below d).mono (G:=[r,M]) (fun x hx=>by rw [List.mem_singleton.1 hx];exact .head _))
  clear d e0 e1 e2 R
  go_wp2
  refine bodyPost_ret (v:= .tuple #[.slice none 0 0,.int .i64 ck]) (by simp [results,Tryz.results18,go_sem]) rfl ?_
  exact ⟨none,0,rfl,RowX.empty,⟨L,zf,a2,cp - 1,by rw [qc.out];exact ⟨rfl,rfl⟩,C.out⟩,qa.out⟩
def gotG (L:List CE) (n:List UInt8) (now:Int):Bool:=(L.map keyE).any fun k=>k.1==n&&decide (now<k.2)
theorem zhZ {L:List CE} {n:List UInt8} {now:Int} {e:CE} (f:e∈L) (d:e.nm=n) (o:now<e.un):gotG L n now=true:=by
 unfold gotG
 rw [List.any_eq_true]
 exact ⟨keyE e,List.mem_map_of_mem f,by simp [keyE,d,o]⟩
theorem zgG {L:List CE} {n:List UInt8} {now:Int} (h: ∀e∈L,e.nm=n→ ¬now<e.un):gotG L n now=false:=by
 unfold gotG
 rw [List.any_eq_false]
 intro k f
 obtain ⟨e,d,rfl⟩:=List.mem_map.1 f
 simp only [keyE,Bool.and_eq_true,beq_iff_eq,not_and]
 exact fun q k=>h e d q (of_decide_eq_true k)
theorem znU {c M:Nat} {L:List CE} {zf:List UInt8→List AZ} (n:List UInt8) (now:Int) (w:World) (h:CacZ w c M L zf) (G:n.length≤maxLen) (g:Bool) (E:gotG L n now=g):
  Calls Tryz.prog 11 #[.pointer (some ⟨c,0,none⟩),.string ⟨n.toArray⟩,.int .i64 now] w fun r w'=> ∃I K,r= .returned (.tuple #[.slice I (if g then zf n else []).length K,.bool g])∧RowX 1 clZ w' I (if g then zf n else [])∧(g=true→(zf n).length≤1000000)∧Below w.heap.size w w':=by
 cases C:zaL n L with
 |none=>
  obtain rfl:g=false:=by rw [←E];exact zgG (fun e f d=>absurd d (zbX C e f))
  refine (zhH c M L n now w h.cac G (fun e p=>by rw [C] at p;cases p)).mono ?_
  rintro r w' ⟨rfl,o⟩
  exact ⟨none,0,rfl,RowX.empty,(fun q=>by cases q),o⟩
 |some e=>
  obtain ⟨f,d⟩:=zbA C
  by_cases q:now<e.un
  ·obtain rfl:g=true:=by rw [←E];exact zhZ f d q
   refine (znE c M L zf n now w h G C q).mono ?_
   rintro r w' ⟨v,rfl,J,o⟩
   obtain ⟨a,k,rfl⟩:=J.form
   exact ⟨a,k,rfl,J.row zaI,(fun _=>d▸(h.few e f).2.2),o⟩
  ·obtain rfl:g=false:=by rw [←E];exact zgG (fun x N H=>by rw [h.cac.map.2.one N f (H.trans d.symm)];exact q)
   refine (zhH c M L n now w h.cac G (fun O p=>by rw [C] at p;cases p;exact q)).mono ?_
   rintro r w' ⟨rfl,o⟩
   exact ⟨none,0,rfl,RowX.empty,(fun q=>by cases q),o⟩
theorem zdH {r c M:Nat} {L:List CE} {zf:List UInt8→List AZ} {ao:Option Addr} {cp:Nat} {A:List (AnG AZ)} (n:List UInt8) (now:Int) (w:World) (h:ResZ w r c M L zf ao cp A) (E:A.length≤1000) (J: ∀a∈A,a.l.length≤1000) (H:n.length≤maxLen) (G:0≤now) (K:now≤576460752303423488):
  Calls Tryz.prog 18 #[.pointer (some ⟨r,0,none⟩),.string ⟨n.toArray⟩,.int .i64 now] w fun e w'=> ∃(o:Option Addr) (I:Nat),e= .returned (.tuple #[.slice o (ansA A).length I,.int .i64 (zdO A)])∧RowX 1 clZ w' o (ansA A)∧(∃p d C f,StpZ n (putA now A) L zf p d∧ResZ w' r c M p d C f A.tail)∧Only [r,M] w w':=by
 cases A with
 |nil=>
  refine (znD n now w h).mono ?_
  rintro e w' ⟨rfl,rfl⟩
  exact ⟨none,0,rfl,RowX.empty,⟨L,zf,ao,cp,⟨rfl,rfl⟩,h⟩,Only.refl _ _⟩
 |cons a A=>exact zjB n now w h (by simp at E;omega) (J a (.head _)) H G K
theorem zeM {r c M:Nat} {L:List CE} {zf:List UInt8→List AZ} {ao:Option Addr} {cp:Nat} {A:List (AnG AZ)} (n:List UInt8) (now:Int) (w:World) (h:ResZ w r c M L zf ao cp A) (hl:A.length≤1000) (hz: ∀a∈A,a.l.length≤1000) (U:n.length≤maxLen) (h0:0≤now) (h1:now≤576460752303423488) (g:Bool) (Z:gotG L n now=g):
  Calls Tryz.prog 21 #[.pointer (some ⟨r,0,none⟩),.string ⟨n.toArray⟩,.int .i64 now] w fun e w'=> ∃(o:Option Addr) (C:Nat),e= .returned (.tuple #[.slice o (if g then zf n else ansA A).length C,.bool g,.int .i64 (if g then 0 else zdO A)])∧RowX 1 clZ w' o (if g then zf n else ansA A)∧(∃L2 J a2 O,StpZ n (if g then none else putA now A) L zf L2 J∧ResZ w' r c M L2 J a2 O (if g then A else A.tail))∧Only [r,M] w w':=by
 have HR:=zqI h
 have E:=zaA h.box 0
 simp at E
 have G:=zqI (znU n now w h.cac U g Z)
 have I:=zqI (fun W (hW:Below w.heap.size w W)=>zdH n now W (h.keep hW) hl hz U h0 h1)
 clear h hl hz U Z
 cases g with
 |true=>
  simp only [if_true] at G ⊢
  go_enter Tryz.func21,Tryz.ntmps21
  go_wp2_with fail
  refine G.out.mono ?_
  rintro e x1 ⟨o,C,rfl,p,_,d⟩
  have V:=zqI p
  have f:=zqI d
  clear p d G E
  go_wp2
  refine bodyPost_ret (v:= .tuple #[.slice o (zf n).length C,.bool true,.int .i64 0]) (by simp [results,Tryz.results21,go_sem]) rfl ?_
  exact ⟨o,C,rfl,V.out,⟨L,zf,ao,cp,⟨rfl,rfl⟩,HR.out.keep f.out⟩,Only.of_below f.out⟩
 |false=>
  simp only [Bool.false_eq_true,if_false] at G ⊢
  go_enter Tryz.func21,Tryz.ntmps21
  go_wp2_with fail
  refine G.out.mono ?_
  rintro e x1 ⟨o,C,rfl,p,_,d⟩
  have f:=zqI d
  clear p d G E
  go_wp2_with fail
  refine (I.out x1 f.out).mono ?_
  rintro e x2 ⟨o,C,rfl,K,N,H⟩
  have R:=zqI K
  have S:=zqI N
  have Y:Hid (Only [r,M] w x2):=(Only.of_below (F:=[r,M]) f.out).trans H (fun x hx=> .inl hx)
  clear K N H I
  go_wp2
  refine bodyPost_ret (v:= .tuple #[.slice o (ansA A).length C,.bool false,.int .i64 (zdO A)]) (by simp [results,Tryz.results21,go_sem]) rfl ?_
  exact ⟨o,C,rfl,R.out,S.out,Y.out⟩
theorem zpM {x:World} {b:Nat} {u0 u1:Value} {T:TypeId} (h:x.heap[b]? =some (.cells #[u0,u1] T)) (v0 v1:Value):
  ((x.setCell ⟨b,0,none⟩ v0).setCell ⟨b,1,none⟩ v1).heap[b]? =some (.cells #[v0,v1] T):=by
 have d:=zbL (zbL h 0 v0) 1 v1
 simpa using d
theorem zcJ {x:World} (b:Nat) (v0 v1:Value):Only [b] x ((x.setCell ⟨b,0,none⟩ v0).setCell ⟨b,1,none⟩ v1):=
 ((Only.refl [b] x).setCell (p:=⟨b,0,none⟩) (.inl (.head _)) v0).setCell (p:=⟨b,1,none⟩) (.inl (.head _)) v1
structure Two (x:World) (b:Nat) (v0 v1:Value) (T:TypeId):Prop where
 blk:x.heap[b]? =some (.cells #[v0,v1] T)
theorem Two.c0 {x:World} {b:Nat} {v0 v1:Value} {T:TypeId} (h:Two x b v0 v1 T):x.cell? ⟨b,0,none⟩=some v0:=by
 have:=zaA h.blk 0
 simpa using this
theorem Two.c1 {x:World} {b:Nat} {v0 v1:Value} {T:TypeId} (h:Two x b v0 v1 T):x.cell? ⟨b,1,none⟩=some v1:=by
 have:=zaA h.blk 1
 simpa using this
theorem Two.fz {x:World} {b:Nat} {v0 v1:Value} {T:TypeId} (h:Two x b v0 v1 T) (i:Nat):x.frozen? ⟨b,i,none⟩=false:=zaY h.blk i
theorem Two.keep {x y:World} {b:Nat} {v0 v1:Value} {T:TypeId} (h:Two x b v0 v1 T) (d:Below x.heap.size x y):Two y b v0 v1 T:=⟨(d.block b (zaG h.blk)).trans h.blk⟩
theorem Two.only {x y:World} {b:Nat} {v0 v1:Value} {T:TypeId} {F:List Nat} (h:Two x b v0 v1 T) (f:Only F x y) (d:b∉F):Two y b v0 v1 T:=⟨(f.block b (zaG h.blk) d).trans h.blk⟩
theorem Two.set {x:World} {b:Nat} {v0 v1:Value} {T:TypeId} (h:Two x b v0 v1 T) (u0 u1:Value):Two ((x.setCell ⟨b,0,none⟩ u0).setCell ⟨b,1,none⟩ u1) b u0 u1 T:=⟨zpM h.blk u0 u1⟩
theorem Two.set0 {x:World} {b:Nat} {v0 v1:Value} {T:TypeId} (h:Two x b v0 v1 T) (u0:Value):Two (x.setCell ⟨b,0,none⟩ u0) b u0 v1 T:=⟨by simpa using zbL h.blk 0 u0⟩
theorem Two.set1 {x:World} {b:Nat} {v0 v1:Value} {T:TypeId} (h:Two x b v0 v1 T) (u1:Value):Two (x.setCell ⟨b,1,none⟩ u1) b v0 u1 T:=⟨by simpa using zbL h.blk 1 u1⟩
theorem Two.lt {x:World} {b:Nat} {v0 v1:Value} {T:TypeId} (h:Two x b v0 v1 T):b<x.heap.size:=zaG h.blk
theorem zgD {aq ad:Option Addr} {Q:List CE} {cq cb:Nat} (n:List UInt8) (now:Int) (w:World):
  Calls Tryz.prog 20 #[.agg #[.slice aq Q.length cq,.slice ad 0 cb],.string ⟨n.toArray⟩,.int .i64 now] w fun e w'=>e= .returned (.tuple #[.agg #[.slice aq Q.length cq,.slice ad 0 cb],.slice none 0 0,.int .i64 14])∧Below w.heap.size w w':=by
 obtain ⟨y,f⟩: ∃y,y=(w.alloc (.cells #[.slice aq Q.length cq,.slice ad 0 cb] 55)).alloc (.cells #[.slice none 0 0,.slice none 0 0] 55):=⟨_,rfl⟩
 have E:Below w.heap.size w y:=by rw [f];exact ((zqK _ _).alloc (zqJ _) _).alloc (by simp) _
 have C:Two y w.heap.size (.slice aq Q.length cq) (.slice ad 0 cb) 55:=⟨by rw [f];exact (Below.heap_alloc _ _ _ (by simp)).trans (heap_alloc_new w _)⟩
 have d:Two y (w.heap.size+1) (.slice none 0 0) (.slice none 0 0) 55:=⟨by rw [f];simpa using heap_alloc_new (w.alloc (.cells #[.slice aq Q.length cq,.slice ad 0 cb] 55)) (.cells #[.slice none 0 0,.slice none 0 0] 55)⟩
 have K:=C.c0
 have R:=C.c1
 have O:=d.c0
 have U:=d.c1
 have S:=d.fz 0
 have N:=(d.set0 (.slice aq Q.length cq)).fz 1
 have H:=(d.set0 (.slice aq Q.length cq)).c1
 have G:=zqI (d.set (.slice aq Q.length cq) (.slice ad 0 cb))
 have o:Hid (Below w.heap.size w ((y.setCell ⟨w.heap.size+1,0,none⟩ (.slice aq Q.length cq)).setCell ⟨w.heap.size+1,1,none⟩ (.slice ad 0 cb))):=(E.setCell (p:=⟨w.heap.size+1,0,none⟩) (by simp) _).setCell (p:=⟨w.heap.size+1,1,none⟩) (by simp) _
 clear E C d
 go_enter Tryz.func20,Tryz.ntmps20
 go_upto_region 1 with fail
 rw [←f]
 clear f
 go_wp2
 have J:=G.out.c0
 have I:=G.out.c1
 refine bodyPost_ret (v:= .tuple #[.agg #[.slice aq Q.length cq,.slice ad 0 cb],.slice none 0 0,.int .i64 14]) (by simp [results,Tryz.results20,go_sem,J,I]) rfl ?_
 exact ⟨rfl,o.out⟩
structure AskB (w x:World) (c l:Value) (bf:Bool) (bt:Int) (s:Value):Prop where
 below:Below w.heap.size w x
 own:Two x w.heap.size c l 55
 res:Two x (w.heap.size+1) (.slice none 0 0) (.slice none 0 0) 55
 loc:x.heap[w.heap.size+2]? =some (.cells #[.bool bf,.int .i64 bt,s] 98)
theorem AskB.keep {w x y:World} {c l:Value} {bf:Bool} {bt:Int} {s:Value} (h:AskB w x c l bf bt s) (d:Below x.heap.size x y):AskB w y c l bf bt s:=
 ⟨zaE h.below d,h.own.keep d,h.res.keep d,(d.block _ (zaG h.loc)).trans h.loc⟩
theorem AskB.take {w x:World} {c l:Value} {bf:Bool} {bt:Int} {s:Value} (h:AskB w x c l bf bt s) (v:Value):AskB w (x.setCell ⟨w.heap.size,0,none⟩ v) v l bf bt s:=
 ⟨h.below.setCell (p:=⟨w.heap.size,0,none⟩) (zqJ _) _,h.own.set0 v,⟨(zbB (by omega) 0 v).trans h.res.blk⟩,(zbB (by omega) 0 v).trans h.loc⟩
theorem AskB.left {w x:World} {c l:Value} {bf:Bool} {bt:Int} {s:Value} (h:AskB w x c l bf bt s) (v:Value):AskB w (x.setCell ⟨w.heap.size,1,none⟩ v) c v bf bt s:=
 ⟨h.below.setCell (p:=⟨w.heap.size,1,none⟩) (zqJ _) _,h.own.set1 v,⟨(zbB (by omega) 1 v).trans h.res.blk⟩,(zbB (by omega) 1 v).trans h.loc⟩
theorem AskB.make (w:World) (c l:Value) (bf:Bool) (bt:Int) (s:Value):AskB w (((w.alloc (.cells #[c,l] 55)).alloc (.cells #[.slice none 0 0,.slice none 0 0] 55)).alloc (.cells #[.bool bf,.int .i64 bt,s] 98)) c l bf bt s:=by
 have f:(w.alloc (.cells #[c,l] 55)).heap.size=w.heap.size+1:=by simp
 have d:((w.alloc (.cells #[c,l] 55)).alloc (.cells #[.slice none 0 0,.slice none 0 0] 55)).heap.size=w.heap.size+2:=by simp
 refine ⟨(((zqK _ _).alloc (zqJ _) _).alloc (by simp) _).alloc (by rw [d];omega) _,⟨?_⟩,⟨?_⟩,?_⟩
 ·exact (Below.heap_alloc _ _ _ (by omega)).trans ((Below.heap_alloc _ _ _ (by omega)).trans (heap_alloc_new w _))
 ·have h:=heap_alloc_new (w.alloc (.cells #[c,l] 55)) (.cells #[.slice none 0 0,.slice none 0 0] 55)
  rw [f] at h
  exact (Below.heap_alloc _ _ _ (by omega)).trans h
 ·have h:=heap_alloc_new ((w.alloc (.cells #[c,l] 55)).alloc (.cells #[.slice none 0 0,.slice none 0 0] 55)) (.cells #[.bool bf,.int .i64 bt,s] 98)
  rw [d] at h
  exact h
theorem AskB.done {w x:World} {c l:Value} {bf:Bool} {bt:Int} {s:Value} (h:AskB w x c l bf bt s):Hid (Below w.heap.size w ((x.setCell ⟨w.heap.size+1,0,none⟩ c).setCell ⟨w.heap.size+1,1,none⟩ l))∧Hid (Two ((x.setCell ⟨w.heap.size+1,0,none⟩ c).setCell ⟨w.heap.size+1,1,none⟩ l) (w.heap.size+1) c l 55)∧Hid (Only [w.heap.size+1] x ((x.setCell ⟨w.heap.size+1,0,none⟩ c).setCell ⟨w.heap.size+1,1,none⟩ l)):=
 ⟨(h.below.setCell (p:=⟨w.heap.size+1,0,none⟩) (by simp) _).setCell (p:=⟨w.heap.size+1,1,none⟩) (by simp) _,h.res.set c l,zcJ _ _ _⟩
theorem zeC {zf:List UInt8→List AZ} {aq qm:Option Addr} {Q:List CE} {b:AnG AZ} {B:List (AnG AZ)} {cq cb:Nat} (n:List UInt8) (now:Int) (w:World) (h:DocZ w zf aq Q qm (b::B)) (qk:zaO Q) (hq:Q.length≤100) (qD:B.length+1≤cb) (hl:B.length≤1000) (hz:b.l.length≤1000) (h0:0≤now) (h1:now≤576460752303423488):
  Calls Tryz.prog 20 #[.agg #[.slice aq Q.length cq,.slice qm (B.length+1) cb],.string ⟨n.toArray⟩,.int .i64 now] w fun e w'=> ∃(a2:Option Addr) (c2:Nat) (Q2:List CE) (qj:List UInt8→List AZ) (J:Option Addr) (e2:Nat) (wa:Option Addr) (wc:Nat),e= .returned (.tuple #[.agg #[.slice a2 Q2.length c2,.slice J B.length e2],.slice wa (if chk b=0 then b.l else []).length wc,.int .i64 (chk b)])∧RowX 3 clR w' wa (if chk b=0 then b.l else [])∧StpZ n (putA now (b::B)) Q zf Q2 qj∧DocZ w' qj a2 Q2 J B∧B.length≤e2∧Below w.heap.size w w':=by
 have HD:=zqI h
 obtain ⟨ad,qq,b',hb,qx,r0,r1,r2⟩:=h.ans.row.at3G (j:=0) (by simp)
 simp only [List.getElem?_cons_zero,Option.some.injEq] at hb
 subst hb
 subst qq
 rw [Nat.zero_mul] at r0 r1 r2
 have ql:ad.add 0=ad:=rfl
 rw [ql] at r0 r1 r2
 have qb:ad.block<w.heap.size:=World.block_lt_of_cell? w _ r0
 have qF:(B.length:Int)+1≤cb:=by omega
 have qz:=zqI qk
 have qc:Hid (putA now (b::B)=if chk b=0∧0<b.ttl then some (now+min b.ttl 2147483648,b.l) else none):=rfl
 have qp:Hid (∀zs:List AZ,zs=b.l→ ∀z∈zs,z.Ok):=fun zs e=>by rw [e];exact h.ok b (.head _)
 have qe:Hid (RowX 3 clR w b.la b.l):=h.ans.sub b (.head _)
 obtain ⟨J,G⟩: ∃q:Option Addr,q=if cb=1 then some ad else some ⟨ad.block,ad.off+3,none⟩:=⟨_,rfl⟩
 have V:Hid (AnsX 3 clR w J B):=by
  show AnsX 3 clR w J B
  rw [G]
  by_cases qs:cb=1
  ·rw [if_pos qs,List.eq_nil_of_length_eq_zero (show B.length=0 by omega)]
   exact AnsX.nil _ _
  ·rw [if_neg qs]
   exact h.ans.tail
 have Z:Hid (∀x∈B,∀z∈x.l,z.Ok):=fun x hx=>h.ok x (.tail _ hx)
 have o:chk b=if b.fail=true then 14 else if b.l.length=0 then 13 else if 16<b.l.length then 19 else 0:=rfl
 generalize putA now (b::B)=pz at*
 generalize chk b=ck at*
 obtain ⟨bf,bt,ba,bc,H⟩:=b
 dsimp only at r0 r1 r2 hz o qc qp qe ⊢
 have qE:(H.length:Int)≤1000:=by omega
 obtain ⟨y,Y⟩: ∃y,y=((w.alloc (.cells #[.slice aq Q.length cq,.slice (some ad) (B.length+1) cb] 55)).alloc (.cells #[.slice none 0 0,.slice none 0 0] 55)).alloc (.cells #[.bool bf,.int .i64 bt,.slice ba H.length bc] 98):=⟨_,rfl⟩
 have qi:Hid (AskB w y (.slice aq Q.length cq) (.slice (some ad) (B.length+1) cb) bf bt (.slice ba H.length bc)):=by
  show AskB _ _ _ _ _ _ _
  rw [Y]
  exact AskB.make _ _ _ _ _ _
 have k1:=qi.out.own.c1
 have k2:=qi.out.own.fz 1
 obtain ⟨x2,E⟩: ∃x,x=y.setCell ⟨w.heap.size,1,none⟩ (.slice J B.length (cb - 1)):=⟨_,rfl⟩
 have d:Hid (AskB w x2 (.slice aq Q.length cq) (.slice J B.length (cb - 1)) bf bt (.slice ba H.length bc)):=by
  show AskB _ _ _ _ _ _ _
  rw [E]
  exact qi.out.left _
 have c0:=d.out.own.c0
 have c1:=d.out.own.c1
 have z0:=d.out.own.fz 0
 have z1:=d.out.own.fz 1
 have q0:=d.out.res.c0
 have q1:=d.out.res.c1
 have q2:=d.out.res.fz 0
 have q3:=d.out.res.fz 1
 have l0:=zaA d.out.loc 0
 have l1:=zaA d.out.loc 1
 have l2:=zaA d.out.loc 2
 simp at l0 l1 l2
 clear h qk qx ql
 have qd:Hid (ck≠0→pz=none):=fun q=>by rw [qc.out,if_neg (fun r=>q r.1)]
 cases bf with
 |true=>
  rw [if_pos rfl] at o
  subst o
  have N:Hid (pz=none):=qd.out (by decide)
  rw [if_neg (by decide)]
  go_enter Tryz.func20,Tryz.ntmps20
  go_upto_region 4 with fail
  rw [←Y]
  clear Y r0 r1 r2 qb
  go_upto_region 5 with fail
  rw [←G,←E]
  clear E G k1 k2
  go_wp2
  obtain ⟨f,C,S⟩:=d.out.done
  have w0:=C.out.c0
  have w1:=C.out.c1
  refine bodyPost_ret (v:= .tuple #[.agg #[.slice aq Q.length cq,.slice J B.length (cb - 1)],.slice none 0 0,.int .i64 14]) (by simp [results,Tryz.results20,go_sem,w0,w1]) rfl ?_
  exact ⟨aq,cq,Q,zf,J,cb - 1,none,0,rfl,RowX.empty,by rw [N.out];exact ⟨rfl,rfl⟩,⟨HD.out.lst.keep f.out,V.out.keep zaJ f.out,Z.out⟩,by omega,f.out⟩
 |false=>
  rw [if_neg (by decide)] at o
  by_cases g0:H.length=0
  ·rw [if_pos g0] at o
   subst o
   have N:Hid (pz=none):=qd.out (by decide)
   rw [if_neg (by decide)]
   have qw:((H.length:Int)==0)=true:=beq_iff_eq.2 (by omega)
   clear g0
   go_enter Tryz.func20,Tryz.ntmps20
   go_upto_region 4 with fail
   rw [←Y]
   clear Y r0 r1 r2 qb
   go_upto_region 5 with fail
   rw [←G,←E]
   clear E G k1 k2
   go_wp2
   obtain ⟨f,C,S⟩:=d.out.done
   have w0:=C.out.c0
   have w1:=C.out.c1
   refine bodyPost_ret (v:= .tuple #[.agg #[.slice aq Q.length cq,.slice J B.length (cb - 1)],.slice none 0 0,.int .i64 13]) (by simp [results,Tryz.results20,go_sem,w0,w1]) rfl ?_
   exact ⟨aq,cq,Q,zf,J,cb - 1,none,0,rfl,RowX.empty,by rw [N.out];exact ⟨rfl,rfl⟩,⟨HD.out.lst.keep f.out,V.out.keep zaJ f.out,Z.out⟩,by omega,f.out⟩
  rw [if_neg g0] at o
  have qw:((H.length:Int)==0)=false:=beq_eq_false_iff_ne.2 (by omega)
  by_cases g1:16<H.length
  ·rw [if_pos g1] at o
   subst o
   have N:Hid (pz=none):=qd.out (by decide)
   rw [if_neg (by decide)]
   have qy:(16:Int)<H.length:=by omega
   clear g0 g1
   go_enter Tryz.func20,Tryz.ntmps20
   go_upto_region 4 with fail
   rw [←Y]
   clear Y r0 r1 r2 qb
   go_upto_region 5 with fail
   rw [←G,←E]
   clear E G k1 k2
   go_wp2
   obtain ⟨f,C,S⟩:=d.out.done
   have w0:=C.out.c0
   have w1:=C.out.c1
   refine bodyPost_ret (v:= .tuple #[.agg #[.slice aq Q.length cq,.slice J B.length (cb - 1)],.slice none 0 0,.int .i64 19]) (by simp [results,Tryz.results20,go_sem,w0,w1]) rfl ?_
   exact ⟨aq,cq,Q,zf,J,cb - 1,none,0,rfl,RowX.empty,by rw [N.out];exact ⟨rfl,rfl⟩,⟨HD.out.lst.keep f.out,V.out.keep zaJ f.out,Z.out⟩,by omega,f.out⟩
  rw [if_neg g1] at o
  subst o
  rw [if_pos rfl]
  have qy: ¬(16:Int)<H.length:=by omega
  have qB:Hid (H.length≠0):=g0
  clear g0 g1 qd
  by_cases g2:0<bt
  ·have N:Hid (pz=some (now+min bt 2147483648,H)):=by show _=_;rw [qc.out,if_pos ⟨rfl,g2⟩]
   have qa:Hid (LstZ x2 zf aq Q):=HD.out.lst.keep d.out.below
   have qv:=zqI (zfD aq cq Q n (now+min bt 2147483648) ba H.length bc x2 qa.out.row qa.out.slices qz.out hq qB.out)
   go_enter Tryz.func20,Tryz.ntmps20
   go_upto_region 4 with fail
   rw [←Y]
   clear Y r0 r1 r2 qb
   go_upto_region 5 with fail
   rw [←G,←E]
   clear E G k1 k2
   go_upto_region 12 with fail
   go_wp2_with fail
   with_reducible refine qv.out.mono ?_
   rintro e x9 ⟨v9,rfl,qf,qh⟩
   obtain ⟨a9,c9,rfl⟩:=qf.form
   have qA:=zqI (qa.out.put (n:=n) (u:=now+min bt 2147483648) (zs:=H) qh (RowX.keep zaJ qe.out d.out.below) (qp.out H rfl) (qf.row zaT))
   have U:=zqI (d.out.keep qh)
   have I:=zqI (U.out.take (.slice a9 (putE ⟨n,now+min bt 2147483648,.slice ba H.length bc⟩ (zaQ n Q)).length c9))
   generalize qn:putE ⟨n,now+min bt 2147483648,.slice ba H.length bc⟩ (zaQ n Q)=Q2 at*
   have qC:=zqI qn
   have m0:=U.out.own.c0
   have m1:=U.out.own.c1
   have mz:=U.out.own.fz 0
   have qr:Hid (LstZ (x9.setCell ⟨w.heap.size,0,none⟩ (.slice a9 Q2.length c9)) (upd zf n H) a9 Q2):=
    qA.out.off (zbN _ _ _ _ _ _) U.out.own.blk ((Only.refl [w.heap.size] x9).setCell (p:=⟨w.heap.size,0,none⟩) (.inl (.head _)) _)
   obtain ⟨xa,qg⟩: ∃x,x=x9.setCell ⟨w.heap.size,0,none⟩ (.slice a9 Q2.length c9):=⟨_,rfl⟩
   rw [←qg] at I qr
   have c0:=I.out.own.c0
   have c1:=I.out.own.c1
   have q0:=I.out.res.c0
   have q1:=I.out.res.c1
   have q2:=I.out.res.fz 0
   have q3:=I.out.res.fz 1
   have l2:=zaA I.out.loc 2
   simp at l2
   clear qf qh qn
   go_upto_region 13 with fail
   rw [←qg]
   clear qg l0 l1 z0 z1 m0 m1 mz
   go_wp2_with fail
   go_region
   obtain ⟨f,C,S⟩:=I.out.done
   have K:=zaF ((xa.setCell ⟨w.heap.size+1,0,none⟩ (.slice a9 Q2.length c9)).setCell ⟨w.heap.size+1,1,none⟩ (.slice J B.length (cb - 1)))
   have R:=C.out.keep K
   have O:=zqI (f.out.trans (K.mono f.out.size))
   have qo:=zqI (S.out.then_below K)
   have w0:=R.c0
   have w1:=R.c1
   clear K R
   go_wp2
   refine bodyPost_ret (v:= .tuple #[.agg #[.slice a9 Q2.length c9,.slice J B.length (cb - 1)],.slice ba H.length bc,.int .i64 0]) (by simp [results,Tryz.results20,go_sem,w0,w1]) rfl ?_
   exact ⟨a9,c9,Q2,upd zf n H,J,cb - 1,ba,bc,rfl,RowX.keep zaJ qe.out O.out,by rw [N.out];exact ⟨⟨_,qC.out.symm⟩,rfl⟩,⟨qr.out.off (zbN _ _ _ _ _ _) I.out.res.blk qo.out,V.out.keep zaJ O.out,Z.out⟩,by omega,O.out⟩
  ·have N:Hid (pz=none):=by show _=_;rw [qc.out,if_neg (fun q=>g2 q.2)]
   go_enter Tryz.func20,Tryz.ntmps20
   go_upto_region 4 with fail
   rw [←Y]
   clear Y r0 r1 r2 qb
   go_upto_region 5 with fail
   rw [←G,←E]
   clear E G k1 k2
   go_upto_region 13 with fail
   go_wp2_with fail
   go_region
   obtain ⟨f,C,S⟩:=d.out.done
   have K:=zaF ((x2.setCell ⟨w.heap.size+1,0,none⟩ (.slice aq Q.length cq)).setCell ⟨w.heap.size+1,1,none⟩ (.slice J B.length (cb - 1)))
   have R:=C.out.keep K
   have O:=zqI (f.out.trans (K.mono f.out.size))
   have qo:=zqI (S.out.then_below K)
   have w0:=R.c0
   have w1:=R.c1
   clear K R
   go_wp2
   refine bodyPost_ret (v:= .tuple #[.agg #[.slice aq Q.length cq,.slice J B.length (cb - 1)],.slice ba H.length bc,.int .i64 0]) (by simp [results,Tryz.results20,go_sem,w0,w1]) rfl ?_
   exact ⟨aq,cq,Q,zf,J,cb - 1,ba,bc,rfl,RowX.keep zaJ qe.out O.out,by rw [N.out];exact ⟨rfl,rfl⟩,⟨HD.out.lst.keep O.out,V.out.keep zaJ O.out,Z.out⟩,by omega,O.out⟩
theorem zcU {zf:List UInt8→List AZ} {aq f:Option Addr} {Q:List CE} {B:List (AnG AZ)} {cq cb:Nat} (n:List UInt8) (now:Int) (w:World) (h:DocZ w zf aq Q f B) (C:zaO Q) (U:Q.length≤100) (d:B.length≤cb) (K:B.length≤1000) (O: ∀b∈B,b.l.length≤1000) (N:0≤now) (S:now≤576460752303423488):
  Calls Tryz.prog 20 #[.agg #[.slice aq Q.length cq,.slice f B.length cb],.string ⟨n.toArray⟩,.int .i64 now] w fun e w'=> ∃(G:Option Addr) (R:Nat) (p:List CE) (o:List UInt8→List AZ) (J:Option Addr) (I:Nat) (E:Option Addr) (wc:Nat),e= .returned (.tuple #[.agg #[.slice G p.length R,.slice J B.tail.length I],.slice E (ansA B).length wc,.int .i64 (zdO B)])∧RowX 3 clR w' E (ansA B)∧StpZ n (putA now B) Q zf p o∧DocZ w' o G p J B.tail∧B.tail.length≤I∧Below w.heap.size w w':=by
 cases B with
 |nil=>
  refine (zgD n now w).mono ?_
  rintro e w' ⟨rfl,H⟩
  exact ⟨aq,cq,Q,zf,f,cb,none,0,rfl,RowX.empty,⟨rfl,rfl⟩,h.keep H,d,H⟩
 |cons b B=>exact zeC n now w h C U d (by simp at K;omega) (O b (.head _)) N S
theorem zgP {aq:Option Addr} {cq:Nat} {Q:List CE} {zf:List UInt8→List AZ} (n:List UInt8) (now:Int) (w:World) (h:LstZ w zf aq Q) (O:Q.length≤1000) (g:Bool) (C:gotG Q n now=g):
  Calls Tryz.prog 35 #[.slice aq Q.length cq,.string ⟨n.toArray⟩,.int .i64 now] w fun r w'=> ∃E J,r= .returned (.tuple #[.slice E (if g then zf n else []).length J,.bool g])∧RowX 3 clR w E (if g then zf n else [])∧Below w.heap.size w w':=by
 refine (zfN aq cq Q n now w h.row h.slices O).mono ?_
 rintro r w' ⟨⟨v,N,rfl,S,R⟩,I⟩
 cases N with
 |true=>
  obtain ⟨x,H,d,p,rfl⟩:=S rfl
  obtain rfl:g=true:=by rw [←C];exact zhZ H d (of_decide_eq_true p)
  obtain ⟨a,c,f,G⟩:=h.lst x H
  rw [d] at f G
  exact ⟨a,c,by rw [f];rfl,G,I⟩
 |false=>
  obtain ⟨rfl,f⟩:=R rfl
  obtain rfl:g=false:=by rw [←C];exact zgG (fun e K o=>of_decide_eq_false (f e K o))
  exact ⟨none,0,rfl,RowX.empty,I⟩
theorem zcV {zf:List UInt8→List AZ} {aq f:Option Addr} {Q:List CE} {B:List (AnG AZ)} {cq cb:Nat} (n:List UInt8) (now:Int) (w:World) (h:DocZ w zf aq Q f B) (qg:zaO Q) (hq:Q.length≤100) (N:B.length≤cb) (hl:B.length≤1000) (hz: ∀b∈B,b.l.length≤1000) (h0:0≤now) (h1:now≤576460752303423488) (g:Bool) (hg:gotG Q n now=g):
  Calls Tryz.prog 19 #[.agg #[.slice aq Q.length cq,.slice f B.length cb],.string ⟨n.toArray⟩,.int .i64 now] w fun e w'=> ∃(E:Option Addr) (J:Nat) (C:List CE) (S:List UInt8→List AZ) (O:Option Addr) (R:Nat) (wa:Option Addr) (wc:Nat),e= .returned (.tuple #[.agg #[.slice E C.length J,.slice O (if g then B else B.tail).length R],.slice wa (if g then zf n else ansA B).length wc,.bool g,.int .i64 (if g then 0 else zdO B)])∧RowX 3 clR w' wa (if g then zf n else ansA B)∧StpZ n (if g then none else putA now B) Q zf C S∧DocZ w' S E C O (if g then B else B.tail)∧(if g then B else B.tail).length≤R∧Below w.heap.size w w':=by
 obtain ⟨y,hy⟩: ∃y,y=(w.alloc (.cells #[.slice aq Q.length cq,.slice f B.length cb] 55)).alloc (.cells #[.slice none 0 0,.slice none 0 0] 55):=⟨_,rfl⟩
 have hb:Below w.heap.size w y:=by rw [hy];exact ((zqK _ _).alloc (zqJ _) _).alloc (by simp) _
 have V:Hid (Two y w.heap.size (.slice aq Q.length cq) (.slice f B.length cb) 55):=⟨by rw [hy];exact (Below.heap_alloc _ _ _ (by simp)).trans (heap_alloc_new w _)⟩
 have qd:Hid (Two y (w.heap.size+1) (.slice none 0 0) (.slice none 0 0) 55):=⟨by rw [hy];simpa using heap_alloc_new (w.alloc (.cells #[.slice aq Q.length cq,.slice f B.length cb] 55)) (.cells #[.slice none 0 0,.slice none 0 0] 55)⟩
 have HB:=zqI hb
 have HD:=zqI (h.keep hb)
 have HG:=zqI (zgP (cq:=cq) n now y HD.out.lst (by omega) g hg)
 have Z:=zqI (fun W (hW:Below y.heap.size y W)=>zcU (cq:=cq) n now W (HD.out.keep hW) qg hq N hl hz h0 h1)
 have e0:=V.out.c0
 have e1:=V.out.c1
 clear h hb qg hq hl hz hg
 cases g with
 |true=>
  simp only [if_true] at HG ⊢
  go_enter Tryz.func19,Tryz.ntmps19
  go_upto_region 1 with fail
  rw [←hy]
  clear hy
  go_wp2_with fail
  refine HG.out.mono ?_
  rintro e x1 ⟨ra,rc,rfl,qk,d⟩
  have T1:=V.out.keep d
  have o:=qd.out.keep d
  have Y:=zqI (HB.out.trans (d.mono HB.out.size))
  have qq:=zqI (HD.out.keep d)
  have qi:=zqI (RowX.keep zaJ qk d)
  have k0:=T1.c0
  have k1:=T1.c1
  have q0:=o.c0
  have q2:=o.fz 0
  have q3:=(o.set0 (.slice aq Q.length cq)).fz 1
  have q1:=(o.set0 (.slice aq Q.length cq)).c1
  have I:=zqI (o.set (.slice aq Q.length cq) (.slice f B.length cb))
  have qa:Hid (Below w.heap.size w ((x1.setCell ⟨w.heap.size+1,0,none⟩ (.slice aq Q.length cq)).setCell ⟨w.heap.size+1,1,none⟩ (.slice f B.length cb))):=(Y.out.setCell (p:=⟨w.heap.size+1,0,none⟩) (by simp) _).setCell (p:=⟨w.heap.size+1,1,none⟩) (by simp) _
  have K:Hid (Only [w.heap.size+1] x1 ((x1.setCell ⟨w.heap.size+1,0,none⟩ (.slice aq Q.length cq)).setCell ⟨w.heap.size+1,1,none⟩ (.slice f B.length cb))):=zcJ _ _ _
  have G:=zqI o.blk
  clear qk d T1 o HG Z e0 e1
  go_wp2
  have w0:=I.out.c0
  have w1:=I.out.c1
  refine bodyPost_ret (v:= .tuple #[.agg #[.slice aq Q.length cq,.slice f B.length cb],.slice ra (zf n).length rc,.bool true,.int .i64 0]) (by simp [results,Tryz.results19,go_sem,w0,w1]) rfl ?_
  exact ⟨aq,cq,Q,zf,f,cb,ra,rc,rfl,RowX.only zaJ qi.out (RowX.off_box (by decide) zbR (zbN _ _ _ _ _ _) G.out qi.out) K.out,⟨rfl,rfl⟩,qq.out.off (zbN _ _ _ _ _ _) G.out K.out,N,qa.out⟩
 |false=>
  simp only [Bool.false_eq_true,if_false] at HG ⊢
  generalize B.tail=Bt at*
  go_enter Tryz.func19,Tryz.ntmps19
  go_upto_region 1 with fail
  rw [←hy]
  clear hy
  go_wp2_with fail
  refine HG.out.mono ?_
  rintro e x1 ⟨ra,rc,rfl,_,d⟩
  have T1:=V.out.keep d
  have qf:=zqI (qd.out.keep d)
  have Y:=zqI d
  have k0:=T1.c0
  have k1:=T1.c1
  clear d T1 HG e0 e1
  go_wp2_with fail
  refine (Z.out x1 Y.out).mono ?_
  rintro e x2 ⟨E,J,C,S,O,R,wa,wc,rfl,qh,qj,ql,qe,qb⟩
  obtain ⟨x3,U⟩: ∃x,x=x2.alloc (.cells #[.slice E C.length J,.slice O Bt.length R] 55):=⟨_,rfl⟩
  have H:Below x2.heap.size x2 x3:=by rw [U];exact (zqK _ _).alloc (zqJ _) _
  have T3:Two x3 x2.heap.size (.slice E C.length J) (.slice O Bt.length R) 55:=⟨by rw [U];exact heap_alloc_new x2 _⟩
  have o:=(qf.out.keep qb).keep H
  have qp:=zqI (zaE (zaE Y.out qb) H)
  have qo:=zqI (HB.out.trans (qp.out.mono HB.out.size))
  have qn:=zqI (ql.keep H)
  have qc:=zqI (RowX.keep zaJ qh H)
  have qm:=zqI qj
  have qr:=zqI qe
  have j0:=T3.c0
  have j1:=T3.c1
  have q0:=o.c0
  have q2:=o.fz 0
  have q3:=(o.set0 (.slice E C.length J)).fz 1
  have q1:=(o.set0 (.slice E C.length J)).c1
  have I:=zqI (o.set (.slice E C.length J) (.slice O Bt.length R))
  have qa:Hid (Below w.heap.size w ((x3.setCell ⟨w.heap.size+1,0,none⟩ (.slice E C.length J)).setCell ⟨w.heap.size+1,1,none⟩ (.slice O Bt.length R))):=(qo.out.setCell (p:=⟨w.heap.size+1,0,none⟩) (by simp) _).setCell (p:=⟨w.heap.size+1,1,none⟩) (by simp) _
  have K:Hid (Only [w.heap.size+1] x3 ((x3.setCell ⟨w.heap.size+1,0,none⟩ (.slice E C.length J)).setCell ⟨w.heap.size+1,1,none⟩ (.slice O Bt.length R))):=zcJ _ _ _
  have G:=zqI o.blk
  clear qh qj ql qe qb H T3 o Z k0 k1
  go_upto_region 5 with fail
  rw [←U]
  clear U
  go_wp2
  have w0:=I.out.c0
  have w1:=I.out.c1
  refine bodyPost_ret (v:= .tuple #[.agg #[.slice E C.length J,.slice O Bt.length R],.slice wa (ansA B).length wc,.bool false,.int .i64 (zdO B)]) (by simp [results,Tryz.results19,go_sem,w0,w1]) rfl ?_
  exact ⟨E,J,C,S,O,R,wa,wc,rfl,RowX.only zaJ qc.out (RowX.off_box (by decide) zbR (zbN _ _ _ _ _ _) G.out qc.out) K.out,qm.out,qn.out.off (zbN _ _ _ _ _ _) G.out K.out,qr.out,qa.out⟩
end
end Go.Proofs.YtkiehdigpchebaaGreatDoor
