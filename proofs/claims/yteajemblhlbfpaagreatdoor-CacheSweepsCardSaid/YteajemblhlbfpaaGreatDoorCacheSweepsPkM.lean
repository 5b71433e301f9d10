/-
  What the law CacheSweeps leans on, and its walk (13 of 21).
-/
import Derived.Carry
import Derived.Test.YteajemblhlbfpaaGreatDoorCacheSweepsPkA
import Derived.Test.YteajemblhlbfpaaGreatDoorCacheSweepsPkL
import Derived.Test.YteajemblhlbfpaaGreatDoorCacheSweepsPkI
namespace Go.Proofs.YteajemblhlbfpaaGreatDoor
set_option maxRecDepth 100000
set_option maxHeartbeats 16000000
abbrev znE := @Lib.hid
abbrev znF := @Nat.le_refl
abbrev znG := @Go.RowKit.Below.refl
section
open Go.RowKit
def clZ (a:AZ):List Value:=[a.val]
theorem zaP (a:AZ):(clZ a).length=1:=rfl
theorem flatZ (l:List AZ):l.flatMap clZ=l.map AZ.val:=by
 induction l with
 |nil=>rfl
 |cons x l a=>rw [List.flatMap_cons,a];rfl
theorem infoA:(Tryz.prog.info? 48).map (fun i=>(i.zero,i.size,i.bytes))=some (some .nilIface,1,16):=by kernel_rfl
theorem zfD (a:Addr) (n c:Nat): ∀W:World,(binOp .eql 37 (.slice (some a) n c) (.slice none 0 0)).run Tryz.prog W= .ok (.bool false) W:=by
 intro W;kernel_rfl
theorem zeW (n c:Nat): ∀W:World,(binOp .eql 37 (.slice none n c) (.slice none 0 0)).run Tryz.prog W= .ok (.bool true) W:=by
 intro W;kernel_rfl
theorem zeK {P:Program} {t:TypeId} {z:Value} {s b:Nat} (h:(P.info? t).map (fun i=>(i.zero,i.size,i.bytes))=some (some z,s,b)): ∃a,P.info? t=some a∧a.zero=some z∧a.size=s∧a.bytes=b:=by
 cases hi:P.info? t with
 |none=>rw [hi] at h;cases h
 |some i=>
  rw [hi] at h
  simp only [Option.map_some,Option.some.injEq,Prod.mk.injEq] at h
  exact ⟨i,rfl,h.1,h.2.1,h.2.2⟩
theorem zaY (ao:Option Addr) (c:Nat) (a:List AZ) (w:World) (H:RowX 1 clZ w ao a) (S:a.length≤1000000):
  Calls Tryz.prog 25 #[.slice ao a.length c] w fun e w'=> ∃v,e= .returned v∧OwnX 48 1 clZ w' w.heap.size v a∧Below w.heap.size w w':=by
 have q:=znE H
 clear H
 cases ao with
 |none=>
  have Q:a=[]:=by
   cases a with
   |nil=>rfl
   |cons x l=>obtain ⟨A,e,_⟩:=q.out 0 x rfl;cases e
  subst Q
  have O:=zeW 0 c
  go_enter Tryz.func25,Tryz.ntmps25
  go_wp2
  go_ret
  exact ⟨_,rfl,OwnX.nil _ _,znG _ _⟩
 |some A=>
  obtain ⟨J,B,C,D,G⟩:=zeK infoA
  have O:=zfD A a.length c
  go_enter Tryz.func25,Tryz.ntmps25
  have g:Below w.heap.size w (w.alloc (.cells #[] 48)):=(znG _ _).alloc (znF _) _
  have p:(w.alloc (.cells #[] 48)).ownsRow w.heap.size 48 1 (.slice (some ⟨w.heap.size,0,none⟩) 0 0) 0 []:=⟨rfl,.inr ⟨w.heap.size,0,#[],rfl,znF _,Go.Deep.blk_alloc_new _ _,znF _,by decide,rfl,rfl⟩⟩
  have i: ∀(j:Nat) (u:Value),(a.map AZ.val)[j]? =some u→(w.alloc (.cells #[] 48)).cell? (A.add j)=some u:=fun j u z=>by
   rw [List.getElem?_map,Option.map_eq_some_iff] at z
   obtain ⟨x,I,rfl⟩:=z
   obtain ⟨K,e,N⟩:=(RowX.keep zaP q.out g) j x I
   obtain rfl:=Option.some.inj e
   have:=N 0 (by omega)
   rw [Nat.mul_one] at this
   exact this
  have y: ∀u∈a.map AZ.val,u.oneCell'=true:=fun u z=>by
   obtain ⟨x,_,rfl⟩:=List.mem_map.1 z
   cases x<;>rfl
  have E:(a.map AZ.val).length=a.length*1:=by simp
  go_wp2_with (first
   |(at_builtin;refine wpList_append_own _ rfl _ _ 37 rfl w.heap.size 48 J .nilIface 1 16 Tryz.underlying37 B C D G rfl (by decide) (.slice (some ⟨w.heap.size,0,none⟩) 0 0) 0 [] rfl p A a.length c (a.map AZ.val) rfl E i y (by unfold maxLen;omega) (by omega) g.size ?_;intro T R o f _)
   |go_in)
  go_ret
  refine ⟨_,rfl,?_,g.grown f g.size (fun k P=> ?_)⟩
  ·unfold OwnX
   rw [flatZ]
   simpa using o
  ·simp only [Value.ownBlock,Option.some.injEq] at P
   omega
/-! ### a cache -/
theorem zaK:Maps.Keyed Tryz.prog 34:=Maps.string_keyed Tryz.underlying34
theorem zbF {n:List UInt8} (h:n.length≤maxLen):keyOf Tryz.prog 34 (.string ⟨n.toArray⟩)=some (.string n):=WideMaps.keyOf_string_mk Tryz.underlying34 (by rw [ziQ];exact h)
theorem zjT (w:World):(zeroValue 60).run Tryz.prog w= .ok (.agg #[.int .i64 0,.slice none 0 0]) w:=by kernel_rfl
def MapS (x:World) (M:Nat) (L:List CE):Prop:=x.ownsMap Tryz.prog 34 zbD M L.length (DL L)∧zaJ L
structure CacS (x:World) (c M:Nat) (L:List CE):Prop where
 box:x.heap[c]? =some (.cells #[.map (some M)] 57)
 map:MapS x M L
theorem MapS.same {x y:World} {M:Nat} {L:List CE} (h:MapS x M L) (f:y.heap[M]? =x.heap[M]?):MapS y M L:=by
 obtain ⟨⟨g,k,a,r⟩,i⟩:=h
 exact ⟨⟨g,k,f.trans a,r⟩,i⟩
theorem MapS.keep {x y:World} {M:Nat} {L:List CE} (h:MapS x M L) (a:Below x.heap.size x y):MapS y M L:=h.same (a.block M h.1.lt)
theorem CacS.keep {x y:World} {c M:Nat} {L:List CE} (h:CacS x c M L) (a:Below x.heap.size x y):CacS y c M L:=⟨(a.block c (zaH h.box)).trans h.box,h.map.keep a⟩
theorem CacS.ne {x:World} {c M:Nat} {L:List CE} (h:CacS x c M L):c≠M:=fun e=>by
 obtain ⟨⟨f,k,a,_⟩,_⟩:=h.map
 have:=h.box
 rw [e,a] at this
 cases this
theorem zbB {x:World} {M n:Nat} {L:List CE} (h:x.ownsMap Tryz.prog 34 zbD M n (DL L)):x.ownsMap Tryz.prog 34 zbD M L.length (DL L):=by
 have f:=zbV L
 obtain ⟨i,k,g,F,_,a⟩:=h
 refine ⟨i,k,g,F,?_,a⟩
 rw [a] at f
 simp [Maps.size,length_sorted] at f
 omega
theorem MapS.look {x:World} {M:Nat} {L:List CE} (h:MapS x M L) {n:List UInt8} (o:n.length≤maxLen):
  (Instr.lookup 55 (.map (some M)) (.string ⟨n.toArray⟩) true).run Tryz.prog x= .ok (.tuple #[((zaL n L).map CE.val).getD (.agg #[.int .i64 0,.slice none 0 0]),.bool (zaL n L).isSome]) x:=by
 obtain ⟨v,p,a,j⟩:=h.1.look_ok zaK Tryz.underlying55 (zjT x) (zaZ 0 none 0 0) (zbF o)
 rw [zmF] at a
 rw [zkO] at j
 obtain ⟨_,_,_,_,_,f⟩:=zaS j
 have g:v=((zaL n L).map CE.val).getD (.agg #[.int .i64 0,.slice none 0 0]):=by
  simp only [Prod.mk.injEq] at f
  cases i:zaL n L with
  |none=>rw [i] at f;simpa using f.1.symm
  |some e=>rw [i] at f;simpa using f.1.symm
 rw [a,g]
theorem zeA (w:World):
  Calls Tryz.prog 8 #[] w fun e w'=> ∃c M,e= .returned (.pointer (some ⟨c,0,none⟩))∧CacS w' c M []∧w.heap.size≤c∧w.heap.size≤M∧Below w.heap.size w w':=by
 have f:= @run_makeMap Tryz.prog
 have a:=World.ownsMap_made w Tryz.prog 34 zbD
 go_enter Tryz.func8,Tryz.ntmps8
 go_wp2
 go_ret
 refine ⟨w.heap.size+1,w.heap.size,by simp,⟨?_,⟨?_,List.Pairwise.nil⟩⟩,by omega,znF _,((znG _ w).alloc (znF _) _).alloc (by simp) _⟩
 ·have:=heap_alloc_new (w.alloc (.map #[] 0)) (.cells #[.map (some w.heap.size)] 57)
  simpa using this
 ·exact a.alloc _
theorem zdU (c M:Nat) (L:List CE) (w:World) (h:CacS w c M L):
  Calls Tryz.prog 17 #[.pointer (some ⟨c,0,none⟩)] w fun e w'=>e= .returned (.int .i64 L.length)∧w=w':=by
 have f:=zaD h.box 0
 have a:=h.map.1.len Tryz.underlying55 3
 rw [zbV] at a
 simp at f
 go_enter Tryz.func17,Tryz.ntmps17
 go_wp2
 go_ret
 exact ⟨rfl,rfl⟩
theorem zcA (u f:Int) (a:Option Addr) (n c:Nat) (w:World):
  Calls Tryz.prog 24 #[.agg #[.int .i64 u,.slice a n c],.int .i64 f] w fun e w'=>e= .returned (.bool (decide (f<u)))∧Below w.heap.size w w':=by
 have g:Below w.heap.size w (w.alloc (.cells #[.int .i64 u,.slice a n c] 60)):=(znG _ _).alloc (znF _) _
 have i:=znE g
 clear g
 go_enter Tryz.func24,Tryz.ntmps24
 go_wp2
 go_ret
 exact ⟨rfl,i.out⟩
theorem MapS.form {x:World} {M:Nat} {L:List CE} (h:MapS x M L) {n:List UInt8} (j:n.length≤maxLen) {e:CE} (p:zaL n L=some e): ∃a k c,e.sv= .slice a k c:=by
 obtain ⟨v,q,_,f⟩:=h.1.look_ok zaK Tryz.underlying55 (zjT x) (zaZ 0 none 0 0) (zbF j)
 rw [zkO,p] at f
 obtain ⟨u,a,k,c,o,i⟩:=zaS f
 simp only [Option.map_some,Option.getD_some,Prod.mk.injEq,DataW.held.injEq] at i
 have:=i.1.trans o
 unfold CE.val at this
 simp only [Value.agg.injEq] at this
 have g:=congrArg (fun (t:Array Value)=>t.toList) this
 simp at g
 exact ⟨a,k,c,g.2⟩
theorem zlE (c M:Nat) (L:List CE) (n:List UInt8) (g:Int) (w:World) (h:CacS w c M L) (z:n.length≤maxLen) (o: ∀e,zaL n L=some e→ ¬g<e.un):
  Calls Tryz.prog 18 #[.pointer (some ⟨c,0,none⟩),.string ⟨n.toArray⟩,.int .i64 g] w fun e w'=>e= .returned (.tuple #[.slice none 0 0,.bool false])∧Below w.heap.size w w':=by
 have J:=zaD h.box 0
 have q:=h.map.look z
 have B:=znE (fun e=>h.map.form z (e:=e))
 have C:=znE o
 simp at J
 clear h o z
 cases i:zaL n L with
 |none=>
  rw [i] at q
  simp only [Option.map_none,Option.getD_none,Option.isSome_none] at q
  have j:Hid (Below w.heap.size w (w.alloc (.cells #[.int .i64 0,.slice none 0 0] 60))):=(znG _ _).alloc (znF _) _
  clear i B C
  go_enter Tryz.func18,Tryz.ntmps18
  go_wp2
  refine bodyPost_ret (v:= .tuple #[.slice none 0 0,.bool false]) (by simp [results,Tryz.results18,go_sem]) rfl ?_
  exact ⟨rfl,j.out⟩
 |some e=>
  obtain ⟨a,k,A,H⟩:=B.out e i
  have O:decide (g<e.un)=false:=decide_eq_false (C.out e i)
  rw [i] at q
  simp only [Option.map_some,Option.getD_some,Option.isSome_some,CE.val,H] at q
  generalize e.un=u at*
  obtain ⟨y,p⟩: ∃y,y=w.alloc (.cells #[.int .i64 u,.slice a k A] 60):=⟨_,rfl⟩
  have E:Below w.heap.size w y:=by rw [p];exact (znG _ _).alloc (znF _) _
  have f:y.heap[w.heap.size]? =some (.cells #[.int .i64 u,.slice a k A] 60):=by rw [p];exact heap_alloc_new w _
  have j:=znE E
  have I:=zaD f 0
  have N:=zaD f 1
  simp at I N
  have D:=znE (zcA u g a k A y)
  clear i B C E f H
  go_enter Tryz.func18,Tryz.ntmps18
  go_upto_region 4 with fail
  rw [←p]
  clear p
  go_wp2_with fail
  refine D.out.mono ?_
  rintro e x ⟨rfl,G⟩
  have K:=znE (j.out.trans (G.mono j.out.size))
  clear G j D
  go_wp2
  refine bodyPost_ret (v:= .tuple #[.slice none 0 0,.bool false]) (by simp [results,Tryz.results18,go_sem]) rfl ?_
  exact ⟨rfl,K.out⟩
theorem zjZ (c M:Nat) (L:List CE) (n:List UInt8) (f:Int) (w:World) (h:CacS w c M L) (O:n.length≤maxLen) {e:CE} (H:zaL n L=some e) (P:f<e.un) {ao:Option Addr} {g:List AZ} {cp:Nat} (E:e.sv= .slice ao g.length cp) (G:RowX 1 clZ w ao g) (j:g.length≤1000000):
  Calls Tryz.prog 18 #[.pointer (some ⟨c,0,none⟩),.string ⟨n.toArray⟩,.int .i64 f] w fun e w'=> ∃v,e= .returned (.tuple #[v,.bool true])∧OwnX 48 1 clZ w' w.heap.size v g∧Below w.heap.size w w':=by
 have V:=zaD h.box 0
 have I:=h.map.look O
 simp at V
 have U:decide (f<e.un)=true:=decide_eq_true P
 rw [H] at I
 simp only [Option.map_some,Option.getD_some,Option.isSome_some,CE.val,E] at I
 generalize e.un=u at*
 obtain ⟨y,p⟩: ∃y,y=w.alloc (.cells #[.int .i64 u,.slice ao g.length cp] 60):=⟨_,rfl⟩
 have B:Below w.heap.size w y:=by rw [p];exact (znG _ _).alloc (znF _) _
 have a:y.heap[w.heap.size]? =some (.cells #[.int .i64 u,.slice ao g.length cp] 60):=by rw [p];exact heap_alloc_new w _
 have q:=znE B
 have i:=znE a
 have D:=zaD a 0
 have Q:=zaD a 1
 simp at D Q
 have N:=znE (zcA u f ao g.length cp y)
 have o:=znE (fun W (R:Below y.heap.size y W)=>zaY ao cp g W (RowX.keep zaP (RowX.keep zaP G B) R) j)
 clear h H B a E G j P O
 go_enter Tryz.func18,Tryz.ntmps18
 go_upto_region 4 with fail
 rw [←p]
 clear p
 go_wp2_with fail
 refine N.out.mono ?_
 rintro e x ⟨rfl,C⟩
 have A:=znE C
 have J:=zaD ((C.block _ (zaH i.out)).trans i.out) 1
 simp at J
 clear C N D Q i
 go_wp2_with fail
 refine (o.out x A.out).mono ?_
 rintro e z ⟨v,rfl,K,j⟩
 have T:=znE (K.lower (Nat.le_trans q.out.size A.out.size))
 have S:=znE ((q.out.trans (A.out.mono q.out.size)).trans (j.mono (Nat.le_trans q.out.size A.out.size)))
 clear K j o J U
 go_wp2
 refine bodyPost_ret (v:= .tuple #[v,.bool true]) (by simp [results,Tryz.results18,go_sem]) rfl ?_
 exact ⟨v,rfl,T.out,S.out⟩
end
end Go.Proofs.YteajemblhlbfpaaGreatDoor
