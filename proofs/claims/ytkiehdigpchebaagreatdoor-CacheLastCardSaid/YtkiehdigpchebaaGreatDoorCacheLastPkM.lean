/-
  What the law CacheLast leans on, and its walk (13 of 21).
-/
import Derived.Carry
import Derived.Test.YtkiehdigpchebaaGreatDoorCacheLastPkA
import Derived.Test.YtkiehdigpchebaaGreatDoorCacheLastPkL
import Derived.Test.YtkiehdigpchebaaGreatDoorCacheLastPkI
namespace Go.Proofs.YtkiehdigpchebaaGreatDoor
set_option maxRecDepth 100000
set_option maxHeartbeats 16000000
abbrev znG := @Lib.hid
abbrev znH := @Nat.le_refl
abbrev znI := @Go.RowKit.Below.refl
section
open Go.RowKit
def clZ (a:AZ):List Value:=[a.val]
theorem zaS (a:AZ):(clZ a).length=1:=rfl
theorem flatZ (l:List AZ):l.flatMap clZ=l.map AZ.val:=by
 induction l with
 |nil=>rfl
 |cons x l a=>rw [List.flatMap_cons,a];rfl
theorem infoA:(Tryz.prog.info? 38).map (fun i=>(i.zero,i.size,i.bytes))=some (some .nilIface,1,16):=by kernel_rfl
theorem zfE (a:Addr) (n c:Nat): ∀W:World,(binOp .eql 31 (.slice (some a) n c) (.slice none 0 0)).run Tryz.prog W= .ok (.bool false) W:=by
 intro W;kernel_rfl
theorem zeX (n c:Nat): ∀W:World,(binOp .eql 31 (.slice none n c) (.slice none 0 0)).run Tryz.prog W= .ok (.bool true) W:=by
 intro W;kernel_rfl
theorem zeM {P:Program} {t:TypeId} {z:Value} {s b:Nat} (h:(P.info? t).map (fun i=>(i.zero,i.size,i.bytes))=some (some z,s,b)): ∃a,P.info? t=some a∧a.zero=some z∧a.size=s∧a.bytes=b:=by
 cases hi:P.info? t with
 |none=>rw [hi] at h;cases h
 |some i=>
  rw [hi] at h
  simp only [Option.map_some,Option.some.injEq,Prod.mk.injEq] at h
  exact ⟨i,rfl,h.1,h.2.1,h.2.2⟩
theorem zbM (ao:Option Addr) (c:Nat) (a:List AZ) (w:World) (J:RowX 1 clZ w ao a) (U:a.length≤1000000):
  Calls Tryz.prog 29 #[.slice ao a.length c] w fun e w'=> ∃v,e= .returned v∧OwnX 38 1 clZ w' w.heap.size v a∧Below w.heap.size w w':=by
 have q:=znG J
 clear J
 cases ao with
 |none=>
  have R:a=[]:=by
   cases a with
   |nil=>rfl
   |cons x l=>obtain ⟨C,e,_⟩:=q.out 0 x rfl;cases e
  subst R
  have O:=zeX 0 c
  go_enter Tryz.func29,Tryz.ntmps29
  go_wp2
  go_ret
  exact ⟨_,rfl,OwnX.nil _ _,znI _ _⟩
 |some C=>
  obtain ⟨K,E,I,G,D⟩:=zeM infoA
  have O:=zfE C a.length c
  go_enter Tryz.func29,Tryz.ntmps29
  have f:Below w.heap.size w (w.alloc (.cells #[] 38)):=(znI _ _).alloc (znH _) _
  have y:(w.alloc (.cells #[] 38)).ownsRow w.heap.size 38 1 (.slice (some ⟨w.heap.size,0,none⟩) 0 0) 0 []:=⟨rfl,.inr ⟨w.heap.size,0,#[],rfl,znH _,Go.Deep.blk_alloc_new _ _,znH _,by decide,rfl,rfl⟩⟩
  have i: ∀(j:Nat) (u:Value),(a.map AZ.val)[j]? =some u→(w.alloc (.cells #[] 38)).cell? (C.add j)=some u:=fun j u z=>by
   rw [List.getElem?_map,Option.map_eq_some_iff] at z
   obtain ⟨x,P,rfl⟩:=z
   obtain ⟨S,e,N⟩:=(RowX.keep zaS q.out f) j x P
   obtain rfl:=Option.some.inj e
   have:=N 0 (by omega)
   rw [Nat.mul_one] at this
   exact this
  have p: ∀u∈a.map AZ.val,u.oneCell'=true:=fun u z=>by
   obtain ⟨x,_,rfl⟩:=List.mem_map.1 z
   cases x<;>rfl
  have H:(a.map AZ.val).length=a.length*1:=by simp
  go_wp2_with (first
   |(at_builtin;refine wpList_append_own _ rfl _ _ 31 rfl w.heap.size 38 K .nilIface 1 16 Tryz.underlying31 E I G D rfl (by decide) (.slice (some ⟨w.heap.size,0,none⟩) 0 0) 0 [] rfl y C a.length c (a.map AZ.val) rfl H i p (by unfold maxLen;omega) (by omega) f.size ?_;intro V Y o g _)
   |go_in)
  go_ret
  refine ⟨_,rfl,?_,f.grown g f.size (fun k Q=> ?_)⟩
  ·unfold OwnX
   rw [flatZ]
   simpa using o
  ·simp only [Value.ownBlock,Option.some.injEq] at Q
   omega
/-! ### a cache -/
theorem zbS:Maps.Keyed Tryz.prog 34:=Maps.string_keyed Tryz.underlying34
theorem zbR {n:List UInt8} (h:n.length≤maxLen):keyOf Tryz.prog 34 (.string ⟨n.toArray⟩)=some (.string n):=WideMaps.keyOf_string_mk Tryz.underlying34 (by rw [zfC];exact h)
theorem zjJ (w:World):(zeroValue 88).run Tryz.prog w= .ok (.agg #[.int .i64 0,.slice none 0 0]) w:=by kernel_rfl
def MapS (x:World) (M:Nat) (L:List CE):Prop:=x.ownsMap Tryz.prog 34 zdH M L.length (DL L)∧zaV L
structure CacS (x:World) (c M:Nat) (L:List CE):Prop where
 box:x.heap[c]? =some (.cells #[.map (some M)] 83)
 map:MapS x M L
theorem MapS.same {x y:World} {M:Nat} {L:List CE} (h:MapS x M L) (g:y.heap[M]? =x.heap[M]?):MapS y M L:=by
 obtain ⟨⟨f,k,i,r⟩,a⟩:=h
 exact ⟨⟨f,k,g.trans i,r⟩,a⟩
theorem MapS.keep {x y:World} {M:Nat} {L:List CE} (h:MapS x M L) (a:Below x.heap.size x y):MapS y M L:=h.same (a.block M h.1.lt)
theorem CacS.keep {x y:World} {c M:Nat} {L:List CE} (h:CacS x c M L) (a:Below x.heap.size x y):CacS y c M L:=⟨(a.block c (zaH h.box)).trans h.box,h.map.keep a⟩
theorem CacS.ne {x:World} {c M:Nat} {L:List CE} (h:CacS x c M L):c≠M:=fun e=>by
 obtain ⟨⟨f,k,a,_⟩,_⟩:=h.map
 have:=h.box
 rw [e,a] at this
 cases this
theorem zbV {x:World} {M n:Nat} {L:List CE} (h:x.ownsMap Tryz.prog 34 zdH M n (DL L)):x.ownsMap Tryz.prog 34 zdH M L.length (DL L):=by
 have a:=zdC L
 obtain ⟨g,k,i,F,_,f⟩:=h
 refine ⟨g,k,i,F,?_,f⟩
 rw [f] at a
 simp [Maps.size,length_sorted] at a
 omega
theorem MapS.look {x:World} {M:Nat} {L:List CE} (h:MapS x M L) {n:List UInt8} (o:n.length≤maxLen):
  (Instr.lookup 81 (.map (some M)) (.string ⟨n.toArray⟩) true).run Tryz.prog x= .ok (.tuple #[((zaL n L).map CE.val).getD (.agg #[.int .i64 0,.slice none 0 0]),.bool (zaL n L).isSome]) x:=by
 obtain ⟨v,p,a,j⟩:=h.1.look_ok zbS Tryz.underlying81 (zjJ x) (zbN 0 none 0 0) (zbR o)
 rw [DL_has] at a
 rw [zmO] at j
 obtain ⟨_,_,_,_,_,f⟩:=zcR j
 have g:v=((zaL n L).map CE.val).getD (.agg #[.int .i64 0,.slice none 0 0]):=by
  simp only [Prod.mk.injEq] at f
  cases i:zaL n L with
  |none=>rw [i] at f;simpa using f.1.symm
  |some e=>rw [i] at f;simpa using f.1.symm
 rw [a,g]
theorem zhR (w:World):
  Calls Tryz.prog 7 #[] w fun e w'=> ∃c M,e= .returned (.pointer (some ⟨c,0,none⟩))∧CacS w' c M []∧w.heap.size≤c∧w.heap.size≤M∧Below w.heap.size w w':=by
 have f:= @run_makeMap Tryz.prog
 have a:=World.ownsMap_made w Tryz.prog 34 zdH
 go_enter Tryz.func7,Tryz.ntmps7
 go_wp2
 go_ret
 refine ⟨w.heap.size+1,w.heap.size,by simp,⟨?_,⟨?_,List.Pairwise.nil⟩⟩,by omega,znH _,((znI _ w).alloc (znH _) _).alloc (by simp) _⟩
 ·have:=heap_alloc_new (w.alloc (.map #[] 0)) (.cells #[.map (some w.heap.size)] 83)
  simpa using this
 ·exact a.alloc _
theorem zdV (c M:Nat) (L:List CE) (w:World) (h:CacS w c M L):
  Calls Tryz.prog 10 #[.pointer (some ⟨c,0,none⟩)] w fun e w'=>e= .returned (.int .i64 L.length)∧w=w':=by
 have f:=zaE h.box 0
 have a:=h.map.1.len Tryz.underlying81 3
 rw [zdC] at a
 simp at f
 go_enter Tryz.func10,Tryz.ntmps10
 go_wp2
 go_ret
 exact ⟨rfl,rfl⟩
theorem zcZ (u f:Int) (a:Option Addr) (n c:Nat) (w:World):
  Calls Tryz.prog 30 #[.agg #[.int .i64 u,.slice a n c],.int .i64 f] w fun e w'=>e= .returned (.bool (decide (f<u)))∧Below w.heap.size w w':=by
 have g:Below w.heap.size w (w.alloc (.cells #[.int .i64 u,.slice a n c] 88)):=(znI _ _).alloc (znH _) _
 have i:=znG g
 clear g
 go_enter Tryz.func30,Tryz.ntmps30
 go_wp2
 go_ret
 exact ⟨rfl,i.out⟩
theorem MapS.form {x:World} {M:Nat} {L:List CE} (h:MapS x M L) {n:List UInt8} (j:n.length≤maxLen) {e:CE} (p:zaL n L=some e): ∃a k c,e.sv= .slice a k c:=by
 obtain ⟨v,q,_,i⟩:=h.1.look_ok zbS Tryz.underlying81 (zjJ x) (zbN 0 none 0 0) (zbR j)
 rw [zmO,p] at i
 obtain ⟨u,a,k,c,o,g⟩:=zcR i
 simp only [Option.map_some,Option.getD_some,Prod.mk.injEq,DataW.held.injEq] at g
 have:=g.1.trans o
 unfold CE.val at this
 simp only [Value.agg.injEq] at this
 have f:=congrArg (fun (t:Array Value)=>t.toList) this
 simp at f
 exact ⟨a,k,c,f.2⟩
theorem zfX (c M:Nat) (L:List CE) (n:List UInt8) (g:Int) (w:World) (h:CacS w c M L) (C:n.length≤maxLen) (j: ∀e,zaL n L=some e→ ¬g<e.un):
  Calls Tryz.prog 11 #[.pointer (some ⟨c,0,none⟩),.string ⟨n.toArray⟩,.int .i64 g] w fun e w'=>e= .returned (.tuple #[.slice none 0 0,.bool false])∧Below w.heap.size w w':=by
 have K:=zaE h.box 0
 have p:=h.map.look C
 have D:=znG (fun e=>h.map.form C (e:=e))
 have z:=znG j
 simp at K
 clear h j C
 cases i:zaL n L with
 |none=>
  rw [i] at p
  simp only [Option.map_none,Option.getD_none,Option.isSome_none] at p
  have o:Hid (Below w.heap.size w (w.alloc (.cells #[.int .i64 0,.slice none 0 0] 88))):=(znI _ _).alloc (znH _) _
  clear i D z
  go_enter Tryz.func11,Tryz.ntmps11
  go_wp2
  refine bodyPost_ret (v:= .tuple #[.slice none 0 0,.bool false]) (by simp [results,Tryz.results11,go_sem]) rfl ?_
  exact ⟨rfl,o.out⟩
 |some e=>
  obtain ⟨a,k,E,H⟩:=D.out e i
  have Q:decide (g<e.un)=false:=decide_eq_false (z.out e i)
  rw [i] at p
  simp only [Option.map_some,Option.getD_some,Option.isSome_some,CE.val,H] at p
  generalize e.un=u at*
  obtain ⟨y,q⟩: ∃y,y=w.alloc (.cells #[.int .i64 u,.slice a k E] 88):=⟨_,rfl⟩
  have I:Below w.heap.size w y:=by rw [q];exact (znI _ _).alloc (znH _) _
  have f:y.heap[w.heap.size]? =some (.cells #[.int .i64 u,.slice a k E] 88):=by rw [q];exact heap_alloc_new w _
  have o:=znG I
  have P:=zaE f 0
  have N:=zaE f 1
  simp at P N
  have J:=znG (zcZ u g a k E y)
  clear i D z I f H
  go_enter Tryz.func11,Tryz.ntmps11
  go_upto_region 4 with fail
  rw [←q]
  clear q
  go_wp2_with fail
  refine J.out.mono ?_
  rintro e x ⟨rfl,G⟩
  have O:=znG (o.out.trans (G.mono o.out.size))
  clear G o J
  go_wp2
  refine bodyPost_ret (v:= .tuple #[.slice none 0 0,.bool false]) (by simp [results,Tryz.results11,go_sem]) rfl ?_
  exact ⟨rfl,O.out⟩
theorem zkT (c M:Nat) (L:List CE) (n:List UInt8) (f:Int) (w:World) (h:CacS w c M L) (N:n.length≤maxLen) {e:CE} (G:zaL n L=some e) (J:f<e.un) {ao:Option Addr} {g:List AZ} {cp:Nat} (O:e.sv= .slice ao g.length cp) (I:RowX 1 clZ w ao g) (j:g.length≤1000000):
  Calls Tryz.prog 11 #[.pointer (some ⟨c,0,none⟩),.string ⟨n.toArray⟩,.int .i64 f] w fun e w'=> ∃v,e= .returned (.tuple #[v,.bool true])∧OwnX 38 1 clZ w' w.heap.size v g∧Below w.heap.size w w':=by
 have V:=zaE h.box 0
 have K:=h.map.look N
 simp at V
 have Z:decide (f<e.un)=true:=decide_eq_true J
 rw [G] at K
 simp only [Option.map_some,Option.getD_some,Option.isSome_some,CE.val,O] at K
 generalize e.un=u at*
 obtain ⟨y,C⟩: ∃y,y=w.alloc (.cells #[.int .i64 u,.slice ao g.length cp] 88):=⟨_,rfl⟩
 have E:Below w.heap.size w y:=by rw [C];exact (znI _ _).alloc (znH _) _
 have a:y.heap[w.heap.size]? =some (.cells #[.int .i64 u,.slice ao g.length cp] 88):=by rw [C];exact heap_alloc_new w _
 have p:=znG E
 have i:=znG a
 have S:=zaE a 0
 have P:=zaE a 1
 simp at S P
 have R:=znG (zcZ u f ao g.length cp y)
 have o:=znG (fun W (U:Below y.heap.size y W)=>zbM ao cp g W (RowX.keep zaS (RowX.keep zaS I E) U) j)
 clear h G E a O I j J N
 go_enter Tryz.func11,Tryz.ntmps11
 go_upto_region 4 with fail
 rw [←C]
 clear C
 go_wp2_with fail
 refine R.out.mono ?_
 rintro e x ⟨rfl,D⟩
 have q:=znG D
 have Q:=zaE ((D.block _ (zaH i.out)).trans i.out) 1
 simp at Q
 clear D R S P i
 go_wp2_with fail
 refine (o.out x q.out).mono ?_
 rintro e z ⟨v,rfl,H,j⟩
 have Y:=znG (H.lower (Nat.le_trans p.out.size q.out.size))
 have HZ:=znG ((p.out.trans (q.out.mono p.out.size)).trans (j.mono (Nat.le_trans p.out.size q.out.size)))
 clear H j o Q Z
 go_wp2
 refine bodyPost_ret (v:= .tuple #[v,.bool true]) (by simp [results,Tryz.results11,go_sem]) rfl ?_
 exact ⟨v,rfl,Y.out,HZ.out⟩
end
end Go.Proofs.YtkiehdigpchebaaGreatDoor
