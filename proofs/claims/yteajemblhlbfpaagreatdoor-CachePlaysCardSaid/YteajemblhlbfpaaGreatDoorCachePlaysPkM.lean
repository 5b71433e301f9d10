/-
  What the law CachePlays leans on, and its walk (13 of 21).
-/
import Derived.Carry
import Derived.Test.YteajemblhlbfpaaGreatDoorCachePlaysPkA
import Derived.Test.YteajemblhlbfpaaGreatDoorCachePlaysPkL
import Derived.Test.YteajemblhlbfpaaGreatDoorCachePlaysPkI
namespace Go.Proofs.YteajemblhlbfpaaGreatDoor
set_option maxRecDepth 100000
set_option maxHeartbeats 16000000
abbrev zoQ := @Lib.hid
abbrev zoR := @Nat.le_refl
abbrev zoS := @Go.RowKit.Below.refl
section
open Go.RowKit
def clZ (a:AZ):List Value:=[a.val]
theorem zaQ (a:AZ):(clZ a).length=1:=rfl
theorem flatZ (l:List AZ):l.flatMap clZ=l.map AZ.val:=by
 induction l with
 |nil=>rfl
 |cons x l f=>rw [List.flatMap_cons,f];rfl
theorem infoA:(Tryz.prog.info? 48).map (fun i=>(i.zero,i.size,i.bytes))=some (some .nilIface,1,16):=by kernel_rfl
theorem zgD (f:Addr) (n c:Nat): ∀W:World,(binOp .eql 37 (.slice (some f) n c) (.slice none 0 0)).run Tryz.prog W= .ok (.bool false) W:=by
 intro W;kernel_rfl
theorem zgC (n c:Nat): ∀W:World,(binOp .eql 37 (.slice none n c) (.slice none 0 0)).run Tryz.prog W= .ok (.bool true) W:=by
 intro W;kernel_rfl
theorem zbF {P:Program} {t:TypeId} {z:Value} {s b:Nat} (h:(P.info? t).map (fun i=>(i.zero,i.size,i.bytes))=some (some z,s,b)): ∃f,P.info? t=some f∧f.zero=some z∧f.size=s∧f.bytes=b:=by
 cases hi:P.info? t with
 |none=>rw [hi] at h;cases h
 |some i=>
  rw [hi] at h
  simp only [Option.map_some,Option.some.injEq,Prod.mk.injEq] at h
  exact ⟨i,rfl,h.1,h.2.1,h.2.2⟩
theorem zbB (ao:Option Addr) (c:Nat) (f:List AZ) (w:World) (K:RowX 1 clZ w ao f) (V:f.length≤1000000):
  Calls Tryz.prog 25 #[.slice ao f.length c] w fun e w'=> ∃v,e= .returned v∧OwnX 48 1 clZ w' w.heap.size v f∧Below w.heap.size w w':=by
 have y:=zoQ K
 clear K
 cases ao with
 |none=>
  have S:f=[]:=by
   cases f with
   |nil=>rfl
   |cons x l=>obtain ⟨C,e,_⟩:=y.out 0 x rfl;cases e
  subst S
  have R:=zgC 0 c
  go_enter Tryz.func25,Tryz.ntmps25
  go_wp2
  go_ret
  exact ⟨_,rfl,OwnX.nil _ _,zoS _ _⟩
 |some C=>
  obtain ⟨O,H,G,J,I⟩:=zbF infoA
  have R:=zgD C f.length c
  go_enter Tryz.func25,Tryz.ntmps25
  have g:Below w.heap.size w (w.alloc (.cells #[] 48)):=(zoS _ _).alloc (zoR _) _
  have A:(w.alloc (.cells #[] 48)).ownsRow w.heap.size 48 1 (.slice (some ⟨w.heap.size,0,none⟩) 0 0) 0 []:=⟨rfl,.inr ⟨w.heap.size,0,#[],rfl,zoR _,Go.Deep.blk_alloc_new _ _,zoR _,by decide,rfl,rfl⟩⟩
  have p: ∀(j:Nat) (u:Value),(f.map AZ.val)[j]? =some u→(w.alloc (.cells #[] 48)).cell? (C.add j)=some u:=fun j u D=>by
   rw [List.getElem?_map,Option.map_eq_some_iff] at D
   obtain ⟨x,N,rfl⟩:=D
   obtain ⟨T,e,U⟩:=(RowX.keep zaQ y.out g) j x N
   obtain rfl:=Option.some.inj e
   have:=U 0 (by omega)
   rw [Nat.mul_one] at this
   exact this
  have B: ∀u∈f.map AZ.val,u.oneCell'=true:=fun u D=>by
   obtain ⟨x,_,rfl⟩:=List.mem_map.1 D
   cases x<;>rfl
  have E:(f.map AZ.val).length=f.length*1:=by simp
  go_wp2_with (first
   |(at_builtin;refine wpList_append_own _ rfl _ _ 37 rfl w.heap.size 48 O .nilIface 1 16 Tryz.underlying37 H G J I rfl (by decide) (.slice (some ⟨w.heap.size,0,none⟩) 0 0) 0 [] rfl A C f.length c (f.map AZ.val) rfl E p B (by unfold maxLen;omega) (by omega) g.size ?_;intro Z Y o i _)
   |go_in)
  go_ret
  refine ⟨_,rfl,?_,g.grown i g.size (fun k P=> ?_)⟩
  ·unfold OwnX
   rw [flatZ]
   simpa using o
  ·simp only [Value.ownBlock,Option.some.injEq] at P
   omega
/-! ### a cache -/
theorem zaO:Maps.Keyed Tryz.prog 34:=Maps.string_keyed Tryz.underlying34
theorem zbM {n:List UInt8} (h:n.length≤maxLen):keyOf Tryz.prog 34 (.string ⟨n.toArray⟩)=some (.string n):=WideMaps.keyOf_string_mk Tryz.underlying34 (by rw [zlW];exact h)
theorem zlC (w:World):(zeroValue 60).run Tryz.prog w= .ok (.agg #[.int .i64 0,.slice none 0 0]) w:=by kernel_rfl
def MapS (x:World) (M:Nat) (L:List CE):Prop:=x.ownsMap Tryz.prog 34 zbL M L.length (DL L)∧zaM L
structure CacS (x:World) (c M:Nat) (L:List CE):Prop where
 box:x.heap[c]? =some (.cells #[.map (some M)] 57)
 map:MapS x M L
theorem MapS.same {x y:World} {M:Nat} {L:List CE} (h:MapS x M L) (f:y.heap[M]? =x.heap[M]?):MapS y M L:=by
 obtain ⟨⟨j,k,g,r⟩,i⟩:=h
 exact ⟨⟨j,k,f.trans g,r⟩,i⟩
theorem MapS.keep {x y:World} {M:Nat} {L:List CE} (h:MapS x M L) (f:Below x.heap.size x y):MapS y M L:=h.same (f.block M h.1.lt)
theorem CacS.keep {x y:World} {c M:Nat} {L:List CE} (h:CacS x c M L) (f:Below x.heap.size x y):CacS y c M L:=⟨(f.block c (zaH h.box)).trans h.box,h.map.keep f⟩
theorem CacS.ne {x:World} {c M:Nat} {L:List CE} (h:CacS x c M L):c≠M:=fun e=>by
 obtain ⟨⟨g,k,f,_⟩,_⟩:=h.map
 have:=h.box
 rw [e,f] at this
 cases this
theorem zbJ {x:World} {M n:Nat} {L:List CE} (h:x.ownsMap Tryz.prog 34 zbL M n (DL L)):x.ownsMap Tryz.prog 34 zbL M L.length (DL L):=by
 have g:=zcM L
 obtain ⟨j,k,i,F,_,f⟩:=h
 refine ⟨j,k,i,F,?_,f⟩
 rw [f] at g
 simp [Maps.size,length_sorted] at g
 omega
theorem MapS.look {x:World} {M:Nat} {L:List CE} (h:MapS x M L) {n:List UInt8} (p:n.length≤maxLen):
  (Instr.lookup 55 (.map (some M)) (.string ⟨n.toArray⟩) true).run Tryz.prog x= .ok (.tuple #[((zaJ n L).map CE.val).getD (.agg #[.int .i64 0,.slice none 0 0]),.bool (zaJ n L).isSome]) x:=by
 obtain ⟨v,y,f,o⟩:=h.1.look_ok zaO Tryz.underlying55 (zlC x) (zbI 0 none 0 0) (zbM p)
 rw [znJ] at f
 rw [zkK] at o
 obtain ⟨_,_,_,_,_,g⟩:=zaX o
 have i:v=((zaJ n L).map CE.val).getD (.agg #[.int .i64 0,.slice none 0 0]):=by
  simp only [Prod.mk.injEq] at g
  cases j:zaJ n L with
  |none=>rw [j] at g;simpa using g.1.symm
  |some e=>rw [j] at g;simpa using g.1.symm
 rw [f,i]
theorem zeG (w:World):
  Calls Tryz.prog 8 #[] w fun e w'=> ∃c M,e= .returned (.pointer (some ⟨c,0,none⟩))∧CacS w' c M []∧w.heap.size≤c∧w.heap.size≤M∧Below w.heap.size w w':=by
 have g:= @run_makeMap Tryz.prog
 have f:=World.ownsMap_made w Tryz.prog 34 zbL
 go_enter Tryz.func8,Tryz.ntmps8
 go_wp2
 go_ret
 refine ⟨w.heap.size+1,w.heap.size,by simp,⟨?_,⟨?_,List.Pairwise.nil⟩⟩,by omega,zoR _,((zoS _ w).alloc (zoR _) _).alloc (by simp) _⟩
 ·have:=heap_alloc_new (w.alloc (.map #[] 0)) (.cells #[.map (some w.heap.size)] 57)
  simpa using this
 ·exact f.alloc _
theorem zjJ (c M:Nat) (L:List CE) (w:World) (h:CacS w c M L):
  Calls Tryz.prog 17 #[.pointer (some ⟨c,0,none⟩)] w fun e w'=>e= .returned (.int .i64 L.length)∧w=w':=by
 have f:=zaD h.box 0
 have g:=h.map.1.len Tryz.underlying55 3
 rw [zcM] at g
 simp at f
 go_enter Tryz.func17,Tryz.ntmps17
 go_wp2
 go_ret
 exact ⟨rfl,rfl⟩
theorem zcR (u f:Int) (a:Option Addr) (n c:Nat) (w:World):
  Calls Tryz.prog 24 #[.agg #[.int .i64 u,.slice a n c],.int .i64 f] w fun e w'=>e= .returned (.bool (decide (f<u)))∧Below w.heap.size w w':=by
 have g:Below w.heap.size w (w.alloc (.cells #[.int .i64 u,.slice a n c] 60)):=(zoS _ _).alloc (zoR _) _
 have i:=zoQ g
 clear g
 go_enter Tryz.func24,Tryz.ntmps24
 go_wp2
 go_ret
 exact ⟨rfl,i.out⟩
theorem MapS.form {x:World} {M:Nat} {L:List CE} (h:MapS x M L) {n:List UInt8} (p:n.length≤maxLen) {e:CE} (j:zaJ n L=some e): ∃a k c,e.sv= .slice a k c:=by
 obtain ⟨v,y,_,i⟩:=h.1.look_ok zaO Tryz.underlying55 (zlC x) (zbI 0 none 0 0) (zbM p)
 rw [zkK,j] at i
 obtain ⟨u,a,k,c,o,f⟩:=zaX i
 simp only [Option.map_some,Option.getD_some,Prod.mk.injEq,DataW.held.injEq] at f
 have:=f.1.trans o
 unfold CE.val at this
 simp only [Value.agg.injEq] at this
 have g:=congrArg (fun (t:Array Value)=>t.toList) this
 simp at g
 exact ⟨a,k,c,g.2⟩
theorem znD (c M:Nat) (L:List CE) (n:List UInt8) (g:Int) (w:World) (h:CacS w c M L) (C:n.length≤maxLen) (o: ∀e,zaJ n L=some e→ ¬g<e.un):
  Calls Tryz.prog 18 #[.pointer (some ⟨c,0,none⟩),.string ⟨n.toArray⟩,.int .i64 g] w fun e w'=>e= .returned (.tuple #[.slice none 0 0,.bool false])∧Below w.heap.size w w':=by
 have P:=zaD h.box 0
 have p:=h.map.look C
 have E:=zoQ (fun e=>h.map.form C (e:=e))
 have B:=zoQ o
 simp at P
 clear h o C
 cases i:zaJ n L with
 |none=>
  rw [i] at p
  simp only [Option.map_none,Option.getD_none,Option.isSome_none] at p
  have j:Hid (Below w.heap.size w (w.alloc (.cells #[.int .i64 0,.slice none 0 0] 60))):=(zoS _ _).alloc (zoR _) _
  clear i E B
  go_enter Tryz.func18,Tryz.ntmps18
  go_wp2
  refine bodyPost_ret (v:= .tuple #[.slice none 0 0,.bool false]) (by simp [results,Tryz.results18,go_sem]) rfl ?_
  exact ⟨rfl,j.out⟩
 |some e=>
  obtain ⟨a,k,D,J⟩:=E.out e i
  have R:decide (g<e.un)=false:=decide_eq_false (B.out e i)
  rw [i] at p
  simp only [Option.map_some,Option.getD_some,Option.isSome_some,CE.val,J] at p
  generalize e.un=u at*
  obtain ⟨y,A⟩: ∃y,y=w.alloc (.cells #[.int .i64 u,.slice a k D] 60):=⟨_,rfl⟩
  have G:Below w.heap.size w y:=by rw [A];exact (zoS _ _).alloc (zoR _) _
  have f:y.heap[w.heap.size]? =some (.cells #[.int .i64 u,.slice a k D] 60):=by rw [A];exact heap_alloc_new w _
  have j:=zoQ G
  have K:=zaD f 0
  have N:=zaD f 1
  simp at K N
  have H:=zoQ (zcR u g a k D y)
  clear i E B G f J
  go_enter Tryz.func18,Tryz.ntmps18
  go_upto_region 4 with fail
  rw [←A]
  clear A
  go_wp2_with fail
  refine H.out.mono ?_
  rintro e x ⟨rfl,I⟩
  have O:=zoQ (j.out.trans (I.mono j.out.size))
  clear I j H
  go_wp2
  refine bodyPost_ret (v:= .tuple #[.slice none 0 0,.bool false]) (by simp [results,Tryz.results18,go_sem]) rfl ?_
  exact ⟨rfl,O.out⟩
theorem ziO (c M:Nat) (L:List CE) (n:List UInt8) (g:Int) (w:World) (h:CacS w c M L) (T:n.length≤maxLen) {e:CE} (N:zaJ n L=some e) (R:g<e.un) {ao:Option Addr} {i:List AZ} {cp:Nat} (I:e.sv= .slice ao i.length cp) (S:RowX 1 clZ w ao i) (p:i.length≤1000000):
  Calls Tryz.prog 18 #[.pointer (some ⟨c,0,none⟩),.string ⟨n.toArray⟩,.int .i64 g] w fun e w'=> ∃v,e= .returned (.tuple #[v,.bool true])∧OwnX 48 1 clZ w' w.heap.size v i∧Below w.heap.size w w':=by
 have U:=zaD h.box 0
 have J:=h.map.look T
 simp at U
 have V:decide (g<e.un)=true:=decide_eq_true R
 rw [N] at J
 simp only [Option.map_some,Option.getD_some,Option.isSome_some,CE.val,I] at J
 generalize e.un=u at*
 obtain ⟨y,C⟩: ∃y,y=w.alloc (.cells #[.int .i64 u,.slice ao i.length cp] 60):=⟨_,rfl⟩
 have D:Below w.heap.size w y:=by rw [C];exact (zoS _ _).alloc (zoR _) _
 have f:y.heap[w.heap.size]? =some (.cells #[.int .i64 u,.slice ao i.length cp] 60):=by rw [C];exact heap_alloc_new w _
 have B:=zoQ D
 have j:=zoQ f
 have G:=zaD f 0
 have P:=zaD f 1
 simp at G P
 have H:=zoQ (zcR u g ao i.length cp y)
 have o:=zoQ (fun W (hW:Below y.heap.size y W)=>zbB ao cp i W (RowX.keep zaQ (RowX.keep zaQ S D) hW) p)
 clear h N D f I S p R T
 go_enter Tryz.func18,Tryz.ntmps18
 go_upto_region 4 with fail
 rw [←C]
 clear C
 go_wp2_with fail
 refine H.out.mono ?_
 rintro e x ⟨rfl,E⟩
 have A:=zoQ E
 have K:=zaD ((E.block _ (zaH j.out)).trans j.out) 1
 simp at K
 clear E H G P j
 go_wp2_with fail
 refine (o.out x A.out).mono ?_
 rintro e z ⟨v,rfl,O,p⟩
 have Z:=zoQ (O.lower (Nat.le_trans B.out.size A.out.size))
 have Y:=zoQ ((B.out.trans (A.out.mono B.out.size)).trans (p.mono (Nat.le_trans B.out.size A.out.size)))
 clear O p o K V
 go_wp2
 refine bodyPost_ret (v:= .tuple #[v,.bool true]) (by simp [results,Tryz.results18,go_sem]) rfl ?_
 exact ⟨v,rfl,Z.out,Y.out⟩
end
end Go.Proofs.YteajemblhlbfpaaGreatDoor
