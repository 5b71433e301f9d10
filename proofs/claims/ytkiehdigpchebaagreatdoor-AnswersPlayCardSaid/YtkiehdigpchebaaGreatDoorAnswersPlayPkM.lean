/-
  What the law AnswersPlay leans on, and its walk (13 of 22).
-/
import Derived.Carry
import Derived.Test.YtkiehdigpchebaaGreatDoorAnswersPlayPkA
import Derived.Test.YtkiehdigpchebaaGreatDoorAnswersPlayPkL
import Derived.Test.YtkiehdigpchebaaGreatDoorAnswersPlayPkI
namespace Go.Proofs.YtkiehdigpchebaaGreatDoor
set_option maxRecDepth 100000
set_option maxHeartbeats 16000000
abbrev zqD := @Lib.hid
abbrev zqE := @Nat.le_refl
abbrev zqF := @Go.RowKit.Below.refl
section
open Go.RowKit
def clZ (a:AZ):List Value:=[a.val]
theorem zaI (a:AZ):(clZ a).length=1:=rfl
theorem flatZ (l:List AZ):l.flatMap clZ=l.map AZ.val:=by
 induction l with
 |nil=>rfl
 |cons x l d=>rw [List.flatMap_cons,d];rfl
theorem infoA:(Tryz.prog.info? 38).map (fun i=>(i.zero,i.size,i.bytes))=some (some .nilIface,1,16):=by kernel_rfl
theorem zgO (ad:Addr) (n c:Nat): ∀W:World,(binOp .eql 31 (.slice (some ad) n c) (.slice none 0 0)).run Tryz.prog W= .ok (.bool false) W:=by
 intro W;kernel_rfl
theorem zgX (n c:Nat): ∀W:World,(binOp .eql 31 (.slice none n c) (.slice none 0 0)).run Tryz.prog W= .ok (.bool true) W:=by
 intro W;kernel_rfl
theorem zaW {P:Program} {t:TypeId} {z:Value} {s b:Nat} (h:(P.info? t).map (fun i=>(i.zero,i.size,i.bytes))=some (some z,s,b)): ∃d,P.info? t=some d∧d.zero=some z∧d.size=s∧d.bytes=b:=by
 cases hi:P.info? t with
 |none=>rw [hi] at h;cases h
 |some i=>
  rw [hi] at h
  simp only [Option.map_some,Option.some.injEq,Prod.mk.injEq] at h
  exact ⟨i,rfl,h.1,h.2.1,h.2.2⟩
theorem zaZ (ao:Option Addr) (c:Nat) (zs:List AZ) (w:World) (O:RowX 1 clZ w ao zs) (hl:zs.length≤1000000):
  Calls Tryz.prog 29 #[.slice ao zs.length c] w fun e w'=> ∃v,e= .returned v∧OwnX 38 1 clZ w' w.heap.size v zs∧Below w.heap.size w w':=by
 have y:=zqD O
 clear O
 cases ao with
 |none=>
  have Y:zs=[]:=by
   cases zs with
   |nil=>rfl
   |cons x l=>obtain ⟨ad,e,_⟩:=y.out 0 x rfl;cases e
  subst Y
  have Z:=zgX 0 c
  go_enter Tryz.func29,Tryz.ntmps29
  go_wp2
  go_ret
  exact ⟨_,rfl,OwnX.nil _ _,zqF _ _⟩
 |some ad=>
  obtain ⟨i0,I,N,H,K⟩:=zaW infoA
  have Z:=zgO ad zs.length c
  go_enter Tryz.func29,Tryz.ntmps29
  have f:Below w.heap.size w (w.alloc (.cells #[] 38)):=(zqF _ _).alloc (zqE _) _
  have C:(w.alloc (.cells #[] 38)).ownsRow w.heap.size 38 1 (.slice (some ⟨w.heap.size,0,none⟩) 0 0) 0 []:=⟨rfl,.inr ⟨w.heap.size,0,#[],rfl,zqE _,Go.Deep.blk_alloc_new _ _,zqE _,by decide,rfl,rfl⟩⟩
  have o: ∀(j:Nat) (u:Value),(zs.map AZ.val)[j]? =some u→(w.alloc (.cells #[] 38)).cell? (ad.add j)=some u:=fun j u G=>by
   rw [List.getElem?_map,Option.map_eq_some_iff] at G
   obtain ⟨x,U,rfl⟩:=G
   obtain ⟨R,e,S⟩:=(RowX.keep zaI y.out f) j x U
   obtain rfl:=Option.some.inj e
   have:=S 0 (by omega)
   rw [Nat.mul_one] at this
   exact this
  have E: ∀u∈zs.map AZ.val,u.oneCell'=true:=fun u G=>by
   obtain ⟨x,_,rfl⟩:=List.mem_map.1 G
   cases x<;>rfl
  have J:(zs.map AZ.val).length=zs.length*1:=by simp
  go_wp2_with (first
   |(at_builtin;refine wpList_append_own _ rfl _ _ 31 rfl w.heap.size 38 i0 .nilIface 1 16 Tryz.underlying31 I N H K rfl (by decide) (.slice (some ⟨w.heap.size,0,none⟩) 0 0) 0 [] rfl C ad zs.length c (zs.map AZ.val) rfl J o E (by unfold maxLen;omega) (by omega) f.size ?_;intro s1 w1 p d _)
   |go_in)
  go_ret
  refine ⟨_,rfl,?_,f.grown d f.size (fun k V=> ?_)⟩
  ·unfold OwnX
   rw [flatZ]
   simpa using p
  ·simp only [Value.ownBlock,Option.some.injEq] at V
   omega
/-! ### a cache -/
theorem zbG:Maps.Keyed Tryz.prog 34:=Maps.string_keyed Tryz.underlying34
theorem zbP {n:List UInt8} (h:n.length≤maxLen):keyOf Tryz.prog 34 (.string ⟨n.toArray⟩)=some (.string n):=WideMaps.keyOf_string_mk Tryz.underlying34 (by rw [zkZ];exact h)
theorem zkH (w:World):(zeroValue 88).run Tryz.prog w= .ok (.agg #[.int .i64 0,.slice none 0 0]) w:=by kernel_rfl
def MapS (x:World) (M:Nat) (L:List CE):Prop:=x.ownsMap Tryz.prog 34 zcT M L.length (DL L)∧zaO L
structure CacS (x:World) (c M:Nat) (L:List CE):Prop where
 box:x.heap[c]? =some (.cells #[.map (some M)] 83)
 map:MapS x M L
theorem MapS.same {x y:World} {M:Nat} {L:List CE} (h:MapS x M L) (o:y.heap[M]? =x.heap[M]?):MapS y M L:=by
 obtain ⟨⟨d,k,p,r⟩,f⟩:=h
 exact ⟨⟨d,k,o.trans p,r⟩,f⟩
theorem MapS.keep {x y:World} {M:Nat} {L:List CE} (h:MapS x M L) (d:Below x.heap.size x y):MapS y M L:=h.same (d.block M h.1.lt)
theorem CacS.keep {x y:World} {c M:Nat} {L:List CE} (h:CacS x c M L) (d:Below x.heap.size x y):CacS y c M L:=⟨(d.block c (zaG h.box)).trans h.box,h.map.keep d⟩
theorem CacS.ne {x:World} {c M:Nat} {L:List CE} (h:CacS x c M L):c≠M:=fun e=>by
 obtain ⟨⟨f,k,d,_⟩,_⟩:=h.map
 have:=h.box
 rw [e,d] at this
 cases this
theorem zcP {x:World} {M n:Nat} {L:List CE} (h:x.ownsMap Tryz.prog 34 zcT M n (DL L)):x.ownsMap Tryz.prog 34 zcT M L.length (DL L):=by
 have d:=zeB L
 obtain ⟨o,k,p,F,_,f⟩:=h
 refine ⟨o,k,p,F,?_,f⟩
 rw [f] at d
 simp [Maps.size,length_sorted] at d
 omega
theorem MapS.look {x:World} {M:Nat} {L:List CE} (h:MapS x M L) {n:List UInt8} (C:n.length≤maxLen):
  (Instr.lookup 81 (.map (some M)) (.string ⟨n.toArray⟩) true).run Tryz.prog x= .ok (.tuple #[((zaL n L).map CE.val).getD (.agg #[.int .i64 0,.slice none 0 0]),.bool (zaL n L).isSome]) x:=by
 obtain ⟨v,E,d,p⟩:=h.1.look_ok zbG Tryz.underlying81 (zkH x) (zbJ 0 none 0 0) (zbP C)
 rw [zpA] at d
 rw [zkC] at p
 obtain ⟨_,_,_,_,_,f⟩:=zbQ p
 have o:v=((zaL n L).map CE.val).getD (.agg #[.int .i64 0,.slice none 0 0]):=by
  simp only [Prod.mk.injEq] at f
  cases y:zaL n L with
  |none=>rw [y] at f;simpa using f.1.symm
  |some e=>rw [y] at f;simpa using f.1.symm
 rw [d,o]
theorem zgE (w:World):
  Calls Tryz.prog 7 #[] w fun e w'=> ∃c M,e= .returned (.pointer (some ⟨c,0,none⟩))∧CacS w' c M []∧w.heap.size≤c∧w.heap.size≤M∧Below w.heap.size w w':=by
 have f:= @run_makeMap Tryz.prog
 have d:=World.ownsMap_made w Tryz.prog 34 zcT
 go_enter Tryz.func7,Tryz.ntmps7
 go_wp2
 go_ret
 refine ⟨w.heap.size+1,w.heap.size,by simp,⟨?_,⟨?_,List.Pairwise.nil⟩⟩,by omega,zqE _,((zqF _ w).alloc (zqE _) _).alloc (by simp) _⟩
 ·have:=heap_alloc_new (w.alloc (.map #[] 0)) (.cells #[.map (some w.heap.size)] 83)
  simpa using this
 ·exact d.alloc _
theorem zkB (c M:Nat) (L:List CE) (w:World) (h:CacS w c M L):
  Calls Tryz.prog 10 #[.pointer (some ⟨c,0,none⟩)] w fun e w'=>e= .returned (.int .i64 L.length)∧w=w':=by
 have f:=zaA h.box 0
 have d:=h.map.1.len Tryz.underlying81 3
 rw [zeB] at d
 simp at f
 go_enter Tryz.func10,Tryz.ntmps10
 go_wp2
 go_ret
 exact ⟨rfl,rfl⟩
theorem zdQ (u now:Int) (a:Option Addr) (n c:Nat) (w:World):
  Calls Tryz.prog 30 #[.agg #[.int .i64 u,.slice a n c],.int .i64 now] w fun e w'=>e= .returned (.bool (decide (now<u)))∧Below w.heap.size w w':=by
 have d:Below w.heap.size w (w.alloc (.cells #[.int .i64 u,.slice a n c] 88)):=(zqF _ _).alloc (zqE _) _
 have f:=zqD d
 clear d
 go_enter Tryz.func30,Tryz.ntmps30
 go_wp2
 go_ret
 exact ⟨rfl,f.out⟩
theorem MapS.form {x:World} {M:Nat} {L:List CE} (h:MapS x M L) {n:List UInt8} (p:n.length≤maxLen) {e:CE} (C:zaL n L=some e): ∃a k c,e.sv= .slice a k c:=by
 obtain ⟨v,E,_,d⟩:=h.1.look_ok zbG Tryz.underlying81 (zkH x) (zbJ 0 none 0 0) (zbP p)
 rw [zkC,C] at d
 obtain ⟨u,a,k,c,y,f⟩:=zbQ d
 simp only [Option.map_some,Option.getD_some,Prod.mk.injEq,DataW.held.injEq] at f
 have:=f.1.trans y
 unfold CE.val at this
 simp only [Value.agg.injEq] at this
 have o:=congrArg (fun (t:Array Value)=>t.toList) this
 simp at o
 exact ⟨a,k,c,o.2⟩
theorem zhH (c M:Nat) (L:List CE) (n:List UInt8) (now:Int) (w:World) (h:CacS w c M L) (G:n.length≤maxLen) (p: ∀e,zaL n L=some e→ ¬now<e.un):
  Calls Tryz.prog 11 #[.pointer (some ⟨c,0,none⟩),.string ⟨n.toArray⟩,.int .i64 now] w fun e w'=>e= .returned (.tuple #[.slice none 0 0,.bool false])∧Below w.heap.size w w':=by
 have V:=zaA h.box 0
 have E:=h.map.look G
 have J:=zqD (fun e=>h.map.form G (e:=e))
 have H:=zqD p
 simp at V
 clear h p G
 cases f:zaL n L with
 |none=>
  rw [f] at E
  simp only [Option.map_none,Option.getD_none,Option.isSome_none] at E
  have o:Hid (Below w.heap.size w (w.alloc (.cells #[.int .i64 0,.slice none 0 0] 88))):=(zqF _ _).alloc (zqE _) _
  clear f J H
  go_enter Tryz.func11,Tryz.ntmps11
  go_wp2
  refine bodyPost_ret (v:= .tuple #[.slice none 0 0,.bool false]) (by simp [results,Tryz.results11,go_sem]) rfl ?_
  exact ⟨rfl,o.out⟩
 |some e=>
  obtain ⟨a,k,I,K⟩:=J.out e f
  have Z:decide (now<e.un)=false:=decide_eq_false (H.out e f)
  rw [f] at E
  simp only [Option.map_some,Option.getD_some,Option.isSome_some,CE.val,K] at E
  generalize e.un=u at*
  obtain ⟨y,C⟩: ∃y,y=w.alloc (.cells #[.int .i64 u,.slice a k I] 88):=⟨_,rfl⟩
  have R:Below w.heap.size w y:=by rw [C];exact (zqF _ _).alloc (zqE _) _
  have d:y.heap[w.heap.size]? =some (.cells #[.int .i64 u,.slice a k I] 88):=by rw [C];exact heap_alloc_new w _
  have o:=zqD R
  have S:=zaA d 0
  have U:=zaA d 1
  simp at S U
  have N:=zqD (zdQ u now a k I y)
  clear f J H R d K
  go_enter Tryz.func11,Tryz.ntmps11
  go_upto_region 4 with fail
  rw [←C]
  clear C
  go_wp2_with fail
  refine N.out.mono ?_
  rintro e x ⟨rfl,O⟩
  have Y:=zqD (o.out.trans (O.mono o.out.size))
  clear O o N
  go_wp2
  refine bodyPost_ret (v:= .tuple #[.slice none 0 0,.bool false]) (by simp [results,Tryz.results11,go_sem]) rfl ?_
  exact ⟨rfl,Y.out⟩
theorem zjX (c M:Nat) (L:List CE) (n:List UInt8) (now:Int) (w:World) (h:CacS w c M L) (S:n.length≤maxLen) {e:CE} (hf:zaL n L=some e) (N:now<e.un) {ao:Option Addr} {zs:List AZ} {cp:Nat} (K:e.sv= .slice ao zs.length cp) (Y:RowX 1 clZ w ao zs) (o:zs.length≤1000000):
  Calls Tryz.prog 11 #[.pointer (some ⟨c,0,none⟩),.string ⟨n.toArray⟩,.int .i64 now] w fun e w'=> ∃v,e= .returned (.tuple #[v,.bool true])∧OwnX 38 1 clZ w' w.heap.size v zs∧Below w.heap.size w w':=by
 have hc:=zaA h.box 0
 have O:=h.map.look S
 simp at hc
 have hd:decide (now<e.un)=true:=decide_eq_true N
 rw [hf] at O
 simp only [Option.map_some,Option.getD_some,Option.isSome_some,CE.val,K] at O
 generalize e.un=u at*
 obtain ⟨y,C⟩: ∃y,y=w.alloc (.cells #[.int .i64 u,.slice ao zs.length cp] 88):=⟨_,rfl⟩
 have H:Below w.heap.size w y:=by rw [C];exact (zqF _ _).alloc (zqE _) _
 have d:y.heap[w.heap.size]? =some (.cells #[.int .i64 u,.slice ao zs.length cp] 88):=by rw [C];exact heap_alloc_new w _
 have G:=zqD H
 have f:=zqD d
 have J:=zaA d 0
 have U:=zaA d 1
 simp at J U
 have Z:=zqD (zdQ u now ao zs.length cp y)
 have p:=zqD (fun W (hW:Below y.heap.size y W)=>zaZ ao cp zs W (RowX.keep zaI (RowX.keep zaI Y H) hW) o)
 clear h hf H d K Y o N S
 go_enter Tryz.func11,Tryz.ntmps11
 go_upto_region 4 with fail
 rw [←C]
 clear C
 go_wp2_with fail
 refine Z.out.mono ?_
 rintro e x ⟨rfl,I⟩
 have E:=zqD I
 have V:=zaA ((I.block _ (zaG f.out)).trans f.out) 1
 simp at V
 clear I Z J U f
 go_wp2_with fail
 refine (p.out x E.out).mono ?_
 rintro e z ⟨v,rfl,R,o⟩
 have HO:=zqD (R.lower (Nat.le_trans G.out.size E.out.size))
 have HZ:=zqD ((G.out.trans (E.out.mono G.out.size)).trans (o.mono (Nat.le_trans G.out.size E.out.size)))
 clear R o p V hd
 go_wp2
 refine bodyPost_ret (v:= .tuple #[v,.bool true]) (by simp [results,Tryz.results11,go_sem]) rfl ?_
 exact ⟨v,rfl,HO.out,HZ.out⟩
end
end Go.Proofs.YtkiehdigpchebaaGreatDoor
