/-
  What the law AgreeNever leans on, and its walk (8 of 42).
-/
import Derived.Test.YtegmcmgndllmaaaGreatDoorAgreeNeverPkE
import Derived.Test.YtegmcmgndllmaaaGreatDoorAgreeNeverPkG
import Derived.Test.YtegmcmgndllmaaaGreatDoorAgreeNeverPkF
namespace Go.Proofs.YtegmcmgndllmaaaGreatDoor
set_option maxRecDepth 100000
set_option maxHeartbeats 16000000
abbrev ykP := @Lib.hid
abbrev ykQ := @Nat.le_refl
abbrev ykR := @Go.RowKit.Below.refl
section
open Go.RowKit
theorem ygM {A n:Nat} (h:A<2^128):ofW A n<2^128:=Nat.lt_of_le_of_lt (ofW_le A n) h
theorem row3 {W:World} {b:Nat} {x y z:Value} {t:TypeId} (h:W.heap[b]? =some (.cells #[x,y,z] t)):
  (W.cell? ⟨b,0,none⟩=some x∧W.cell? ⟨b,1,none⟩=some y∧W.cell? ⟨b,2,none⟩=some z)∧W.frozen? ⟨b,0,none⟩=false∧W.frozen? ⟨b,1,none⟩=false∧W.frozen? ⟨b,2,none⟩=false:=
 ⟨⟨zaB h 0,zaB h 1,zaB h 2⟩,zaF h 0,zaF h 1,zaF h 2⟩
theorem z9U: ∀{a:List UInt8} (d:List UInt8),(47:UInt8)∉a→Lib.index (a++47::d) [47]=a.length
 |[],d,_=>by
  show Lib.index (47::d) [47]=_
  unfold Lib.index;simp [List.isPrefixOf]
 |c::a,d,h=>by
  have o: ¬c=47:=fun e=>h (e▸List.mem_cons_self ..)
  have m:=z9U (a:=a) d (fun g=>h (List.mem_cons_of_mem _ g))
  show Lib.index (c::(a++47::d)) [47]=_
  unfold Lib.index
  rw [m]
  have i:(([47]:List UInt8).isPrefixOf (c::(a++47::d)))=false:=by
   have f: ¬(47:UInt8)=c:=fun e=>o e.symm
   simp [List.isPrefixOf,f]
  have j:((a.length:Int)== -1)=false:=by rw [beq_eq_false_iff_ne];omega
  rw [i,j]
  simp
theorem zbG {a:List UInt8} (d:List UInt8) (h:(47:UInt8)∉a):Lib.cut (a++47::d) [47]=(a,d,true):=by
 unfold Lib.cut;rw [z9U d h,if_pos (by omega)]
 simp
def AZ.ahead:AZ→Int
 | .four _=>96
 | .six _ _=>0
def zcE (a d:List UInt8):Option (Nat×Nat):=
 match zbF a with
 |none=>none
 |some z=>if (decZ d (128 - z.ahead)).2=true∧zaN z.wd (z.ahead+(decZ d (128 - z.ahead)).1)=true then some (z.wd,(z.ahead+(decZ d (128 - z.ahead)).1).toNat) else none
def zaV (l:List UInt8):Option (Nat×Nat):=zcE (Lib.cut l [47]).1 (Lib.cut l [47]).2.1
def optP:Option (Nat×Nat)→Value
 |none=>pfW 0 0
 |some (W,k)=>pfW W k
def RetPf (w:World) (x:Option (Nat×Nat)) (e:Ending) (w':World):Prop:=e= .returned (.tuple #[optP x,.bool x.isSome])∧Below w.heap.size w w'
theorem yiQ (l s:List UInt8):(Lib.cut l s).1.length≤l.length∧(Lib.cut l s).2.1.length≤l.length:=by
 unfold Lib.cut
 split
 ·exact ⟨by rw [List.length_take];exact Nat.min_le_right _ _,by rw [List.length_drop];exact Nat.sub_le _ _⟩
 ·exact ⟨ykQ _,Nat.zero_le _⟩
theorem zeQ {s:ByteArray} {N:Nat} {f i:List UInt8} {m:Bool} (j:s.size≤N) (h:Lib.cut s.data.toList [47]=(f,i,m)):f.length≤N∧i.length≤N:=by
 have d:=yiQ s.data.toList [47]
 rw [h] at d
 have e:s.data.toList.length=s.size:=Array.length_toList
 exact ⟨Nat.le_trans d.1 (e▸j),Nat.le_trans d.2 (e▸j)⟩
theorem zcT (l:List UInt8):(ByteArray.mk l.toArray).size=l.length:=by simp [ByteArray.size]
theorem zcU (l:List UInt8):(ByteArray.mk l.toArray).data.toList=l:=by simp
theorem zcJ {x y z:World} {n:Nat} (h:Below (n+1) x y) (k:Below y.heap.size y z) (d:n+1≤x.heap.size:=by simp):Below (n+1) x z:=h.trans (k.mono (Nat.le_trans d h.size))
theorem zvH (s:ByteArray) (C Z:List UInt8) (Q:Bool) (HZ:Hid (zbF C=none)) (w:World) (Y:s.size≤1073741824) (d:MaxVar w) (hcut:Lib.cut s.data.toList [47]=(C,Z,Q)):
  Calls Tryz.prog 289 #[.string s] w fun e w'=>e= .returned (.tuple #[.agg #[.int .u64 0,.int .u64 0,.int .i64 0],.bool false])∧Below w.heap.size w w':=by
 obtain ⟨E,qa⟩:=zeQ Y hcut
 have A:=ykP hcut
 have O:=ykP d
 obtain ⟨o,I⟩: ∃o,o=Obj.cells #[.int .u64 0,.int .u64 0,.int .i64 0] 183:=⟨_,rfl⟩
 have J:Hid (∀W,Below (w.heap.size+1) (w.alloc o) W→(W.cell? ⟨w.heap.size,0,none⟩=some (.int .u64 0)∧W.cell? ⟨w.heap.size,1,none⟩=some (.int .u64 0)∧W.cell? ⟨w.heap.size,2,none⟩=some (.int .i64 0))∧W.frozen? ⟨w.heap.size,0,none⟩=false∧W.frozen? ⟨w.heap.size,1,none⟩=false∧W.frozen? ⟨w.heap.size,2,none⟩=false):=fun W h=>by
  have hb:W.heap[w.heap.size]? =some (.cells #[.int .u64 0,.int .u64 0,.int .i64 0] 183):=by
   rw [h.block _ (Nat.lt_succ_self _),I];exact Go.Deep.blk_alloc_new _ _
  exact row3 hb
 have B:Below (w.heap.size+1) (w.alloc o) (w.alloc o):=ykR _ _
 obtain ⟨m,M⟩:=zaA O.out ((ykR _ _).alloc (ykQ _) o)
 have K:=ykP M
 clear M d hcut
 rw [I] at K J B
 clear I o
 go_enter Tryz.func289,Tryz.ntmps289
 go_wp2_with fail
 refine (Tryz.strings_Cut s ⟨#[47]⟩ m _ (by omega) K.out).mono ?_
 rw [show (ByteArray.mk #[47]).data.toList=[47] from rfl,A.out]
 rintro e X ⟨rfl,N,rfl⟩
 have i:=B.trans (zcX (x:=w.alloc (.cells #[.int .u64 0,.int .u64 0,.int .i64 0] 183)) (k:=N))
 generalize (w.alloc (.cells #[.int .u64 0,.int .u64 0,.int .i64 0] 183)).drewN N=X at*
 go_wp2_with fail
 refine (zcI ⟨C.toArray⟩ _ (by rw [zcT];exact E) (zaA O.out (zbC i))).mono ?_
 rw [zcU,HZ.out]
 rintro e x2 ⟨rfl,f⟩
 have j:=zcJ i f
 clear i f
 obtain ⟨⟨D,G,H⟩,U,V,S⟩:=J.out _ j
 go_wp2
 refine bodyPost_ret (v:= .tuple #[.agg #[.int .u64 0,.int .u64 0,.int .i64 0],.bool false]) (by simp [results,Tryz.results289,go_sem,D,G,H]) rfl ⟨rfl,?_⟩
 exact (((zbC j).setCell (ykQ _) _).setCell (ykQ _) _).setCell (ykQ _) _
theorem znC (s:ByteArray) (E J:List UInt8) (X:Bool) (n:Int) (x:Int) (HZ:Hid (zbF E=some (.four n))) (HD:Hid (decZ J 32=(x,false))) (w:World) (hs:s.size≤1073741824) (f:MaxVar w) (hcut:Lib.cut s.data.toList [47]=(E,J,X)):
  Calls Tryz.prog 289 #[.string s] w fun e w'=>e= .returned (.tuple #[.agg #[.int .u64 0,.int .u64 0,.int .i64 0],.bool false])∧Below w.heap.size w w':=by
 obtain ⟨H,M⟩:=zeQ hs hcut
 have B:=ykP hcut
 have V:=ykP f
 obtain ⟨o,N⟩: ∃o,o=Obj.cells #[.int .u64 0,.int .u64 0,.int .i64 0] 183:=⟨_,rfl⟩
 have O:Hid (∀W,Below (w.heap.size+1) (w.alloc o) W→(W.cell? ⟨w.heap.size,0,none⟩=some (.int .u64 0)∧W.cell? ⟨w.heap.size,1,none⟩=some (.int .u64 0)∧W.cell? ⟨w.heap.size,2,none⟩=some (.int .i64 0))∧W.frozen? ⟨w.heap.size,0,none⟩=false∧W.frozen? ⟨w.heap.size,1,none⟩=false∧W.frozen? ⟨w.heap.size,2,none⟩=false):=fun W h=>by
  have hb:W.heap[w.heap.size]? =some (.cells #[.int .u64 0,.int .u64 0,.int .i64 0] 183):=by
   rw [h.block _ (Nat.lt_succ_self _),N];exact Go.Deep.blk_alloc_new _ _
  exact row3 hb
 have C:Below (w.heap.size+1) (w.alloc o) (w.alloc o):=ykR _ _
 obtain ⟨m,S⟩:=zaA V.out ((ykR _ _).alloc (ykQ _) o)
 have Q:=ykP S
 clear S f hcut
 rw [N] at Q O C
 clear N o
 go_enter Tryz.func289,Tryz.ntmps289
 go_wp2_with fail
 refine (Tryz.strings_Cut s ⟨#[47]⟩ m _ (by omega) Q.out).mono ?_
 rw [show (ByteArray.mk #[47]).data.toList=[47] from rfl,B.out]
 rintro e x1 ⟨rfl,U,rfl⟩
 have j:=C.trans (zcX (x:=w.alloc (.cells #[.int .u64 0,.int .u64 0,.int .i64 0] 183)) (k:=U))
 generalize (w.alloc (.cells #[.int .u64 0,.int .u64 0,.int .i64 0] 183)).drewN U=x1 at*
 go_wp2_with fail
 refine (zcI ⟨E.toArray⟩ _ (by rw [zcT];exact H) (zaA V.out (zbC j))).mono ?_
 rw [zcU,HZ.out]
 rintro e x2 ⟨rfl,i⟩
 have A:=zcJ j i
 clear j i
 simp only [optV,AZ.val,Option.isSome]
 go_wp2_with fail
 refine (zkW n _).mono ?_
 rintro e x3 ⟨rfl,rfl⟩
 go_wp2_with fail
 refine (zcQ ⟨J.toArray⟩ 32 _ (by rw [zcT];exact M) (by omega) (by omega)).mono ?_
 rw [zcU,HD.out]
 rintro e x4 ⟨rfl,d⟩
 have D:=zcJ A d
 clear A d
 obtain ⟨⟨G,I,K⟩,Z,qa,Y⟩:=O.out _ D
 go_wp2
 refine bodyPost_ret (v:= .tuple #[.agg #[.int .u64 0,.int .u64 0,.int .i64 0],.bool false]) (by simp [results,Tryz.results289,go_sem,G,I,K]) rfl ⟨rfl,?_⟩
 exact (((zbC D).setCell (ykQ _) _).setCell (ykQ _) _).setCell (ykQ _) _
theorem zkU (s:ByteArray) (K S:List UInt8) (fb:Bool) (n:Int) (C:(AZ.four n).Ok) (hi lo:Nat) (x:Int) (X:(0:Int)=hi) (e2:281470681743360+n=(lo:Int)) (b1:hi<18446744073709551616) (b2:lo<18446744073709551616) (bx:0≤x∧x≤32) (HZ:Hid (zbF K=some (.four n))) (HD:Hid (decZ S 32=(x,true))) (hr:zaN (zaL hi lo) (96+x)=false) (w:World) (hs:s.size≤1073741824) (i:MaxVar w) (hcut:Lib.cut s.data.toList [47]=(K,S,fb)):
  Calls Tryz.prog 289 #[.string s] w fun e w'=>e= .returned (.tuple #[.agg #[.int .u64 0,.int .u64 0,.int .i64 0],.bool false])∧Below w.heap.size w w':=by
 obtain ⟨O,V⟩:=zeQ hs hcut
 have qe: ∀w:World,(method 463 168 (.int .u32 n) "Wide").run Tryz.prog w= .ok (392,(.int .u32 n)) w:=fun _=>by kernel_rfl
 have M:Hid (∀W,Calls Tryz.prog 186 #[.agg #[.int .u64 (0),.int .u64 (281470681743360+n),.int .i64 (96+x)]] W fun e w'=>e= .returned (.bool false)∧Below W.heap.size W w'):=fun W=>by
  have:=zbM hi lo (96+x) W b1 b2;rw [hr,←X,←e2] at this;exact this
 clear hr X e2
 have E:=ykP hcut
 have HX:=ykP i
 obtain ⟨o,C⟩: ∃o,o=Obj.cells #[.int .u64 0,.int .u64 0,.int .i64 0] 183:=⟨_,rfl⟩
 have Z:Hid (∀W,Below (w.heap.size+1) (w.alloc o) W→(W.cell? ⟨w.heap.size,0,none⟩=some (.int .u64 0)∧W.cell? ⟨w.heap.size,1,none⟩=some (.int .u64 0)∧W.cell? ⟨w.heap.size,2,none⟩=some (.int .i64 0))∧W.frozen? ⟨w.heap.size,0,none⟩=false∧W.frozen? ⟨w.heap.size,1,none⟩=false∧W.frozen? ⟨w.heap.size,2,none⟩=false):=fun W h=>by
  have hb:W.heap[w.heap.size]? =some (.cells #[.int .u64 0,.int .u64 0,.int .i64 0] 183):=by
   rw [h.block _ (Nat.lt_succ_self _),C];exact Go.Deep.blk_alloc_new _ _
  exact row3 hb
 have H:Below (w.heap.size+1) (w.alloc o) (w.alloc o):=ykR _ _
 obtain ⟨m,hm⟩:=zaA HX.out ((ykR _ _).alloc (ykQ _) o)
 have HM:=ykP hm
 clear hm i hcut
 rw [C] at HM Z H
 clear C o
 go_enter Tryz.func289,Tryz.ntmps289
 go_wp2_with fail
 refine (Tryz.strings_Cut s ⟨#[47]⟩ m _ (by omega) HM.out).mono ?_
 rw [show (ByteArray.mk #[47]).data.toList=[47] from rfl,E.out]
 rintro e x1 ⟨rfl,k1,rfl⟩
 have A:=H.trans (zcX (x:=w.alloc (.cells #[.int .u64 0,.int .u64 0,.int .i64 0] 183)) (k:=k1))
 generalize (w.alloc (.cells #[.int .u64 0,.int .u64 0,.int .i64 0] 183)).drewN k1=x1 at*
 go_wp2_with fail
 refine (zcI ⟨K.toArray⟩ _ (by rw [zcT];exact O) (zaA HX.out (zbC A))).mono ?_
 rw [zcU,HZ.out]
 rintro e x2 ⟨rfl,j⟩
 have D:=zcJ A j
 clear A j
 simp only [optV,AZ.val,Option.isSome]
 go_wp2_with fail
 refine (zkW n _).mono ?_
 rintro e x3 ⟨rfl,rfl⟩
 go_wp2_with fail
 refine (zcQ ⟨S.toArray⟩ 32 _ (by rw [zcT];exact V) (by omega) (by omega)).mono ?_
 rw [zcU,HD.out]
 rintro e Y ⟨rfl,f⟩
 have J:=zcJ D f
 clear D f
 go_wp2_with fail
 refine (zxF n _ C.1 C.2).mono ?_
 rintro e x5 ⟨rfl,rfl⟩
 have B:=J
 clear J
 have qa:w.heap.size<Y.heap.size:=by have:=B.size;simp at this;omega
 have G:=B.alloc (by omega) (Obj.cells #[.int .u64 (0),.int .u64 (281470681743360+n),.int .i64 (96+x)] 183)
 go_wp2_with fail
 refine (M.out _).mono ?_
 rintro e x7 ⟨rfl,d⟩
 obtain ⟨d0,d1,d2⟩:=zkE Y _ _ _ _ x7 (d.mono (by simp))
 have I:=zcJ G d
 clear G d B
 obtain ⟨⟨N,Q,U⟩,qc,qd,qb⟩:=Z.out _ I
 go_wp2
 refine bodyPost_ret (v:= .tuple #[.agg #[.int .u64 0,.int .u64 0,.int .i64 0],.bool false]) (by simp [results,Tryz.results289,go_sem,N,Q,U]) rfl ⟨rfl,?_⟩
 exact (((zbC I).setCell (ykQ _) _).setCell (ykQ _) _).setCell (ykQ _) _
theorem zlJ (s:ByteArray) (K S:List UInt8) (fb:Bool) (n:Int) (C:(AZ.four n).Ok) (hi lo:Nat) (x:Int) (X:(0:Int)=hi) (e2:281470681743360+n=(lo:Int)) (b1:hi<18446744073709551616) (b2:lo<18446744073709551616) (bx:0≤x∧x≤32) (HZ:Hid (zbF K=some (.four n))) (HD:Hid (decZ S 32=(x,true))) (hr:zaN (zaL hi lo) (96+x)=true) (w:World) (hs:s.size≤1073741824) (i:MaxVar w) (hcut:Lib.cut s.data.toList [47]=(K,S,fb)):
  Calls Tryz.prog 289 #[.string s] w fun e w'=>e= .returned (.tuple #[.agg #[.int .u64 (0),.int .u64 (281470681743360+n),.int .i64 (96+x)],.bool true])∧Below w.heap.size w w':=by
 obtain ⟨O,V⟩:=zeQ hs hcut
 have qe: ∀w:World,(method 463 168 (.int .u32 n) "Wide").run Tryz.prog w= .ok (392,(.int .u32 n)) w:=fun _=>by kernel_rfl
 have M:Hid (∀W,Calls Tryz.prog 186 #[.agg #[.int .u64 (0),.int .u64 (281470681743360+n),.int .i64 (96+x)]] W fun e w'=>e= .returned (.bool true)∧Below W.heap.size W w'):=fun W=>by
  have:=zbM hi lo (96+x) W b1 b2;rw [hr,←X,←e2] at this;exact this
 clear hr X e2
 have E:=ykP hcut
 have HX:=ykP i
 obtain ⟨o,C⟩: ∃o,o=Obj.cells #[.int .u64 0,.int .u64 0,.int .i64 0] 183:=⟨_,rfl⟩
 have Z:Hid (∀W,Below (w.heap.size+1) (w.alloc o) W→(W.cell? ⟨w.heap.size,0,none⟩=some (.int .u64 0)∧W.cell? ⟨w.heap.size,1,none⟩=some (.int .u64 0)∧W.cell? ⟨w.heap.size,2,none⟩=some (.int .i64 0))∧W.frozen? ⟨w.heap.size,0,none⟩=false∧W.frozen? ⟨w.heap.size,1,none⟩=false∧W.frozen? ⟨w.heap.size,2,none⟩=false):=fun W h=>by
  have hb:W.heap[w.heap.size]? =some (.cells #[.int .u64 0,.int .u64 0,.int .i64 0] 183):=by
   rw [h.block _ (Nat.lt_succ_self _),C];exact Go.Deep.blk_alloc_new _ _
  exact row3 hb
 have H:Below (w.heap.size+1) (w.alloc o) (w.alloc o):=ykR _ _
 obtain ⟨m,hm⟩:=zaA HX.out ((ykR _ _).alloc (ykQ _) o)
 have HM:=ykP hm
 clear hm i hcut
 rw [C] at HM Z H
 clear C o
 go_enter Tryz.func289,Tryz.ntmps289
 go_wp2_with fail
 refine (Tryz.strings_Cut s ⟨#[47]⟩ m _ (by omega) HM.out).mono ?_
 rw [show (ByteArray.mk #[47]).data.toList=[47] from rfl,E.out]
 rintro e x1 ⟨rfl,k1,rfl⟩
 have A:=H.trans (zcX (x:=w.alloc (.cells #[.int .u64 0,.int .u64 0,.int .i64 0] 183)) (k:=k1))
 generalize (w.alloc (.cells #[.int .u64 0,.int .u64 0,.int .i64 0] 183)).drewN k1=x1 at*
 go_wp2_with fail
 refine (zcI ⟨K.toArray⟩ _ (by rw [zcT];exact O) (zaA HX.out (zbC A))).mono ?_
 rw [zcU,HZ.out]
 rintro e x2 ⟨rfl,j⟩
 have D:=zcJ A j
 clear A j
 simp only [optV,AZ.val,Option.isSome]
 go_wp2_with fail
 refine (zkW n _).mono ?_
 rintro e x3 ⟨rfl,rfl⟩
 go_wp2_with fail
 refine (zcQ ⟨S.toArray⟩ 32 _ (by rw [zcT];exact V) (by omega) (by omega)).mono ?_
 rw [zcU,HD.out]
 rintro e Y ⟨rfl,f⟩
 have J:=zcJ D f
 clear D f
 go_wp2_with fail
 refine (zxF n _ C.1 C.2).mono ?_
 rintro e x5 ⟨rfl,rfl⟩
 have B:=J
 clear J
 have qa:w.heap.size<Y.heap.size:=by have:=B.size;simp at this;omega
 have G:=B.alloc (by omega) (Obj.cells #[.int .u64 (0),.int .u64 (281470681743360+n),.int .i64 (96+x)] 183)
 go_wp2_with fail
 refine (M.out _).mono ?_
 rintro e x7 ⟨rfl,d⟩
 obtain ⟨d0,d1,d2⟩:=zkE Y _ _ _ _ x7 (d.mono (by simp))
 have I:=zcJ G d
 clear G d B
 obtain ⟨⟨N,Q,U⟩,qc,qd,qb⟩:=Z.out _ I
 go_wp2
 refine bodyPost_ret (v:= .tuple #[.agg #[.int .u64 (0),.int .u64 (281470681743360+n),.int .i64 (96+x)],.bool true]) (by simp [results,Tryz.results289,go_sem,N,Q,U]) rfl ⟨rfl,?_⟩
 exact (((zbC I).setCell (ykQ _) _).setCell (ykQ _) _).setCell (ykQ _) _
theorem zoG (s:ByteArray) (E J:List UInt8) (Z:Bool) (O V:Int) (x:Int) (HZ:Hid (zbF E=some (.six O V))) (HD:Hid (decZ J 128=(x,false))) (w:World) (hs:s.size≤1073741824) (f:MaxVar w) (hcut:Lib.cut s.data.toList [47]=(E,J,Z)):
  Calls Tryz.prog 289 #[.string s] w fun e w'=>e= .returned (.tuple #[.agg #[.int .u64 0,.int .u64 0,.int .i64 0],.bool false])∧Below w.heap.size w w':=by
 obtain ⟨H,N⟩:=zeQ hs hcut
 have B:=ykP hcut
 have Y:=ykP f
 obtain ⟨o,M⟩: ∃o,o=Obj.cells #[.int .u64 0,.int .u64 0,.int .i64 0] 183:=⟨_,rfl⟩
 have Q:Hid (∀W,Below (w.heap.size+1) (w.alloc o) W→(W.cell? ⟨w.heap.size,0,none⟩=some (.int .u64 0)∧W.cell? ⟨w.heap.size,1,none⟩=some (.int .u64 0)∧W.cell? ⟨w.heap.size,2,none⟩=some (.int .i64 0))∧W.frozen? ⟨w.heap.size,0,none⟩=false∧W.frozen? ⟨w.heap.size,1,none⟩=false∧W.frozen? ⟨w.heap.size,2,none⟩=false):=fun W h=>by
  have hb:W.heap[w.heap.size]? =some (.cells #[.int .u64 0,.int .u64 0,.int .i64 0] 183):=by
   rw [h.block _ (Nat.lt_succ_self _),M];exact Go.Deep.blk_alloc_new _ _
  exact row3 hb
 have C:Below (w.heap.size+1) (w.alloc o) (w.alloc o):=ykR _ _
 obtain ⟨m,U⟩:=zaA Y.out ((ykR _ _).alloc (ykQ _) o)
 have S:=ykP U
 clear U f hcut
 rw [M] at S Q C
 clear M o
 go_enter Tryz.func289,Tryz.ntmps289
 go_wp2_with fail
 refine (Tryz.strings_Cut s ⟨#[47]⟩ m _ (by omega) S.out).mono ?_
 rw [show (ByteArray.mk #[47]).data.toList=[47] from rfl,B.out]
 rintro e x1 ⟨rfl,X,rfl⟩
 have j:=C.trans (zcX (x:=w.alloc (.cells #[.int .u64 0,.int .u64 0,.int .i64 0] 183)) (k:=X))
 generalize (w.alloc (.cells #[.int .u64 0,.int .u64 0,.int .i64 0] 183)).drewN X=x1 at*
 go_wp2_with fail
 refine (zcI ⟨E.toArray⟩ _ (by rw [zcT];exact H) (zaA Y.out (zbC j))).mono ?_
 rw [zcU,HZ.out]
 rintro e x2 ⟨rfl,i⟩
 have A:=zcJ j i
 clear j i
 simp only [optV,AZ.val,Option.isSome]
 go_wp2_with fail
 refine (zmS O V _).mono ?_
 rintro e x3 ⟨rfl,rfl⟩
 go_wp2_with fail
 refine (zcQ ⟨J.toArray⟩ 128 _ (by rw [zcT];exact N) (by omega) (by omega)).mono ?_
 rw [zcU,HD.out]
 rintro e x4 ⟨rfl,d⟩
 have D:=zcJ A d
 clear A d
 obtain ⟨⟨G,I,K⟩,qb,qc,qa⟩:=Q.out _ D
 go_wp2
 refine bodyPost_ret (v:= .tuple #[.agg #[.int .u64 0,.int .u64 0,.int .i64 0],.bool false]) (by simp [results,Tryz.results289,go_sem,G,I,K]) rfl ⟨rfl,?_⟩
 exact (((zbC D).setCell (ykQ _) _).setCell (ykQ _) _).setCell (ykQ _) _
theorem zlI (s:ByteArray) (N V:List UInt8) (fb:Bool) (f i:Int) (_:(AZ.six f i).Ok) (hi lo:Nat) (x:Int) (e1:(f:Int)=hi) (e2:i=(lo:Int)) (b1:hi<18446744073709551616) (b2:lo<18446744073709551616) (bx:0≤x∧x≤128) (HZ:Hid (zbF N=some (.six f i))) (HD:Hid (decZ V 128=(x,true))) (hr:zaN (zaL hi lo) (0+x)=false) (w:World) (hs:s.size≤1073741824) (A:MaxVar w) (hcut:Lib.cut s.data.toList [47]=(N,V,fb)):
  Calls Tryz.prog 289 #[.string s] w fun e w'=>e= .returned (.tuple #[.agg #[.int .u64 0,.int .u64 0,.int .i64 0],.bool false])∧Below w.heap.size w w':=by
 obtain ⟨S,Z⟩:=zeQ hs hcut
 have qe: ∀w:World,(method 463 173 (.agg #[.int .u64 f,.int .u64 i]) "Wide").run Tryz.prog w= .ok (351,(.agg #[.int .u64 f,.int .u64 i])) w:=fun _=>by kernel_rfl
 have O:Hid (∀W,Calls Tryz.prog 186 #[.agg #[.int .u64 (f),.int .u64 (i),.int .i64 (x)]] W fun e w'=>e= .returned (.bool false)∧Below W.heap.size W w'):=fun W=>by
  have:=zbM hi lo (0+x) W b1 b2;rw [hr,←e1,←e2] at this;rw [Int.zero_add] at this;exact this
 clear hr e1 e2
 have H:=ykP hcut
 have HX:=ykP A
 obtain ⟨o,Y⟩: ∃o,o=Obj.cells #[.int .u64 0,.int .u64 0,.int .i64 0] 183:=⟨_,rfl⟩
 have HK:Hid (∀W,Below (w.heap.size+1) (w.alloc o) W→(W.cell? ⟨w.heap.size,0,none⟩=some (.int .u64 0)∧W.cell? ⟨w.heap.size,1,none⟩=some (.int .u64 0)∧W.cell? ⟨w.heap.size,2,none⟩=some (.int .i64 0))∧W.frozen? ⟨w.heap.size,0,none⟩=false∧W.frozen? ⟨w.heap.size,1,none⟩=false∧W.frozen? ⟨w.heap.size,2,none⟩=false):=fun W h=>by
  have hb:W.heap[w.heap.size]? =some (.cells #[.int .u64 0,.int .u64 0,.int .i64 0] 183):=by
   rw [h.block _ (Nat.lt_succ_self _),Y];exact Go.Deep.blk_alloc_new _ _
  exact row3 hb
 have J:Below (w.heap.size+1) (w.alloc o) (w.alloc o):=ykR _ _
 obtain ⟨m,hm⟩:=zaA HX.out ((ykR _ _).alloc (ykQ _) o)
 have HM:=ykP hm
 clear hm A hcut
 rw [Y] at HM HK J
 clear Y o
 go_enter Tryz.func289,Tryz.ntmps289
 go_wp2_with fail
 refine (Tryz.strings_Cut s ⟨#[47]⟩ m _ (by omega) HM.out).mono ?_
 rw [show (ByteArray.mk #[47]).data.toList=[47] from rfl,H.out]
 rintro e x1 ⟨rfl,k1,rfl⟩
 have D:=J.trans (zcX (x:=w.alloc (.cells #[.int .u64 0,.int .u64 0,.int .i64 0] 183)) (k:=k1))
 generalize (w.alloc (.cells #[.int .u64 0,.int .u64 0,.int .i64 0] 183)).drewN k1=x1 at*
 go_wp2_with fail
 refine (zcI ⟨N.toArray⟩ _ (by rw [zcT];exact S) (zaA HX.out (zbC D))).mono ?_
 rw [zcU,HZ.out]
 rintro e x2 ⟨rfl,C⟩
 have G:=zcJ D C
 clear D C
 simp only [optV,AZ.val,Option.isSome]
 go_wp2_with fail
 refine (zmS f i _).mono ?_
 rintro e x3 ⟨rfl,rfl⟩
 go_wp2_with fail
 refine (zcQ ⟨V.toArray⟩ 128 _ (by rw [zcT];exact Z) (by omega) (by omega)).mono ?_
 rw [zcU,HD.out]
 rintro e x4 ⟨rfl,j⟩
 have M:=zcJ G j
 clear G j
 go_wp2_with fail
 refine (ztZ f i _).mono ?_
 rintro e x5 ⟨rfl,B⟩
 have E:=zcJ M B
 clear M B
 have qa:w.heap.size<x5.heap.size:=by have:=E.size;simp at this;omega
 have I:=E.alloc (by omega) (Obj.cells #[.int .u64 (f),.int .u64 (i),.int .i64 (x)] 183)
 go_wp2_with fail
 refine (O.out _).mono ?_
 rintro e x7 ⟨rfl,d⟩
 obtain ⟨d0,d1,d2⟩:=zkE x5 _ _ _ _ x7 (d.mono (by simp))
 have K:=zcJ I d
 clear I d E
 obtain ⟨⟨Q,U,X⟩,qc,qd,qb⟩:=HK.out _ K
 go_wp2
 refine bodyPost_ret (v:= .tuple #[.agg #[.int .u64 0,.int .u64 0,.int .i64 0],.bool false]) (by simp [results,Tryz.results289,go_sem,Q,U,X]) rfl ⟨rfl,?_⟩
 exact (((zbC K).setCell (ykQ _) _).setCell (ykQ _) _).setCell (ykQ _) _
theorem znI (s:ByteArray) (N V:List UInt8) (fb:Bool) (d i:Int) (_:(AZ.six d i).Ok) (hi lo:Nat) (x:Int) (e1:(d:Int)=hi) (e2:i=(lo:Int)) (b1:hi<18446744073709551616) (b2:lo<18446744073709551616) (bx:0≤x∧x≤128) (HZ:Hid (zbF N=some (.six d i))) (HD:Hid (decZ V 128=(x,true))) (hr:zaN (zaL hi lo) (0+x)=true) (w:World) (hs:s.size≤1073741824) (A:MaxVar w) (hcut:Lib.cut s.data.toList [47]=(N,V,fb)):
  Calls Tryz.prog 289 #[.string s] w fun e w'=>e= .returned (.tuple #[.agg #[.int .u64 (d),.int .u64 (i),.int .i64 (x)],.bool true])∧Below w.heap.size w w':=by
 obtain ⟨S,Z⟩:=zeQ hs hcut
 have qe: ∀w:World,(method 463 173 (.agg #[.int .u64 d,.int .u64 i]) "Wide").run Tryz.prog w= .ok (351,(.agg #[.int .u64 d,.int .u64 i])) w:=fun _=>by kernel_rfl
 have O:Hid (∀W,Calls Tryz.prog 186 #[.agg #[.int .u64 (d),.int .u64 (i),.int .i64 (x)]] W fun e w'=>e= .returned (.bool true)∧Below W.heap.size W w'):=fun W=>by
  have:=zbM hi lo (0+x) W b1 b2;rw [hr,←e1,←e2] at this;rw [Int.zero_add] at this;exact this
 clear hr e1 e2
 have H:=ykP hcut
 have HX:=ykP A
 obtain ⟨o,Y⟩: ∃o,o=Obj.cells #[.int .u64 0,.int .u64 0,.int .i64 0] 183:=⟨_,rfl⟩
 have HK:Hid (∀W,Below (w.heap.size+1) (w.alloc o) W→(W.cell? ⟨w.heap.size,0,none⟩=some (.int .u64 0)∧W.cell? ⟨w.heap.size,1,none⟩=some (.int .u64 0)∧W.cell? ⟨w.heap.size,2,none⟩=some (.int .i64 0))∧W.frozen? ⟨w.heap.size,0,none⟩=false∧W.frozen? ⟨w.heap.size,1,none⟩=false∧W.frozen? ⟨w.heap.size,2,none⟩=false):=fun W h=>by
  have hb:W.heap[w.heap.size]? =some (.cells #[.int .u64 0,.int .u64 0,.int .i64 0] 183):=by
   rw [h.block _ (Nat.lt_succ_self _),Y];exact Go.Deep.blk_alloc_new _ _
  exact row3 hb
 have J:Below (w.heap.size+1) (w.alloc o) (w.alloc o):=ykR _ _
 obtain ⟨m,hm⟩:=zaA HX.out ((ykR _ _).alloc (ykQ _) o)
 have HM:=ykP hm
 clear hm A hcut
 rw [Y] at HM HK J
 clear Y o
 go_enter Tryz.func289,Tryz.ntmps289
 go_wp2_with fail
 refine (Tryz.strings_Cut s ⟨#[47]⟩ m _ (by omega) HM.out).mono ?_
 rw [show (ByteArray.mk #[47]).data.toList=[47] from rfl,H.out]
 rintro e x1 ⟨rfl,k1,rfl⟩
 have D:=J.trans (zcX (x:=w.alloc (.cells #[.int .u64 0,.int .u64 0,.int .i64 0] 183)) (k:=k1))
 generalize (w.alloc (.cells #[.int .u64 0,.int .u64 0,.int .i64 0] 183)).drewN k1=x1 at*
 go_wp2_with fail
 refine (zcI ⟨N.toArray⟩ _ (by rw [zcT];exact S) (zaA HX.out (zbC D))).mono ?_
 rw [zcU,HZ.out]
 rintro e x2 ⟨rfl,C⟩
 have G:=zcJ D C
 clear D C
 simp only [optV,AZ.val,Option.isSome]
 go_wp2_with fail
 refine (zmS d i _).mono ?_
 rintro e x3 ⟨rfl,rfl⟩
 go_wp2_with fail
 refine (zcQ ⟨V.toArray⟩ 128 _ (by rw [zcT];exact Z) (by omega) (by omega)).mono ?_
 rw [zcU,HD.out]
 rintro e x4 ⟨rfl,j⟩
 have M:=zcJ G j
 clear G j
 go_wp2_with fail
 refine (ztZ d i _).mono ?_
 rintro e x5 ⟨rfl,B⟩
 have E:=zcJ M B
 clear M B
 have qa:w.heap.size<x5.heap.size:=by have:=E.size;simp at this;omega
 have I:=E.alloc (by omega) (Obj.cells #[.int .u64 (d),.int .u64 (i),.int .i64 (x)] 183)
 go_wp2_with fail
 refine (O.out _).mono ?_
 rintro e x7 ⟨rfl,f⟩
 obtain ⟨d0,d1,d2⟩:=zkE x5 _ _ _ _ x7 (f.mono (by simp))
 have K:=zcJ I f
 clear I f E
 obtain ⟨⟨Q,U,X⟩,qc,qd,qb⟩:=HK.out _ K
 go_wp2
 refine bodyPost_ret (v:= .tuple #[.agg #[.int .u64 (d),.int .u64 (i),.int .i64 (x)],.bool true]) (by simp [results,Tryz.results289,go_sem,Q,U,X]) rfl ⟨rfl,?_⟩
 exact (((zbC K).setCell (ykQ _) _).setCell (ykQ _) _).setCell (ykQ _) _
theorem z2C (s:ByteArray) (w:World) (K:s.size≤1073741824) (f:MaxVar w):
  Calls Tryz.prog 289 #[.string s] w (RetPf w (zaV s.data.toList)):=by
 obtain ⟨j,i,G,hcut⟩: ∃a d b,Lib.cut s.data.toList [47]=(a,d,b):=⟨_,_,_,rfl⟩
 have U:zaV s.data.toList=zcE j i:=by unfold zaV;rw [hcut]
 unfold RetPf
 rw [U]
 cases o:zbF j with
 |none=>
  rw [show zcE j i=none from by unfold zcE;rw [o]]
  exact zvH s j i G o w K f hcut
 |some z=>
  have M:=ycR o
  cases z with
  |four n=>
   obtain ⟨x,Q,B⟩: ∃x b,decZ i 32=(x,b):=⟨_,_,rfl⟩
   have H:=zgL i 32 (by omega)
   rw [B] at H
   have m:decZ i (128 - (AZ.four n).ahead)=(x,Q):=B
   cases Q with
   |false=>
    rw [show zcE j i=none from by unfold zcE;rw [o];simp only [m];rw [if_neg (by simp)]]
    exact znC s j i G n x o B w K f hcut
   |true=>
    obtain ⟨hi,lo,E,J,O,I,N⟩:=AZ.ok_hl M
    cases A:zaN (AZ.four n).wd (96+x) with
    |false=>
     rw [show zcE j i=none from by unfold zcE;rw [o];simp only [m];rw [if_neg (by rw [show (AZ.four n).ahead=96 from rfl,A];simp)]]
     rw [N] at A
     exact zkU s j i G n M hi lo x E J O I H o B A w K f hcut
    |true=>
     rw [show zcE j i=some ((AZ.four n).wd,(96+x).toNat) from by unfold zcE;rw [o];simp only [m];rw [if_pos ⟨trivial,by rw [show (AZ.four n).ahead=96 from rfl,A]⟩];rfl]
     rw [N] at A ⊢
     have:=zlJ s j i G n M hi lo x E J O I H o B A w K f hcut
     rw [show (0:Int)=hi from E,show 281470681743360+n=(lo:Int) from J] at this
     have S:optP (some (zaL hi lo,(96+x).toNat))= .agg #[.int .u64 hi,.int .u64 lo,.int .i64 (96+x)]:=by
      show pfW _ _=_
      rw [zjX I,show ((96+x).toNat:Int)=96+x from by omega];rfl
     rw [S]
     exact this
  |six C D=>
   obtain ⟨x,Q,B⟩: ∃x b,decZ i 128=(x,b):=⟨_,_,rfl⟩
   have H:=zgL i 128 (by omega)
   rw [B] at H
   have m:decZ i (128 - (AZ.six C D).ahead)=(x,Q):=B
   cases Q with
   |false=>
    rw [show zcE j i=none from by unfold zcE;rw [o];simp only [m];rw [if_neg (by simp)]]
    exact zoG s j i G C D x o B w K f hcut
   |true=>
    obtain ⟨hi,lo,E,J,O,I,N⟩:=AZ.ok_hl M
    cases A:zaN (AZ.six C D).wd (0+x) with
    |false=>
     rw [show zcE j i=none from by unfold zcE;rw [o];simp only [m];rw [if_neg (by rw [show (AZ.six C D).ahead=0 from rfl,A];simp)]]
     rw [N] at A
     exact zlI s j i G C D M hi lo x E J O I H o B A w K f hcut
    |true=>
     rw [show zcE j i=some ((AZ.six C D).wd,(0+x).toNat) from by unfold zcE;rw [o];simp only [m];rw [if_pos ⟨trivial,by rw [show (AZ.six C D).ahead=0 from rfl,A]⟩];rfl]
     rw [N] at A ⊢
     have:=znI s j i G C D M hi lo x E J O I H o B A w K f hcut
     rw [show C=(hi:Int) from E,show D=(lo:Int) from J] at this
     have S:optP (some (zaL hi lo,(0+x).toNat))= .agg #[.int .u64 hi,.int .u64 lo,.int .i64 x]:=by
      show pfW _ _=_
      rw [zjX I,show ((0+x).toNat:Int)=x from by omega];rfl
     rw [S]
     exact this
structure R9 where
 W:Nat
 n:Nat
 s:List UInt8
 deriving DecidableEq
theorem a9_0:zbF [48,46,48,46,48,46,48]=some (.four 0):=by
 unfold zbF
 rw [show zaP [48,46,48,46,48,46,48]=(0,true) from by decide+kernel];rfl
theorem p9_0:zaV [48,46,48,46,48,46,48,47,56]=some (281470681743360,104):=by
 unfold zaV
 rw [show ([48,46,48,46,48,46,48,47,56]:List UInt8)=[48,46,48,46,48,46,48]++47::[56] from rfl,zbG [56] (by decide)]
 unfold zcE
 rw [a9_0]
 simp only []
 rw [show decZ [56] (128 - (AZ.four 0).ahead)=(8,true) from by decide+kernel,show (AZ.four 0).wd=281470681743360 from by decide+kernel,show (AZ.four 0).ahead+(8,true).1=104 from rfl,show zaN 281470681743360 104=true from by decide+kernel]
 rfl
theorem a9_1:zbF [49,48,46,48,46,48,46,48]=some (.four 167772160):=by
 unfold zbF
 rw [show zaP [49,48,46,48,46,48,46,48]=(167772160,true) from by decide+kernel];rfl
theorem p9_1:zaV [49,48,46,48,46,48,46,48,47,56]=some (281470849515520,104):=by
 unfold zaV
 rw [show ([49,48,46,48,46,48,46,48,47,56]:List UInt8)=[49,48,46,48,46,48,46,48]++47::[56] from rfl,zbG [56] (by decide)]
 unfold zcE
 rw [a9_1]
 simp only []
 rw [show decZ [56] (128 - (AZ.four 167772160).ahead)=(8,true) from by decide+kernel,show (AZ.four 167772160).wd=281470849515520 from by decide+kernel,show (AZ.four 167772160).ahead+(8,true).1=104 from rfl,show zaN 281470849515520 104=true from by decide+kernel]
 rfl
theorem a9_2:zbF [49,48,48,46,54,52,46,48,46,48]=some (.four 1681915904):=by
 unfold zbF
 rw [show zaP [49,48,48,46,54,52,46,48,46,48]=(1681915904,true) from by decide+kernel];rfl
theorem p9_2:zaV [49,48,48,46,54,52,46,48,46,48,47,49,48]=some (281472363659264,106):=by
 unfold zaV
 rw [show ([49,48,48,46,54,52,46,48,46,48,47,49,48]:List UInt8)=[49,48,48,46,54,52,46,48,46,48]++47::[49,48] from rfl,zbG [49,48] (by decide)]
 unfold zcE
 rw [a9_2]
 simp only []
 rw [show decZ [49,48] (128 - (AZ.four 1681915904).ahead)=(10,true) from by decide+kernel,show (AZ.four 1681915904).wd=281472363659264 from by decide+kernel,show (AZ.four 1681915904).ahead+(10,true).1=106 from rfl,show zaN 281472363659264 106=true from by decide+kernel]
 rfl
theorem a9_3:zbF [49,50,55,46,48,46,48,46,48]=some (.four 2130706432):=by
 unfold zbF
 rw [show zaP [49,50,55,46,48,46,48,46,48]=(2130706432,true) from by decide+kernel];rfl
theorem p9_3:zaV [49,50,55,46,48,46,48,46,48,47,56]=some (281472812449792,104):=by
 unfold zaV
 rw [show ([49,50,55,46,48,46,48,46,48,47,56]:List UInt8)=[49,50,55,46,48,46,48,46,48]++47::[56] from rfl,zbG [56] (by decide)]
 unfold zcE
 rw [a9_3]
 simp only []
 rw [show decZ [56] (128 - (AZ.four 2130706432).ahead)=(8,true) from by decide+kernel,show (AZ.four 2130706432).wd=281472812449792 from by decide+kernel,show (AZ.four 2130706432).ahead+(8,true).1=104 from rfl,show zaN 281472812449792 104=true from by decide+kernel]
 rfl
theorem a9_4:zbF [49,54,57,46,50,53,52,46,48,46,48]=some (.four 2851995648):=by
 unfold zbF
 rw [show zaP [49,54,57,46,50,53,52,46,48,46,48]=(2851995648,true) from by decide+kernel];rfl
theorem p9_4:zaV [49,54,57,46,50,53,52,46,48,46,48,47,49,54]=some (281473533739008,112):=by
 unfold zaV
 rw [show ([49,54,57,46,50,53,52,46,48,46,48,47,49,54]:List UInt8)=[49,54,57,46,50,53,52,46,48,46,48]++47::[49,54] from rfl,zbG [49,54] (by decide)]
 unfold zcE
 rw [a9_4]
 simp only []
 rw [show decZ [49,54] (128 - (AZ.four 2851995648).ahead)=(16,true) from by decide+kernel,show (AZ.four 2851995648).wd=281473533739008 from by decide+kernel,show (AZ.four 2851995648).ahead+(16,true).1=112 from rfl,show zaN 281473533739008 112=true from by decide+kernel]
 rfl
theorem a9_5:zbF [49,55,50,46,49,54,46,48,46,48]=some (.four 2886729728):=by
 unfold zbF
 rw [show zaP [49,55,50,46,49,54,46,48,46,48]=(2886729728,true) from by decide+kernel];rfl
theorem p9_5:zaV [49,55,50,46,49,54,46,48,46,48,47,49,50]=some (281473568473088,108):=by
 unfold zaV
 rw [show ([49,55,50,46,49,54,46,48,46,48,47,49,50]:List UInt8)=[49,55,50,46,49,54,46,48,46,48]++47::[49,50] from rfl,zbG [49,50] (by decide)]
 unfold zcE
 rw [a9_5]
 simp only []
 rw [show decZ [49,50] (128 - (AZ.four 2886729728).ahead)=(12,true) from by decide+kernel,show (AZ.four 2886729728).wd=281473568473088 from by decide+kernel,show (AZ.four 2886729728).ahead+(12,true).1=108 from rfl,show zaN 281473568473088 108=true from by decide+kernel]
 rfl
theorem a9_6:zbF [49,57,50,46,48,46,48,46,48]=some (.four 3221225472):=by
 unfold zbF
 rw [show zaP [49,57,50,46,48,46,48,46,48]=(3221225472,true) from by decide+kernel];rfl
theorem p9_6:zaV [49,57,50,46,48,46,48,46,48,47,50,52]=some (281473902968832,120):=by
 unfold zaV
 rw [show ([49,57,50,46,48,46,48,46,48,47,50,52]:List UInt8)=[49,57,50,46,48,46,48,46,48]++47::[50,52] from rfl,zbG [50,52] (by decide)]
 unfold zcE
 rw [a9_6]
 simp only []
 rw [show decZ [50,52] (128 - (AZ.four 3221225472).ahead)=(24,true) from by decide+kernel,show (AZ.four 3221225472).wd=281473902968832 from by decide+kernel,show (AZ.four 3221225472).ahead+(24,true).1=120 from rfl,show zaN 281473902968832 120=true from by decide+kernel]
 rfl
theorem a9_7:zbF [49,57,50,46,48,46,50,46,48]=some (.four 3221225984):=by
 unfold zbF
 rw [show zaP [49,57,50,46,48,46,50,46,48]=(3221225984,true) from by decide+kernel];rfl
theorem p9_7:zaV [49,57,50,46,48,46,50,46,48,47,50,52]=some (281473902969344,120):=by
 unfold zaV
 rw [show ([49,57,50,46,48,46,50,46,48,47,50,52]:List UInt8)=[49,57,50,46,48,46,50,46,48]++47::[50,52] from rfl,zbG [50,52] (by decide)]
 unfold zcE
 rw [a9_7]
 simp only []
 rw [show decZ [50,52] (128 - (AZ.four 3221225984).ahead)=(24,true) from by decide+kernel,show (AZ.four 3221225984).wd=281473902969344 from by decide+kernel,show (AZ.four 3221225984).ahead+(24,true).1=120 from rfl,show zaN 281473902969344 120=true from by decide+kernel]
 rfl
theorem a9_8:zbF [49,57,50,46,56,56,46,57,57,46,48]=some (.four 3227017984):=by
 unfold zbF
 rw [show zaP [49,57,50,46,56,56,46,57,57,46,48]=(3227017984,true) from by decide+kernel];rfl
theorem p9_8:zaV [49,57,50,46,56,56,46,57,57,46,48,47,50,52]=some (281473908761344,120):=by
 unfold zaV
 rw [show ([49,57,50,46,56,56,46,57,57,46,48,47,50,52]:List UInt8)=[49,57,50,46,56,56,46,57,57,46,48]++47::[50,52] from rfl,zbG [50,52] (by decide)]
 unfold zcE
 rw [a9_8]
 simp only []
 rw [show decZ [50,52] (128 - (AZ.four 3227017984).ahead)=(24,true) from by decide+kernel,show (AZ.four 3227017984).wd=281473908761344 from by decide+kernel,show (AZ.four 3227017984).ahead+(24,true).1=120 from rfl,show zaN 281473908761344 120=true from by decide+kernel]
 rfl
theorem a9_9:zbF [49,57,50,46,49,54,56,46,48,46,48]=some (.four 3232235520):=by
 unfold zbF
 rw [show zaP [49,57,50,46,49,54,56,46,48,46,48]=(3232235520,true) from by decide+kernel];rfl
theorem p9_9:zaV [49,57,50,46,49,54,56,46,48,46,48,47,49,54]=some (281473913978880,112):=by
 unfold zaV
 rw [show ([49,57,50,46,49,54,56,46,48,46,48,47,49,54]:List UInt8)=[49,57,50,46,49,54,56,46,48,46,48]++47::[49,54] from rfl,zbG [49,54] (by decide)]
 unfold zcE
 rw [a9_9]
 simp only []
 rw [show decZ [49,54] (128 - (AZ.four 3232235520).ahead)=(16,true) from by decide+kernel,show (AZ.four 3232235520).wd=281473913978880 from by decide+kernel,show (AZ.four 3232235520).ahead+(16,true).1=112 from rfl,show zaN 281473913978880 112=true from by decide+kernel]
 rfl
theorem a9_10:zbF [49,57,56,46,49,56,46,48,46,48]=some (.four 3323068416):=by
 unfold zbF
 rw [show zaP [49,57,56,46,49,56,46,48,46,48]=(3323068416,true) from by decide+kernel];rfl
theorem p9_10:zaV [49,57,56,46,49,56,46,48,46,48,47,49,53]=some (281474004811776,111):=by
 unfold zaV
 rw [show ([49,57,56,46,49,56,46,48,46,48,47,49,53]:List UInt8)=[49,57,56,46,49,56,46,48,46,48]++47::[49,53] from rfl,zbG [49,53] (by decide)]
 unfold zcE
 rw [a9_10]
 simp only []
 rw [show decZ [49,53] (128 - (AZ.four 3323068416).ahead)=(15,true) from by decide+kernel,show (AZ.four 3323068416).wd=281474004811776 from by decide+kernel,show (AZ.four 3323068416).ahead+(15,true).1=111 from rfl,show zaN 281474004811776 111=true from by decide+kernel]
 rfl
theorem a9_11:zbF [49,57,56,46,53,49,46,49,48,48,46,48]=some (.four 3325256704):=by
 unfold zbF
 rw [show zaP [49,57,56,46,53,49,46,49,48,48,46,48]=(3325256704,true) from by decide+kernel];rfl
theorem p9_11:zaV [49,57,56,46,53,49,46,49,48,48,46,48,47,50,52]=some (281474007000064,120):=by
 unfold zaV
 rw [show ([49,57,56,46,53,49,46,49,48,48,46,48,47,50,52]:List UInt8)=[49,57,56,46,53,49,46,49,48,48,46,48]++47::[50,52] from rfl,zbG [50,52] (by decide)]
 unfold zcE
 rw [a9_11]
 simp only []
 rw [show decZ [50,52] (128 - (AZ.four 3325256704).ahead)=(24,true) from by decide+kernel,show (AZ.four 3325256704).wd=281474007000064 from by decide+kernel,show (AZ.four 3325256704).ahead+(24,true).1=120 from rfl,show zaN 281474007000064 120=true from by decide+kernel]
 rfl
theorem a9_12:zbF [50,48,51,46,48,46,49,49,51,46,48]=some (.four 3405803776):=by
 unfold zbF
 rw [show zaP [50,48,51,46,48,46,49,49,51,46,48]=(3405803776,true) from by decide+kernel];rfl
theorem p9_12:zaV [50,48,51,46,48,46,49,49,51,46,48,47,50,52]=some (281474087547136,120):=by
 unfold zaV
 rw [show ([50,48,51,46,48,46,49,49,51,46,48,47,50,52]:List UInt8)=[50,48,51,46,48,46,49,49,51,46,48]++47::[50,52] from rfl,zbG [50,52] (by decide)]
 unfold zcE
 rw [a9_12]
 simp only []
 rw [show decZ [50,52] (128 - (AZ.four 3405803776).ahead)=(24,true) from by decide+kernel,show (AZ.four 3405803776).wd=281474087547136 from by decide+kernel,show (AZ.four 3405803776).ahead+(24,true).1=120 from rfl,show zaN 281474087547136 120=true from by decide+kernel]
 rfl
theorem a9_13:zbF [50,50,52,46,48,46,48,46,48]=some (.four 3758096384):=by
 unfold zbF
 rw [show zaP [50,50,52,46,48,46,48,46,48]=(3758096384,true) from by decide+kernel];rfl
theorem p9_13:zaV [50,50,52,46,48,46,48,46,48,47,52]=some (281474439839744,100):=by
 unfold zaV
 rw [show ([50,50,52,46,48,46,48,46,48,47,52]:List UInt8)=[50,50,52,46,48,46,48,46,48]++47::[52] from rfl,zbG [52] (by decide)]
 unfold zcE
 rw [a9_13]
 simp only []
 rw [show decZ [52] (128 - (AZ.four 3758096384).ahead)=(4,true) from by decide+kernel,show (AZ.four 3758096384).wd=281474439839744 from by decide+kernel,show (AZ.four 3758096384).ahead+(4,true).1=100 from rfl,show zaN 281474439839744 100=true from by decide+kernel]
 rfl
theorem a9_14:zbF [50,52,48,46,48,46,48,46,48]=some (.four 4026531840):=by
 unfold zbF
 rw [show zaP [50,52,48,46,48,46,48,46,48]=(4026531840,true) from by decide+kernel];rfl
theorem p9_14:zaV [50,52,48,46,48,46,48,46,48,47,52]=some (281474708275200,100):=by
 unfold zaV
 rw [show ([50,52,48,46,48,46,48,46,48,47,52]:List UInt8)=[50,52,48,46,48,46,48,46,48]++47::[52] from rfl,zbG [52] (by decide)]
 unfold zcE
 rw [a9_14]
 simp only []
 rw [show decZ [52] (128 - (AZ.four 4026531840).ahead)=(4,true) from by decide+kernel,show (AZ.four 4026531840).wd=281474708275200 from by decide+kernel,show (AZ.four 4026531840).ahead+(4,true).1=100 from rfl,show zaN 281474708275200 100=true from by decide+kernel]
 rfl
theorem a9_15:zbF [58,58]=some (.six 0 0):=by
 unfold zbF
 rw [show zaP [58,58]=(0,false) from by decide+kernel,show sixZ [58,58]=((0,0),true) from by decide+kernel];rfl
theorem p9_15:zaV [58,58,47,49,50,56]=some (0,128):=by
 unfold zaV
 rw [show ([58,58,47,49,50,56]:List UInt8)=[58,58]++47::[49,50,56] from rfl,zbG [49,50,56] (by decide)]
 unfold zcE
 rw [a9_15]
 simp only []
 rw [show decZ [49,50,56] (128 - (AZ.six 0 0).ahead)=(128,true) from by decide+kernel,show (AZ.six 0 0).wd=0 from by decide+kernel,show (AZ.six 0 0).ahead+(128,true).1=128 from rfl,show zaN 0 128=true from by decide+kernel]
 rfl
theorem a9_16:zbF [58,58,49]=some (.six 0 1):=by
 unfold zbF
 rw [show zaP [58,58,49]=(0,false) from by decide+kernel,show sixZ [58,58,49]=((0,1),true) from by decide+kernel];rfl
theorem p9_16:zaV [58,58,49,47,49,50,56]=some (1,128):=by
 unfold zaV
 rw [show ([58,58,49,47,49,50,56]:List UInt8)=[58,58,49]++47::[49,50,56] from rfl,zbG [49,50,56] (by decide)]
 unfold zcE
 rw [a9_16]
 simp only []
 rw [show decZ [49,50,56] (128 - (AZ.six 0 1).ahead)=(128,true) from by decide+kernel,show (AZ.six 0 1).wd=1 from by decide+kernel,show (AZ.six 0 1).ahead+(128,true).1=128 from rfl,show zaN 1 128=true from by decide+kernel]
 rfl
theorem a9_17:zbF [54,52,58,102,102,57,98,58,49,58,58]=some (.six 28428538856144896 0):=by
 unfold zbF
 rw [show zaP [54,52,58,102,102,57,98,58,49,58,58]=(0,false) from by decide+kernel,show sixZ [54,52,58,102,102,57,98,58,49,58,58]=((28428538856144896,0),true) from by decide+kernel];rfl
theorem p9_17:zaV [54,52,58,102,102,57,98,58,49,58,58,47,52,56]=some (524413980668812575603097810486951936,48):=by
 unfold zaV
 rw [show ([54,52,58,102,102,57,98,58,49,58,58,47,52,56]:List UInt8)=[54,52,58,102,102,57,98,58,49,58,58]++47::[52,56] from rfl,zbG [52,56] (by decide)]
 unfold zcE
 rw [a9_17]
 simp only []
 rw [show decZ [52,56] (128 - (AZ.six 28428538856144896 0).ahead)=(48,true) from by decide+kernel,show (AZ.six 28428538856144896 0).wd=524413980668812575603097810486951936 from by decide+kernel,show (AZ.six 28428538856144896 0).ahead+(48,true).1=48 from rfl,show zaN 524413980668812575603097810486951936 48=true from by decide+kernel]
 rfl
theorem a9_18:zbF [49,48,48,58,58]=some (.six 72057594037927936 0):=by
 unfold zbF
 rw [show zaP [49,48,48,58,58]=(0,false) from by decide+kernel,show sixZ [49,48,48,58,58]=((72057594037927936,0),true) from by decide+kernel];rfl
theorem p9_18:zaV [49,48,48,58,58,47,54,52]=some (1329227995784915872903807060280344576,64):=by
 unfold zaV
 rw [show ([49,48,48,58,58,47,54,52]:List UInt8)=[49,48,48,58,58]++47::[54,52] from rfl,zbG [54,52] (by decide)]
 unfold zcE
 rw [a9_18]
 simp only []
 rw [show decZ [54,52] (128 - (AZ.six 72057594037927936 0).ahead)=(64,true) from by decide+kernel,show (AZ.six 72057594037927936 0).wd=1329227995784915872903807060280344576 from by decide+kernel,show (AZ.six 72057594037927936 0).ahead+(64,true).1=64 from rfl,show zaN 1329227995784915872903807060280344576 64=true from by decide+kernel]
 rfl
theorem a9_19:zbF [50,48,48,49,58,58]=some (.six 2306124484190404608 0):=by
 unfold zbF
 rw [show zaP [50,48,48,49,58,58]=(0,false) from by decide+kernel,show sixZ [50,48,48,49,58,58]=((2306124484190404608,0),true) from by decide+kernel];rfl
theorem p9_19:zaV [50,48,48,49,58,58,47,50,51]=some (42540488161975842760550356425300246528,23):=by
 unfold zaV
 rw [show ([50,48,48,49,58,58,47,50,51]:List UInt8)=[50,48,48,49,58,58]++47::[50,51] from rfl,zbG [50,51] (by decide)]
 unfold zcE
 rw [a9_19]
 simp only []
 rw [show decZ [50,51] (128 - (AZ.six 2306124484190404608 0).ahead)=(23,true) from by decide+kernel,show (AZ.six 2306124484190404608 0).wd=42540488161975842760550356425300246528 from by decide+kernel,show (AZ.six 2306124484190404608 0).ahead+(23,true).1=23 from rfl,show zaN 42540488161975842760550356425300246528 23=true from by decide+kernel]
 rfl
theorem a9_20:zbF [50,48,48,49,58,100,98,56,58,58]=some (.six 2306139568115548160 0):=by
 unfold zbF
 rw [show zaP [50,48,48,49,58,100,98,56,58,58]=(0,false) from by decide+kernel,show sixZ [50,48,48,49,58,100,98,56,58,58]=((2306139568115548160,0),true) from by decide+kernel];rfl
theorem p9_20:zaV [50,48,48,49,58,100,98,56,58,58,47,51,50]=some (42540766411282592856903984951653826560,32):=by
 unfold zaV
 rw [show ([50,48,48,49,58,100,98,56,58,58,47,51,50]:List UInt8)=[50,48,48,49,58,100,98,56,58,58]++47::[51,50] from rfl,zbG [51,50] (by decide)]
 unfold zcE
 rw [a9_20]
 simp only []
 rw [show decZ [51,50] (128 - (AZ.six 2306139568115548160 0).ahead)=(32,true) from by decide+kernel,show (AZ.six 2306139568115548160 0).wd=42540766411282592856903984951653826560 from by decide+kernel,show (AZ.six 2306139568115548160 0).ahead+(32,true).1=32 from rfl,show zaN 42540766411282592856903984951653826560 32=true from by decide+kernel]
 rfl
theorem a9_21:zbF [51,102,102,102,58,58]=some (.six 4611404543450677248 0):=by
 unfold zbF
 rw [show zaP [51,102,102,102,58,58]=(0,false) from by decide+kernel,show sixZ [51,102,102,102,58,58]=((4611404543450677248,0),true) from by decide+kernel];rfl
theorem p9_21:zaV [51,102,102,102,58,58,47,50,48]=some (85065399433376081038215121361612832768,20):=by
 unfold zaV
 rw [show ([51,102,102,102,58,58,47,50,48]:List UInt8)=[51,102,102,102,58,58]++47::[50,48] from rfl,zbG [50,48] (by decide)]
 unfold zcE
 rw [a9_21]
 simp only []
 rw [show decZ [50,48] (128 - (AZ.six 4611404543450677248 0).ahead)=(20,true) from by decide+kernel,show (AZ.six 4611404543450677248 0).wd=85065399433376081038215121361612832768 from by decide+kernel,show (AZ.six 4611404543450677248 0).ahead+(20,true).1=20 from rfl,show zaN 85065399433376081038215121361612832768 20=true from by decide+kernel]
 rfl
theorem a9_22:zbF [53,102,48,48,58,58]=some (.six 6845471433603153920 0):=by
 unfold zbF
 rw [show zaP [53,102,48,48,58,58]=(0,false) from by decide+kernel,show sixZ [53,102,48,48,58,58]=((6845471433603153920,0),true) from by decide+kernel];rfl
theorem p9_22:zaV [53,102,48,48,58,58,47,49,54]=some (126276659599567007925861670726632734720,16):=by
 unfold zaV
 rw [show ([53,102,48,48,58,58,47,49,54]:List UInt8)=[53,102,48,48,58,58]++47::[49,54] from rfl,zbG [49,54] (by decide)]
 unfold zcE
 rw [a9_22]
 simp only []
 rw [show decZ [49,54] (128 - (AZ.six 6845471433603153920 0).ahead)=(16,true) from by decide+kernel,show (AZ.six 6845471433603153920 0).wd=126276659599567007925861670726632734720 from by decide+kernel,show (AZ.six 6845471433603153920 0).ahead+(16,true).1=16 from rfl,show zaN 126276659599567007925861670726632734720 16=true from by decide+kernel]
 rfl
theorem a9_23:zbF [102,99,48,48,58,58]=some (.six 18158513697557839872 0):=by
 unfold zbF
 rw [show zaP [102,99,48,48,58,58]=(0,false) from by decide+kernel,show sixZ [102,99,48,48,58,58]=((18158513697557839872,0),true) from by decide+kernel];rfl
theorem p9_23:zaV [102,99,48,48,58,58,47,55]=some (334965454937798799971759379190646833152,7):=by
 unfold zaV
 rw [show ([102,99,48,48,58,58,47,55]:List UInt8)=[102,99,48,48,58,58]++47::[55] from rfl,zbG [55] (by decide)]
 unfold zcE
 rw [a9_23]
 simp only []
 rw [show decZ [55] (128 - (AZ.six 18158513697557839872 0).ahead)=(7,true) from by decide+kernel,show (AZ.six 18158513697557839872 0).wd=334965454937798799971759379190646833152 from by decide+kernel,show (AZ.six 18158513697557839872 0).ahead+(7,true).1=7 from rfl,show zaN 334965454937798799971759379190646833152 7=true from by decide+kernel]
 rfl
theorem a9_24:zbF [102,101,56,48,58,58]=some (.six 18338657682652659712 0):=by
 unfold zbF
 rw [show zaP [102,101,56,48,58,58]=(0,false) from by decide+kernel,show sixZ [102,101,56,48,58,58]=((18338657682652659712,0),true) from by decide+kernel];rfl
theorem p9_24:zaV [102,101,56,48,58,58,47,49,48]=some (338288524927261089654018896841347694592,10):=by
 unfold zaV
 rw [show ([102,101,56,48,58,58,47,49,48]:List UInt8)=[102,101,56,48,58,58]++47::[49,48] from rfl,zbG [49,48] (by decide)]
 unfold zcE
 rw [a9_24]
 simp only []
 rw [show decZ [49,48] (128 - (AZ.six 18338657682652659712 0).ahead)=(10,true) from by decide+kernel,show (AZ.six 18338657682652659712 0).wd=338288524927261089654018896841347694592 from by decide+kernel,show (AZ.six 18338657682652659712 0).ahead+(10,true).1=10 from rfl,show zaN 338288524927261089654018896841347694592 10=true from by decide+kernel]
 rfl
theorem a9_25:zbF [102,101,99,48,58,58]=some (.six 18356672081162141696 0):=by
 unfold zbF
 rw [show zaP [102,101,99,48,58,58]=(0,false) from by decide+kernel,show sixZ [102,101,99,48,58,58]=((18356672081162141696,0),true) from by decide+kernel];rfl
theorem p9_25:zaV [102,101,99,48,58,58,47,49,48]=some (338620831926207318622244848606417780736,10):=by
 unfold zaV
 rw [show ([102,101,99,48,58,58,47,49,48]:List UInt8)=[102,101,99,48,58,58]++47::[49,48] from rfl,zbG [49,48] (by decide)]
 unfold zcE
 rw [a9_25]
 simp only []
 rw [show decZ [49,48] (128 - (AZ.six 18356672081162141696 0).ahead)=(10,true) from by decide+kernel,show (AZ.six 18356672081162141696 0).wd=338620831926207318622244848606417780736 from by decide+kernel,show (AZ.six 18356672081162141696 0).ahead+(10,true).1=10 from rfl,show zaN 338620831926207318622244848606417780736 10=true from by decide+kernel]
 rfl
theorem a9_26:zbF [102,102,48,48,58,58]=some (.six 18374686479671623680 0):=by
 unfold zbF
 rw [show zaP [102,102,48,48,58,58]=(0,false) from by decide+kernel,show sixZ [102,102,48,48,58,58]=((18374686479671623680,0),true) from by decide+kernel];rfl
theorem p9_26:zaV [102,102,48,48,58,58,47,56]=some (338953138925153547590470800371487866880,8):=by
 unfold zaV
 rw [show ([102,102,48,48,58,58,47,56]:List UInt8)=[102,102,48,48,58,58]++47::[56] from rfl,zbG [56] (by decide)]
 unfold zcE
 rw [a9_26]
 simp only []
 rw [show decZ [56] (128 - (AZ.six 18374686479671623680 0).ahead)=(8,true) from by decide+kernel,show (AZ.six 18374686479671623680 0).wd=338953138925153547590470800371487866880 from by decide+kernel,show (AZ.six 18374686479671623680 0).ahead+(8,true).1=8 from rfl,show zaN 338953138925153547590470800371487866880 8=true from by decide+kernel]
 rfl
def T9L:List R9:=[⟨281470681743360,104,[116,104,105,115]⟩,⟨281470849515520,104,[112,114,105,118,97,116,101]⟩,⟨281472363659264,106,[115,104,97,114,101,100]⟩,⟨281472812449792,104,[108,111,111,112,98,97,99,107]⟩,⟨281473533739008,112,[108,105,110,107]⟩,⟨281473568473088,108,[112,114,105,118,97,116,101]⟩,⟨281473902968832,120,[112,114,111,116,111,99,111,108]⟩,⟨281473902969344,120,[101,120,97,109,112,108,101]⟩,⟨281473908761344,120,[114,101,108,97,121]⟩,⟨281473913978880,112,[112,114,105,118,97,116,101]⟩,⟨281474004811776,111,[109,101,97,115,117,114,101]⟩,⟨281474007000064,120,[101,120,97,109,112,108,101]⟩,⟨281474087547136,120,[101,120,97,109,112,108,101]⟩,⟨281474439839744,100,[109,117,108,116,105,99,97,115,116]⟩,⟨281474708275200,100,[114,101,115,101,114,118,101,100]⟩,⟨0,128,[110,111,110,101]⟩,⟨1,128,[108,111,111,112,98,97,99,107]⟩,⟨524413980668812575603097810486951936,48,[112,114,105,118,97,116,101]⟩,⟨1329227995784915872903807060280344576,64,[100,105,115,99,97,114,100]⟩,⟨42540488161975842760550356425300246528,23,[112,114,111,116,111,99,111,108]⟩,⟨42540766411282592856903984951653826560,32,[101,120,97,109,112,108,101]⟩,⟨85065399433376081038215121361612832768,20,[101,120,97,109,112,108,101]⟩,⟨126276659599567007925861670726632734720,16,[115,101,103,109,101,110,116]⟩,⟨334965454937798799971759379190646833152,7,[112,114,105,118,97,116,101]⟩,⟨338288524927261089654018896841347694592,10,[108,105,110,107]⟩,⟨338620831926207318622244848606417780736,10,[115,105,116,101]⟩,⟨338953138925153547590470800371487866880,8,[109,117,108,116,105,99,97,115,116]⟩]
theorem T9_ex: ∃l:List R9,l=T9L:=⟨T9L,rfl⟩
noncomputable def T9:List R9:=Classical.choose T9_ex
theorem yfO:T9=T9L:=Classical.choose_spec T9_ex
theorem ygI:T9.length=27:=by rw [yfO];decide
theorem yaP: ∀r∈T9L,r.n≤128∧rt r.W r.n∧r.W<2^128:=by unfold rt;decide+kernel
theorem ydM: ∀r∈T9,r.n≤128∧rt r.W r.n∧r.W<2^128:=by rw [yfO];exact yaP
end
end Go.Proofs.YtegmcmgndllmaaaGreatDoor
