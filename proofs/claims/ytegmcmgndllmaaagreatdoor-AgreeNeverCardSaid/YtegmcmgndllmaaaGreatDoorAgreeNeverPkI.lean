/-
  What the law AgreeNever leans on, and its walk (9 of 42).
-/
import Derived.Lib.ItoaLen
import Derived.Test.YtegmcmgndllmaaaGreatDoorAgreeNeverPkH
namespace Go.Proofs.YtegmcmgndllmaaaGreatDoor
set_option maxRecDepth 100000
set_option maxHeartbeats 16000000
section
open Go.RowKit
theorem zcG {x W:World} (h:Below x.drew.heap.size x.drew W):Below x.heap.size x W:=(Below.refl _ _).drew.trans h
def Blks (L:List (Nat×Array Value×TypeId)) (W:World):Prop:= ∀e∈L,W.heap[e.1]? =some (.cells e.2.1 e.2.2)
theorem Blks.empty (W:World):Blks [] W:=fun e d=>by cases d
theorem Blks.keep {L:List (Nat×Array Value×TypeId)} {x y:World} (h:Blks L x) (f:Below x.heap.size x y):Blks L y:=fun e d=>(f.block e.1 (zaD (h e d))).trans (h e d)
theorem Blks.new {L:List (Nat×Array Value×TypeId)} {x:World} (h:Blks L x) (c:Array Value) (t:TypeId):Blks ((x.heap.size,c,t)::L) (x.alloc (.cells c t)):=fun e d=>by
 rcases List.mem_cons.1 d with g|g
 ·rw [g];exact Go.Deep.blk_alloc_new _ _
 ·exact h.keep ((Below.refl _ _).alloc (Nat.le_refl _) _) e g
theorem Blks.lt {L:List (Nat×Array Value×TypeId)} {x:World} (h:Blks L x) {b:Nat} {c:Array Value} {t:TypeId} (d:(b,c,t)∈L):b<x.heap.size:=zaD (h _ d)
theorem Blks.r3 {L:List (Nat×Array Value×TypeId)} {W:World} (h:Blks L W) {b:Nat} {x y z:Value} {t:TypeId} (d:(b,#[x,y,z],t)∈L):
  b<W.heap.size∧W.cell? ⟨b,0,none⟩=some x∧W.cell? ⟨b,1,none⟩=some y∧W.cell? ⟨b,2,none⟩=some z:=⟨h.lt d,(row3 (h _ d)).1⟩
theorem Blks.r2 {L:List (Nat×Array Value×TypeId)} {W:World} (h:Blks L W) {b:Nat} {x y:Value} {t:TypeId} (d:(b,#[x,y],t)∈L):
  b<W.heap.size∧W.cell? ⟨b,0,none⟩=some x∧W.cell? ⟨b,1,none⟩=some y:=⟨h.lt d,zaB (h _ d) 0,zaB (h _ d) 1⟩
theorem yfU (P i:Nat) (h:i<128):ofW P (i+1)=ofW P i+bitW P i*2^(127 - i):=by
 show qt P (i+1)*2^(128 - (i+1))=qt P i*2^(128 - i)+_
 rw [zeS P i h,show 128 - (i+1)=127 - i from by omega,show 128 - i=(127 - i)+1 from by omega,Nat.pow_succ,Nat.add_mul,Nat.mul_comm 2 (qt P i),Nat.mul_assoc,Nat.mul_comm 2]
theorem rt_hi {hi lo n:Nat} (d:lo<18446744073709551616) (j:n<64) (h:rt (zaL hi lo) n):hi % 2^(64 - n)=0:=by
 have e:=yfR h
 have i:(2:Nat)^(128 - n)=2^(64 - n)*18446744073709551616:=by rw [show 18446744073709551616=2^64 from by decide,←Nat.pow_add];congr 1;omega
 have f:hi=qt (zaL hi lo) n*2^(64 - n):=by
  have q:=zgR (hi:=hi) d
  rw [e,i,←Nat.mul_assoc] at q
  unfold hiN at q
  rw [Nat.mul_div_cancel _ (by decide)] at q
  exact q.symm
 rw [f];exact Nat.mul_mod_left _ _
theorem yiS {hi lo n:Nat} (m:64≤n) (j:n≤128) (h:rt (zaL hi lo) n):lo % 2^(128 - n)=0:=by
 have e:(18446744073709551616:Nat)=2^(128 - n)*2^(n - 64):=by rw [←Nat.pow_add,show 128 - n+(n - 64)=64 from by omega]
 have d:2^(128 - n)∣zaL hi lo:=Nat.dvd_of_mod_eq_zero h
 have i:2^(128 - n)∣hi*2^64:=by
  rw [show (2:Nat)^64=18446744073709551616 from by decide,e]
  exact ⟨hi*2^(n - 64),by ac_rfl⟩
 have f:2^(128 - n)∣zaL hi lo - hi*2^64:=Nat.dvd_sub d i
 rw [show zaL hi lo - hi*2^64=lo from by unfold zaL;omega] at f
 exact Nat.mod_eq_zero_of_dvd f
theorem zzI {x d:Nat} (i:x % (2*d)=0) (N:Nat) (f:N % (2*d)=0) (h:x<N):x+d<N:=by
 obtain ⟨a,rfl⟩:=Nat.dvd_of_mod_eq_zero i
 obtain ⟨b,rfl⟩:=Nat.dvd_of_mod_eq_zero f
 have:a<b:=Nat.lt_of_mul_lt_mul_left h
 have:2*d*(a+1)≤2*d*b:=Nat.mul_le_mul_left _ this
 rw [Nat.mul_add,Nat.mul_one] at this
 omega
theorem zgT {a n:Nat} (h:n<a):2^(a - n)=2*2^(a - 1 - n):=by rw [show a - n=(a - 1 - n)+1 from by omega,Nat.pow_succ,Nat.mul_comm]
theorem ybH (a b:Nat) (h:b≤a):2^a % 2^b=0:=Nat.mod_eq_zero_of_dvd (Nat.pow_dvd_pow 2 h)
theorem ygW {hi n:Nat} (f:hi<18446744073709551616) (d:n<64) (h:hi % 2^(64 - n)=0):hi+2^(63 - n)<18446744073709551616:=by
 rw [zgT d] at h
 exact zzI h _ (by rw [←zgT d,show 18446744073709551616=2^64 from by decide];exact ybH _ _ (by omega)) f
theorem z7E {lo n:Nat} (f:lo<18446744073709551616) (i:64≤n) (d:n<128) (h:lo % 2^(128 - n)=0):lo+2^(127 - n)<18446744073709551616:=by
 rw [zgT d] at h
 exact zzI h _ (by rw [←zgT d,show 18446744073709551616=2^64 from by decide];exact ybH _ _ (by omega)) f
theorem z9J {x:Nat} (s:Nat) (j:x+2^s<18446744073709551616) (h:x % 2^(s+1)=0):bits .or .u64 (x:Int) ((2:Int)^s)=(x:Int)+(2:Int)^s:=by
 have f:((2:Int)^s)=((2^s:Nat):Int):=by simp
 have m:2^s<2^(s+1):=Nat.pow_lt_pow_right (by decide) (by omega)
 have i:((x:Int) % 2^(s+1))=0:=by
  have:=congrArg (Nat.cast (R:=Int)) h
  simpa using this
 have d:((2^s:Nat):Int)<2^(s+1):=by
  have:(((2^s:Nat):Int))<((2^(s+1):Nat):Int):=by omega
  simpa using this
 rw [f]
 exact zxX (s+1) (x:Int) ((2^s:Nat):Int) (by omega) i (by omega) (by omega) d (by omega)
theorem zyU (m:Nat) (h:m<18446744073709551616):IntKind.u64.wrap (m:Int)=(m:Int):=by rw [IntKind.wrap_u64];omega
theorem or_zero (x:Nat) (h:x<18446744073709551616):bits .or .u64 (x:Int) 0=(x:Int):=by
 rw [show (0:Int)=((0:Nat):Int) from rfl,u64_or_nat x 0 h (by decide),Nat.or_zero]
theorem ydY (x y a:Nat):zaL (x+a) y=zaL x y+a*2^64:=by unfold zaL;rw [Nat.add_mul,Nat.add_right_comm]
theorem yeK (x y a:Nat):zaL x (y+a)=zaL x y+a:=by unfold zaL;rw [Nat.add_assoc]
def zlD (x:R9):List Value:=[.int .u64 (hiN x.W:Nat),.int .u64 (loN x.W:Nat),.int .i64 (x.n:Nat),.string ⟨x.s.toArray⟩]
def zwK:Array Value:=(T9L.flatMap zlD).toArray
theorem zzV: ∀(l:List R9) (j:Nat) (x:R9),l[j]? =some x→ ∀i,i<4→(l.flatMap zlD)[j*4+i]? =(zlD x)[i]?
 |[],j,x,h,i,hi=>by simp at h
 |y::l,0,x,h,i,hi=>by
  simp only [List.getElem?_cons_zero,Option.some.injEq] at h
  subst h
  rw [List.flatMap_cons,List.getElem?_append_left (by simp [zlD];omega)]
  simp
 |y::l,j+1,x,h,i,hi=>by
  rw [List.flatMap_cons,List.getElem?_append_right (by simp [zlD];omega),show (j+1)*4+i - (zlD y).length=j*4+i from by simp [zlD];omega]
  exact zzV l j x (by simpa using h) i hi
theorem tab_at {W:World} {b:Nat} {t:TypeId} (h:W.heap[b]? =some (.cells zwK t)) {j:Nat} {x:R9} (f:T9[j]? =some x):
  W.cell? ⟨b,j*4,none⟩=some (.int .u64 (hiN x.W:Nat))∧W.cell? ⟨b,j*4+1,none⟩=some (.int .u64 (loN x.W:Nat))∧W.cell? ⟨b,j*4+2,none⟩=some (.int .i64 (x.n:Nat))∧W.cell? ⟨b,j*4+3,none⟩=some (.string ⟨x.s.toArray⟩):=by
 have g: ∀i u,i<4→(zlD x)[i]? =some u→W.cell? ⟨b,j*4+i,none⟩=some u:=fun i u hi d=>by
  have q:zwK[j*4+i]? =some u:=by
   unfold zwK
   rw [←yfO,List.getElem?_toArray,zzV T9 j x f i hi,d]
  simp [World.cell?,h,q]
 exact ⟨g 0 _ (by omega) rfl,g 1 _ (by omega) rfl,g 2 _ (by omega) rfl,g 3 _ (by omega) rfl⟩
theorem Blks.q4 {L:List (Nat×Array Value×TypeId)} {W:World} (h:Blks L W) {b:Nat} {i j m f:Value} {t:TypeId} (d:(b,#[i,j,m,f],t)∈L):
  b<W.heap.size∧W.cell? ⟨b,0,none⟩=some i∧W.cell? ⟨b,1,none⟩=some j∧W.cell? ⟨b,2,none⟩=some m∧W.cell? ⟨b,3,none⟩=some f:=
 ⟨h.lt d,zaB (h _ d) 0,zaB (h _ d) 1,zaB (h _ d) 2,zaB (h _ d) 3⟩
theorem Blks.fq4 {L:List (Nat×Array Value×TypeId)} {W:World} (h:Blks L W) {b:Nat} {i j m f:Value} {t:TypeId} (d:(b,#[i,j,m,f],t)∈L):
  W.frozen? ⟨b,0,none⟩=false∧W.frozen? ⟨b,1,none⟩=false∧W.frozen? ⟨b,2,none⟩=false∧W.frozen? ⟨b,3,none⟩=false:=
 ⟨zaF (h _ d) 0,zaF (h _ d) 1,zaF (h _ d) 2,zaF (h _ d) 3⟩
theorem zwP {a w:World} (h:Below a.heap.size a w) {b:Nat} (d:a.heap.size≤b) (f m i j:Value):Below a.heap.size a ((((w.setCell ⟨b,0,none⟩ f).setCell ⟨b,1,none⟩ m).setCell ⟨b,2,none⟩ i).setCell ⟨b,3,none⟩ j):=
 (((h.setCell (p:=⟨b,0,none⟩) d f).setCell (p:=⟨b,1,none⟩) d m).setCell (p:=⟨b,2,none⟩) d i).setCell (p:=⟨b,3,none⟩) d j
theorem z5A {w:World} {b:Nat} {o A B m:Value} {t:TypeId} (h:w.heap[b]? =some (.cells #[o,A,B,m] t)) (d j f i:Value):((((w.setCell ⟨b,0,none⟩ d).setCell ⟨b,1,none⟩ j).setCell ⟨b,2,none⟩ f).setCell ⟨b,3,none⟩ i).heap[b]? =some (.cells #[d,j,f,i] t):=
 zaK (zaK (zaK (zaK h 0 d) 1 j) 2 f) 3 i
theorem yiW {j:Nat} {x:R9} (h:T9[j]? =some x):x.n≤128∧rt x.W x.n∧x.W<2^128:=ydM x (List.mem_of_getElem? h)
theorem T9_get {j:Nat} (h:j<27): ∃x,T9[j]? =some x:=⟨_,List.getElem?_eq_getElem (by rw [ygI];exact h)⟩
noncomputable def lay9 (v:Int) (t:PT):PT:=T9.foldl (fun t r=>t.put r.W r.n v) t
noncomputable def zkT (v:Int) (j:Nat) (t:PT):PT:=(T9.take j).foldl (fun t r=>t.put r.W r.n v) t
theorem zlA {v:Int} {j:Nat} {t:PT} {x:R9} (h:T9[j]? =some x):zkT v (j+1) t=(zkT v j t).put x.W x.n v:=by
 unfold zkT
 rw [List.take_add_one,h,List.foldl_append];rfl
theorem ztP (v:Int) (t:PT):zkT v 27 t=lay9 v t:=by
 unfold zkT lay9;rw [List.take_of_length_le (by rw [ygI];exact Nat.le_refl _)]
theorem zmU {v:Int} {t:PT} (h:t.Inv 0 0): ∀j,(zkT v j t).Inv 0 0:=fun j=>by
 induction j with
 |zero=>exact h
 |succ j d=>
  cases e:T9[j]? with
  |none=>unfold zkT at d ⊢;rw [List.take_add_one,e];simpa using d
  |some x=>
   rw [zlA e]
   obtain ⟨f,i,m⟩:=yiW e
   exact PT.put_inv d f i (zuB m) (Nat.zero_le _)
theorem z0X {v:Int} {t:PT} (h:t.Inv 0 0) {j:Nat} {x:R9} (e:T9[j]? =some x):(zkT v (j+1) t).list=putL (zkT v j t).list x.W x.n v:=by
 rw [zlA e]
 obtain ⟨d,f,i⟩:=yiW e
 exact PT.put_list (zmU h j) d f i
theorem z8R {l:List En} (d:l.Pairwise En.lt) (P k:Nat) (v:Int):(putL l P k v).length≤l.length+1:=by
 rw [zqP d];split<;>omega
theorem z3E {v:Int} {t:PT} (h:t.Inv 0 0): ∀j,(zkT v j t).list.length≤t.list.length+j:=fun j=>by
 induction j with
 |zero=>exact Nat.le_refl _
 |succ j d=>
  cases e:T9[j]? with
  |none=>unfold zkT at d ⊢;rw [List.take_add_one,e];simp at d ⊢;omega
  |some x=>
   rw [z0X h e]
   have:=z8R (PT.sorted (zmU (v:=v) h j)) x.W x.n v
   omega
theorem yfF (v:Int):(lay9 v .nil).list.length=27:=by unfold lay9;rw [yfO];kernel_rfl
theorem z6M:PT.nil.Inv 0 0:=trivial
theorem yiP {v:Int} {t:PT} (h:t.Inv 0 0):(lay9 v t).Inv 0 0:=by
 have q:=zmU (v:=v) h 27
 rwa [ztP v t] at q
theorem zbE (s n:ByteArray) (W k:Nat) (w:World) (H:s.size≤1073741824) (i:MaxVar w) (C:zaV s.data.toList=some (W,k)):
  Calls Tryz.prog 244 #[.string s,.string n] w fun e w'=>e= .returned (.agg #[.int .u64 (hiN W:Nat),.int .u64 (loN W:Nat),.int .i64 (k:Nat),.string n])∧Below w.heap.size w w':=by
 have D:=Lib.hid C
 have G:=Lib.hid i
 clear C i
 go_enter Tryz.func244,Tryz.ntmps244
 go_wp2_with fail
 refine (z2C _ _ H (zaA G.out ((Below.refl _ _).alloc (Nat.le_refl _) _))).mono ?_
 rw [D.out]
 rintro e U ⟨rfl,f⟩
 simp only [optP,pfW,pfV,Option.isSome]
 have j:=Lib.hid ((((Blks.empty w).new #[.int .u64 0,.int .u64 0,.int .i64 0,.string ⟨#[]⟩] 234).keep f).new #[.int .u64 (hiN W:Nat),.int .u64 (loN W:Nat),.int .i64 (k:Nat)] 183)
 have A:=Lib.hid ((zhU f).alloc (zhU f).size (.cells #[.int .u64 (hiN W:Nat),.int .u64 (loN W:Nat),.int .i64 (k:Nat)] 183))
 clear f
 obtain ⟨V,Q,M,J,N⟩:=j.out.q4 (.tail _ (.head _))
 obtain ⟨K,S,I,O⟩:=j.out.fq4 (.tail _ (.head _))
 have d:=z5A (j.out (w.heap.size,_,_) (.tail _ (.head _))) (.int .u64 (hiN W:Nat)) (.int .u64 (loN W:Nat)) (.int .i64 (k:Nat)) (.string n)
 have m:=zaB d 0
 have o:=zaB d 1
 have r2:=zaB d 2
 have r3:=zaB d 3
 have B:=Lib.hid (zwP A.out (Nat.le_refl _) (.int .u64 (hiN W:Nat)) (.int .u64 (loN W:Nat)) (.int .i64 (k:Nat)) (.string n))
 simp at m o r2 r3
 have E:=Lib.hid (And.intro m (And.intro o (And.intro r2 r3)))
 clear m o r2 r3 d
 go_wp2
 obtain ⟨m,o,r2,r3⟩:=E.out
 refine bodyPost_ret (v:= .agg #[.int .u64 (hiN W:Nat),.int .u64 (loN W:Nat),.int .i64 (k:Nat),.string n]) (by simp [results,Tryz.results244,go_sem,m,o,r2,r3]) rfl ⟨rfl,?_⟩
 exact B.out
theorem z4E (w:World) (S:MaxVar w):
  Calls Tryz.prog 187 #[] w fun e w'=> ∃b,e= .returned (.slice (some ⟨b,0,none⟩) 27 27)∧w.heap.size≤b∧w'.heap[b]? =some (.cells zwK 234)∧Below w.heap.size w w':=by
 have f:=Lib.hid S
 clear S
 have X:Below w.heap.size w w:=Below.refl _ _
 go_enter Tryz.func187,Tryz.ntmps187
 go_wp2_with fail
 refine (zbE _ _ 281470681743360 104 _ (by decide) (zaA f.out X) p9_0).mono ?_
 rintro e x1 ⟨rfl,d⟩
 have qa:=zaC X d
 clear d X
 go_wp2_with fail
 refine (zbE _ _ 281470849515520 104 _ (by decide) (zaA f.out qa) p9_1).mono ?_
 rintro e x2 ⟨rfl,d⟩
 have U:=zaC qa d
 clear d qa
 go_wp2_with fail
 refine (zbE _ _ 281472363659264 106 _ (by decide) (zaA f.out U) p9_2).mono ?_
 rintro e x3 ⟨rfl,d⟩
 have Z:=zaC U d
 clear d U
 go_wp2_with fail
 refine (zbE _ _ 281472812449792 104 _ (by decide) (zaA f.out Z) p9_3).mono ?_
 rintro e x4 ⟨rfl,d⟩
 have qe:=zaC Z d
 clear d Z
 go_wp2_with fail
 refine (zbE _ _ 281473533739008 112 _ (by decide) (zaA f.out qe) p9_4).mono ?_
 rintro e x5 ⟨rfl,d⟩
 have Y:=zaC qe d
 clear d qe
 go_wp2_with fail
 refine (zbE _ _ 281473568473088 108 _ (by decide) (zaA f.out Y) p9_5).mono ?_
 rintro e x6 ⟨rfl,d⟩
 have V:=zaC Y d
 clear d Y
 go_wp2_with fail
 refine (zbE _ _ 281473902968832 120 _ (by decide) (zaA f.out V) p9_6).mono ?_
 rintro e x7 ⟨rfl,d⟩
 have qd:=zaC V d
 clear d V
 go_wp2_with fail
 refine (zbE _ _ 281473902969344 120 _ (by decide) (zaA f.out qd) p9_7).mono ?_
 rintro e x8 ⟨rfl,d⟩
 have qc:=zaC qd d
 clear d qd
 go_wp2_with fail
 refine (zbE _ _ 281473908761344 120 _ (by decide) (zaA f.out qc) p9_8).mono ?_
 rintro e x9 ⟨rfl,d⟩
 have qf:=zaC qc d
 clear d qc
 go_wp2_with fail
 refine (zbE _ _ 281473913978880 112 _ (by decide) (zaA f.out qf) p9_9).mono ?_
 rintro e qp ⟨rfl,d⟩
 have I:=zaC qf d
 clear d qf
 go_wp2_with fail
 refine (zbE _ _ 281474004811776 111 _ (by decide) (zaA f.out I) p9_10).mono ?_
 rintro e qw ⟨rfl,d⟩
 have N:=zaC I d
 clear d I
 go_wp2_with fail
 refine (zbE _ _ 281474007000064 120 _ (by decide) (zaA f.out N) p9_11).mono ?_
 rintro e qi ⟨rfl,d⟩
 have D:=zaC N d
 clear d N
 go_wp2_with fail
 refine (zbE _ _ 281474087547136 120 _ (by decide) (zaA f.out D) p9_12).mono ?_
 rintro e qg ⟨rfl,d⟩
 have H:=zaC D d
 clear d D
 go_wp2_with fail
 refine (zbE _ _ 281474439839744 100 _ (by decide) (zaA f.out H) p9_13).mono ?_
 rintro e qr ⟨rfl,d⟩
 have G:=zaC H d
 clear d H
 go_wp2_with fail
 refine (zbE _ _ 281474708275200 100 _ (by decide) (zaA f.out G) p9_14).mono ?_
 rintro e qo ⟨rfl,d⟩
 have M:=zaC G d
 clear d G
 go_wp2_with fail
 refine (zbE _ _ 0 128 _ (by decide) (zaA f.out M) p9_15).mono ?_
 rintro e qh ⟨rfl,d⟩
 have K:=zaC M d
 clear d M
 go_wp2_with fail
 refine (zbE _ _ 1 128 _ (by decide) (zaA f.out K) p9_16).mono ?_
 rintro e qm ⟨rfl,d⟩
 have i:=zaC K d
 clear d K
 go_wp2_with fail
 refine (zbE _ _ 524413980668812575603097810486951936 48 _ (by decide) (zaA f.out i) p9_17).mono ?_
 rintro e qs ⟨rfl,d⟩
 have B:=zaC i d
 clear d i
 go_wp2_with fail
 refine (zbE _ _ 1329227995784915872903807060280344576 64 _ (by decide) (zaA f.out B) p9_18).mono ?_
 rintro e ql ⟨rfl,d⟩
 have C:=zaC B d
 clear d B
 go_wp2_with fail
 refine (zbE _ _ 42540488161975842760550356425300246528 23 _ (by decide) (zaA f.out C) p9_19).mono ?_
 rintro e qy ⟨rfl,d⟩
 have O:=zaC C d
 clear d C
 go_wp2_with fail
 refine (zbE _ _ 42540766411282592856903984951653826560 32 _ (by decide) (zaA f.out O) p9_20).mono ?_
 rintro e qv ⟨rfl,d⟩
 have m:=zaC O d
 clear d O
 go_wp2_with fail
 refine (zbE _ _ 85065399433376081038215121361612832768 20 _ (by decide) (zaA f.out m) p9_21).mono ?_
 rintro e qx ⟨rfl,d⟩
 have o:=zaC m d
 clear d m
 go_wp2_with fail
 refine (zbE _ _ 126276659599567007925861670726632734720 16 _ (by decide) (zaA f.out o) p9_22).mono ?_
 rintro e qj ⟨rfl,d⟩
 have j:=zaC o d
 clear d o
 go_wp2_with fail
 refine (zbE _ _ 334965454937798799971759379190646833152 7 _ (by decide) (zaA f.out j) p9_23).mono ?_
 rintro e qq ⟨rfl,d⟩
 have Q:=zaC j d
 clear d j
 go_wp2_with fail
 refine (zbE _ _ 338288524927261089654018896841347694592 10 _ (by decide) (zaA f.out Q) p9_24).mono ?_
 rintro e qk ⟨rfl,d⟩
 have E:=zaC Q d
 clear d Q
 go_wp2_with fail
 refine (zbE _ _ 338620831926207318622244848606417780736 10 _ (by decide) (zaA f.out E) p9_25).mono ?_
 rintro e qn ⟨rfl,d⟩
 have J:=zaC E d
 clear d E
 go_wp2_with fail
 refine (zbE _ _ 338953138925153547590470800371487866880 8 _ (by decide) (zaA f.out J) p9_26).mono ?_
 rintro e qb ⟨rfl,d⟩
 have A:=zaC J d
 clear d J
 have hn: ∀t,(qb.alloc (.cells zwK t)).heap[qb.heap.size]? =some (.cells zwK t):=fun t=>Go.Deep.blk_alloc_new _ _
 go_wp2
 go_ret
 exact ⟨qb.heap.size,rfl,A.size,hn _,A.alloc A.size _⟩
end
end Go.Proofs.YtegmcmgndllmaaaGreatDoor
