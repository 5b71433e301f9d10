/-
  What the law WhatwgClean leans on, and its walk (22 of 31).
-/
import Derived.Lib.ItoaLen
import Derived.Test.YthacmlahnpdeeaaGreatDoorWhatwgCleanPkM
namespace Go.Proofs.YthacmlahnpdeeaaGreatDoor
set_option maxRecDepth 100000
set_option maxHeartbeats 16000000
section
open Go.RowKit
theorem ycR (n:Int) (w:World) (h0: -9223372036854775808≤n) (h1:n≤9223372036854775807) (htab:PowTab w):
  Calls Tryz.prog 108 #[.int .i64 n] w (zeB w (Lib.itoa n)):=by
 refine (Tryz.strconv_Itoa n h0 h1 w htab).mono ?_
 rintro e w' ⟨rfl,k,os,rfl⟩
 exact ⟨rfl,Lib.below_grow _ _ (Nat.le_refl _) _ _⟩
theorem zbZ {x W:World} (h:Below x.drew.heap.size x.drew W):Below x.heap.size x W:=(Below.refl _ _).drew.trans h
end

section
open Go.RowKit
/-- the listed blocks hold what is listed -/
def Blks (L:List (Nat×Array Value×TypeId)) (W:World):Prop:= ∀e∈L,W.heap[e.1]? =some (.cells e.2.1 e.2.2)
theorem Blks.empty (W:World):Blks [] W:=fun e he=>by cases he
theorem Blks.keep {L:List (Nat×Array Value×TypeId)} {x y:World} (h:Blks L x) (hb:Below x.heap.size x y):Blks L y:=fun e he=>(hb.block e.1 (zaC (h e he))).trans (h e he)
theorem Blks.new {L:List (Nat×Array Value×TypeId)} {x:World} (h:Blks L x) (c:Array Value) (t:TypeId):Blks ((x.heap.size,c,t)::L) (x.alloc (.cells c t)):=fun e he=>by
 rcases List.mem_cons.1 he with g|g
 ·rw [g];exact Go.Deep.blk_alloc_new _ _
 ·exact h.keep ((Below.refl _ _).alloc (Nat.le_refl _) _) e g
theorem Blks.lt {L:List (Nat×Array Value×TypeId)} {x:World} (h:Blks L x) {b:Nat} {c:Array Value} {t:TypeId} (hm:(b,c,t)∈L):b<x.heap.size:=zaC (h _ hm)
theorem Blks.r3 {L:List (Nat×Array Value×TypeId)} {W:World} (h:Blks L W) {b:Nat} {x y z:Value} {t:TypeId} (hm:(b,#[x,y,z],t)∈L):
  b<W.heap.size∧W.cell? ⟨b,0,none⟩=some x∧W.cell? ⟨b,1,none⟩=some y∧W.cell? ⟨b,2,none⟩=some z:=⟨h.lt hm,(row3 (h _ hm)).1⟩
theorem Blks.r2 {L:List (Nat×Array Value×TypeId)} {W:World} (h:Blks L W) {b:Nat} {x y:Value} {t:TypeId} (hm:(b,#[x,y],t)∈L):
  b<W.heap.size∧W.cell? ⟨b,0,none⟩=some x∧W.cell? ⟨b,1,none⟩=some y:=⟨h.lt hm,zaD (h _ hm) 0,zaD (h _ hm) 1⟩
end

section
open Go.RowKit
def zmC (x:R9):List Value:=[.int .u64 (hiN x.W:Nat),.int .u64 (loN x.W:Nat),.int .i64 (x.n:Nat),.string ⟨x.s.toArray⟩]
/-- the table's cells -/
def z0G:Array Value:=(T9L.flatMap zmC).toArray
theorem z2Q: ∀(l:List R9) (j:Nat) (x:R9),l[j]? =some x→ ∀i,i<4→(l.flatMap zmC)[j*4+i]? =(zmC x)[i]?
 |[],j,x,h,i,hi=>by simp at h
 |y::l,0,x,h,i,hi=>by
  simp only [List.getElem?_cons_zero,Option.some.injEq] at h
  subst h
  rw [List.flatMap_cons,List.getElem?_append_left (by simp [zmC];omega)]
  simp
 |y::l,j+1,x,h,i,hi=>by
  rw [List.flatMap_cons,List.getElem?_append_right (by simp [zmC];omega),show (j+1)*4+i - (zmC y).length=j*4+i from by simp [zmC];omega]
  exact z2Q l j x (by simpa using h) i hi
/-- the table in memory,at a block -/
theorem yiU {W:World} {b:Nat} {t:TypeId} (h:W.heap[b]? =some (.cells z0G t)) {j:Nat} {x:R9} (hx:T9[j]? =some x):
  W.cell? ⟨b,j*4,none⟩=some (.int .u64 (hiN x.W:Nat))∧W.cell? ⟨b,j*4+1,none⟩=some (.int .u64 (loN x.W:Nat))∧W.cell? ⟨b,j*4+2,none⟩=some (.int .i64 (x.n:Nat))∧W.cell? ⟨b,j*4+3,none⟩=some (.string ⟨x.s.toArray⟩):=by
 have g: ∀i u,i<4→(zmC x)[i]? =some u→W.cell? ⟨b,j*4+i,none⟩=some u:=fun i u hi hu=>by
  have q:z0G[j*4+i]? =some u:=by
   unfold z0G
   rw [←z0F,List.getElem?_toArray,z2Q T9 j x hx i hi,hu]
  simp [World.cell?,h,q]
 exact ⟨g 0 _ (by omega) rfl,g 1 _ (by omega) rfl,g 2 _ (by omega) rfl,g 3 _ (by omega) rfl⟩
theorem Blks.q4 {L:List (Nat×Array Value×TypeId)} {W:World} (h:Blks L W) {b:Nat} {c0 c1 c2 c3:Value} {t:TypeId} (hm:(b,#[c0,c1,c2,c3],t)∈L):
  b<W.heap.size∧W.cell? ⟨b,0,none⟩=some c0∧W.cell? ⟨b,1,none⟩=some c1∧W.cell? ⟨b,2,none⟩=some c2∧W.cell? ⟨b,3,none⟩=some c3:=
 ⟨h.lt hm,zaD (h _ hm) 0,zaD (h _ hm) 1,zaD (h _ hm) 2,zaD (h _ hm) 3⟩
theorem Blks.fq4 {L:List (Nat×Array Value×TypeId)} {W:World} (h:Blks L W) {b:Nat} {c0 c1 c2 c3:Value} {t:TypeId} (hm:(b,#[c0,c1,c2,c3],t)∈L):
  W.frozen? ⟨b,0,none⟩=false∧W.frozen? ⟨b,1,none⟩=false∧W.frozen? ⟨b,2,none⟩=false∧W.frozen? ⟨b,3,none⟩=false:=
 ⟨zaK (h _ hm) 0,zaK (h _ hm) 1,zaK (h _ hm) 2,zaK (h _ hm) 3⟩
theorem zzQ {a w:World} (h:Below a.heap.size a w) {b:Nat} (hb:a.heap.size≤b) (x0 x1 x2 x3:Value):Below a.heap.size a ((((w.setCell ⟨b,0,none⟩ x0).setCell ⟨b,1,none⟩ x1).setCell ⟨b,2,none⟩ x2).setCell ⟨b,3,none⟩ x3):=
 (((h.setCell (p:=⟨b,0,none⟩) hb x0).setCell (p:=⟨b,1,none⟩) hb x1).setCell (p:=⟨b,2,none⟩) hb x2).setCell (p:=⟨b,3,none⟩) hb x3
theorem ycN {w:World} {b:Nat} {c0 c1 c2 c3:Value} {t:TypeId} (h:w.heap[b]? =some (.cells #[c0,c1,c2,c3] t)) (x0 x1 x2 x3:Value):((((w.setCell ⟨b,0,none⟩ x0).setCell ⟨b,1,none⟩ x1).setCell ⟨b,2,none⟩ x2).setCell ⟨b,3,none⟩ x3).heap[b]? =some (.cells #[x0,x1,x2,x3] t):=
 zaP (zaP (zaP (zaP h 0 x0) 1 x1) 2 x2) 3 x3
theorem ygI {j:Nat} {x:R9} (h:T9[j]? =some x):x.n≤128∧rt x.W x.n∧x.W<2^128:=yeJ x (List.mem_of_getElem? h)
theorem yiV {j:Nat} (h:j<27): ∃x,T9[j]? =some x:=⟨_,List.getElem?_eq_getElem (by rw [z8O];exact h)⟩
/-- the first that has an address -/
noncomputable def zxP (p:Nat→Nat→Bool):Option R9:=T9.find? fun r=>p r.W r.n
theorem zuN {p:R9→Bool}: ∀{l:List R9} {j:Nat} {x:R9},l[j]? =some x→(∀i y,i<j→l[i]? =some y→p y=false)→p x=true→l.find? p=some x
 |[],j,x,h,_,_=>by simp at h
 |y::l,0,x,h,_,hp=>by
  simp only [List.getElem?_cons_zero,Option.some.injEq] at h
  subst h
  simp [List.find?,hp]
 |y::l,j+1,x,h,ho,hp=>by
  have:=ho 0 y (by omega) rfl
  simp only [List.find?,this]
  exact zuN (j:=j) (by simpa using h) (fun i z hi hz=>ho (i+1) z (by omega) (by simpa using hz)) hp
theorem ygR {p:R9→Bool} {l:List R9} (h: ∀i y,i<l.length→l[i]? =some y→p y=false):l.find? p=none:=by
 rw [List.find?_eq_none]
 intro x hx
 obtain ⟨i,hi,e⟩:=List.getElem_of_mem hx
 rw [h i x hi (by rw [List.getElem?_eq_getElem hi,e])]
 simp
def yeA:Option R9→Value
 |none=> .tuple #[.string ⟨#[]⟩,.bool false]
 |some r=> .tuple #[.string ⟨r.s.toArray⟩,.bool true]
/-- the table,put with one verdict -/
noncomputable def lay9 (v:Int) (t:PT):PT:=T9.foldl (fun t r=>t.put r.W r.n v) t
noncomputable def zlZ (v:Int) (j:Nat) (t:PT):PT:=(T9.take j).foldl (fun t r=>t.put r.W r.n v) t
theorem zlQ {v:Int} {j:Nat} {t:PT} {x:R9} (h:T9[j]? =some x):zlZ v (j+1) t=(zlZ v j t).put x.W x.n v:=by
 unfold zlZ
 rw [List.take_add_one,h,List.foldl_append];rfl
theorem zvX (v:Int) (t:PT):zlZ v 27 t=lay9 v t:=by
 unfold zlZ lay9;rw [List.take_of_length_le (by rw [z8O];exact Nat.le_refl _)]
theorem znL {v:Int} {t:PT} (h:t.Inv 0 0): ∀j,(zlZ v j t).Inv 0 0:=fun j=>by
 induction j with
 |zero=>exact h
 |succ j ih=>
  cases e:T9[j]? with
  |none=>unfold zlZ at ih ⊢;rw [List.take_add_one,e];simpa using ih
  |some x=>
   rw [zlQ e]
   obtain ⟨h1,h2,h3⟩:=ygI e
   exact PT.put_inv ih h1 h2 (zxE h3) (Nat.zero_le _)
theorem z3M {v:Int} {t:PT} (h:t.Inv 0 0) {j:Nat} {x:R9} (e:T9[j]? =some x):(zlZ v (j+1) t).list=putL (zlZ v j t).list x.W x.n v:=by
 rw [zlQ e]
 obtain ⟨h1,h2,h3⟩:=ygI e
 exact PT.put_list (znL h j) h1 h2 h3
theorem z7Z {l:List En} (hs:l.Pairwise En.lt) (P k:Nat) (v:Int):(putL l P k v).length≤l.length+1:=by
 rw [ztE hs];split<;>omega
theorem z6R {v:Int} {t:PT} (h:t.Inv 0 0): ∀j,(zlZ v j t).list.length≤t.list.length+j:=fun j=>by
 induction j with
 |zero=>exact Nat.le_refl _
 |succ j ih=>
  cases e:T9[j]? with
  |none=>unfold zlZ at ih ⊢;rw [List.take_add_one,e];simp at ih ⊢;omega
  |some x=>
   rw [z3M h e]
   have:=z7Z (PT.sorted (znL (v:=v) h j)) x.W x.n v
   omega
theorem yhY (v:Int):(lay9 v .nil).list.length=27:=by unfold lay9;rw [z0F];kernel_rfl
theorem z7H:PT.nil.Inv 0 0:=trivial
theorem yjF {v:Int} {t:PT} (h:t.Inv 0 0):(lay9 v t).Inv 0 0:=by
 have q:=znL (v:=v) h 27
 rwa [zvX v t] at q
end

section
open Go.RowKit
theorem ygP (P i:Nat) (h:i<128):ofW P (i+1)=ofW P i+bitW P i*2^(127 - i):=by
 show qt P (i+1)*2^(128 - (i+1))=qt P i*2^(128 - i)+_
 rw [zeE P i h,show 128 - (i+1)=127 - i from by omega,show 128 - i=(127 - i)+1 from by omega,Nat.pow_succ,Nat.add_mul,Nat.mul_comm 2 (qt P i),Nat.mul_assoc,Nat.mul_comm 2]
theorem rt_hi {hi lo n:Nat} (h2:lo<18446744073709551616) (hn:n<64) (h:rt (zaH hi lo) n):hi % 2^(64 - n)=0:=by
 have e:=yiD h
 have e2:(2:Nat)^(128 - n)=2^(64 - n)*18446744073709551616:=by rw [show 18446744073709551616=2^64 from by decide,←Nat.pow_add];congr 1;omega
 have e3:hi=qt (zaH hi lo) n*2^(64 - n):=by
  have q:=zeS (hi:=hi) h2
  rw [e,e2,←Nat.mul_assoc] at q
  unfold hiN at q
  rw [Nat.mul_div_cancel _ (by decide)] at q
  exact q.symm
 rw [e3];exact Nat.mul_mod_left _ _
theorem yjT {hi lo n:Nat} (hn:64≤n) (hn2:n≤128) (h:rt (zaH hi lo) n):lo % 2^(128 - n)=0:=by
 have e:(18446744073709551616:Nat)=2^(128 - n)*2^(n - 64):=by rw [←Nat.pow_add,show 128 - n+(n - 64)=64 from by omega]
 have d:2^(128 - n)∣zaH hi lo:=Nat.dvd_of_mod_eq_zero h
 have d2:2^(128 - n)∣hi*2^64:=by
  rw [show (2:Nat)^64=18446744073709551616 from by decide,e]
  exact ⟨hi*2^(n - 64),by ac_rfl⟩
 have d3:2^(128 - n)∣zaH hi lo - hi*2^64:=Nat.dvd_sub d d2
 rw [show zaH hi lo - hi*2^64=lo from by unfold zaH;omega] at d3
 exact Nat.mod_eq_zero_of_dvd d3
theorem z2X {x d:Nat} (hx:x % (2*d)=0) (N:Nat) (hN:N % (2*d)=0) (h:x<N):x+d<N:=by
 obtain ⟨a,rfl⟩:=Nat.dvd_of_mod_eq_zero hx
 obtain ⟨b,rfl⟩:=Nat.dvd_of_mod_eq_zero hN
 have:a<b:=Nat.lt_of_mul_lt_mul_left h
 have:2*d*(a+1)≤2*d*b:=Nat.mul_le_mul_left _ this
 rw [Nat.mul_add,Nat.mul_one] at this
 omega
theorem zhJ {a n:Nat} (h:n<a):2^(a - n)=2*2^(a - 1 - n):=by rw [show a - n=(a - 1 - n)+1 from by omega,Nat.pow_succ,Nat.mul_comm]
theorem z8Z (a b:Nat) (h:b≤a):2^a % 2^b=0:=Nat.mod_eq_zero_of_dvd (Nat.pow_dvd_pow 2 h)
theorem ylD {hi n:Nat} (h1:hi<18446744073709551616) (hn:n<64) (h:hi % 2^(64 - n)=0):hi+2^(63 - n)<18446744073709551616:=by
 rw [zhJ hn] at h
 exact z2X h _ (by rw [←zhJ hn,show 18446744073709551616=2^64 from by decide];exact z8Z _ _ (by omega)) h1
theorem z9F {lo n:Nat} (h1:lo<18446744073709551616) (hn:64≤n) (hn2:n<128) (h:lo % 2^(128 - n)=0):lo+2^(127 - n)<18446744073709551616:=by
 rw [zhJ hn2] at h
 exact z2X h _ (by rw [←zhJ hn2,show 18446744073709551616=2^64 from by decide];exact z8Z _ _ (by omega)) h1
theorem z9L {x:Nat} (s:Nat) (h1:x+2^s<18446744073709551616) (h:x % 2^(s+1)=0):bits .or .u64 (x:Int) ((2:Int)^s)=(x:Int)+(2:Int)^s:=by
 have hp:((2:Int)^s)=((2^s:Nat):Int):=by simp
 have hb:2^s<2^(s+1):=Nat.pow_lt_pow_right (by decide) (by omega)
 have hm:((x:Int) % 2^(s+1))=0:=by
  have:=congrArg (Nat.cast (R:=Int)) h
  simpa using this
 have hb2:((2^s:Nat):Int)<2^(s+1):=by
  have:(((2^s:Nat):Int))<((2^(s+1):Nat):Int):=by omega
  simpa using this
 rw [hp]
 exact z1D (s+1) (x:Int) ((2^s:Nat):Int) (by omega) hm (by omega) (by omega) hb2 (by omega)
theorem z1T (m:Nat) (h:m<18446744073709551616):IntKind.u64.wrap (m:Int)=(m:Int):=by rw [IntKind.wrap_u64];omega
theorem or_zero (x:Nat) (h:x<18446744073709551616):bits .or .u64 (x:Int) 0=(x:Int):=by
 rw [show (0:Int)=((0:Nat):Int) from rfl,u64_or_nat x 0 h (by decide),Nat.or_zero]
theorem ygG (x y a:Nat):zaH (x+a) y=zaH x y+a*2^64:=by unfold zaH;rw [Nat.add_mul,Nat.add_right_comm]
theorem ygD (x y a:Nat):zaH x (y+a)=zaH x y+a:=by unfold zaH;rw [Nat.add_assoc]
end

section
open Go.RowKit
theorem zbQ (s n:ByteArray) (W k:Nat) (w:World) (hs:s.size≤1073741824) (hmax:MaxVar w) (hp:zaV s.data.toList=some (W,k)):
  Calls Tryz.prog 261 #[.string s,.string n] w fun e w'=>e= .returned (.agg #[.int .u64 (hiN W:Nat),.int .u64 (loN W:Nat),.int .i64 (k:Nat),.string n])∧Below w.heap.size w w':=by
 have HP:=Lib.hid hp
 have HX:=Lib.hid hmax
 clear hp hmax
 go_enter Tryz.func261,Tryz.ntmps261
 go_wp2_with fail
 refine (zfC _ _ hs (zaB HX.out ((Below.refl _ _).alloc (Nat.le_refl _) _))).mono ?_
 rw [HP.out]
 rintro e x1 ⟨rfl,hb1⟩
 simp only [optP,pfW,pfV,Option.isSome]
 have HB1:=Lib.hid ((((Blks.empty w).new #[.int .u64 0,.int .u64 0,.int .i64 0,.string ⟨#[]⟩] 254).keep hb1).new #[.int .u64 (hiN W:Nat),.int .u64 (loN W:Nat),.int .i64 (k:Nat)] 235)
 have HW1:=Lib.hid ((zcG hb1).alloc (zcG hb1).size (.cells #[.int .u64 (hiN W:Nat),.int .u64 (loN W:Nat),.int .i64 (k:Nat)] 235))
 clear hb1
 obtain ⟨l1,d0,d1,d2,d3⟩:=HB1.out.q4 (.tail _ (.head _))
 obtain ⟨f0,f1,f2,f3⟩:=HB1.out.fq4 (.tail _ (.head _))
 have hrow:=ycN (HB1.out (w.heap.size,_,_) (.tail _ (.head _))) (.int .u64 (hiN W:Nat)) (.int .u64 (loN W:Nat)) (.int .i64 (k:Nat)) (.string n)
 have r0:=zaD hrow 0
 have r1:=zaD hrow 1
 have r2:=zaD hrow 2
 have r3:=zaD hrow 3
 have HB2:=Lib.hid (zzQ HW1.out (Nat.le_refl _) (.int .u64 (hiN W:Nat)) (.int .u64 (loN W:Nat)) (.int .i64 (k:Nat)) (.string n))
 simp at r0 r1 r2 r3
 have HR:=Lib.hid (And.intro r0 (And.intro r1 (And.intro r2 r3)))
 clear r0 r1 r2 r3 hrow
 go_wp2
 obtain ⟨r0,r1,r2,r3⟩:=HR.out
 refine bodyPost_ret (v:= .agg #[.int .u64 (hiN W:Nat),.int .u64 (loN W:Nat),.int .i64 (k:Nat),.string n]) (by simp [results,Tryz.results261,go_sem,r0,r1,r2,r3]) rfl ⟨rfl,?_⟩
 exact HB2.out
theorem zuT (w:World) (hmax:MaxVar w):
  Calls Tryz.prog 250 #[] w fun e w'=> ∃b,e= .returned (.slice (some ⟨b,0,none⟩) 27 27)∧w.heap.size≤b∧w'.heap[b]? =some (.cells z0G 254)∧Below w.heap.size w w':=by
 have HX:=Lib.hid hmax
 clear hmax
 have hb0:Below w.heap.size w w:=Below.refl _ _
 go_enter Tryz.func250,Tryz.ntmps250
 go_wp2_with fail
 refine (zbQ _ _ 281470681743360 104 _ (by decide) (zaB HX.out hb0) p9_0).mono ?_
 rintro e x1 ⟨rfl,hc⟩
 have hb1:=zaA hb0 hc
 clear hc hb0
 go_wp2_with fail
 refine (zbQ _ _ 281470849515520 104 _ (by decide) (zaB HX.out hb1) p9_1).mono ?_
 rintro e x2 ⟨rfl,hc⟩
 have hb2:=zaA hb1 hc
 clear hc hb1
 go_wp2_with fail
 refine (zbQ _ _ 281472363659264 106 _ (by decide) (zaB HX.out hb2) p9_2).mono ?_
 rintro e x3 ⟨rfl,hc⟩
 have hb3:=zaA hb2 hc
 clear hc hb2
 go_wp2_with fail
 refine (zbQ _ _ 281472812449792 104 _ (by decide) (zaB HX.out hb3) p9_3).mono ?_
 rintro e x4 ⟨rfl,hc⟩
 have hb4:=zaA hb3 hc
 clear hc hb3
 go_wp2_with fail
 refine (zbQ _ _ 281473533739008 112 _ (by decide) (zaB HX.out hb4) p9_4).mono ?_
 rintro e x5 ⟨rfl,hc⟩
 have hb5:=zaA hb4 hc
 clear hc hb4
 go_wp2_with fail
 refine (zbQ _ _ 281473568473088 108 _ (by decide) (zaB HX.out hb5) p9_5).mono ?_
 rintro e x6 ⟨rfl,hc⟩
 have hb6:=zaA hb5 hc
 clear hc hb5
 go_wp2_with fail
 refine (zbQ _ _ 281473902968832 120 _ (by decide) (zaB HX.out hb6) p9_6).mono ?_
 rintro e x7 ⟨rfl,hc⟩
 have hb7:=zaA hb6 hc
 clear hc hb6
 go_wp2_with fail
 refine (zbQ _ _ 281473902969344 120 _ (by decide) (zaB HX.out hb7) p9_7).mono ?_
 rintro e x8 ⟨rfl,hc⟩
 have hb8:=zaA hb7 hc
 clear hc hb7
 go_wp2_with fail
 refine (zbQ _ _ 281473908761344 120 _ (by decide) (zaB HX.out hb8) p9_8).mono ?_
 rintro e x9 ⟨rfl,hc⟩
 have hb9:=zaA hb8 hc
 clear hc hb8
 go_wp2_with fail
 refine (zbQ _ _ 281473913978880 112 _ (by decide) (zaB HX.out hb9) p9_9).mono ?_
 rintro e x10 ⟨rfl,hc⟩
 have hb10:=zaA hb9 hc
 clear hc hb9
 go_wp2_with fail
 refine (zbQ _ _ 281474004811776 111 _ (by decide) (zaB HX.out hb10) p9_10).mono ?_
 rintro e x11 ⟨rfl,hc⟩
 have hb11:=zaA hb10 hc
 clear hc hb10
 go_wp2_with fail
 refine (zbQ _ _ 281474007000064 120 _ (by decide) (zaB HX.out hb11) p9_11).mono ?_
 rintro e x12 ⟨rfl,hc⟩
 have hb12:=zaA hb11 hc
 clear hc hb11
 go_wp2_with fail
 refine (zbQ _ _ 281474087547136 120 _ (by decide) (zaB HX.out hb12) p9_12).mono ?_
 rintro e x13 ⟨rfl,hc⟩
 have hb13:=zaA hb12 hc
 clear hc hb12
 go_wp2_with fail
 refine (zbQ _ _ 281474439839744 100 _ (by decide) (zaB HX.out hb13) p9_13).mono ?_
 rintro e x14 ⟨rfl,hc⟩
 have hb14:=zaA hb13 hc
 clear hc hb13
 go_wp2_with fail
 refine (zbQ _ _ 281474708275200 100 _ (by decide) (zaB HX.out hb14) p9_14).mono ?_
 rintro e x15 ⟨rfl,hc⟩
 have hb15:=zaA hb14 hc
 clear hc hb14
 go_wp2_with fail
 refine (zbQ _ _ 0 128 _ (by decide) (zaB HX.out hb15) p9_15).mono ?_
 rintro e x16 ⟨rfl,hc⟩
 have hb16:=zaA hb15 hc
 clear hc hb15
 go_wp2_with fail
 refine (zbQ _ _ 1 128 _ (by decide) (zaB HX.out hb16) p9_16).mono ?_
 rintro e x17 ⟨rfl,hc⟩
 have hb17:=zaA hb16 hc
 clear hc hb16
 go_wp2_with fail
 refine (zbQ _ _ 524413980668812575603097810486951936 48 _ (by decide) (zaB HX.out hb17) p9_17).mono ?_
 rintro e x18 ⟨rfl,hc⟩
 have hb18:=zaA hb17 hc
 clear hc hb17
 go_wp2_with fail
 refine (zbQ _ _ 1329227995784915872903807060280344576 64 _ (by decide) (zaB HX.out hb18) p9_18).mono ?_
 rintro e x19 ⟨rfl,hc⟩
 have hb19:=zaA hb18 hc
 clear hc hb18
 go_wp2_with fail
 refine (zbQ _ _ 42540488161975842760550356425300246528 23 _ (by decide) (zaB HX.out hb19) p9_19).mono ?_
 rintro e x20 ⟨rfl,hc⟩
 have hb20:=zaA hb19 hc
 clear hc hb19
 go_wp2_with fail
 refine (zbQ _ _ 42540766411282592856903984951653826560 32 _ (by decide) (zaB HX.out hb20) p9_20).mono ?_
 rintro e x21 ⟨rfl,hc⟩
 have hb21:=zaA hb20 hc
 clear hc hb20
 go_wp2_with fail
 refine (zbQ _ _ 85065399433376081038215121361612832768 20 _ (by decide) (zaB HX.out hb21) p9_21).mono ?_
 rintro e x22 ⟨rfl,hc⟩
 have hb22:=zaA hb21 hc
 clear hc hb21
 go_wp2_with fail
 refine (zbQ _ _ 126276659599567007925861670726632734720 16 _ (by decide) (zaB HX.out hb22) p9_22).mono ?_
 rintro e x23 ⟨rfl,hc⟩
 have hb23:=zaA hb22 hc
 clear hc hb22
 go_wp2_with fail
 refine (zbQ _ _ 334965454937798799971759379190646833152 7 _ (by decide) (zaB HX.out hb23) p9_23).mono ?_
 rintro e x24 ⟨rfl,hc⟩
 have hb24:=zaA hb23 hc
 clear hc hb23
 go_wp2_with fail
 refine (zbQ _ _ 338288524927261089654018896841347694592 10 _ (by decide) (zaB HX.out hb24) p9_24).mono ?_
 rintro e x25 ⟨rfl,hc⟩
 have hb25:=zaA hb24 hc
 clear hc hb24
 go_wp2_with fail
 refine (zbQ _ _ 338620831926207318622244848606417780736 10 _ (by decide) (zaB HX.out hb25) p9_25).mono ?_
 rintro e x26 ⟨rfl,hc⟩
 have hb26:=zaA hb25 hc
 clear hc hb25
 go_wp2_with fail
 refine (zbQ _ _ 338953138925153547590470800371487866880 8 _ (by decide) (zaB HX.out hb26) p9_26).mono ?_
 rintro e x27 ⟨rfl,hc⟩
 have hb27:=zaA hb26 hc
 clear hc hb26
 have hn: ∀t,(x27.alloc (.cells z0G t)).heap[x27.heap.size]? =some (.cells z0G t):=fun t=>Go.Deep.blk_alloc_new _ _
 go_wp2
 go_ret
 exact ⟨x27.heap.size,rfl,hb27.size,hn _,hb27.alloc hb27.size _⟩
end

end Go.Proofs.YthacmlahnpdeeaaGreatDoor
