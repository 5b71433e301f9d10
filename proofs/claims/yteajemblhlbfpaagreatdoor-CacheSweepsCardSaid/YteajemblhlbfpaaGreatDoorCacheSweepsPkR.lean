/-
  What the law CacheSweeps leans on, and its walk (18 of 21).
-/
import Derived.RegionTactic
import Derived.Test.YteajemblhlbfpaaGreatDoorCacheSweepsPkC
import Derived.Test.YteajemblhlbfpaaGreatDoorCacheSweepsPkK
namespace Go.Proofs.YteajemblhlbfpaaGreatDoor
set_option maxRecDepth 100000
set_option maxHeartbeats 16000000
abbrev znN := @Lib.hid
abbrev znO := @Nat.le_refl
abbrev znP := @Go.RowKit.Below.refl
section
open Go.RowKit
theorem ziT (hi lo n:Nat) (w:World) (a:hi<18446744073709551616) (g:n<64):
  Calls Tryz.prog 142 #[.agg #[.int .u64 (hi:Nat),.int .u64 (lo:Nat),.int .i64 (n:Nat)],.int .i64 0] w fun e w'=>e= .returned (.agg #[.int .u64 ((hi:Nat)),.int .u64 (lo:Nat),.int .i64 ((n:Int)+1)])∧Below w.heap.size w w':=by
 have f:=or_zero hi a
 go_enter Tryz.func142,Tryz.ntmps142
 go_wp2
 go_region
 go_wp2
 refine bodyPost_ret (v:= .agg #[.int .u64 ((hi:Nat)),.int .u64 (lo:Nat),.int .i64 ((n:Int)+1)]) (by simp [results,Tryz.results142,go_sem]) rfl ⟨rfl,?_⟩
 exact (((znP _ _).alloc (znO _) _).alloc (by simp) _).drew
theorem zjX (hi lo n:Nat) (w:World) (j:hi<18446744073709551616) (i:lo<18446744073709551616) (f:n<64) (g:rt (zaE hi lo) n):
  Calls Tryz.prog 142 #[.agg #[.int .u64 (hi:Nat),.int .u64 (lo:Nat),.int .i64 (n:Nat)],.int .i64 1] w fun e w'=>e= .returned (.agg #[.int .u64 ((hi:Int)+2^(63 - n)),.int .u64 (lo:Nat),.int .i64 ((n:Int)+1)])∧Below w.heap.size w w':=by
 have a:=zmJ j f (rt_hi i f g)
 have p:=zjJ (63 - n) a (by rw [show (63 - n)+1=64 - n from by omega];exact rt_hi i f g)
 have o:IntKind.u64.wrap ((2:Int)^(63 - n))=(2:Int)^(63 - n):=by
  rw [show ((2:Int)^(63 - n))=((2^(63 - n):Nat):Int) from by simp]
  exact zgA _ (Nat.lt_of_le_of_lt (Nat.le_add_left _ _) a)
 go_enter Tryz.func142,Tryz.ntmps142
 go_wp2
 go_region
 go_wp2
 refine bodyPost_ret (v:= .agg #[.int .u64 ((hi:Int)+2^(63 - n)),.int .u64 (lo:Nat),.int .i64 ((n:Int)+1)]) (by simp [results,Tryz.results142,go_sem]) rfl ⟨rfl,?_⟩
 exact (((znP _ _).alloc (znO _) _).alloc (by simp) _).drew
theorem ziJ (hi lo n:Nat) (w:World) (f:lo<18446744073709551616) (i:64≤n) (a:n<128):
  Calls Tryz.prog 142 #[.agg #[.int .u64 (hi:Nat),.int .u64 (lo:Nat),.int .i64 (n:Nat)],.int .i64 0] w fun e w'=>e= .returned (.agg #[.int .u64 (hi:Nat),.int .u64 ((lo:Nat)),.int .i64 ((n:Int)+1)])∧Below w.heap.size w w':=by
 have g:=or_zero lo f
 go_enter Tryz.func142,Tryz.ntmps142
 go_wp2
 go_region
 go_wp2
 refine bodyPost_ret (v:= .agg #[.int .u64 (hi:Nat),.int .u64 ((lo:Nat)),.int .i64 ((n:Int)+1)]) (by simp [results,Tryz.results142,go_sem]) rfl ⟨rfl,?_⟩
 exact (((znP _ _).alloc (znO _) _).alloc (by simp) _).drew
theorem ziU (hi lo n:Nat) (w:World) (j:lo<18446744073709551616) (g:64≤n) (f:n<128) (i:rt (zaE hi lo) n):
  Calls Tryz.prog 142 #[.agg #[.int .u64 (hi:Nat),.int .u64 (lo:Nat),.int .i64 (n:Nat)],.int .i64 1] w fun e w'=>e= .returned (.agg #[.int .u64 (hi:Nat),.int .u64 ((lo:Int)+2^(127 - n)),.int .i64 ((n:Int)+1)])∧Below w.heap.size w w':=by
 have a:=zkF j g f (zmP g (by omega) i)
 have p:=zjJ (127 - n) a (by rw [show (127 - n)+1=128 - n from by omega];exact zmP g (by omega) i)
 have o:IntKind.u64.wrap ((2:Int)^(127 - n))=(2:Int)^(127 - n):=by
  rw [show ((2:Int)^(127 - n))=((2^(127 - n):Nat):Int) from by simp]
  exact zgA _ (Nat.lt_of_le_of_lt (Nat.le_add_left _ _) a)
 go_enter Tryz.func142,Tryz.ntmps142
 go_wp2
 go_region
 go_wp2
 refine bodyPost_ret (v:= .agg #[.int .u64 (hi:Nat),.int .u64 ((lo:Int)+2^(127 - n)),.int .i64 ((n:Int)+1)]) (by simp [results,Tryz.results142,go_sem]) rfl ⟨rfl,?_⟩
 exact (((znP _ _).alloc (znO _) _).alloc (by simp) _).drew
theorem zjN (P i:Nat) (w:World) (B:P<2^128) (hi:i<128):
  Calls Tryz.prog 142 #[pfW (ofW P i) (i:Nat),.int .i64 (bitW P i:Nat)] w fun e w'=>e= .returned (pfW (ofW P (i+1)) ((i+1:Nat):Int))∧Below w.heap.size w w':=by
 have q:=hiN_lt (ofW_lt (n:=i) B)
 have g:=loN_lt (ofW P i)
 have j:=zbX (ofW P i)
 have p:rt (zaE (hiN (ofW P i)) (loN (ofW P i))) i:=by rw [j];exact zmN P i
 have a:=zlV P i hi
 have f: ∀x y:Nat,y<18446744073709551616→zaE x y=ofW P (i+1)→pfW (ofW P (i+1)) ((i+1:Nat):Int)= .agg #[.int .u64 (x:Nat),.int .u64 (y:Nat),.int .i64 ((i:Int)+1)]:=fun x y z e=>by
  rw [←e,zlS z];rfl
 show Calls Tryz.prog 142 #[.agg #[.int .u64 (hiN (ofW P i):Nat),.int .u64 (loN (ofW P i):Nat),.int .i64 (i:Nat)],.int .i64 (bitW P i:Nat)] w _
 rcases zlH P i with o|o
 ·rw [o] at a ⊢
  rw [f (hiN (ofW P i)) (loN (ofW P i)) g (by rw [j,a];simp)]
  by_cases h:i<64
  ·exact ziT _ _ i w q h
  ·exact ziJ _ _ i w g (by omega) hi
 ·rw [o] at a ⊢
  rw [Nat.one_mul] at a
  by_cases h:i<64
  ·have C:(2:Nat)^(127 - i)=2^(63 - i)*2^64:=by rw [←Nat.pow_add];congr 1;omega
   rw [f (hiN (ofW P i)+2^(63 - i)) (loN (ofW P i)) g (by rw [a,C,zkY,j])]
   have:=zjX _ _ i w q g h p
   rw [show ((hiN (ofW P i)+2^(63 - i):Nat):Int)=(hiN (ofW P i):Int)+2^(63 - i) from by simp]
   exact this
  ·have A:=zkF g (by omega) hi (zmP (by omega) (by omega) p)
   rw [f (hiN (ofW P i)) (loN (ofW P i)+2^(127 - i)) A (by rw [a,zkS,j])]
   have:=ziU _ _ i w g (by omega) hi p
   rw [show ((loN (ofW P i)+2^(127 - i):Nat):Int)=(loN (ofW P i):Int)+2^(127 - i) from by simp]
   exact this
theorem zcO {W n P k i:Nat} (h:zbJ W P i (min n k - i)=zbT W n P k) (a:i=min n k∨bitW W i≠bitW P i):zbT W n P k=i:=by
 rw [←h]
 rcases a with e|e
 ·rw [e,Nat.sub_self];rfl
 ·cases f:min n k - i with
  |zero=>rfl
  |succ f=>show (if bitW W i=bitW P i then _ else i)=i;rw [if_neg e]
theorem zeT {W n P k i:Nat} (hi:i<min n k) (h:zbJ W P i (min n k - i)=zbT W n P k) (a:bitW W i=bitW P i):zbJ W P (i+1) (min n k - (i+1))=zbT W n P k:=by
 rw [←h,show min n k - i=(min n k - (i+1))+1 from by omega]
 show _=if bitW W i=bitW P i then _ else i
 rw [if_pos a]
theorem zlC {w:World} {b:Nat} {x y z a g f:Value} {t:TypeId} (h:w.heap[b]? =some (.cells #[x,y,z] t)):
  (((w.setCell ⟨b,0,none⟩ a).setCell ⟨b,1,none⟩ g).setCell ⟨b,2,none⟩ f).heap[b]? =some (.cells #[a,g,f] t):=by
 have i:=zeV h 0 a
 have o:=zeV i 1 g
 have j:=zeV o 2 f
 exact j
theorem zgT {w:World} {b a:Nat} (f:b≠a) (g j i:Value):(((w.setCell ⟨a,0,none⟩ g).setCell ⟨a,1,none⟩ j).setCell ⟨a,2,none⟩ i).heap[b]? =w.heap[b]? :=by
 rw [zcL f,zcL f,zcL f]
theorem Blks.set3 {L:List (Nat×Array Value×TypeId)} {w:World} {a:Nat} (h:Blks L w) (g: ∀e∈L,e.1≠a) (i o j:Value):Blks L (((w.setCell ⟨a,0,none⟩ i).setCell ⟨a,1,none⟩ o).setCell ⟨a,2,none⟩ j):=fun e f=>by
 rw [zgT (g e f)];exact h e f
theorem Below.set3 {a w:World} (h:Below a.heap.size a w) {b:Nat} (f:a.heap.size≤b) (x y z:Value):Below a.heap.size a (((w.setCell ⟨b,0,none⟩ x).setCell ⟨b,1,none⟩ y).setCell ⟨b,2,none⟩ z):=
 ((h.setCell (p:=⟨b,0,none⟩) f x).setCell (p:=⟨b,1,none⟩) f y).setCell (p:=⟨b,2,none⟩) f z
theorem zgS (hi lo n p q k:Nat) (w:World) (h1:hi<18446744073709551616) (h2:lo<18446744073709551616) (h3:p<18446744073709551616) (h4:q<18446744073709551616) (hn:n≤128) (hk:k≤128):
  Calls Tryz.prog 104 #[.agg #[.int .u64 (hi:Nat),.int .u64 (lo:Nat),.int .i64 (n:Nat)],.agg #[.int .u64 (p:Nat),.int .u64 (q:Nat),.int .i64 (k:Nat)]] w
   fun e w'=>e= .returned (pfW (ofW (zaE p q) (zbT (zaE hi lo) n (zaE p q) k)) (zbT (zaE hi lo) n (zaE p q) k:Nat))∧Below w.heap.size w w':=by
 obtain ⟨W,hW⟩: ∃W,zaE hi lo=W:=⟨_,rfl⟩
 obtain ⟨P,hP⟩: ∃P,zaE p q=P:=⟨_,rfl⟩
 have qm:P<2^128:=hP▸zmQ h3 h4
 have qf:Hid (∀(i:Nat) V,i<128→Calls Tryz.prog 103 #[.agg #[.int .u64 (hi:Nat),.int .u64 (lo:Nat),.int .i64 (n:Nat)],.int .i64 (i:Nat)] V fun e w'=>e= .returned (.int .i64 (bitW W i:Nat))∧Below V.heap.size V w'):=fun i V h=>by
  have:=zmD hi lo n i V h1 h2 h;rwa [hW] at this
 have qe:Hid (∀(i:Nat) V,i<128→Calls Tryz.prog 103 #[.agg #[.int .u64 (p:Nat),.int .u64 (q:Nat),.int .i64 (k:Nat)],.int .i64 (i:Nat)] V fun e w'=>e= .returned (.int .i64 (bitW P i:Nat))∧Below V.heap.size V w'):=fun i V h=>by
  have:=zmD p q k i V h3 h4 h;rwa [hP] at this
 have qx:Hid (∀(i:Nat) V,i<128→Calls Tryz.prog 142 #[.agg #[.int .u64 (hiN (ofW P i):Nat),.int .u64 (loN (ofW P i):Nat),.int .i64 (i:Nat)],.int .i64 (bitW P i:Nat)] V fun e w'=>e= .returned (.agg #[.int .u64 (hiN (ofW P (i+1)):Nat),.int .u64 (loN (ofW P (i+1)):Nat),.int .i64 ((i+1:Nat):Int)])∧Below V.heap.size V w'):=fun i V h=>zjN P i V qm h
 have HZ:Hid (hiN (ofW P 0)=0∧loN (ofW P 0)=0):=by
  have e:ofW P 0=0:=by show qt P 0*_=0;rw [qt_lt qm,Nat.zero_mul]
  exact ⟨by rw [e];rfl,by rw [e];rfl⟩
 rw [hW,hP]
 clear hW hP
 obtain ⟨L,hL⟩: ∃L,min n k=L:=⟨_,rfl⟩
 have HL:=znN hL
 have qz:min (n:Int) (k:Int)=(L:Nat):=by omega
 have qE:L≤128:=by omega
 clear hL
 go_enter Tryz.func104,Tryz.ntmps104
 go_wp2
 go_loopw [13] (fun x wr=> ∃i:Nat,i≤L∧x= .int .i64 i∧Hid (Blks [(w.heap.size+1+1,#[.int .u64 0,.int .u64 0,.int .i64 0],125),(w.heap.size+1,#[.int .u64 (p:Nat),.int .u64 (q:Nat),.int .i64 (k:Nat)],125),(w.heap.size,#[.int .u64 (hi:Nat),.int .u64 (lo:Nat),.int .i64 (n:Nat)],125)] wr)∧Hid (wr.heap[w.heap.size+1+1+1]? =some (.cells #[.int .u64 (hiN (ofW P i):Nat),.int .u64 (loN (ofW P i):Nat),.int .i64 (i:Nat)] 125))∧Below w.heap.size w wr∧Hid (zbJ W P i (min n k - i)=zbT W n P k)) (fun x _=>L - (intOf x).toNat)
 case atStart=>
  refine ⟨0,by omega,rfl,?_,?_,?_,rfl⟩
  ·have h:=(((Blks.empty w).new #[.int .u64 (hi:Nat),.int .u64 (lo:Nat),.int .i64 (n:Nat)] 125).new #[.int .u64 (p:Nat),.int .u64 (q:Nat),.int .i64 (k:Nat)] 125).new #[.int .u64 0,.int .u64 0,.int .i64 0] 125
   simp only [World.size_alloc] at h
   exact h.keep ((znP _ _).alloc (znO _) _)
  ·show _=_
   rw [HZ.out.1,HZ.out.2]
   have h:=(((((Blks.empty w).new #[.int .u64 (hi:Nat),.int .u64 (lo:Nat),.int .i64 (n:Nat)] 125).new #[.int .u64 (p:Nat),.int .u64 (q:Nat),.int .i64 (k:Nat)] 125).new #[.int .u64 0,.int .u64 0,.int .i64 0] 125).new #[.int .u64 0,.int .u64 0,.int .i64 0] 125) _ (.head _)
   simp only [World.size_alloc] at h
   exact h
  ·exact ((((znP _ _).alloc (znO _) _).alloc (by simp) _).alloc (by simp;omega) _).alloc (by simp;omega) _
 case round=>
  obtain ⟨i,qD,rfl,A,Y,hc,HC⟩:=hrel
  by_cases qw:i<L
  ·have y:i<128:=by omega
   by_cases B:bitW W i=bitW P i
   ·have HS:=znN (zeT (by rw [HL.out];exact qw) HC.out B)
    have q1:=znN (fun V=>qf.out i V y)
    rw [B] at q1
    have q2:=znN (fun V=>qe.out i V y)
    have q3:=znN (fun V=>qx.out i V y)
    clear B
    obtain ⟨la,a0,a1,a2⟩:=A.out.r3 (b:=w.heap.size) (by repeat first|exact .head _|apply List.Mem.tail)
    obtain ⟨lb,b0,b1,b2⟩:=A.out.r3 (b:=w.heap.size+1) (by repeat first|exact .head _|apply List.Mem.tail)
    obtain ⟨⟨r0,r1,r2⟩,f0,f1,f2⟩:=row3 Y.out
    go_wp2_with fail
    refine (q1.out _).mono ?_
    rintro e y1 ⟨rfl,g⟩
    have f:=znN (A.out.keep g)
    have o:Hid (y1.heap[w.heap.size+1+1+1]? =_):=(g.block _ (zaH Y.out)).trans Y.out
    have U:=zaO hc g
    clear la a0 a1 a2 lb b0 b1 b2 r0 r1 r2 f0 f1 f2
    obtain ⟨K,T,S,qa⟩:=f.out.r3 (b:=w.heap.size) (by repeat first|exact .head _|apply List.Mem.tail)
    obtain ⟨O,H,Z,N⟩:=f.out.r3 (b:=w.heap.size+1) (by repeat first|exact .head _|apply List.Mem.tail)
    obtain ⟨⟨Q,I,qb⟩,C,D,E⟩:=row3 o.out
    go_wp2_with fail
    refine (q2.out _).mono ?_
    rintro e y2 ⟨rfl,j⟩
    have a:=znN (f.out.keep j)
    have z:Hid (y2.heap[w.heap.size+1+1+1]? =_):=(j.block _ (zaH o.out)).trans o.out
    have R:=zaO U j
    clear K T S qa O H Z N Q I qb C D E
    obtain ⟨qi,qh,qr,qc⟩:=a.out.r3 (b:=w.heap.size) (by repeat first|exact .head _|apply List.Mem.tail)
    obtain ⟨qj,qd,qs,qk⟩:=a.out.r3 (b:=w.heap.size+1) (by repeat first|exact .head _|apply List.Mem.tail)
    obtain ⟨⟨qn,qq,qp⟩,qg,qo,ql⟩:=row3 z.out
    go_wp2_with fail
    refine (q3.out _).mono ?_
    rintro e y3 ⟨rfl,J⟩
    have G:=znN (a.out.keep J)
    have qv:Hid (y3.heap[w.heap.size+1+1+1]? =_):=(J.block _ (zaH z.out)).trans z.out
    have qy:=zaO R J
    clear qi qh qr qc qj qd qs qk qn qq qp qg qo ql
    obtain ⟨qC,qF,qG,qL⟩:=G.out.r3 (b:=w.heap.size) (by repeat first|exact .head _|apply List.Mem.tail)
    obtain ⟨qJ,qO,qN,qP⟩:=G.out.r3 (b:=w.heap.size+1) (by repeat first|exact .head _|apply List.Mem.tail)
    obtain ⟨⟨qK,qI,qM⟩,qH,qA,qB⟩:=row3 qv.out
    go_wp2
    go_roundw
    case rel=>exact ⟨i+1,by omega,by go_num,G.out.set3 (fun e B=>by simp at B;rcases B with rfl|rfl|rfl<;>simp<;>omega) _ _ _,zlC qv.out,Below.set3 qy (by omega) _ _ _,HS.out⟩
    case measure=>simp [intOf];omega
   ·have HE:=znN (zcO HC.out (.inr B))
    have q1:=znN (fun V=>qf.out i V y)
    have q2:=znN (fun V=>qe.out i V y)
    have t1:((bitW W i:Int) !=(bitW P i:Int))=true:=by
     have:(bitW W i:Int)≠(bitW P i:Int):=by omega
     simp [this]
    clear B
    obtain ⟨la,a0,a1,a2⟩:=A.out.r3 (b:=w.heap.size) (by repeat first|exact .head _|apply List.Mem.tail)
    obtain ⟨lb,b0,b1,b2⟩:=A.out.r3 (b:=w.heap.size+1) (by repeat first|exact .head _|apply List.Mem.tail)
    obtain ⟨⟨r0,r1,r2⟩,f0,f1,f2⟩:=row3 Y.out
    go_wp2_with fail
    refine (q1.out _).mono ?_
    rintro e y1 ⟨rfl,g⟩
    have f:=znN (A.out.keep g)
    have o:Hid (y1.heap[w.heap.size+1+1+1]? =_):=(g.block _ (zaH Y.out)).trans Y.out
    have U:=zaO hc g
    clear la a0 a1 a2 lb b0 b1 b2 r0 r1 r2 f0 f1 f2
    obtain ⟨K,T,S,qa⟩:=f.out.r3 (b:=w.heap.size) (by repeat first|exact .head _|apply List.Mem.tail)
    obtain ⟨O,H,Z,N⟩:=f.out.r3 (b:=w.heap.size+1) (by repeat first|exact .head _|apply List.Mem.tail)
    obtain ⟨⟨Q,I,qb⟩,C,D,E⟩:=row3 o.out
    go_wp2_with fail
    refine (q2.out _).mono ?_
    rintro e y2 ⟨rfl,j⟩
    have a:=znN (f.out.keep j)
    have z:Hid (y2.heap[w.heap.size+1+1+1]? =_):=(j.block _ (zaH o.out)).trans o.out
    have R:=zaO U j
    clear K T S qa O H Z N Q I qb C D E
    obtain ⟨qi,qh,qr,qc⟩:=a.out.r3 (b:=w.heap.size) (by repeat first|exact .head _|apply List.Mem.tail)
    obtain ⟨qj,qd,qs,qk⟩:=a.out.r3 (b:=w.heap.size+1) (by repeat first|exact .head _|apply List.Mem.tail)
    obtain ⟨⟨qn,qq,qp⟩,qg,qo,ql⟩:=row3 z.out
    obtain ⟨lz,z0,z1,z2⟩:=a.out.r3 (b:=w.heap.size+1+1) (by repeat first|exact .head _|apply List.Mem.tail)
    obtain ⟨_,g0,g1,g2⟩:=row3 (a.out _ (List.Mem.head _))
    go_wp2
    refine bodyPost_ret (v:= .agg #[.int .u64 (hiN (ofW P i):Nat),.int .u64 (loN (ofW P i):Nat),.int .i64 (i:Nat)]) (by simp [results,Tryz.results104,go_sem,z0,z1,z2]) rfl ⟨?_,?_⟩
    ·rw [HE.out];rfl
    ·exact Below.set3 R (by omega) _ _ _
  ·have e3:i=L:=by omega
   have HE:=znN (zcO HC.out (.inl (by rw [HL.out];exact e3)))
   subst e3
   obtain ⟨la,a0,a1,a2⟩:=A.out.r3 (b:=w.heap.size) (by repeat first|exact .head _|apply List.Mem.tail)
   obtain ⟨lb,b0,b1,b2⟩:=A.out.r3 (b:=w.heap.size+1) (by repeat first|exact .head _|apply List.Mem.tail)
   obtain ⟨⟨r0,r1,r2⟩,f0,f1,f2⟩:=row3 Y.out
   obtain ⟨lz,z0,z1,z2⟩:=A.out.r3 (b:=w.heap.size+1+1) (by repeat first|exact .head _|apply List.Mem.tail)
   obtain ⟨_,g0,g1,g2⟩:=row3 (A.out _ (List.Mem.head _))
   go_wp2
   refine bodyPost_ret (v:= .agg #[.int .u64 (hiN (ofW P i):Nat),.int .u64 (loN (ofW P i):Nat),.int .i64 (i:Nat)]) (by simp [results,Tryz.results104,go_sem,z0,z1,z2]) rfl ⟨?_,?_⟩
   ·rw [HE.out];rfl
   ·exact Below.set3 hc (by omega) _ _ _
end
end Go.Proofs.YteajemblhlbfpaaGreatDoor
