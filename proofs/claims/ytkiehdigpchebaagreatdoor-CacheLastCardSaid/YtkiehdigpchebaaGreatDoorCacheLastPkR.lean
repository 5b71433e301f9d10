/-
  What the law CacheLast leans on, and its walk (18 of 21).
-/
import Derived.RegionTactic
import Derived.Test.YtkiehdigpchebaaGreatDoorCacheLastPkC
import Derived.Test.YtkiehdigpchebaaGreatDoorCacheLastPkK
namespace Go.Proofs.YtkiehdigpchebaaGreatDoor
set_option maxRecDepth 100000
set_option maxHeartbeats 16000000
abbrev znN := @Lib.hid
abbrev znO := @Nat.le_refl
abbrev znP := @Go.RowKit.Below.refl
section
open Go.RowKit
theorem zkN (hi lo n:Nat) (w:World) (f:hi<18446744073709551616) (g:n<64):
  Calls Tryz.prog 150 #[.agg #[.int .u64 (hi:Nat),.int .u64 (lo:Nat),.int .i64 (n:Nat)],.int .i64 0] w fun e w'=>e= .returned (.agg #[.int .u64 ((hi:Nat)),.int .u64 (lo:Nat),.int .i64 ((n:Int)+1)])∧Below w.heap.size w w':=by
 have a:=or_zero hi f
 go_enter Tryz.func150,Tryz.ntmps150
 go_wp2
 go_region
 go_wp2
 refine bodyPost_ret (v:= .agg #[.int .u64 ((hi:Nat)),.int .u64 (lo:Nat),.int .i64 ((n:Int)+1)]) (by simp [results,Tryz.results150,go_sem]) rfl ⟨rfl,?_⟩
 exact (((znP _ _).alloc (znO _) _).alloc (by simp) _).drew
theorem zhN (hi lo n:Nat) (w:World) (o:hi<18446744073709551616) (g:lo<18446744073709551616) (f:n<64) (i:rt (zaD hi lo) n):
  Calls Tryz.prog 150 #[.agg #[.int .u64 (hi:Nat),.int .u64 (lo:Nat),.int .i64 (n:Nat)],.int .i64 1] w fun e w'=>e= .returned (.agg #[.int .u64 ((hi:Int)+2^(63 - n)),.int .u64 (lo:Nat),.int .i64 ((n:Int)+1)])∧Below w.heap.size w w':=by
 have a:=zmJ o f (rt_hi g f i)
 have j:=zhS (63 - n) a (by rw [show (63 - n)+1=64 - n from by omega];exact rt_hi g f i)
 have p:IntKind.u64.wrap ((2:Int)^(63 - n))=(2:Int)^(63 - n):=by
  rw [show ((2:Int)^(63 - n))=((2^(63 - n):Nat):Int) from by simp]
  exact zfZ _ (Nat.lt_of_le_of_lt (Nat.le_add_left _ _) a)
 go_enter Tryz.func150,Tryz.ntmps150
 go_wp2
 go_region
 go_wp2
 refine bodyPost_ret (v:= .agg #[.int .u64 ((hi:Int)+2^(63 - n)),.int .u64 (lo:Nat),.int .i64 ((n:Int)+1)]) (by simp [results,Tryz.results150,go_sem]) rfl ⟨rfl,?_⟩
 exact (((znP _ _).alloc (znO _) _).alloc (by simp) _).drew
theorem zhQ (hi lo n:Nat) (w:World) (f:lo<18446744073709551616) (i:64≤n) (g:n<128):
  Calls Tryz.prog 150 #[.agg #[.int .u64 (hi:Nat),.int .u64 (lo:Nat),.int .i64 (n:Nat)],.int .i64 0] w fun e w'=>e= .returned (.agg #[.int .u64 (hi:Nat),.int .u64 ((lo:Nat)),.int .i64 ((n:Int)+1)])∧Below w.heap.size w w':=by
 have a:=or_zero lo f
 go_enter Tryz.func150,Tryz.ntmps150
 go_wp2
 go_region
 go_wp2
 refine bodyPost_ret (v:= .agg #[.int .u64 (hi:Nat),.int .u64 ((lo:Nat)),.int .i64 ((n:Int)+1)]) (by simp [results,Tryz.results150,go_sem]) rfl ⟨rfl,?_⟩
 exact (((znP _ _).alloc (znO _) _).alloc (by simp) _).drew
theorem ziK (hi lo n:Nat) (w:World) (o:lo<18446744073709551616) (f:64≤n) (g:n<128) (i:rt (zaD hi lo) n):
  Calls Tryz.prog 150 #[.agg #[.int .u64 (hi:Nat),.int .u64 (lo:Nat),.int .i64 (n:Nat)],.int .i64 1] w fun e w'=>e= .returned (.agg #[.int .u64 (hi:Nat),.int .u64 ((lo:Int)+2^(127 - n)),.int .i64 ((n:Int)+1)])∧Below w.heap.size w w':=by
 have a:=zkU o f g (zmW f (by omega) i)
 have j:=zhS (127 - n) a (by rw [show (127 - n)+1=128 - n from by omega];exact zmW f (by omega) i)
 have p:IntKind.u64.wrap ((2:Int)^(127 - n))=(2:Int)^(127 - n):=by
  rw [show ((2:Int)^(127 - n))=((2^(127 - n):Nat):Int) from by simp]
  exact zfZ _ (Nat.lt_of_le_of_lt (Nat.le_add_left _ _) a)
 go_enter Tryz.func150,Tryz.ntmps150
 go_wp2
 go_region
 go_wp2
 refine bodyPost_ret (v:= .agg #[.int .u64 (hi:Nat),.int .u64 ((lo:Int)+2^(127 - n)),.int .i64 ((n:Int)+1)]) (by simp [results,Tryz.results150,go_sem]) rfl ⟨rfl,?_⟩
 exact (((znP _ _).alloc (znO _) _).alloc (by simp) _).drew
theorem zhL (P i:Nat) (w:World) (q:P<2^128) (hi:i<128):
  Calls Tryz.prog 150 #[pfW (ofW P i) (i:Nat),.int .i64 (bitW P i:Nat)] w fun e w'=>e= .returned (pfW (ofW P (i+1)) ((i+1:Nat):Int))∧Below w.heap.size w w':=by
 have p:=hiN_lt (ofW_lt (n:=i) q)
 have f:=loN_lt (ofW P i)
 have g:=zcC (ofW P i)
 have j:rt (zaD (hiN (ofW P i)) (loN (ofW P i))) i:=by rw [g];exact zmL P i
 have a:=zkV P i hi
 have key: ∀x y:Nat,y<18446744073709551616→zaD x y=ofW P (i+1)→pfW (ofW P (i+1)) ((i+1:Nat):Int)= .agg #[.int .u64 (x:Nat),.int .u64 (y:Nat),.int .i64 ((i:Int)+1)]:=fun x y D e=>by
  rw [←e,zlN D];rfl
 show Calls Tryz.prog 150 #[.agg #[.int .u64 (hiN (ofW P i):Nat),.int .u64 (loN (ofW P i):Nat),.int .i64 (i:Nat)],.int .i64 (bitW P i:Nat)] w _
 rcases zkY P i with o|o
 ·rw [o] at a ⊢
  rw [key (hiN (ofW P i)) (loN (ofW P i)) f (by rw [g,a];simp)]
  by_cases h:i<64
  ·exact zkN _ _ i w p h
  ·exact zhQ _ _ i w f (by omega) hi
 ·rw [o] at a ⊢
  rw [Nat.one_mul] at a
  by_cases h:i<64
  ·have C:(2:Nat)^(127 - i)=2^(63 - i)*2^64:=by rw [←Nat.pow_add];congr 1;omega
   rw [key (hiN (ofW P i)+2^(63 - i)) (loN (ofW P i)) f (by rw [a,C,zlW,g])]
   have:=zhN _ _ i w p f h j
   rw [show ((hiN (ofW P i)+2^(63 - i):Nat):Int)=(hiN (ofW P i):Int)+2^(63 - i) from by simp]
   exact this
  ·have z:=zkU f (by omega) hi (zmW (by omega) (by omega) j)
   rw [key (hiN (ofW P i)) (loN (ofW P i)+2^(127 - i)) z (by rw [a,zlE,g])]
   have:=ziK _ _ i w f (by omega) hi j
   rw [show ((loN (ofW P i)+2^(127 - i):Nat):Int)=(loN (ofW P i):Int)+2^(127 - i) from by simp]
   exact this
theorem zcX {W n P k i:Nat} (h:zbK W P i (min n k - i)=zbZ W n P k) (a:i=min n k∨bitW W i≠bitW P i):zbZ W n P k=i:=by
 rw [←h]
 rcases a with e|e
 ·rw [e,Nat.sub_self];rfl
 ·cases f:min n k - i with
  |zero=>rfl
  |succ f=>show (if bitW W i=bitW P i then _ else i)=i;rw [if_neg e]
theorem zfF {W n P k i:Nat} (hi:i<min n k) (h:zbK W P i (min n k - i)=zbZ W n P k) (a:bitW W i=bitW P i):zbK W P (i+1) (min n k - (i+1))=zbZ W n P k:=by
 rw [←h,show min n k - i=(min n k - (i+1))+1 from by omega]
 show _=if bitW W i=bitW P i then _ else i
 rw [if_pos a]
theorem zlD {w:World} {b:Nat} {x y z g a f:Value} {t:TypeId} (h:w.heap[b]? =some (.cells #[x,y,z] t)):
  (((w.setCell ⟨b,0,none⟩ g).setCell ⟨b,1,none⟩ a).setCell ⟨b,2,none⟩ f).heap[b]? =some (.cells #[g,a,f] t):=by
 have o:=zeY h 0 g
 have i:=zeY o 1 a
 have j:=zeY i 2 f
 exact j
theorem zhC {w:World} {b a:Nat} (f:b≠a) (j g i:Value):(((w.setCell ⟨a,0,none⟩ j).setCell ⟨a,1,none⟩ g).setCell ⟨a,2,none⟩ i).heap[b]? =w.heap[b]? :=by
 rw [zaZ f,zaZ f,zaZ f]
theorem Blks.set3 {L:List (Nat×Array Value×TypeId)} {w:World} {a:Nat} (h:Blks L w) (g: ∀e∈L,e.1≠a) (o i j:Value):Blks L (((w.setCell ⟨a,0,none⟩ o).setCell ⟨a,1,none⟩ i).setCell ⟨a,2,none⟩ j):=fun e f=>by
 rw [zhC (g e f)];exact h e f
theorem Below.set3 {a w:World} (h:Below a.heap.size a w) {b:Nat} (f:a.heap.size≤b) (x y z:Value):Below a.heap.size a (((w.setCell ⟨b,0,none⟩ x).setCell ⟨b,1,none⟩ y).setCell ⟨b,2,none⟩ z):=
 ((h.setCell (p:=⟨b,0,none⟩) f x).setCell (p:=⟨b,1,none⟩) f y).setCell (p:=⟨b,2,none⟩) f z
theorem zhB (hi lo n y q k:Nat) (w:World) (h1:hi<18446744073709551616) (h2:lo<18446744073709551616) (h3:y<18446744073709551616) (h4:q<18446744073709551616) (hn:n≤128) (hk:k≤128):
  Calls Tryz.prog 112 #[.agg #[.int .u64 (hi:Nat),.int .u64 (lo:Nat),.int .i64 (n:Nat)],.agg #[.int .u64 (y:Nat),.int .u64 (q:Nat),.int .i64 (k:Nat)]] w
   fun e w'=>e= .returned (pfW (ofW (zaD y q) (zbZ (zaD hi lo) n (zaD y q) k)) (zbZ (zaD hi lo) n (zaD y q) k:Nat))∧Below w.heap.size w w':=by
 obtain ⟨W,hW⟩: ∃W,zaD hi lo=W:=⟨_,rfl⟩
 obtain ⟨P,hP⟩: ∃P,zaD y q=P:=⟨_,rfl⟩
 have qm:P<2^128:=hP▸zmK h3 h4
 have qv:Hid (∀(i:Nat) V,i<128→Calls Tryz.prog 111 #[.agg #[.int .u64 (hi:Nat),.int .u64 (lo:Nat),.int .i64 (n:Nat)],.int .i64 (i:Nat)] V fun e w'=>e= .returned (.int .i64 (bitW W i:Nat))∧Below V.heap.size V w'):=fun i V h=>by
  have:=zmA hi lo n i V h1 h2 h;rwa [hW] at this
 have ql:Hid (∀(i:Nat) V,i<128→Calls Tryz.prog 111 #[.agg #[.int .u64 (y:Nat),.int .u64 (q:Nat),.int .i64 (k:Nat)],.int .i64 (i:Nat)] V fun e w'=>e= .returned (.int .i64 (bitW P i:Nat))∧Below V.heap.size V w'):=fun i V h=>by
  have:=zmA y q k i V h3 h4 h;rwa [hP] at this
 have qz:Hid (∀(i:Nat) V,i<128→Calls Tryz.prog 150 #[.agg #[.int .u64 (hiN (ofW P i):Nat),.int .u64 (loN (ofW P i):Nat),.int .i64 (i:Nat)],.int .i64 (bitW P i:Nat)] V fun e w'=>e= .returned (.agg #[.int .u64 (hiN (ofW P (i+1)):Nat),.int .u64 (loN (ofW P (i+1)):Nat),.int .i64 ((i+1:Nat):Int)])∧Below V.heap.size V w'):=fun i V h=>zhL P i V qm h
 have HZ:Hid (hiN (ofW P 0)=0∧loN (ofW P 0)=0):=by
  have e:ofW P 0=0:=by show qt P 0*_=0;rw [qt_lt qm,Nat.zero_mul]
  exact ⟨by rw [e];rfl,by rw [e];rfl⟩
 rw [hW,hP]
 clear hW hP
 obtain ⟨L,hL⟩: ∃L,min n k=L:=⟨_,rfl⟩
 have HL:=znN hL
 have qC:min (n:Int) (k:Int)=(L:Nat):=by omega
 have qQ:L≤128:=by omega
 clear hL
 go_enter Tryz.func112,Tryz.ntmps112
 go_wp2
 go_loopw [13] (fun x wr=> ∃i:Nat,i≤L∧x= .int .i64 i∧Hid (Blks [(w.heap.size+1+1,#[.int .u64 0,.int .u64 0,.int .i64 0],151),(w.heap.size+1,#[.int .u64 (y:Nat),.int .u64 (q:Nat),.int .i64 (k:Nat)],151),(w.heap.size,#[.int .u64 (hi:Nat),.int .u64 (lo:Nat),.int .i64 (n:Nat)],151)] wr)∧Hid (wr.heap[w.heap.size+1+1+1]? =some (.cells #[.int .u64 (hiN (ofW P i):Nat),.int .u64 (loN (ofW P i):Nat),.int .i64 (i:Nat)] 151))∧Below w.heap.size w wr∧Hid (zbK W P i (min n k - i)=zbZ W n P k)) (fun x _=>L - (intOf x).toNat)
 case atStart=>
  refine ⟨0,by omega,rfl,?_,?_,?_,rfl⟩
  ·have h:=(((Blks.empty w).new #[.int .u64 (hi:Nat),.int .u64 (lo:Nat),.int .i64 (n:Nat)] 151).new #[.int .u64 (y:Nat),.int .u64 (q:Nat),.int .i64 (k:Nat)] 151).new #[.int .u64 0,.int .u64 0,.int .i64 0] 151
   simp only [World.size_alloc] at h
   exact h.keep ((znP _ _).alloc (znO _) _)
  ·show _=_
   rw [HZ.out.1,HZ.out.2]
   have h:=(((((Blks.empty w).new #[.int .u64 (hi:Nat),.int .u64 (lo:Nat),.int .i64 (n:Nat)] 151).new #[.int .u64 (y:Nat),.int .u64 (q:Nat),.int .i64 (k:Nat)] 151).new #[.int .u64 0,.int .u64 0,.int .i64 0] 151).new #[.int .u64 0,.int .u64 0,.int .i64 0] 151) _ (.head _)
   simp only [World.size_alloc] at h
   exact h
  ·exact ((((znP _ _).alloc (znO _) _).alloc (by simp) _).alloc (by simp;omega) _).alloc (by simp;omega) _
 case round=>
  obtain ⟨i,qR,rfl,C,S,hc,HC⟩:=hrel
  by_cases qA:i<L
  ·have z:i<128:=by omega
   by_cases D:bitW W i=bitW P i
   ·have HS:=znN (zfF (by rw [HL.out];exact qA) HC.out D)
    have q1:=znN (fun V=>qv.out i V z)
    rw [D] at q1
    have q2:=znN (fun V=>ql.out i V z)
    have q3:=znN (fun V=>qz.out i V z)
    clear D
    obtain ⟨la,a0,a1,a2⟩:=C.out.r3 (b:=w.heap.size) (by repeat first|exact .head _|apply List.Mem.tail)
    obtain ⟨lb,b0,b1,b2⟩:=C.out.r3 (b:=w.heap.size+1) (by repeat first|exact .head _|apply List.Mem.tail)
    obtain ⟨⟨r0,r1,r2⟩,f0,f1,f2⟩:=row3 S.out
    go_wp2_with fail
    refine (q1.out _).mono ?_
    rintro e y1 ⟨rfl,f⟩
    have j:=znN (C.out.keep f)
    have o:Hid (y1.heap[w.heap.size+1+1+1]? =_):=(f.block _ (zaH S.out)).trans S.out
    have U:=zaQ hc f
    clear la a0 a1 a2 lb b0 b1 b2 r0 r1 r2 f0 f1 f2
    obtain ⟨H,Z,I,Q⟩:=j.out.r3 (b:=w.heap.size) (by repeat first|exact .head _|apply List.Mem.tail)
    obtain ⟨qb,G,qd,E⟩:=j.out.r3 (b:=w.heap.size+1) (by repeat first|exact .head _|apply List.Mem.tail)
    obtain ⟨⟨J,qc,K⟩,O,qa,N⟩:=row3 o.out
    go_wp2_with fail
    refine (q2.out _).mono ?_
    rintro e y2 ⟨rfl,g⟩
    have a:=znN (j.out.keep g)
    have p:Hid (y2.heap[w.heap.size+1+1+1]? =_):=(g.block _ (zaH o.out)).trans o.out
    have Y:=zaQ U g
    clear H Z I Q qb G qd E J qc K O qa N
    obtain ⟨qs,qf,qw,qn⟩:=a.out.r3 (b:=w.heap.size) (by repeat first|exact .head _|apply List.Mem.tail)
    obtain ⟨qx,qp,qi,qk⟩:=a.out.r3 (b:=w.heap.size+1) (by repeat first|exact .head _|apply List.Mem.tail)
    obtain ⟨⟨qj,qq,qr⟩,qg,qy,qo⟩:=row3 p.out
    go_wp2_with fail
    refine (q3.out _).mono ?_
    rintro e y3 ⟨rfl,qe⟩
    have R:=znN (a.out.keep qe)
    have qh:Hid (y3.heap[w.heap.size+1+1+1]? =_):=(qe.block _ (zaH p.out)).trans p.out
    have qB:=zaQ Y qe
    clear qs qf qw qn qx qp qi qk qj qq qr qg qy qo
    obtain ⟨qN,qH,qL,qS⟩:=R.out.r3 (b:=w.heap.size) (by repeat first|exact .head _|apply List.Mem.tail)
    obtain ⟨qO,qF,qI,qE⟩:=R.out.r3 (b:=w.heap.size+1) (by repeat first|exact .head _|apply List.Mem.tail)
    obtain ⟨⟨qP,qD,qG⟩,qM,qK,qJ⟩:=row3 qh.out
    go_wp2
    go_roundw
    case rel=>exact ⟨i+1,by omega,by go_num,R.out.set3 (fun e D=>by simp at D;rcases D with rfl|rfl|rfl<;>simp<;>omega) _ _ _,zlD qh.out,Below.set3 qB (by omega) _ _ _,HS.out⟩
    case measure=>simp [intOf];omega
   ·have HE:=znN (zcX HC.out (.inr D))
    have q1:=znN (fun V=>qv.out i V z)
    have q2:=znN (fun V=>ql.out i V z)
    have t1:((bitW W i:Int) !=(bitW P i:Int))=true:=by
     have:(bitW W i:Int)≠(bitW P i:Int):=by omega
     simp [this]
    clear D
    obtain ⟨la,a0,a1,a2⟩:=C.out.r3 (b:=w.heap.size) (by repeat first|exact .head _|apply List.Mem.tail)
    obtain ⟨lb,b0,b1,b2⟩:=C.out.r3 (b:=w.heap.size+1) (by repeat first|exact .head _|apply List.Mem.tail)
    obtain ⟨⟨r0,r1,r2⟩,f0,f1,f2⟩:=row3 S.out
    go_wp2_with fail
    refine (q1.out _).mono ?_
    rintro e y1 ⟨rfl,f⟩
    have j:=znN (C.out.keep f)
    have o:Hid (y1.heap[w.heap.size+1+1+1]? =_):=(f.block _ (zaH S.out)).trans S.out
    have U:=zaQ hc f
    clear la a0 a1 a2 lb b0 b1 b2 r0 r1 r2 f0 f1 f2
    obtain ⟨H,Z,I,Q⟩:=j.out.r3 (b:=w.heap.size) (by repeat first|exact .head _|apply List.Mem.tail)
    obtain ⟨qb,G,qd,E⟩:=j.out.r3 (b:=w.heap.size+1) (by repeat first|exact .head _|apply List.Mem.tail)
    obtain ⟨⟨J,qc,K⟩,O,qa,N⟩:=row3 o.out
    go_wp2_with fail
    refine (q2.out _).mono ?_
    rintro e y2 ⟨rfl,g⟩
    have a:=znN (j.out.keep g)
    have p:Hid (y2.heap[w.heap.size+1+1+1]? =_):=(g.block _ (zaH o.out)).trans o.out
    have Y:=zaQ U g
    clear H Z I Q qb G qd E J qc K O qa N
    obtain ⟨qs,qf,qw,qn⟩:=a.out.r3 (b:=w.heap.size) (by repeat first|exact .head _|apply List.Mem.tail)
    obtain ⟨qx,qp,qi,qk⟩:=a.out.r3 (b:=w.heap.size+1) (by repeat first|exact .head _|apply List.Mem.tail)
    obtain ⟨⟨qj,qq,qr⟩,qg,qy,qo⟩:=row3 p.out
    obtain ⟨lz,z0,z1,z2⟩:=a.out.r3 (b:=w.heap.size+1+1) (by repeat first|exact .head _|apply List.Mem.tail)
    obtain ⟨_,g0,g1,g2⟩:=row3 (a.out _ (List.Mem.head _))
    go_wp2
    refine bodyPost_ret (v:= .agg #[.int .u64 (hiN (ofW P i):Nat),.int .u64 (loN (ofW P i):Nat),.int .i64 (i:Nat)]) (by simp [results,Tryz.results112,go_sem,z0,z1,z2]) rfl ⟨?_,?_⟩
    ·rw [HE.out];rfl
    ·exact Below.set3 Y (by omega) _ _ _
  ·have e3:i=L:=by omega
   have HE:=znN (zcX HC.out (.inl (by rw [HL.out];exact e3)))
   subst e3
   obtain ⟨la,a0,a1,a2⟩:=C.out.r3 (b:=w.heap.size) (by repeat first|exact .head _|apply List.Mem.tail)
   obtain ⟨lb,b0,b1,b2⟩:=C.out.r3 (b:=w.heap.size+1) (by repeat first|exact .head _|apply List.Mem.tail)
   obtain ⟨⟨r0,r1,r2⟩,f0,f1,f2⟩:=row3 S.out
   obtain ⟨lz,z0,z1,z2⟩:=C.out.r3 (b:=w.heap.size+1+1) (by repeat first|exact .head _|apply List.Mem.tail)
   obtain ⟨_,g0,g1,g2⟩:=row3 (C.out _ (List.Mem.head _))
   go_wp2
   refine bodyPost_ret (v:= .agg #[.int .u64 (hiN (ofW P i):Nat),.int .u64 (loN (ofW P i):Nat),.int .i64 (i:Nat)]) (by simp [results,Tryz.results112,go_sem,z0,z1,z2]) rfl ⟨?_,?_⟩
   ·rw [HE.out];rfl
   ·exact Below.set3 hc (by omega) _ _ _
end
end Go.Proofs.YtkiehdigpchebaaGreatDoor
