/-
  What the law PinNone leans on, and its walk (10 of 12).
-/
import Derived.RegionTactic
import Derived.Test.YtpmaemedpcgjaaaGreatDoorPinNonePkG
import Derived.Test.YtpmaemedpcgjaaaGreatDoorPinNonePkI
namespace Go.Proofs.YtpmaemedpcgjaaaGreatDoor
set_option maxRecDepth 100000
set_option maxHeartbeats 16000000
abbrev ziL := @Lib.hid
abbrev ziM := @Nat.le_refl
abbrev ziN := @Go.RowKit.Below.refl
section
open Go.RowKit
theorem zfU (hi a n:Nat) (w:World) (b:hi<18446744073709551616) (d:n<64):
  Calls Tryz.prog 115 #[.agg #[.int .u64 (hi:Nat),.int .u64 (a:Nat),.int .i64 (n:Nat)],.int .i64 0] w fun e w'=>e= .returned (.agg #[.int .u64 ((hi:Nat)),.int .u64 (a:Nat),.int .i64 ((n:Int)+1)])∧Below w.heap.size w w':=by
 have c:=or_zero hi b
 go_enter Tryz.func115,Tryz.ntmps115
 go_wp2
 go_region
 go_wp2
 refine bodyPost_ret (v:= .agg #[.int .u64 ((hi:Nat)),.int .u64 (a:Nat),.int .i64 ((n:Int)+1)]) (by simp [results,Tryz.results115,go_sem]) rfl ⟨rfl,?_⟩
 exact (((ziN _ _).alloc (ziM _) _).alloc (by simp) _).drew
theorem zfZ (hi a n:Nat) (w:World) (g:hi<18446744073709551616) (f:a<18446744073709551616) (c:n<64) (d:rt (zaD hi a) n):
  Calls Tryz.prog 115 #[.agg #[.int .u64 (hi:Nat),.int .u64 (a:Nat),.int .i64 (n:Nat)],.int .i64 1] w fun e w'=>e= .returned (.agg #[.int .u64 ((hi:Int)+2^(63 - n)),.int .u64 (a:Nat),.int .i64 ((n:Int)+1)])∧Below w.heap.size w w':=by
 have b:=zhX g c (rt_hi f c d)
 have h:=zeQ (63 - n) b (by rw [show (63 - n)+1=64 - n from by omega];exact rt_hi f c d)
 have i:IntKind.u64.wrap ((2:Int)^(63 - n))=(2:Int)^(63 - n):=by
  rw [show ((2:Int)^(63 - n))=((2^(63 - n):Nat):Int) from by simp]
  exact zdM _ (Nat.lt_of_le_of_lt (Nat.le_add_left _ _) b)
 go_enter Tryz.func115,Tryz.ntmps115
 go_wp2
 go_region
 go_wp2
 refine bodyPost_ret (v:= .agg #[.int .u64 ((hi:Int)+2^(63 - n)),.int .u64 (a:Nat),.int .i64 ((n:Int)+1)]) (by simp [results,Tryz.results115,go_sem]) rfl ⟨rfl,?_⟩
 exact (((ziN _ _).alloc (ziM _) _).alloc (by simp) _).drew
theorem zgI (hi a n:Nat) (w:World) (c:a<18446744073709551616) (f:64≤n) (b:n<128):
  Calls Tryz.prog 115 #[.agg #[.int .u64 (hi:Nat),.int .u64 (a:Nat),.int .i64 (n:Nat)],.int .i64 0] w fun e w'=>e= .returned (.agg #[.int .u64 (hi:Nat),.int .u64 ((a:Nat)),.int .i64 ((n:Int)+1)])∧Below w.heap.size w w':=by
 have d:=or_zero a c
 go_enter Tryz.func115,Tryz.ntmps115
 go_wp2
 go_region
 go_wp2
 refine bodyPost_ret (v:= .agg #[.int .u64 (hi:Nat),.int .u64 ((a:Nat)),.int .i64 ((n:Int)+1)]) (by simp [results,Tryz.results115,go_sem]) rfl ⟨rfl,?_⟩
 exact (((ziN _ _).alloc (ziM _) _).alloc (by simp) _).drew
theorem zfD (hi a n:Nat) (w:World) (g:a<18446744073709551616) (d:64≤n) (c:n<128) (f:rt (zaD hi a) n):
  Calls Tryz.prog 115 #[.agg #[.int .u64 (hi:Nat),.int .u64 (a:Nat),.int .i64 (n:Nat)],.int .i64 1] w fun e w'=>e= .returned (.agg #[.int .u64 (hi:Nat),.int .u64 ((a:Int)+2^(127 - n)),.int .i64 ((n:Int)+1)])∧Below w.heap.size w w':=by
 have b:=zgN g d c (ziE d (by omega) f)
 have h:=zeQ (127 - n) b (by rw [show (127 - n)+1=128 - n from by omega];exact ziE d (by omega) f)
 have i:IntKind.u64.wrap ((2:Int)^(127 - n))=(2:Int)^(127 - n):=by
  rw [show ((2:Int)^(127 - n))=((2^(127 - n):Nat):Int) from by simp]
  exact zdM _ (Nat.lt_of_le_of_lt (Nat.le_add_left _ _) b)
 go_enter Tryz.func115,Tryz.ntmps115
 go_wp2
 go_region
 go_wp2
 refine bodyPost_ret (v:= .agg #[.int .u64 (hi:Nat),.int .u64 ((a:Int)+2^(127 - n)),.int .i64 ((n:Int)+1)]) (by simp [results,Tryz.results115,go_sem]) rfl ⟨rfl,?_⟩
 exact (((ziN _ _).alloc (ziM _) _).alloc (by simp) _).drew
theorem zeT (P i:Nat) (w:World) (l:P<2^128) (hi:i<128):
  Calls Tryz.prog 115 #[pfW (ofW P i) (i:Nat),.int .i64 (bitW P i:Nat)] w fun e w'=>e= .returned (pfW (ofW P (i+1)) ((i+1:Nat):Int))∧Below w.heap.size w w':=by
 have j:=hiN_lt (ofW_lt (n:=i) l)
 have c:=loN_lt (ofW P i)
 have d:=zaX (ofW P i)
 have f:rt (zaD (hiN (ofW P i)) (loN (ofW P i))) i:=by rw [d];exact zhV P i
 have a:=zhK P i hi
 have b: ∀x y:Nat,y<18446744073709551616→zaD x y=ofW P (i+1)→pfW (ofW P (i+1)) ((i+1:Nat):Int)= .agg #[.int .u64 (x:Nat),.int .u64 (y:Nat),.int .i64 ((i:Int)+1)]:=fun x y k e=>by
  rw [←e,zhO k];rfl
 show Calls Tryz.prog 115 #[.agg #[.int .u64 (hiN (ofW P i):Nat),.int .u64 (loN (ofW P i):Nat),.int .i64 (i:Nat)],.int .i64 (bitW P i:Nat)] w _
 rcases zgV P i with g|g
 ·rw [g] at a ⊢
  rw [b (hiN (ofW P i)) (loN (ofW P i)) c (by rw [d,a];simp)]
  by_cases h:i<64
  ·exact zfU _ _ i w j h
  ·exact zgI _ _ i w c (by omega) hi
 ·rw [g] at a ⊢
  rw [Nat.one_mul] at a
  by_cases h:i<64
  ·have o:(2:Nat)^(127 - i)=2^(63 - i)*2^64:=by rw [←Nat.pow_add];congr 1;omega
   rw [b (hiN (ofW P i)+2^(63 - i)) (loN (ofW P i)) c (by rw [a,o,zgX,d])]
   have:=zfZ _ _ i w j c h f
   rw [show ((hiN (ofW P i)+2^(63 - i):Nat):Int)=(hiN (ofW P i):Int)+2^(63 - i) from by simp]
   exact this
  ·have m:=zgN c (by omega) hi (ziE (by omega) (by omega) f)
   rw [b (hiN (ofW P i)) (loN (ofW P i)+2^(127 - i)) m (by rw [a,zhB,d])]
   have:=zfD _ _ i w c (by omega) hi f
   rw [show ((loN (ofW P i)+2^(127 - i):Nat):Int)=(loN (ofW P i):Int)+2^(127 - i) from by simp]
   exact this
theorem zbC {W n P k i:Nat} (h:zaQ W P i (min n k - i)=zaV W n P k) (a:i=min n k∨bitW W i≠bitW P i):zaV W n P k=i:=by
 rw [←h]
 rcases a with e|e
 ·rw [e,Nat.sub_self];rfl
 ·cases f:min n k - i with
  |zero=>rfl
  |succ f=>show (if bitW W i=bitW P i then _ else i)=i;rw [if_neg e]
theorem zcI {W n P k i:Nat} (hi:i<min n k) (h:zaQ W P i (min n k - i)=zaV W n P k) (a:bitW W i=bitW P i):zaQ W P (i+1) (min n k - (i+1))=zaV W n P k:=by
 rw [←h,show min n k - i=(min n k - (i+1))+1 from by omega]
 show _=if bitW W i=bitW P i then _ else i
 rw [if_pos a]
theorem zhP {w:World} {b:Nat} {x y z a d c:Value} {t:TypeId} (h:w.heap[b]? =some (.cells #[x,y,z] t)):
  (((w.setCell ⟨b,0,none⟩ a).setCell ⟨b,1,none⟩ d).setCell ⟨b,2,none⟩ c).heap[b]? =some (.cells #[a,d,c] t):=by
 have e:=zcJ h 0 a
 have f:=zcJ e 1 d
 have g:=zcJ f 2 c
 exact g
theorem zdT {w:World} {b a:Nat} (c:b≠a) (d f e:Value):(((w.setCell ⟨a,0,none⟩ d).setCell ⟨a,1,none⟩ f).setCell ⟨a,2,none⟩ e).heap[b]? =w.heap[b]? :=by
 rw [zaZ c,zaZ c,zaZ c]
theorem Blks.set3 {L:List (Nat×Array Value×TypeId)} {w:World} {a:Nat} (h:Blks L w) (c: ∀e∈L,e.1≠a) (d g f:Value):Blks L (((w.setCell ⟨a,0,none⟩ d).setCell ⟨a,1,none⟩ g).setCell ⟨a,2,none⟩ f):=fun e b=>by
 rw [zdT (c e b)];exact h e b
theorem Below.set3 {a w:World} (h:Below a.heap.size a w) {b:Nat} (c:a.heap.size≤b) (x y z:Value):Below a.heap.size a (((w.setCell ⟨b,0,none⟩ x).setCell ⟨b,1,none⟩ y).setCell ⟨b,2,none⟩ z):=
 ((h.setCell (p:=⟨b,0,none⟩) c x).setCell (p:=⟨b,1,none⟩) c y).setCell (p:=⟨b,2,none⟩) c z
theorem zdQ (hi p n l j k:Nat) (w:World) (h1:hi<18446744073709551616) (h2:p<18446744073709551616) (h3:l<18446744073709551616) (h4:j<18446744073709551616) (hn:n≤128) (hk:k≤128):
  Calls Tryz.prog 91 #[.agg #[.int .u64 (hi:Nat),.int .u64 (p:Nat),.int .i64 (n:Nat)],.agg #[.int .u64 (l:Nat),.int .u64 (j:Nat),.int .i64 (k:Nat)]] w
   fun e w'=>e= .returned (pfW (ofW (zaD l j) (zaV (zaD hi p) n (zaD l j) k)) (zaV (zaD hi p) n (zaD l j) k:Nat))∧Below w.heap.size w w':=by
 obtain ⟨W,hW⟩: ∃W,zaD hi p=W:=⟨_,rfl⟩
 obtain ⟨P,hP⟩: ∃P,zaD l j=P:=⟨_,rfl⟩
 have U:P<2^128:=hP▸zhZ h3 h4
 have qa:Hid (∀(i:Nat) V,i<128→Calls Tryz.prog 90 #[.agg #[.int .u64 (hi:Nat),.int .u64 (p:Nat),.int .i64 (n:Nat)],.int .i64 (i:Nat)] V fun e w'=>e= .returned (.int .i64 (bitW W i:Nat))∧Below V.heap.size V w'):=fun i V h=>by
  have:=zhS hi p n i V h1 h2 h;rwa [hW] at this
 have T:Hid (∀(i:Nat) V,i<128→Calls Tryz.prog 90 #[.agg #[.int .u64 (l:Nat),.int .u64 (j:Nat),.int .i64 (k:Nat)],.int .i64 (i:Nat)] V fun e w'=>e= .returned (.int .i64 (bitW P i:Nat))∧Below V.heap.size V w'):=fun i V h=>by
  have:=zhS l j k i V h3 h4 h;rwa [hP] at this
 have ql:Hid (∀(i:Nat) V,i<128→Calls Tryz.prog 115 #[.agg #[.int .u64 (hiN (ofW P i):Nat),.int .u64 (loN (ofW P i):Nat),.int .i64 (i:Nat)],.int .i64 (bitW P i:Nat)] V fun e w'=>e= .returned (.agg #[.int .u64 (hiN (ofW P (i+1)):Nat),.int .u64 (loN (ofW P (i+1)):Nat),.int .i64 ((i+1:Nat):Int)])∧Below V.heap.size V w'):=fun i V h=>zeT P i V U h
 have HZ:Hid (hiN (ofW P 0)=0∧loN (ofW P 0)=0):=by
  have e:ofW P 0=0:=by show qt P 0*_=0;rw [qt_lt U,Nat.zero_mul]
  exact ⟨by rw [e];rfl,by rw [e];rfl⟩
 rw [hW,hP]
 clear hW hP
 obtain ⟨L,hL⟩: ∃L,min n k=L:=⟨_,rfl⟩
 have HL:=ziL hL
 have qo:min (n:Int) (k:Int)=(L:Nat):=by omega
 have qC:L≤128:=by omega
 clear hL
 go_enter Tryz.func91,Tryz.ntmps91
 go_wp2
 go_loopw [13] (fun x wr=> ∃i:Nat,i≤L∧x= .int .i64 i∧Hid (Blks [(w.heap.size+1+1,#[.int .u64 0,.int .u64 0,.int .i64 0],113),(w.heap.size+1,#[.int .u64 (l:Nat),.int .u64 (j:Nat),.int .i64 (k:Nat)],113),(w.heap.size,#[.int .u64 (hi:Nat),.int .u64 (p:Nat),.int .i64 (n:Nat)],113)] wr)∧Hid (wr.heap[w.heap.size+1+1+1]? =some (.cells #[.int .u64 (hiN (ofW P i):Nat),.int .u64 (loN (ofW P i):Nat),.int .i64 (i:Nat)] 113))∧Below w.heap.size w wr∧Hid (zaQ W P i (min n k - i)=zaV W n P k)) (fun x _=>L - (intOf x).toNat)
 case atStart=>
  refine ⟨0,by omega,rfl,?_,?_,?_,rfl⟩
  ·have h:=(((Blks.empty w).new #[.int .u64 (hi:Nat),.int .u64 (p:Nat),.int .i64 (n:Nat)] 113).new #[.int .u64 (l:Nat),.int .u64 (j:Nat),.int .i64 (k:Nat)] 113).new #[.int .u64 0,.int .u64 0,.int .i64 0] 113
   simp only [World.size_alloc] at h
   exact h.keep ((ziN _ _).alloc (ziM _) _)
  ·show _=_
   rw [HZ.out.1,HZ.out.2]
   have h:=(((((Blks.empty w).new #[.int .u64 (hi:Nat),.int .u64 (p:Nat),.int .i64 (n:Nat)] 113).new #[.int .u64 (l:Nat),.int .u64 (j:Nat),.int .i64 (k:Nat)] 113).new #[.int .u64 0,.int .u64 0,.int .i64 0] 113).new #[.int .u64 0,.int .u64 0,.int .i64 0] 113) _ (.head _)
   simp only [World.size_alloc] at h
   exact h
  ·exact ((((ziN _ _).alloc (ziM _) _).alloc (by simp) _).alloc (by simp;omega) _).alloc (by simp;omega) _
 case round=>
  obtain ⟨i,qD,rfl,q,J,hc,HC⟩:=hrel
  by_cases qn:i<L
  ·have o:i<128:=by omega
   by_cases r:bitW W i=bitW P i
   ·have HS:=ziL (zcI (by rw [HL.out];exact qn) HC.out r)
    have q1:=ziL (fun V=>qa.out i V o)
    rw [r] at q1
    have q2:=ziL (fun V=>T.out i V o)
    have q3:=ziL (fun V=>ql.out i V o)
    clear r
    obtain ⟨la,a0,a1,a2⟩:=q.out.r3 (b:=w.heap.size) (by repeat first|exact .head _|apply List.Mem.tail)
    obtain ⟨lb,b0,b1,b2⟩:=q.out.r3 (b:=w.heap.size+1) (by repeat first|exact .head _|apply List.Mem.tail)
    obtain ⟨⟨r0,r1,r2⟩,f0,f1,f2⟩:=row3 J.out
    go_wp2_with fail
    refine (q1.out _).mono ?_
    rintro e y1 ⟨rfl,f⟩
    have g:=ziL (q.out.keep f)
    have d:Hid (y1.heap[w.heap.size+1+1+1]? =_):=(f.block _ (zaO J.out)).trans J.out
    have B:=zaH hc f
    clear la a0 a1 a2 lb b0 b1 b2 r0 r1 r2 f0 f1 f2
    obtain ⟨K,C,O,F⟩:=g.out.r3 (b:=w.heap.size) (by repeat first|exact .head _|apply List.Mem.tail)
    obtain ⟨G,N,t,M⟩:=g.out.r3 (b:=w.heap.size+1) (by repeat first|exact .head _|apply List.Mem.tail)
    obtain ⟨⟨E,A,D⟩,I,s,y⟩:=row3 d.out
    go_wp2_with fail
    refine (q2.out _).mono ?_
    rintro e y2 ⟨rfl,c⟩
    have a:=ziL (g.out.keep c)
    have m:Hid (y2.heap[w.heap.size+1+1+1]? =_):=(c.block _ (zaO d.out)).trans d.out
    have z:=zaH B c
    clear K C O F G N t M E A D I s y
    obtain ⟨qg,Y,qe,qj⟩:=a.out.r3 (b:=w.heap.size) (by repeat first|exact .head _|apply List.Mem.tail)
    obtain ⟨X,S,qi,Z⟩:=a.out.r3 (b:=w.heap.size+1) (by repeat first|exact .head _|apply List.Mem.tail)
    obtain ⟨⟨qh,qb,qc⟩,qd,qk,R⟩:=row3 m.out
    go_wp2_with fail
    refine (q3.out _).mono ?_
    rintro e y3 ⟨rfl,H⟩
    have Q:=ziL (a.out.keep H)
    have qf:Hid (y3.heap[w.heap.size+1+1+1]? =_):=(H.block _ (zaO m.out)).trans m.out
    have qm:=zaH z H
    clear qg Y qe qj X S qi Z qh qb qc qd qk R
    obtain ⟨qB,qE,qr,qA⟩:=Q.out.r3 (b:=w.heap.size) (by repeat first|exact .head _|apply List.Mem.tail)
    obtain ⟨qF,qx,qG,qq⟩:=Q.out.r3 (b:=w.heap.size+1) (by repeat first|exact .head _|apply List.Mem.tail)
    obtain ⟨⟨qw,qv,qz⟩,qs,qp,qy⟩:=row3 qf.out
    go_wp2
    go_roundw
    case rel=>exact ⟨i+1,by omega,by go_num,Q.out.set3 (fun e r=>by simp at r;rcases r with rfl|rfl|rfl<;>simp<;>omega) _ _ _,zhP qf.out,Below.set3 qm (by omega) _ _ _,HS.out⟩
    case measure=>simp [intOf];omega
   ·have HE:=ziL (zbC HC.out (.inr r))
    have q1:=ziL (fun V=>qa.out i V o)
    have q2:=ziL (fun V=>T.out i V o)
    have t1:((bitW W i:Int) !=(bitW P i:Int))=true:=by
     have:(bitW W i:Int)≠(bitW P i:Int):=by omega
     simp [this]
    clear r
    obtain ⟨la,a0,a1,a2⟩:=q.out.r3 (b:=w.heap.size) (by repeat first|exact .head _|apply List.Mem.tail)
    obtain ⟨lb,b0,b1,b2⟩:=q.out.r3 (b:=w.heap.size+1) (by repeat first|exact .head _|apply List.Mem.tail)
    obtain ⟨⟨r0,r1,r2⟩,f0,f1,f2⟩:=row3 J.out
    go_wp2_with fail
    refine (q1.out _).mono ?_
    rintro e y1 ⟨rfl,f⟩
    have g:=ziL (q.out.keep f)
    have d:Hid (y1.heap[w.heap.size+1+1+1]? =_):=(f.block _ (zaO J.out)).trans J.out
    have B:=zaH hc f
    clear la a0 a1 a2 lb b0 b1 b2 r0 r1 r2 f0 f1 f2
    obtain ⟨K,C,O,F⟩:=g.out.r3 (b:=w.heap.size) (by repeat first|exact .head _|apply List.Mem.tail)
    obtain ⟨G,N,t,M⟩:=g.out.r3 (b:=w.heap.size+1) (by repeat first|exact .head _|apply List.Mem.tail)
    obtain ⟨⟨E,A,D⟩,I,s,y⟩:=row3 d.out
    go_wp2_with fail
    refine (q2.out _).mono ?_
    rintro e y2 ⟨rfl,c⟩
    have a:=ziL (g.out.keep c)
    have m:Hid (y2.heap[w.heap.size+1+1+1]? =_):=(c.block _ (zaO d.out)).trans d.out
    have z:=zaH B c
    clear K C O F G N t M E A D I s y
    obtain ⟨qg,Y,qe,qj⟩:=a.out.r3 (b:=w.heap.size) (by repeat first|exact .head _|apply List.Mem.tail)
    obtain ⟨X,S,qi,Z⟩:=a.out.r3 (b:=w.heap.size+1) (by repeat first|exact .head _|apply List.Mem.tail)
    obtain ⟨⟨qh,qb,qc⟩,qd,qk,R⟩:=row3 m.out
    obtain ⟨lz,z0,z1,z2⟩:=a.out.r3 (b:=w.heap.size+1+1) (by repeat first|exact .head _|apply List.Mem.tail)
    obtain ⟨_,g0,g1,g2⟩:=row3 (a.out _ (List.Mem.head _))
    go_wp2
    refine bodyPost_ret (v:= .agg #[.int .u64 (hiN (ofW P i):Nat),.int .u64 (loN (ofW P i):Nat),.int .i64 (i:Nat)]) (by simp [results,Tryz.results91,go_sem,z0,z1,z2]) rfl ⟨?_,?_⟩
    ·rw [HE.out];rfl
    ·exact Below.set3 z (by omega) _ _ _
  ·have e3:i=L:=by omega
   have HE:=ziL (zbC HC.out (.inl (by rw [HL.out];exact e3)))
   subst e3
   obtain ⟨la,a0,a1,a2⟩:=q.out.r3 (b:=w.heap.size) (by repeat first|exact .head _|apply List.Mem.tail)
   obtain ⟨lb,b0,b1,b2⟩:=q.out.r3 (b:=w.heap.size+1) (by repeat first|exact .head _|apply List.Mem.tail)
   obtain ⟨⟨r0,r1,r2⟩,f0,f1,f2⟩:=row3 J.out
   obtain ⟨lz,z0,z1,z2⟩:=q.out.r3 (b:=w.heap.size+1+1) (by repeat first|exact .head _|apply List.Mem.tail)
   obtain ⟨_,g0,g1,g2⟩:=row3 (q.out _ (List.Mem.head _))
   go_wp2
   refine bodyPost_ret (v:= .agg #[.int .u64 (hiN (ofW P i):Nat),.int .u64 (loN (ofW P i):Nat),.int .i64 (i:Nat)]) (by simp [results,Tryz.results91,go_sem,z0,z1,z2]) rfl ⟨?_,?_⟩
   ·rw [HE.out];rfl
   ·exact Below.set3 hc (by omega) _ _ _
end
end Go.Proofs.YtpmaemedpcgjaaaGreatDoor
