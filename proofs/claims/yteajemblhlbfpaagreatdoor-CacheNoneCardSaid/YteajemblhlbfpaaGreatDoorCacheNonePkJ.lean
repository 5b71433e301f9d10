/-
  What the law CacheNone leans on, and its walk (10 of 12).
-/
import Derived.RegionTactic
import Derived.Test.YteajemblhlbfpaaGreatDoorCacheNonePkG
import Derived.Test.YteajemblhlbfpaaGreatDoorCacheNonePkI
namespace Go.Proofs.YteajemblhlbfpaaGreatDoor
set_option maxRecDepth 100000
set_option maxHeartbeats 16000000
abbrev ziB := @Lib.hid
abbrev ziC := @Nat.le_refl
abbrev ziD := @Go.RowKit.Below.refl
section
open Go.RowKit
theorem zgA (hi a n:Nat) (w:World) (b:hi<18446744073709551616) (d:n<64):
  Calls Tryz.prog 142 #[.agg #[.int .u64 (hi:Nat),.int .u64 (a:Nat),.int .i64 (n:Nat)],.int .i64 0] w fun e w'=>e= .returned (.agg #[.int .u64 ((hi:Nat)),.int .u64 (a:Nat),.int .i64 ((n:Int)+1)])∧Below w.heap.size w w':=by
 have c:=or_zero hi b
 go_enter Tryz.func142,Tryz.ntmps142
 go_wp2
 go_region
 go_wp2
 refine bodyPost_ret (v:= .agg #[.int .u64 ((hi:Nat)),.int .u64 (a:Nat),.int .i64 ((n:Int)+1)]) (by simp [results,Tryz.results142,go_sem]) rfl ⟨rfl,?_⟩
 exact (((ziD _ _).alloc (ziC _) _).alloc (by simp) _).drew
theorem zeO (hi b n:Nat) (w:World) (g:hi<18446744073709551616) (f:b<18446744073709551616) (c:n<64) (d:rt (zaD hi b) n):
  Calls Tryz.prog 142 #[.agg #[.int .u64 (hi:Nat),.int .u64 (b:Nat),.int .i64 (n:Nat)],.int .i64 1] w fun e w'=>e= .returned (.agg #[.int .u64 ((hi:Int)+2^(63 - n)),.int .u64 (b:Nat),.int .i64 ((n:Int)+1)])∧Below w.heap.size w w':=by
 have a:=zhM g c (rt_hi f c d)
 have h:=zeA (63 - n) a (by rw [show (63 - n)+1=64 - n from by omega];exact rt_hi f c d)
 have i:IntKind.u64.wrap ((2:Int)^(63 - n))=(2:Int)^(63 - n):=by
  rw [show ((2:Int)^(63 - n))=((2^(63 - n):Nat):Int) from by simp]
  exact zcR _ (Nat.lt_of_le_of_lt (Nat.le_add_left _ _) a)
 go_enter Tryz.func142,Tryz.ntmps142
 go_wp2
 go_region
 go_wp2
 refine bodyPost_ret (v:= .agg #[.int .u64 ((hi:Int)+2^(63 - n)),.int .u64 (b:Nat),.int .i64 ((n:Int)+1)]) (by simp [results,Tryz.results142,go_sem]) rfl ⟨rfl,?_⟩
 exact (((ziD _ _).alloc (ziC _) _).alloc (by simp) _).drew
theorem zdU (hi a n:Nat) (w:World) (d:a<18446744073709551616) (f:64≤n) (b:n<128):
  Calls Tryz.prog 142 #[.agg #[.int .u64 (hi:Nat),.int .u64 (a:Nat),.int .i64 (n:Nat)],.int .i64 0] w fun e w'=>e= .returned (.agg #[.int .u64 (hi:Nat),.int .u64 ((a:Nat)),.int .i64 ((n:Int)+1)])∧Below w.heap.size w w':=by
 have c:=or_zero a d
 go_enter Tryz.func142,Tryz.ntmps142
 go_wp2
 go_region
 go_wp2
 refine bodyPost_ret (v:= .agg #[.int .u64 (hi:Nat),.int .u64 ((a:Nat)),.int .i64 ((n:Int)+1)]) (by simp [results,Tryz.results142,go_sem]) rfl ⟨rfl,?_⟩
 exact (((ziD _ _).alloc (ziC _) _).alloc (by simp) _).drew
theorem zfG (hi b n:Nat) (w:World) (i:b<18446744073709551616) (d:64≤n) (c:n<128) (f:rt (zaD hi b) n):
  Calls Tryz.prog 142 #[.agg #[.int .u64 (hi:Nat),.int .u64 (b:Nat),.int .i64 (n:Nat)],.int .i64 1] w fun e w'=>e= .returned (.agg #[.int .u64 (hi:Nat),.int .u64 ((b:Int)+2^(127 - n)),.int .i64 ((n:Int)+1)])∧Below w.heap.size w w':=by
 have a:=zeD i d c (zhJ d (by omega) f)
 have g:=zeA (127 - n) a (by rw [show (127 - n)+1=128 - n from by omega];exact zhJ d (by omega) f)
 have h:IntKind.u64.wrap ((2:Int)^(127 - n))=(2:Int)^(127 - n):=by
  rw [show ((2:Int)^(127 - n))=((2^(127 - n):Nat):Int) from by simp]
  exact zcR _ (Nat.lt_of_le_of_lt (Nat.le_add_left _ _) a)
 go_enter Tryz.func142,Tryz.ntmps142
 go_wp2
 go_region
 go_wp2
 refine bodyPost_ret (v:= .agg #[.int .u64 (hi:Nat),.int .u64 ((b:Int)+2^(127 - n)),.int .i64 ((n:Int)+1)]) (by simp [results,Tryz.results142,go_sem]) rfl ⟨rfl,?_⟩
 exact (((ziD _ _).alloc (ziC _) _).alloc (by simp) _).drew
theorem zeM (P i:Nat) (w:World) (o:P<2^128) (hi:i<128):
  Calls Tryz.prog 142 #[pfW (ofW P i) (i:Nat),.int .i64 (bitW P i:Nat)] w fun e w'=>e= .returned (pfW (ofW P (i+1)) ((i+1:Nat):Int))∧Below w.heap.size w w':=by
 have j:=hiN_lt (ofW_lt (n:=i) o)
 have c:=loN_lt (ofW P i)
 have d:=zaW (ofW P i)
 have g:rt (zaD (hiN (ofW P i)) (loN (ofW P i))) i:=by rw [d];exact zhP P i
 have a:=zgW P i hi
 have b: ∀x y:Nat,y<18446744073709551616→zaD x y=ofW P (i+1)→pfW (ofW P (i+1)) ((i+1:Nat):Int)= .agg #[.int .u64 (x:Nat),.int .u64 (y:Nat),.int .i64 ((i:Int)+1)]:=fun x y k e=>by
  rw [←e,zgL k];rfl
 show Calls Tryz.prog 142 #[.agg #[.int .u64 (hiN (ofW P i):Nat),.int .u64 (loN (ofW P i):Nat),.int .i64 (i:Nat)],.int .i64 (bitW P i:Nat)] w _
 rcases zhB P i with f|f
 ·rw [f] at a ⊢
  rw [b (hiN (ofW P i)) (loN (ofW P i)) c (by rw [d,a];simp)]
  by_cases h:i<64
  ·exact zgA _ _ i w j h
  ·exact zdU _ _ i w c (by omega) hi
 ·rw [f] at a ⊢
  rw [Nat.one_mul] at a
  by_cases h:i<64
  ·have l:(2:Nat)^(127 - i)=2^(63 - i)*2^64:=by rw [←Nat.pow_add];congr 1;omega
   rw [b (hiN (ofW P i)+2^(63 - i)) (loN (ofW P i)) c (by rw [a,l,zhC,d])]
   have:=zeO _ _ i w j c h g
   rw [show ((hiN (ofW P i)+2^(63 - i):Nat):Int)=(hiN (ofW P i):Int)+2^(63 - i) from by simp]
   exact this
  ·have m:=zeD c (by omega) hi (zhJ (by omega) (by omega) g)
   rw [b (hiN (ofW P i)) (loN (ofW P i)+2^(127 - i)) m (by rw [a,zhF,d])]
   have:=zfG _ _ i w c (by omega) hi g
   rw [show ((loN (ofW P i)+2^(127 - i):Nat):Int)=(loN (ofW P i):Int)+2^(127 - i) from by simp]
   exact this
theorem zbE {W n P k i:Nat} (h:zaQ W P i (min n k - i)=zaS W n P k) (a:i=min n k∨bitW W i≠bitW P i):zaS W n P k=i:=by
 rw [←h]
 rcases a with e|e
 ·rw [e,Nat.sub_self];rfl
 ·cases f:min n k - i with
  |zero=>rfl
  |succ f=>show (if bitW W i=bitW P i then _ else i)=i;rw [if_neg e]
theorem zcI {W n P k i:Nat} (hi:i<min n k) (h:zaQ W P i (min n k - i)=zaS W n P k) (a:bitW W i=bitW P i):zaQ W P (i+1) (min n k - (i+1))=zaS W n P k:=by
 rw [←h,show min n k - i=(min n k - (i+1))+1 from by omega]
 show _=if bitW W i=bitW P i then _ else i
 rw [if_pos a]
theorem zhD {w:World} {b:Nat} {x y z a d c:Value} {t:TypeId} (h:w.heap[b]? =some (.cells #[x,y,z] t)):
  (((w.setCell ⟨b,0,none⟩ a).setCell ⟨b,1,none⟩ d).setCell ⟨b,2,none⟩ c).heap[b]? =some (.cells #[a,d,c] t):=by
 have e:=zcH h 0 a
 have f:=zcH e 1 d
 have g:=zcH f 2 c
 exact g
theorem zdN {w:World} {b a:Nat} (c:b≠a) (e f d:Value):(((w.setCell ⟨a,0,none⟩ e).setCell ⟨a,1,none⟩ f).setCell ⟨a,2,none⟩ d).heap[b]? =w.heap[b]? :=by
 rw [zbB c,zbB c,zbB c]
theorem Blks.set3 {L:List (Nat×Array Value×TypeId)} {w:World} {a:Nat} (h:Blks L w) (c: ∀e∈L,e.1≠a) (f g d:Value):Blks L (((w.setCell ⟨a,0,none⟩ f).setCell ⟨a,1,none⟩ g).setCell ⟨a,2,none⟩ d):=fun e b=>by
 rw [zdN (c e b)];exact h e b
theorem Below.set3 {a w:World} (h:Below a.heap.size a w) {b:Nat} (c:a.heap.size≤b) (x y z:Value):Below a.heap.size a (((w.setCell ⟨b,0,none⟩ x).setCell ⟨b,1,none⟩ y).setCell ⟨b,2,none⟩ z):=
 ((h.setCell (p:=⟨b,0,none⟩) c x).setCell (p:=⟨b,1,none⟩) c y).setCell (p:=⟨b,2,none⟩) c z
theorem zdP (hi p n j m k:Nat) (w:World) (h1:hi<18446744073709551616) (h2:p<18446744073709551616) (h3:j<18446744073709551616) (h4:m<18446744073709551616) (hn:n≤128) (hk:k≤128):
  Calls Tryz.prog 104 #[.agg #[.int .u64 (hi:Nat),.int .u64 (p:Nat),.int .i64 (n:Nat)],.agg #[.int .u64 (j:Nat),.int .u64 (m:Nat),.int .i64 (k:Nat)]] w
   fun e w'=>e= .returned (pfW (ofW (zaD j m) (zaS (zaD hi p) n (zaD j m) k)) (zaS (zaD hi p) n (zaD j m) k:Nat))∧Below w.heap.size w w':=by
 obtain ⟨W,hW⟩: ∃W,zaD hi p=W:=⟨_,rfl⟩
 obtain ⟨P,hP⟩: ∃P,zaD j m=P:=⟨_,rfl⟩
 have R:P<2^128:=hP▸zhN h3 h4
 have X:Hid (∀(i:Nat) V,i<128→Calls Tryz.prog 103 #[.agg #[.int .u64 (hi:Nat),.int .u64 (p:Nat),.int .i64 (n:Nat)],.int .i64 (i:Nat)] V fun e w'=>e= .returned (.int .i64 (bitW W i:Nat))∧Below V.heap.size V w'):=fun i V h=>by
  have:=zhI hi p n i V h1 h2 h;rwa [hW] at this
 have qc:Hid (∀(i:Nat) V,i<128→Calls Tryz.prog 103 #[.agg #[.int .u64 (j:Nat),.int .u64 (m:Nat),.int .i64 (k:Nat)],.int .i64 (i:Nat)] V fun e w'=>e= .returned (.int .i64 (bitW P i:Nat))∧Below V.heap.size V w'):=fun i V h=>by
  have:=zhI j m k i V h3 h4 h;rwa [hP] at this
 have qn:Hid (∀(i:Nat) V,i<128→Calls Tryz.prog 142 #[.agg #[.int .u64 (hiN (ofW P i):Nat),.int .u64 (loN (ofW P i):Nat),.int .i64 (i:Nat)],.int .i64 (bitW P i:Nat)] V fun e w'=>e= .returned (.agg #[.int .u64 (hiN (ofW P (i+1)):Nat),.int .u64 (loN (ofW P (i+1)):Nat),.int .i64 ((i+1:Nat):Int)])∧Below V.heap.size V w'):=fun i V h=>zeM P i V R h
 have HZ:Hid (hiN (ofW P 0)=0∧loN (ofW P 0)=0):=by
  have e:ofW P 0=0:=by show qt P 0*_=0;rw [qt_lt R,Nat.zero_mul]
  exact ⟨by rw [e];rfl,by rw [e];rfl⟩
 rw [hW,hP]
 clear hW hP
 obtain ⟨L,hL⟩: ∃L,min n k=L:=⟨_,rfl⟩
 have HL:=ziB hL
 have qo:min (n:Int) (k:Int)=(L:Nat):=by omega
 have qr:L≤128:=by omega
 clear hL
 go_enter Tryz.func104,Tryz.ntmps104
 go_wp2
 go_loopw [13] (fun x wr=> ∃i:Nat,i≤L∧x= .int .i64 i∧Hid (Blks [(w.heap.size+1+1,#[.int .u64 0,.int .u64 0,.int .i64 0],125),(w.heap.size+1,#[.int .u64 (j:Nat),.int .u64 (m:Nat),.int .i64 (k:Nat)],125),(w.heap.size,#[.int .u64 (hi:Nat),.int .u64 (p:Nat),.int .i64 (n:Nat)],125)] wr)∧Hid (wr.heap[w.heap.size+1+1+1]? =some (.cells #[.int .u64 (hiN (ofW P i):Nat),.int .u64 (loN (ofW P i):Nat),.int .i64 (i:Nat)] 125))∧Below w.heap.size w wr∧Hid (zaQ W P i (min n k - i)=zaS W n P k)) (fun x _=>L - (intOf x).toNat)
 case atStart=>
  refine ⟨0,by omega,rfl,?_,?_,?_,rfl⟩
  ·have h:=(((Blks.empty w).new #[.int .u64 (hi:Nat),.int .u64 (p:Nat),.int .i64 (n:Nat)] 125).new #[.int .u64 (j:Nat),.int .u64 (m:Nat),.int .i64 (k:Nat)] 125).new #[.int .u64 0,.int .u64 0,.int .i64 0] 125
   simp only [World.size_alloc] at h
   exact h.keep ((ziD _ _).alloc (ziC _) _)
  ·show _=_
   rw [HZ.out.1,HZ.out.2]
   have h:=(((((Blks.empty w).new #[.int .u64 (hi:Nat),.int .u64 (p:Nat),.int .i64 (n:Nat)] 125).new #[.int .u64 (j:Nat),.int .u64 (m:Nat),.int .i64 (k:Nat)] 125).new #[.int .u64 0,.int .u64 0,.int .i64 0] 125).new #[.int .u64 0,.int .u64 0,.int .i64 0] 125) _ (.head _)
   simp only [World.size_alloc] at h
   exact h
  ·exact ((((ziD _ _).alloc (ziC _) _).alloc (by simp) _).alloc (by simp;omega) _).alloc (by simp;omega) _
 case round=>
  obtain ⟨i,qC,rfl,q,N,hc,HC⟩:=hrel
  by_cases qm:i<L
  ·have o:i<128:=by omega
   by_cases r:bitW W i=bitW P i
   ·have HS:=ziB (zcI (by rw [HL.out];exact qm) HC.out r)
    have q1:=ziB (fun V=>X.out i V o)
    rw [r] at q1
    have q2:=ziB (fun V=>qc.out i V o)
    have q3:=ziB (fun V=>qn.out i V o)
    clear r
    obtain ⟨la,a0,a1,a2⟩:=q.out.r3 (b:=w.heap.size) (by repeat first|exact .head _|apply List.Mem.tail)
    obtain ⟨lb,b0,b1,b2⟩:=q.out.r3 (b:=w.heap.size+1) (by repeat first|exact .head _|apply List.Mem.tail)
    obtain ⟨⟨r0,r1,r2⟩,f0,f1,f2⟩:=row3 N.out
    go_wp2_with fail
    refine (q1.out _).mono ?_
    rintro e y1 ⟨rfl,d⟩
    have g:=ziB (q.out.keep d)
    have f:Hid (y1.heap[w.heap.size+1+1+1]? =_):=(d.block _ (zaO N.out)).trans N.out
    have O:=zaH hc d
    clear la a0 a1 a2 lb b0 b1 b2 r0 r1 r2 f0 f1 f2
    obtain ⟨Q,E,M,t⟩:=g.out.r3 (b:=w.heap.size) (by repeat first|exact .head _|apply List.Mem.tail)
    obtain ⟨A,C,G,z⟩:=g.out.r3 (b:=w.heap.size+1) (by repeat first|exact .head _|apply List.Mem.tail)
    obtain ⟨⟨D,s,K⟩,H,y,I⟩:=row3 f.out
    go_wp2_with fail
    refine (q2.out _).mono ?_
    rintro e y2 ⟨rfl,c⟩
    have a:=ziB (g.out.keep c)
    have l:Hid (y2.heap[w.heap.size+1+1+1]? =_):=(c.block _ (zaO f.out)).trans f.out
    have J:=zaH O c
    clear Q E M t A C G z D s K H y I
    obtain ⟨qe,qb,qk,qj⟩:=a.out.r3 (b:=w.heap.size) (by repeat first|exact .head _|apply List.Mem.tail)
    obtain ⟨qh,qa,Y,qg⟩:=a.out.r3 (b:=w.heap.size+1) (by repeat first|exact .head _|apply List.Mem.tail)
    obtain ⟨⟨Z,S,qi⟩,qd,T,qf⟩:=row3 l.out
    go_wp2_with fail
    refine (q3.out _).mono ?_
    rintro e y3 ⟨rfl,B⟩
    have F:=ziB (a.out.keep B)
    have U:Hid (y3.heap[w.heap.size+1+1+1]? =_):=(B.block _ (zaO l.out)).trans l.out
    have ql:=zaH J B
    clear qe qb qk qj qh qa Y qg Z S qi qd T qf
    obtain ⟨qG,qF,qp,qz⟩:=F.out.r3 (b:=w.heap.size) (by repeat first|exact .head _|apply List.Mem.tail)
    obtain ⟨qs,qq,qv,qA⟩:=F.out.r3 (b:=w.heap.size+1) (by repeat first|exact .head _|apply List.Mem.tail)
    obtain ⟨⟨qy,qD,qE⟩,qB,qw,qx⟩:=row3 U.out
    go_wp2
    go_roundw
    case rel=>exact ⟨i+1,by omega,by go_num,F.out.set3 (fun e r=>by simp at r;rcases r with rfl|rfl|rfl<;>simp<;>omega) _ _ _,zhD U.out,Below.set3 ql (by omega) _ _ _,HS.out⟩
    case measure=>simp [intOf];omega
   ·have HE:=ziB (zbE HC.out (.inr r))
    have q1:=ziB (fun V=>X.out i V o)
    have q2:=ziB (fun V=>qc.out i V o)
    have t1:((bitW W i:Int) !=(bitW P i:Int))=true:=by
     have:(bitW W i:Int)≠(bitW P i:Int):=by omega
     simp [this]
    clear r
    obtain ⟨la,a0,a1,a2⟩:=q.out.r3 (b:=w.heap.size) (by repeat first|exact .head _|apply List.Mem.tail)
    obtain ⟨lb,b0,b1,b2⟩:=q.out.r3 (b:=w.heap.size+1) (by repeat first|exact .head _|apply List.Mem.tail)
    obtain ⟨⟨r0,r1,r2⟩,f0,f1,f2⟩:=row3 N.out
    go_wp2_with fail
    refine (q1.out _).mono ?_
    rintro e y1 ⟨rfl,d⟩
    have g:=ziB (q.out.keep d)
    have f:Hid (y1.heap[w.heap.size+1+1+1]? =_):=(d.block _ (zaO N.out)).trans N.out
    have O:=zaH hc d
    clear la a0 a1 a2 lb b0 b1 b2 r0 r1 r2 f0 f1 f2
    obtain ⟨Q,E,M,t⟩:=g.out.r3 (b:=w.heap.size) (by repeat first|exact .head _|apply List.Mem.tail)
    obtain ⟨A,C,G,z⟩:=g.out.r3 (b:=w.heap.size+1) (by repeat first|exact .head _|apply List.Mem.tail)
    obtain ⟨⟨D,s,K⟩,H,y,I⟩:=row3 f.out
    go_wp2_with fail
    refine (q2.out _).mono ?_
    rintro e y2 ⟨rfl,c⟩
    have a:=ziB (g.out.keep c)
    have l:Hid (y2.heap[w.heap.size+1+1+1]? =_):=(c.block _ (zaO f.out)).trans f.out
    have J:=zaH O c
    clear Q E M t A C G z D s K H y I
    obtain ⟨qe,qb,qk,qj⟩:=a.out.r3 (b:=w.heap.size) (by repeat first|exact .head _|apply List.Mem.tail)
    obtain ⟨qh,qa,Y,qg⟩:=a.out.r3 (b:=w.heap.size+1) (by repeat first|exact .head _|apply List.Mem.tail)
    obtain ⟨⟨Z,S,qi⟩,qd,T,qf⟩:=row3 l.out
    obtain ⟨lz,z0,z1,z2⟩:=a.out.r3 (b:=w.heap.size+1+1) (by repeat first|exact .head _|apply List.Mem.tail)
    obtain ⟨_,g0,g1,g2⟩:=row3 (a.out _ (List.Mem.head _))
    go_wp2
    refine bodyPost_ret (v:= .agg #[.int .u64 (hiN (ofW P i):Nat),.int .u64 (loN (ofW P i):Nat),.int .i64 (i:Nat)]) (by simp [results,Tryz.results104,go_sem,z0,z1,z2]) rfl ⟨?_,?_⟩
    ·rw [HE.out];rfl
    ·exact Below.set3 J (by omega) _ _ _
  ·have e3:i=L:=by omega
   have HE:=ziB (zbE HC.out (.inl (by rw [HL.out];exact e3)))
   subst e3
   obtain ⟨la,a0,a1,a2⟩:=q.out.r3 (b:=w.heap.size) (by repeat first|exact .head _|apply List.Mem.tail)
   obtain ⟨lb,b0,b1,b2⟩:=q.out.r3 (b:=w.heap.size+1) (by repeat first|exact .head _|apply List.Mem.tail)
   obtain ⟨⟨r0,r1,r2⟩,f0,f1,f2⟩:=row3 N.out
   obtain ⟨lz,z0,z1,z2⟩:=q.out.r3 (b:=w.heap.size+1+1) (by repeat first|exact .head _|apply List.Mem.tail)
   obtain ⟨_,g0,g1,g2⟩:=row3 (q.out _ (List.Mem.head _))
   go_wp2
   refine bodyPost_ret (v:= .agg #[.int .u64 (hiN (ofW P i):Nat),.int .u64 (loN (ofW P i):Nat),.int .i64 (i:Nat)]) (by simp [results,Tryz.results104,go_sem,z0,z1,z2]) rfl ⟨?_,?_⟩
   ·rw [HE.out];rfl
   ·exact Below.set3 hc (by omega) _ _ _
end
end Go.Proofs.YteajemblhlbfpaaGreatDoor
