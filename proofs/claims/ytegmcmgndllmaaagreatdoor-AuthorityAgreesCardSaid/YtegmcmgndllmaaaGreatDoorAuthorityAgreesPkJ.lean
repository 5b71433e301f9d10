/-
  What the law AuthorityAgrees leans on, and its walk (10 of 43).
-/
import Derived.RegionTactic
import Derived.Test.YtegmcmgndllmaaaGreatDoorAuthorityAgreesPkG
import Derived.Test.YtegmcmgndllmaaaGreatDoorAuthorityAgreesPkI
import Derived.Test.YtegmcmgndllmaaaGreatDoorAuthorityAgreesPkF
namespace Go.Proofs.YtegmcmgndllmaaaGreatDoor
set_option maxRecDepth 100000
set_option maxHeartbeats 16000000
abbrev ynV := @Lib.hid
abbrev ynW := @Nat.le_refl
abbrev ynX := @Go.RowKit.Below.refl
section
open Go.RowKit
theorem z6J (hi lo n:Nat) (w:World) (d:hi<18446744073709551616) (g:n<64):
  Calls Tryz.prog 290 #[.agg #[.int .u64 (hi:Nat),.int .u64 (lo:Nat),.int .i64 (n:Nat)],.int .i64 0] w fun e w'=>e= .returned (.agg #[.int .u64 ((hi:Nat)),.int .u64 (lo:Nat),.int .i64 ((n:Int)+1)])∧Below w.heap.size w w':=by
 have f:=or_zero hi d
 go_enter Tryz.func290,Tryz.ntmps290
 go_wp2
 go_region
 go_wp2
 refine bodyPost_ret (v:= .agg #[.int .u64 ((hi:Nat)),.int .u64 (lo:Nat),.int .i64 ((n:Int)+1)]) (by simp [results,Tryz.results290,go_sem]) rfl ⟨rfl,?_⟩
 exact (((ynX _ _).alloc (ynW _) _).alloc (by simp) _).drew
theorem yaU (hi lo n:Nat) (w:World) (j:hi<18446744073709551616) (i:lo<18446744073709551616) (f:n<64) (g:rt (zaQ hi lo) n):
  Calls Tryz.prog 290 #[.agg #[.int .u64 (hi:Nat),.int .u64 (lo:Nat),.int .i64 (n:Nat)],.int .i64 1] w fun e w'=>e= .returned (.agg #[.int .u64 ((hi:Int)+2^(63 - n)),.int .u64 (lo:Nat),.int .i64 ((n:Int)+1)])∧Below w.heap.size w w':=by
 have d:=ykO j f (rt_hi i f g)
 have m:=z9J (63 - n) d (by rw [show (63 - n)+1=64 - n from by omega];exact rt_hi i f g)
 have o:IntKind.u64.wrap ((2:Int)^(63 - n))=(2:Int)^(63 - n):=by
  rw [show ((2:Int)^(63 - n))=((2^(63 - n):Nat):Int) from by simp]
  exact zyN _ (Nat.lt_of_le_of_lt (Nat.le_add_left _ _) d)
 go_enter Tryz.func290,Tryz.ntmps290
 go_wp2
 go_region
 go_wp2
 refine bodyPost_ret (v:= .agg #[.int .u64 ((hi:Int)+2^(63 - n)),.int .u64 (lo:Nat),.int .i64 ((n:Int)+1)]) (by simp [results,Tryz.results290,go_sem]) rfl ⟨rfl,?_⟩
 exact (((ynX _ _).alloc (ynW _) _).alloc (by simp) _).drew
theorem ybX (hi lo n:Nat) (w:World) (g:lo<18446744073709551616) (i:64≤n) (d:n<128):
  Calls Tryz.prog 290 #[.agg #[.int .u64 (hi:Nat),.int .u64 (lo:Nat),.int .i64 (n:Nat)],.int .i64 0] w fun e w'=>e= .returned (.agg #[.int .u64 (hi:Nat),.int .u64 ((lo:Nat)),.int .i64 ((n:Int)+1)])∧Below w.heap.size w w':=by
 have f:=or_zero lo g
 go_enter Tryz.func290,Tryz.ntmps290
 go_wp2
 go_region
 go_wp2
 refine bodyPost_ret (v:= .agg #[.int .u64 (hi:Nat),.int .u64 ((lo:Nat)),.int .i64 ((n:Int)+1)]) (by simp [results,Tryz.results290,go_sem]) rfl ⟨rfl,?_⟩
 exact (((ynX _ _).alloc (ynW _) _).alloc (by simp) _).drew
theorem z9D (hi lo n:Nat) (w:World) (o:lo<18446744073709551616) (g:64≤n) (f:n<128) (i:rt (zaQ hi lo) n):
  Calls Tryz.prog 290 #[.agg #[.int .u64 (hi:Nat),.int .u64 (lo:Nat),.int .i64 (n:Nat)],.int .i64 1] w fun e w'=>e= .returned (.agg #[.int .u64 (hi:Nat),.int .u64 ((lo:Int)+2^(127 - n)),.int .i64 ((n:Int)+1)])∧Below w.heap.size w w':=by
 have d:=ycA o g f (ymI g (by omega) i)
 have j:=z9J (127 - n) d (by rw [show (127 - n)+1=128 - n from by omega];exact ymI g (by omega) i)
 have m:IntKind.u64.wrap ((2:Int)^(127 - n))=(2:Int)^(127 - n):=by
  rw [show ((2:Int)^(127 - n))=((2^(127 - n):Nat):Int) from by simp]
  exact zyN _ (Nat.lt_of_le_of_lt (Nat.le_add_left _ _) d)
 go_enter Tryz.func290,Tryz.ntmps290
 go_wp2
 go_region
 go_wp2
 refine bodyPost_ret (v:= .agg #[.int .u64 (hi:Nat),.int .u64 ((lo:Int)+2^(127 - n)),.int .i64 ((n:Int)+1)]) (by simp [results,Tryz.results290,go_sem]) rfl ⟨rfl,?_⟩
 exact (((ynX _ _).alloc (ynW _) _).alloc (by simp) _).drew
theorem z9A (P i:Nat) (w:World) (hP:P<2^128) (hi:i<128):
  Calls Tryz.prog 290 #[pfW (ofW P i) (i:Nat),.int .i64 (bitW P i:Nat)] w fun e w'=>e= .returned (pfW (ofW P (i+1)) ((i+1:Nat):Int))∧Below w.heap.size w w':=by
 have q:=hiN_lt (ofW_lt (n:=i) hP)
 have g:=loN_lt (ofW P i)
 have j:=zkX (ofW P i)
 have o:rt (zaQ (hiN (ofW P i)) (loN (ofW P i))) i:=by rw [j];exact ykL P i
 have d:=ygL P i hi
 have f: ∀x y:Nat,y<18446744073709551616→zaQ x y=ofW P (i+1)→pfW (ofW P (i+1)) ((i+1:Nat):Int)= .agg #[.int .u64 (x:Nat),.int .u64 (y:Nat),.int .i64 ((i:Int)+1)]:=fun x y C e=>by
  rw [←e,yfT C];rfl
 show Calls Tryz.prog 290 #[.agg #[.int .u64 (hiN (ofW P i):Nat),.int .u64 (loN (ofW P i):Nat),.int .i64 (i:Nat)],.int .i64 (bitW P i:Nat)] w _
 rcases ygJ P i with m|m
 ·rw [m] at d ⊢
  rw [f (hiN (ofW P i)) (loN (ofW P i)) g (by rw [j,d];simp)]
  by_cases h:i<64
  ·exact z6J _ _ i w q h
  ·exact ybX _ _ i w g (by omega) hi
 ·rw [m] at d ⊢
  rw [Nat.one_mul] at d
  by_cases h:i<64
  ·have A:(2:Nat)^(127 - i)=2^(63 - i)*2^64:=by rw [←Nat.pow_add];congr 1;omega
   rw [f (hiN (ofW P i)+2^(63 - i)) (loN (ofW P i)) g (by rw [d,A,ygC,j])]
   have:=yaU _ _ i w q g h o
   rw [show ((hiN (ofW P i)+2^(63 - i):Nat):Int)=(hiN (ofW P i):Int)+2^(63 - i) from by simp]
   exact this
  ·have B:=ycA g (by omega) hi (ymI (by omega) (by omega) o)
   rw [f (hiN (ofW P i)) (loN (ofW P i)+2^(127 - i)) B (by rw [d,yfL,j])]
   have:=z9D _ _ i w g (by omega) hi o
   rw [show ((loN (ofW P i)+2^(127 - i):Nat):Int)=(loN (ofW P i):Int)+2^(127 - i) from by simp]
   exact this
theorem zpP {W n P k i:Nat} (h:ziG W P i (min n k - i)=zkB W n P k) (d:i=min n k∨bitW W i≠bitW P i):zkB W n P k=i:=by
 rw [←h]
 rcases d with e|e
 ·rw [e,Nat.sub_self];rfl
 ·cases f:min n k - i with
  |zero=>rfl
  |succ f=>show (if bitW W i=bitW P i then _ else i)=i;rw [if_neg e]
theorem zwW {W n P k i:Nat} (hi:i<min n k) (h:ziG W P i (min n k - i)=zkB W n P k) (d:bitW W i=bitW P i):ziG W P (i+1) (min n k - (i+1))=zkB W n P k:=by
 rw [←h,show min n k - i=(min n k - (i+1))+1 from by omega]
 show _=if bitW W i=bitW P i then _ else i
 rw [if_pos d]
theorem yfD {w:World} {b:Nat} {x y z f d e:Value} {t:TypeId} (h:w.heap[b]? =some (.cells #[x,y,z] t)):
  (((w.setCell ⟨b,0,none⟩ f).setCell ⟨b,1,none⟩ d).setCell ⟨b,2,none⟩ e).heap[b]? =some (.cells #[f,d,e] t):=by
 have g:=zaL h 0 f
 have j:=zaL g 1 d
 have i:=zaL j 2 e
 exact i
theorem z4L {w:World} {b d:Nat} (e:b≠d) (i f g:Value):(((w.setCell ⟨d,0,none⟩ i).setCell ⟨d,1,none⟩ f).setCell ⟨d,2,none⟩ g).heap[b]? =w.heap[b]? :=by
 rw [zcR e,zcR e,zcR e]
theorem Blks.set3 {L:List (Nat×Array Value×TypeId)} {w:World} {d:Nat} (h:Blks L w) (g: ∀e∈L,e.1≠d) (m i j:Value):Blks L (((w.setCell ⟨d,0,none⟩ m).setCell ⟨d,1,none⟩ i).setCell ⟨d,2,none⟩ j):=fun e f=>by
 rw [z4L (g e f)];exact h e f
theorem Below.set3 {a w:World} (h:Below a.heap.size a w) {b:Nat} (d:a.heap.size≤b) (x y z:Value):Below a.heap.size a (((w.setCell ⟨b,0,none⟩ x).setCell ⟨b,1,none⟩ y).setCell ⟨b,2,none⟩ z):=
 ((h.setCell (p:=⟨b,0,none⟩) d x).setCell (p:=⟨b,1,none⟩) d y).setCell (p:=⟨b,2,none⟩) d z
theorem z4B (hi lo n o q k:Nat) (w:World) (h1:hi<18446744073709551616) (h2:lo<18446744073709551616) (h3:o<18446744073709551616) (h4:q<18446744073709551616) (hn:n≤128) (hk:k≤128):
  Calls Tryz.prog 247 #[.agg #[.int .u64 (hi:Nat),.int .u64 (lo:Nat),.int .i64 (n:Nat)],.agg #[.int .u64 (o:Nat),.int .u64 (q:Nat),.int .i64 (k:Nat)]] w
   fun e w'=>e= .returned (pfW (ofW (zaQ o q) (zkB (zaQ hi lo) n (zaQ o q) k)) (zkB (zaQ hi lo) n (zaQ o q) k:Nat))∧Below w.heap.size w w':=by
 obtain ⟨W,hW⟩: ∃W,zaQ hi lo=W:=⟨_,rfl⟩
 obtain ⟨P,hP⟩: ∃P,zaQ o q=P:=⟨_,rfl⟩
 have qk:P<2^128:=hP▸ykH h3 h4
 have qn:Hid (∀(i:Nat) V,i<128→Calls Tryz.prog 246 #[.agg #[.int .u64 (hi:Nat),.int .u64 (lo:Nat),.int .i64 (n:Nat)],.int .i64 (i:Nat)] V fun e w'=>e= .returned (.int .i64 (bitW W i:Nat))∧Below V.heap.size V w'):=fun i V h=>by
  have:=yjA hi lo n i V h1 h2 h;rwa [hW] at this
 have qq:Hid (∀(i:Nat) V,i<128→Calls Tryz.prog 246 #[.agg #[.int .u64 (o:Nat),.int .u64 (q:Nat),.int .i64 (k:Nat)],.int .i64 (i:Nat)] V fun e w'=>e= .returned (.int .i64 (bitW P i:Nat))∧Below V.heap.size V w'):=fun i V h=>by
  have:=yjA o q k i V h3 h4 h;rwa [hP] at this
 have qx:Hid (∀(i:Nat) V,i<128→Calls Tryz.prog 290 #[.agg #[.int .u64 (hiN (ofW P i):Nat),.int .u64 (loN (ofW P i):Nat),.int .i64 (i:Nat)],.int .i64 (bitW P i:Nat)] V fun e w'=>e= .returned (.agg #[.int .u64 (hiN (ofW P (i+1)):Nat),.int .u64 (loN (ofW P (i+1)):Nat),.int .i64 ((i+1:Nat):Int)])∧Below V.heap.size V w'):=fun i V h=>z9A P i V qk h
 have HZ:Hid (hiN (ofW P 0)=0∧loN (ofW P 0)=0):=by
  have e:ofW P 0=0:=by show qt P 0*_=0;rw [qt_lt qk,Nat.zero_mul]
  exact ⟨by rw [e];rfl,by rw [e];rfl⟩
 rw [hW,hP]
 clear hW hP
 obtain ⟨L,hL⟩: ∃L,min n k=L:=⟨_,rfl⟩
 have HL:=ynV hL
 have qA:min (n:Int) (k:Int)=(L:Nat):=by omega
 have qL:L≤128:=by omega
 clear hL
 go_enter Tryz.func247,Tryz.ntmps247
 go_wp2
 go_loopw [13] (fun x wr=> ∃i:Nat,i≤L∧x= .int .i64 i∧Hid (Blks [(w.heap.size+1+1,#[.int .u64 0,.int .u64 0,.int .i64 0],183),(w.heap.size+1,#[.int .u64 (o:Nat),.int .u64 (q:Nat),.int .i64 (k:Nat)],183),(w.heap.size,#[.int .u64 (hi:Nat),.int .u64 (lo:Nat),.int .i64 (n:Nat)],183)] wr)∧Hid (wr.heap[w.heap.size+1+1+1]? =some (.cells #[.int .u64 (hiN (ofW P i):Nat),.int .u64 (loN (ofW P i):Nat),.int .i64 (i:Nat)] 183))∧Below w.heap.size w wr∧Hid (ziG W P i (min n k - i)=zkB W n P k)) (fun x _=>L - (intOf x).toNat)
 case atStart=>
  refine ⟨0,by omega,rfl,?_,?_,?_,rfl⟩
  ·have h:=(((Blks.empty w).new #[.int .u64 (hi:Nat),.int .u64 (lo:Nat),.int .i64 (n:Nat)] 183).new #[.int .u64 (o:Nat),.int .u64 (q:Nat),.int .i64 (k:Nat)] 183).new #[.int .u64 0,.int .u64 0,.int .i64 0] 183
   simp only [World.size_alloc] at h
   exact h.keep ((ynX _ _).alloc (ynW _) _)
  ·show _=_
   rw [HZ.out.1,HZ.out.2]
   have h:=(((((Blks.empty w).new #[.int .u64 (hi:Nat),.int .u64 (lo:Nat),.int .i64 (n:Nat)] 183).new #[.int .u64 (o:Nat),.int .u64 (q:Nat),.int .i64 (k:Nat)] 183).new #[.int .u64 0,.int .u64 0,.int .i64 0] 183).new #[.int .u64 0,.int .u64 0,.int .i64 0] 183) _ (.head _)
   simp only [World.size_alloc] at h
   exact h
  ·exact ((((ynX _ _).alloc (ynW _) _).alloc (by simp) _).alloc (by simp;omega) _).alloc (by simp;omega) _
 case round=>
  obtain ⟨i,qH,rfl,C,J,hc,HC⟩:=hrel
  by_cases qz:i<L
  ·have B:i<128:=by omega
   by_cases D:bitW W i=bitW P i
   ·have HS:=ynV (zwW (by rw [HL.out];exact qz) HC.out D)
    have q1:=ynV (fun V=>qn.out i V B)
    rw [D] at q1
    have q2:=ynV (fun V=>qq.out i V B)
    have q3:=ynV (fun V=>qx.out i V B)
    clear D
    obtain ⟨la,a0,a1,a2⟩:=C.out.r3 (b:=w.heap.size) (by repeat first|exact .head _|apply List.Mem.tail)
    obtain ⟨lb,b0,b1,b2⟩:=C.out.r3 (b:=w.heap.size+1) (by repeat first|exact .head _|apply List.Mem.tail)
    obtain ⟨⟨r0,r1,r2⟩,f0,f1,f2⟩:=row3 J.out
    go_wp2_with fail
    refine (q1.out _).mono ?_
    rintro e y1 ⟨rfl,m⟩
    have j:=ynV (C.out.keep m)
    have g:Hid (y1.heap[w.heap.size+1+1+1]? =_):=(m.block _ (zaK J.out)).trans J.out
    have qb:=zdS hc m
    clear la a0 a1 a2 lb b0 b1 b2 r0 r1 r2 f0 f1 f2
    obtain ⟨qc,Z,H,N⟩:=j.out.r3 (b:=w.heap.size) (by repeat first|exact .head _|apply List.Mem.tail)
    obtain ⟨I,X,T,U⟩:=j.out.r3 (b:=w.heap.size+1) (by repeat first|exact .head _|apply List.Mem.tail)
    obtain ⟨⟨M,Y,G⟩,qa,O,Q⟩:=row3 g.out
    go_wp2_with fail
    refine (q2.out _).mono ?_
    rintro e y2 ⟨rfl,f⟩
    have d:=ynV (j.out.keep f)
    have A:Hid (y2.heap[w.heap.size+1+1+1]? =_):=(f.block _ (zaK g.out)).trans g.out
    have K:=zdS qb f
    clear qc Z H N I X T U M Y G qa O Q
    obtain ⟨qi,qr,qo,qh⟩:=d.out.r3 (b:=w.heap.size) (by repeat first|exact .head _|apply List.Mem.tail)
    obtain ⟨qs,qf,qd,qg⟩:=d.out.r3 (b:=w.heap.size+1) (by repeat first|exact .head _|apply List.Mem.tail)
    obtain ⟨⟨qj,qv,qm⟩,qw,qe,ql⟩:=row3 A.out
    go_wp2_with fail
    refine (q3.out _).mono ?_
    rintro e y3 ⟨rfl,E⟩
    have S:=ynV (d.out.keep E)
    have qp:Hid (y3.heap[w.heap.size+1+1+1]? =_):=(E.block _ (zaK A.out)).trans A.out
    have qy:=zdS K E
    clear qi qr qo qh qs qf qd qg qj qv qm qw qe ql
    obtain ⟨qD,qI,qQ,qP⟩:=S.out.r3 (b:=w.heap.size) (by repeat first|exact .head _|apply List.Mem.tail)
    obtain ⟨qO,qM,qE,qN⟩:=S.out.r3 (b:=w.heap.size+1) (by repeat first|exact .head _|apply List.Mem.tail)
    obtain ⟨⟨qK,qJ,qB⟩,qG,qF,qC⟩:=row3 qp.out
    go_wp2
    go_roundw
    case rel=>exact ⟨i+1,by omega,by go_num,S.out.set3 (fun e D=>by simp at D;rcases D with rfl|rfl|rfl<;>simp<;>omega) _ _ _,yfD qp.out,Below.set3 qy (by omega) _ _ _,HS.out⟩
    case measure=>simp [intOf];omega
   ·have HE:=ynV (zpP HC.out (.inr D))
    have q1:=ynV (fun V=>qn.out i V B)
    have q2:=ynV (fun V=>qq.out i V B)
    have t1:((bitW W i:Int) !=(bitW P i:Int))=true:=by
     have:(bitW W i:Int)≠(bitW P i:Int):=by omega
     simp [this]
    clear D
    obtain ⟨la,a0,a1,a2⟩:=C.out.r3 (b:=w.heap.size) (by repeat first|exact .head _|apply List.Mem.tail)
    obtain ⟨lb,b0,b1,b2⟩:=C.out.r3 (b:=w.heap.size+1) (by repeat first|exact .head _|apply List.Mem.tail)
    obtain ⟨⟨r0,r1,r2⟩,f0,f1,f2⟩:=row3 J.out
    go_wp2_with fail
    refine (q1.out _).mono ?_
    rintro e y1 ⟨rfl,m⟩
    have j:=ynV (C.out.keep m)
    have g:Hid (y1.heap[w.heap.size+1+1+1]? =_):=(m.block _ (zaK J.out)).trans J.out
    have qb:=zdS hc m
    clear la a0 a1 a2 lb b0 b1 b2 r0 r1 r2 f0 f1 f2
    obtain ⟨qc,Z,H,N⟩:=j.out.r3 (b:=w.heap.size) (by repeat first|exact .head _|apply List.Mem.tail)
    obtain ⟨I,X,T,U⟩:=j.out.r3 (b:=w.heap.size+1) (by repeat first|exact .head _|apply List.Mem.tail)
    obtain ⟨⟨M,Y,G⟩,qa,O,Q⟩:=row3 g.out
    go_wp2_with fail
    refine (q2.out _).mono ?_
    rintro e y2 ⟨rfl,f⟩
    have d:=ynV (j.out.keep f)
    have A:Hid (y2.heap[w.heap.size+1+1+1]? =_):=(f.block _ (zaK g.out)).trans g.out
    have K:=zdS qb f
    clear qc Z H N I X T U M Y G qa O Q
    obtain ⟨qi,qr,qo,qh⟩:=d.out.r3 (b:=w.heap.size) (by repeat first|exact .head _|apply List.Mem.tail)
    obtain ⟨qs,qf,qd,qg⟩:=d.out.r3 (b:=w.heap.size+1) (by repeat first|exact .head _|apply List.Mem.tail)
    obtain ⟨⟨qj,qv,qm⟩,qw,qe,ql⟩:=row3 A.out
    obtain ⟨lz,z0,z1,z2⟩:=d.out.r3 (b:=w.heap.size+1+1) (by repeat first|exact .head _|apply List.Mem.tail)
    obtain ⟨_,g0,g1,g2⟩:=row3 (d.out _ (List.Mem.head _))
    go_wp2
    refine bodyPost_ret (v:= .agg #[.int .u64 (hiN (ofW P i):Nat),.int .u64 (loN (ofW P i):Nat),.int .i64 (i:Nat)]) (by simp [results,Tryz.results247,go_sem,z0,z1,z2]) rfl ⟨?_,?_⟩
    ·rw [HE.out];rfl
    ·exact Below.set3 K (by omega) _ _ _
  ·have e3:i=L:=by omega
   have HE:=ynV (zpP HC.out (.inl (by rw [HL.out];exact e3)))
   subst e3
   obtain ⟨la,a0,a1,a2⟩:=C.out.r3 (b:=w.heap.size) (by repeat first|exact .head _|apply List.Mem.tail)
   obtain ⟨lb,b0,b1,b2⟩:=C.out.r3 (b:=w.heap.size+1) (by repeat first|exact .head _|apply List.Mem.tail)
   obtain ⟨⟨r0,r1,r2⟩,f0,f1,f2⟩:=row3 J.out
   obtain ⟨lz,z0,z1,z2⟩:=C.out.r3 (b:=w.heap.size+1+1) (by repeat first|exact .head _|apply List.Mem.tail)
   obtain ⟨_,g0,g1,g2⟩:=row3 (C.out _ (List.Mem.head _))
   go_wp2
   refine bodyPost_ret (v:= .agg #[.int .u64 (hiN (ofW P i):Nat),.int .u64 (loN (ofW P i):Nat),.int .i64 (i:Nat)]) (by simp [results,Tryz.results247,go_sem,z0,z1,z2]) rfl ⟨?_,?_⟩
   ·rw [HE.out];rfl
   ·exact Below.set3 hc (by omega) _ _ _
end
end Go.Proofs.YtegmcmgndllmaaaGreatDoor
