/-
  What the law AnswersPlay leans on, and its walk (19 of 22).
-/
import Derived.RegionTactic
import Derived.Test.YtkiehdigpchebaaGreatDoorAnswersPlayPkC
import Derived.Test.YtkiehdigpchebaaGreatDoorAnswersPlayPkK
namespace Go.Proofs.YtkiehdigpchebaaGreatDoor
set_option maxRecDepth 100000
set_option maxHeartbeats 16000000
abbrev zqP := @Lib.hid
abbrev zqQ := @Nat.le_refl
abbrev zqR := @Go.RowKit.Below.refl
section
open Go.RowKit
theorem zlP (hi lo n:Nat) (w:World) (f:hi<18446744073709551616) (o:n<64):
  Calls Tryz.prog 150 #[.agg #[.int .u64 (hi:Nat),.int .u64 (lo:Nat),.int .i64 (n:Nat)],.int .i64 0] w fun e w'=>e= .returned (.agg #[.int .u64 ((hi:Nat)),.int .u64 (lo:Nat),.int .i64 ((n:Int)+1)])∧Below w.heap.size w w':=by
 have d:=or_zero hi f
 go_enter Tryz.func150,Tryz.ntmps150
 go_wp2
 go_region
 go_wp2
 refine bodyPost_ret (v:= .agg #[.int .u64 ((hi:Nat)),.int .u64 (lo:Nat),.int .i64 ((n:Int)+1)]) (by simp [results,Tryz.results150,go_sem]) rfl ⟨rfl,?_⟩
 exact (((zqR _ _).alloc (zqQ _) _).alloc (by simp) _).drew
theorem zkU (hi lo n:Nat) (w:World) (C:hi<18446744073709551616) (p:lo<18446744073709551616) (f:n<64) (o:rt (zaH hi lo) n):
  Calls Tryz.prog 150 #[.agg #[.int .u64 (hi:Nat),.int .u64 (lo:Nat),.int .i64 (n:Nat)],.int .i64 1] w fun e w'=>e= .returned (.agg #[.int .u64 ((hi:Int)+2^(63 - n)),.int .u64 (lo:Nat),.int .i64 ((n:Int)+1)])∧Below w.heap.size w w':=by
 have d:=zpI C f (rt_hi p f o)
 have y:=zlC (63 - n) d (by rw [show (63 - n)+1=64 - n from by omega];exact rt_hi p f o)
 have E:IntKind.u64.wrap ((2:Int)^(63 - n))=(2:Int)^(63 - n):=by
  rw [show ((2:Int)^(63 - n))=((2^(63 - n):Nat):Int) from by simp]
  exact ziH _ (Nat.lt_of_le_of_lt (Nat.le_add_left _ _) d)
 go_enter Tryz.func150,Tryz.ntmps150
 go_wp2
 go_region
 go_wp2
 refine bodyPost_ret (v:= .agg #[.int .u64 ((hi:Int)+2^(63 - n)),.int .u64 (lo:Nat),.int .i64 ((n:Int)+1)]) (by simp [results,Tryz.results150,go_sem]) rfl ⟨rfl,?_⟩
 exact (((zqR _ _).alloc (zqQ _) _).alloc (by simp) _).drew
theorem zjR (hi lo n:Nat) (w:World) (o:lo<18446744073709551616) (p:64≤n) (d:n<128):
  Calls Tryz.prog 150 #[.agg #[.int .u64 (hi:Nat),.int .u64 (lo:Nat),.int .i64 (n:Nat)],.int .i64 0] w fun e w'=>e= .returned (.agg #[.int .u64 (hi:Nat),.int .u64 ((lo:Nat)),.int .i64 ((n:Int)+1)])∧Below w.heap.size w w':=by
 have f:=or_zero lo o
 go_enter Tryz.func150,Tryz.ntmps150
 go_wp2
 go_region
 go_wp2
 refine bodyPost_ret (v:= .agg #[.int .u64 (hi:Nat),.int .u64 ((lo:Nat)),.int .i64 ((n:Int)+1)]) (by simp [results,Tryz.results150,go_sem]) rfl ⟨rfl,?_⟩
 exact (((zqR _ _).alloc (zqQ _) _).alloc (by simp) _).drew
theorem zlT (hi lo n:Nat) (w:World) (C:lo<18446744073709551616) (f:64≤n) (o:n<128) (p:rt (zaH hi lo) n):
  Calls Tryz.prog 150 #[.agg #[.int .u64 (hi:Nat),.int .u64 (lo:Nat),.int .i64 (n:Nat)],.int .i64 1] w fun e w'=>e= .returned (.agg #[.int .u64 (hi:Nat),.int .u64 ((lo:Int)+2^(127 - n)),.int .i64 ((n:Int)+1)])∧Below w.heap.size w w':=by
 have d:=zjT C f o (zpL f (by omega) p)
 have y:=zlC (127 - n) d (by rw [show (127 - n)+1=128 - n from by omega];exact zpL f (by omega) p)
 have E:IntKind.u64.wrap ((2:Int)^(127 - n))=(2:Int)^(127 - n):=by
  rw [show ((2:Int)^(127 - n))=((2^(127 - n):Nat):Int) from by simp]
  exact ziH _ (Nat.lt_of_le_of_lt (Nat.le_add_left _ _) d)
 go_enter Tryz.func150,Tryz.ntmps150
 go_wp2
 go_region
 go_wp2
 refine bodyPost_ret (v:= .agg #[.int .u64 (hi:Nat),.int .u64 ((lo:Int)+2^(127 - n)),.int .i64 ((n:Int)+1)]) (by simp [results,Tryz.results150,go_sem]) rfl ⟨rfl,?_⟩
 exact (((zqR _ _).alloc (zqQ _) _).alloc (by simp) _).drew
theorem zlB (P i:Nat) (w:World) (H:P<2^128) (hi:i<128):
  Calls Tryz.prog 150 #[pfW (ofW P i) (i:Nat),.int .i64 (bitW P i:Nat)] w fun e w'=>e= .returned (pfW (ofW P (i+1)) ((i+1:Nat):Int))∧Below w.heap.size w w':=by
 have E:=hiN_lt (ofW_lt (n:=i) H)
 have f:=loN_lt (ofW P i)
 have o:=zcS (ofW P i)
 have C:rt (zaH (hiN (ofW P i)) (loN (ofW P i))) i:=by rw [o];exact zpR P i
 have d:=zoG P i hi
 have key: ∀x y:Nat,y<18446744073709551616→zaH x y=ofW P (i+1)→pfW (ofW P (i+1)) ((i+1:Nat):Int)= .agg #[.int .u64 (x:Nat),.int .u64 (y:Nat),.int .i64 ((i:Int)+1)]:=fun x y G e=>by
  rw [←e,znX G];rfl
 show Calls Tryz.prog 150 #[.agg #[.int .u64 (hiN (ofW P i):Nat),.int .u64 (loN (ofW P i):Nat),.int .i64 (i:Nat)],.int .i64 (bitW P i:Nat)] w _
 rcases znW P i with p|p
 ·rw [p] at d ⊢
  rw [key (hiN (ofW P i)) (loN (ofW P i)) f (by rw [o,d];simp)]
  by_cases h:i<64
  ·exact zlP _ _ i w E h
  ·exact zjR _ _ i w f (by omega) hi
 ·rw [p] at d ⊢
  rw [Nat.one_mul] at d
  by_cases h:i<64
  ·have J:(2:Nat)^(127 - i)=2^(63 - i)*2^64:=by rw [←Nat.pow_add];congr 1;omega
   rw [key (hiN (ofW P i)+2^(63 - i)) (loN (ofW P i)) f (by rw [d,J,znS,o])]
   have:=zkU _ _ i w E f h C
   rw [show ((hiN (ofW P i)+2^(63 - i):Nat):Int)=(hiN (ofW P i):Int)+2^(63 - i) from by simp]
   exact this
  ·have I:=zjT f (by omega) hi (zpL (by omega) (by omega) C)
   rw [key (hiN (ofW P i)) (loN (ofW P i)+2^(127 - i)) I (by rw [d,znY,o])]
   have:=zlT _ _ i w f (by omega) hi C
   rw [show ((loN (ofW P i)+2^(127 - i):Nat):Int)=(loN (ofW P i):Int)+2^(127 - i) from by simp]
   exact this
theorem zdV {W n P k i:Nat} (h:zbT W P i (min n k - i)=zcN W n P k) (d:i=min n k∨bitW W i≠bitW P i):zcN W n P k=i:=by
 rw [←h]
 rcases d with e|e
 ·rw [e,Nat.sub_self];rfl
 ·cases f:min n k - i with
  |zero=>rfl
  |succ f=>show (if bitW W i=bitW P i then _ else i)=i;rw [if_neg e]
theorem zgN {W n P k i:Nat} (hi:i<min n k) (h:zbT W P i (min n k - i)=zcN W n P k) (d:bitW W i=bitW P i):zbT W P (i+1) (min n k - (i+1))=zcN W n P k:=by
 rw [←h,show min n k - i=(min n k - (i+1))+1 from by omega]
 show _=if bitW W i=bitW P i then _ else i
 rw [if_pos d]
theorem znQ {w:World} {b:Nat} {x y z d f o:Value} {t:TypeId} (h:w.heap[b]? =some (.cells #[x,y,z] t)):
  (((w.setCell ⟨b,0,none⟩ d).setCell ⟨b,1,none⟩ f).setCell ⟨b,2,none⟩ o).heap[b]? =some (.cells #[d,f,o] t):=by
 have E:=zbL h 0 d
 have C:=zbL E 1 f
 have p:=zbL C 2 o
 exact p
theorem zjC {w:World} {b d:Nat} (f:b≠d) (o p y:Value):(((w.setCell ⟨d,0,none⟩ o).setCell ⟨d,1,none⟩ p).setCell ⟨d,2,none⟩ y).heap[b]? =w.heap[b]? :=by
 rw [zbB f,zbB f,zbB f]
theorem Blks.set3 {L:List (Nat×Array Value×TypeId)} {w:World} {d:Nat} (h:Blks L w) (y: ∀e∈L,e.1≠d) (o p C:Value):Blks L (((w.setCell ⟨d,0,none⟩ o).setCell ⟨d,1,none⟩ p).setCell ⟨d,2,none⟩ C):=fun e f=>by
 rw [zjC (y e f)];exact h e f
theorem Below.set3 {a w:World} (h:Below a.heap.size a w) {b:Nat} (d:a.heap.size≤b) (x y z:Value):Below a.heap.size a (((w.setCell ⟨b,0,none⟩ x).setCell ⟨b,1,none⟩ y).setCell ⟨b,2,none⟩ z):=
 ((h.setCell (p:=⟨b,0,none⟩) d x).setCell (p:=⟨b,1,none⟩) d y).setCell (p:=⟨b,2,none⟩) d z
theorem zjH (hi lo n G C k:Nat) (w:World) (h1:hi<18446744073709551616) (h2:lo<18446744073709551616) (h3:G<18446744073709551616) (h4:C<18446744073709551616) (hn:n≤128) (hk:k≤128):
  Calls Tryz.prog 112 #[.agg #[.int .u64 (hi:Nat),.int .u64 (lo:Nat),.int .i64 (n:Nat)],.agg #[.int .u64 (G:Nat),.int .u64 (C:Nat),.int .i64 (k:Nat)]] w
   fun e w'=>e= .returned (pfW (ofW (zaH G C) (zcN (zaH hi lo) n (zaH G C) k)) (zcN (zaH hi lo) n (zaH G C) k:Nat))∧Below w.heap.size w w':=by
 obtain ⟨W,hW⟩: ∃W,zaH hi lo=W:=⟨_,rfl⟩
 obtain ⟨P,hP⟩: ∃P,zaH G C=P:=⟨_,rfl⟩
 have qq:P<2^128:=hP▸zpW h3 h4
 have qy:Hid (∀(i:Nat) V,i<128→Calls Tryz.prog 111 #[.agg #[.int .u64 (hi:Nat),.int .u64 (lo:Nat),.int .i64 (n:Nat)],.int .i64 (i:Nat)] V fun e w'=>e= .returned (.int .i64 (bitW W i:Nat))∧Below V.heap.size V w'):=fun i V h=>by
  have:=zoX hi lo n i V h1 h2 h;rwa [hW] at this
 have qB:Hid (∀(i:Nat) V,i<128→Calls Tryz.prog 111 #[.agg #[.int .u64 (G:Nat),.int .u64 (C:Nat),.int .i64 (k:Nat)],.int .i64 (i:Nat)] V fun e w'=>e= .returned (.int .i64 (bitW P i:Nat))∧Below V.heap.size V w'):=fun i V h=>by
  have:=zoX G C k i V h3 h4 h;rwa [hP] at this
 have qG:Hid (∀(i:Nat) V,i<128→Calls Tryz.prog 150 #[.agg #[.int .u64 (hiN (ofW P i):Nat),.int .u64 (loN (ofW P i):Nat),.int .i64 (i:Nat)],.int .i64 (bitW P i:Nat)] V fun e w'=>e= .returned (.agg #[.int .u64 (hiN (ofW P (i+1)):Nat),.int .u64 (loN (ofW P (i+1)):Nat),.int .i64 ((i+1:Nat):Int)])∧Below V.heap.size V w'):=fun i V h=>zlB P i V qq h
 have HZ:Hid (hiN (ofW P 0)=0∧loN (ofW P 0)=0):=by
  have e:ofW P 0=0:=by show qt P 0*_=0;rw [qt_lt qq,Nat.zero_mul]
  exact ⟨by rw [e];rfl,by rw [e];rfl⟩
 rw [hW,hP]
 clear hW hP
 obtain ⟨L,hL⟩: ∃L,min n k=L:=⟨_,rfl⟩
 have HL:=zqP hL
 have qI:min (n:Int) (k:Int)=(L:Nat):=by omega
 have qO:L≤128:=by omega
 clear hL
 go_enter Tryz.func112,Tryz.ntmps112
 go_wp2
 go_loopw [13] (fun x wr=> ∃i:Nat,i≤L∧x= .int .i64 i∧Hid (Blks [(w.heap.size+1+1,#[.int .u64 0,.int .u64 0,.int .i64 0],151),(w.heap.size+1,#[.int .u64 (G:Nat),.int .u64 (C:Nat),.int .i64 (k:Nat)],151),(w.heap.size,#[.int .u64 (hi:Nat),.int .u64 (lo:Nat),.int .i64 (n:Nat)],151)] wr)∧Hid (wr.heap[w.heap.size+1+1+1]? =some (.cells #[.int .u64 (hiN (ofW P i):Nat),.int .u64 (loN (ofW P i):Nat),.int .i64 (i:Nat)] 151))∧Below w.heap.size w wr∧Hid (zbT W P i (min n k - i)=zcN W n P k)) (fun x _=>L - (intOf x).toNat)
 case atStart=>
  refine ⟨0,by omega,rfl,?_,?_,?_,rfl⟩
  ·have h:=(((Blks.empty w).new #[.int .u64 (hi:Nat),.int .u64 (lo:Nat),.int .i64 (n:Nat)] 151).new #[.int .u64 (G:Nat),.int .u64 (C:Nat),.int .i64 (k:Nat)] 151).new #[.int .u64 0,.int .u64 0,.int .i64 0] 151
   simp only [World.size_alloc] at h
   exact h.keep ((zqR _ _).alloc (zqQ _) _)
  ·show _=_
   rw [HZ.out.1,HZ.out.2]
   have h:=(((((Blks.empty w).new #[.int .u64 (hi:Nat),.int .u64 (lo:Nat),.int .i64 (n:Nat)] 151).new #[.int .u64 (G:Nat),.int .u64 (C:Nat),.int .i64 (k:Nat)] 151).new #[.int .u64 0,.int .u64 0,.int .i64 0] 151).new #[.int .u64 0,.int .u64 0,.int .i64 0] 151) _ (.head _)
   simp only [World.size_alloc] at h
   exact h
  ·exact ((((zqR _ _).alloc (zqQ _) _).alloc (by simp) _).alloc (by simp;omega) _).alloc (by simp;omega) _
 case round=>
  obtain ⟨i,qY,rfl,I,K,hc,HC⟩:=hrel
  by_cases qH:i<L
  ·have E:i<128:=by omega
   by_cases J:bitW W i=bitW P i
   ·have HS:=zqP (zgN (by rw [HL.out];exact qH) HC.out J)
    have q1:=zqP (fun V=>qy.out i V E)
    rw [J] at q1
    have q2:=zqP (fun V=>qB.out i V E)
    have q3:=zqP (fun V=>qG.out i V E)
    clear J
    obtain ⟨la,a0,a1,a2⟩:=I.out.r3 (b:=w.heap.size) (by repeat first|exact .head _|apply List.Mem.tail)
    obtain ⟨lb,b0,b1,b2⟩:=I.out.r3 (b:=w.heap.size+1) (by repeat first|exact .head _|apply List.Mem.tail)
    obtain ⟨⟨r0,r1,r2⟩,f0,f1,f2⟩:=row3 K.out
    go_wp2_with fail
    refine (q1.out _).mono ?_
    rintro e y1 ⟨rfl,f⟩
    have y:=zqP (I.out.keep f)
    have o:Hid (y1.heap[w.heap.size+1+1+1]? =_):=(f.block _ (zaG K.out)).trans K.out
    have qe:=zaE hc f
    clear la a0 a1 a2 lb b0 b1 b2 r0 r1 r2 f0 f1 f2
    obtain ⟨qi,qd,R,qa⟩:=y.out.r3 (b:=w.heap.size) (by repeat first|exact .head _|apply List.Mem.tail)
    obtain ⟨qg,Y,Z,N⟩:=y.out.r3 (b:=w.heap.size+1) (by repeat first|exact .head _|apply List.Mem.tail)
    obtain ⟨⟨qb,O,qj⟩,qc,qf,qh⟩:=row3 o.out
    go_wp2_with fail
    refine (q2.out _).mono ?_
    rintro e y2 ⟨rfl,p⟩
    have d:=zqP (y.out.keep p)
    have H:Hid (y2.heap[w.heap.size+1+1+1]? =_):=(p.block _ (zaG o.out)).trans o.out
    have qk:=zaE qe p
    clear qi qd R qa qg Y Z N qb O qj qc qf qh
    obtain ⟨qm,qx,qC,ql⟩:=d.out.r3 (b:=w.heap.size) (by repeat first|exact .head _|apply List.Mem.tail)
    obtain ⟨qw,qE,qr,qp⟩:=d.out.r3 (b:=w.heap.size+1) (by repeat first|exact .head _|apply List.Mem.tail)
    obtain ⟨⟨qv,qD,qs⟩,qz,qA,qo⟩:=row3 H.out
    go_wp2_with fail
    refine (q3.out _).mono ?_
    rintro e y3 ⟨rfl,S⟩
    have U:=zqP (d.out.keep S)
    have qn:Hid (y3.heap[w.heap.size+1+1+1]? =_):=(S.block _ (zaG H.out)).trans H.out
    have qF:=zaE qk S
    clear qm qx qC ql qw qE qr qp qv qD qs qz qA qo
    obtain ⟨qV,qP,qK,qL⟩:=U.out.r3 (b:=w.heap.size) (by repeat first|exact .head _|apply List.Mem.tail)
    obtain ⟨qR,qU,qT,qQ⟩:=U.out.r3 (b:=w.heap.size+1) (by repeat first|exact .head _|apply List.Mem.tail)
    obtain ⟨⟨qM,qJ,qX⟩,qS,qW,qN⟩:=row3 qn.out
    go_wp2
    go_roundw
    case rel=>exact ⟨i+1,by omega,by go_num,U.out.set3 (fun e J=>by simp at J;rcases J with rfl|rfl|rfl<;>simp<;>omega) _ _ _,znQ qn.out,Below.set3 qF (by omega) _ _ _,HS.out⟩
    case measure=>simp [intOf];omega
   ·have HE:=zqP (zdV HC.out (.inr J))
    have q1:=zqP (fun V=>qy.out i V E)
    have q2:=zqP (fun V=>qB.out i V E)
    have t1:((bitW W i:Int) !=(bitW P i:Int))=true:=by
     have:(bitW W i:Int)≠(bitW P i:Int):=by omega
     simp [this]
    clear J
    obtain ⟨la,a0,a1,a2⟩:=I.out.r3 (b:=w.heap.size) (by repeat first|exact .head _|apply List.Mem.tail)
    obtain ⟨lb,b0,b1,b2⟩:=I.out.r3 (b:=w.heap.size+1) (by repeat first|exact .head _|apply List.Mem.tail)
    obtain ⟨⟨r0,r1,r2⟩,f0,f1,f2⟩:=row3 K.out
    go_wp2_with fail
    refine (q1.out _).mono ?_
    rintro e y1 ⟨rfl,f⟩
    have y:=zqP (I.out.keep f)
    have o:Hid (y1.heap[w.heap.size+1+1+1]? =_):=(f.block _ (zaG K.out)).trans K.out
    have qe:=zaE hc f
    clear la a0 a1 a2 lb b0 b1 b2 r0 r1 r2 f0 f1 f2
    obtain ⟨qi,qd,R,qa⟩:=y.out.r3 (b:=w.heap.size) (by repeat first|exact .head _|apply List.Mem.tail)
    obtain ⟨qg,Y,Z,N⟩:=y.out.r3 (b:=w.heap.size+1) (by repeat first|exact .head _|apply List.Mem.tail)
    obtain ⟨⟨qb,O,qj⟩,qc,qf,qh⟩:=row3 o.out
    go_wp2_with fail
    refine (q2.out _).mono ?_
    rintro e y2 ⟨rfl,p⟩
    have d:=zqP (y.out.keep p)
    have H:Hid (y2.heap[w.heap.size+1+1+1]? =_):=(p.block _ (zaG o.out)).trans o.out
    have qk:=zaE qe p
    clear qi qd R qa qg Y Z N qb O qj qc qf qh
    obtain ⟨qm,qx,qC,ql⟩:=d.out.r3 (b:=w.heap.size) (by repeat first|exact .head _|apply List.Mem.tail)
    obtain ⟨qw,qE,qr,qp⟩:=d.out.r3 (b:=w.heap.size+1) (by repeat first|exact .head _|apply List.Mem.tail)
    obtain ⟨⟨qv,qD,qs⟩,qz,qA,qo⟩:=row3 H.out
    obtain ⟨lz,z0,z1,z2⟩:=d.out.r3 (b:=w.heap.size+1+1) (by repeat first|exact .head _|apply List.Mem.tail)
    obtain ⟨_,g0,g1,g2⟩:=row3 (d.out _ (List.Mem.head _))
    go_wp2
    refine bodyPost_ret (v:= .agg #[.int .u64 (hiN (ofW P i):Nat),.int .u64 (loN (ofW P i):Nat),.int .i64 (i:Nat)]) (by simp [results,Tryz.results112,go_sem,z0,z1,z2]) rfl ⟨?_,?_⟩
    ·rw [HE.out];rfl
    ·exact Below.set3 qk (by omega) _ _ _
  ·have e3:i=L:=by omega
   have HE:=zqP (zdV HC.out (.inl (by rw [HL.out];exact e3)))
   subst e3
   obtain ⟨la,a0,a1,a2⟩:=I.out.r3 (b:=w.heap.size) (by repeat first|exact .head _|apply List.Mem.tail)
   obtain ⟨lb,b0,b1,b2⟩:=I.out.r3 (b:=w.heap.size+1) (by repeat first|exact .head _|apply List.Mem.tail)
   obtain ⟨⟨r0,r1,r2⟩,f0,f1,f2⟩:=row3 K.out
   obtain ⟨lz,z0,z1,z2⟩:=I.out.r3 (b:=w.heap.size+1+1) (by repeat first|exact .head _|apply List.Mem.tail)
   obtain ⟨_,g0,g1,g2⟩:=row3 (I.out _ (List.Mem.head _))
   go_wp2
   refine bodyPost_ret (v:= .agg #[.int .u64 (hiN (ofW P i):Nat),.int .u64 (loN (ofW P i):Nat),.int .i64 (i:Nat)]) (by simp [results,Tryz.results112,go_sem,z0,z1,z2]) rfl ⟨?_,?_⟩
   ·rw [HE.out];rfl
   ·exact Below.set3 hc (by omega) _ _ _
end
end Go.Proofs.YtkiehdigpchebaaGreatDoor
