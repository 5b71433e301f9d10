/-
  What the law CachePlays leans on, and its walk (18 of 21).
-/
import Derived.RegionTactic
import Derived.Test.YteajemblhlbfpaaGreatDoorCachePlaysPkC
import Derived.Test.YteajemblhlbfpaaGreatDoorCachePlaysPkK
namespace Go.Proofs.YteajemblhlbfpaaGreatDoor
set_option maxRecDepth 100000
set_option maxHeartbeats 16000000
abbrev zpA := @Lib.hid
abbrev zpB := @Nat.le_refl
abbrev zpC := @Go.RowKit.Below.refl
section
open Go.RowKit
theorem zkT (hi lo n:Nat) (w:World) (g:hi<18446744073709551616) (i:n<64):
  Calls Tryz.prog 142 #[.agg #[.int .u64 (hi:Nat),.int .u64 (lo:Nat),.int .i64 (n:Nat)],.int .i64 0] w fun e w'=>e= .returned (.agg #[.int .u64 ((hi:Nat)),.int .u64 (lo:Nat),.int .i64 ((n:Int)+1)])∧Below w.heap.size w w':=by
 have f:=or_zero hi g
 go_enter Tryz.func142,Tryz.ntmps142
 go_wp2
 go_region
 go_wp2
 refine bodyPost_ret (v:= .agg #[.int .u64 ((hi:Nat)),.int .u64 (lo:Nat),.int .i64 ((n:Int)+1)]) (by simp [results,Tryz.results142,go_sem]) rfl ⟨rfl,?_⟩
 exact (((zpC _ _).alloc (zpB _) _).alloc (by simp) _).drew
theorem zkZ (hi lo n:Nat) (w:World) (p:hi<18446744073709551616) (j:lo<18446744073709551616) (g:n<64) (i:rt (zaE hi lo) n):
  Calls Tryz.prog 142 #[.agg #[.int .u64 (hi:Nat),.int .u64 (lo:Nat),.int .i64 (n:Nat)],.int .i64 1] w fun e w'=>e= .returned (.agg #[.int .u64 ((hi:Int)+2^(63 - n)),.int .u64 (lo:Nat),.int .i64 ((n:Int)+1)])∧Below w.heap.size w w':=by
 have f:=zoD p g (rt_hi j g i)
 have o:=zlP (63 - n) f (by rw [show (63 - n)+1=64 - n from by omega];exact rt_hi j g i)
 have y:IntKind.u64.wrap ((2:Int)^(63 - n))=(2:Int)^(63 - n):=by
  rw [show ((2:Int)^(63 - n))=((2^(63 - n):Nat):Int) from by simp]
  exact zgN _ (Nat.lt_of_le_of_lt (Nat.le_add_left _ _) f)
 go_enter Tryz.func142,Tryz.ntmps142
 go_wp2
 go_region
 go_wp2
 refine bodyPost_ret (v:= .agg #[.int .u64 ((hi:Int)+2^(63 - n)),.int .u64 (lo:Nat),.int .i64 ((n:Int)+1)]) (by simp [results,Tryz.results142,go_sem]) rfl ⟨rfl,?_⟩
 exact (((zpC _ _).alloc (zpB _) _).alloc (by simp) _).drew
theorem zkH (hi lo n:Nat) (w:World) (i:lo<18446744073709551616) (j:64≤n) (g:n<128):
  Calls Tryz.prog 142 #[.agg #[.int .u64 (hi:Nat),.int .u64 (lo:Nat),.int .i64 (n:Nat)],.int .i64 0] w fun e w'=>e= .returned (.agg #[.int .u64 (hi:Nat),.int .u64 ((lo:Nat)),.int .i64 ((n:Int)+1)])∧Below w.heap.size w w':=by
 have f:=or_zero lo i
 go_enter Tryz.func142,Tryz.ntmps142
 go_wp2
 go_region
 go_wp2
 refine bodyPost_ret (v:= .agg #[.int .u64 (hi:Nat),.int .u64 ((lo:Nat)),.int .i64 ((n:Int)+1)]) (by simp [results,Tryz.results142,go_sem]) rfl ⟨rfl,?_⟩
 exact (((zpC _ _).alloc (zpB _) _).alloc (by simp) _).drew
theorem zkJ (hi lo n:Nat) (w:World) (p:lo<18446744073709551616) (i:64≤n) (g:n<128) (j:rt (zaE hi lo) n):
  Calls Tryz.prog 142 #[.agg #[.int .u64 (hi:Nat),.int .u64 (lo:Nat),.int .i64 (n:Nat)],.int .i64 1] w fun e w'=>e= .returned (.agg #[.int .u64 (hi:Nat),.int .u64 ((lo:Int)+2^(127 - n)),.int .i64 ((n:Int)+1)])∧Below w.heap.size w w':=by
 have f:=zjL p i g (zoK i (by omega) j)
 have o:=zlP (127 - n) f (by rw [show (127 - n)+1=128 - n from by omega];exact zoK i (by omega) j)
 have y:IntKind.u64.wrap ((2:Int)^(127 - n))=(2:Int)^(127 - n):=by
  rw [show ((2:Int)^(127 - n))=((2^(127 - n):Nat):Int) from by simp]
  exact zgN _ (Nat.lt_of_le_of_lt (Nat.le_add_left _ _) f)
 go_enter Tryz.func142,Tryz.ntmps142
 go_wp2
 go_region
 go_wp2
 refine bodyPost_ret (v:= .agg #[.int .u64 (hi:Nat),.int .u64 ((lo:Int)+2^(127 - n)),.int .i64 ((n:Int)+1)]) (by simp [results,Tryz.results142,go_sem]) rfl ⟨rfl,?_⟩
 exact (((zpC _ _).alloc (zpB _) _).alloc (by simp) _).drew
theorem zkB (P i:Nat) (w:World) (D:P<2^128) (hi:i<128):
  Calls Tryz.prog 142 #[pfW (ofW P i) (i:Nat),.int .i64 (bitW P i:Nat)] w fun e w'=>e= .returned (pfW (ofW P (i+1)) ((i+1:Nat):Int))∧Below w.heap.size w w':=by
 have B:=hiN_lt (ofW_lt (n:=i) D)
 have j:=loN_lt (ofW P i)
 have o:=zcO (ofW P i)
 have A:rt (zaE (hiN (ofW P i)) (loN (ofW P i))) i:=by rw [o];exact znW P i
 have f:=zmZ P i hi
 have g: ∀x y:Nat,y<18446744073709551616→zaE x y=ofW P (i+1)→pfW (ofW P (i+1)) ((i+1:Nat):Int)= .agg #[.int .u64 (x:Nat),.int .u64 (y:Nat),.int .i64 ((i:Int)+1)]:=fun x y G e=>by
  rw [←e,znE G];rfl
 show Calls Tryz.prog 142 #[.agg #[.int .u64 (hiN (ofW P i):Nat),.int .u64 (loN (ofW P i):Nat),.int .i64 (i:Nat)],.int .i64 (bitW P i:Nat)] w _
 rcases znG P i with p|p
 ·rw [p] at f ⊢
  rw [g (hiN (ofW P i)) (loN (ofW P i)) j (by rw [o,f];simp)]
  by_cases h:i<64
  ·exact zkT _ _ i w B h
  ·exact zkH _ _ i w j (by omega) hi
 ·rw [p] at f ⊢
  rw [Nat.one_mul] at f
  by_cases h:i<64
  ·have E:(2:Nat)^(127 - i)=2^(63 - i)*2^64:=by rw [←Nat.pow_add];congr 1;omega
   rw [g (hiN (ofW P i)+2^(63 - i)) (loN (ofW P i)) j (by rw [f,E,zmM,o])]
   have:=zkZ _ _ i w B j h A
   rw [show ((hiN (ofW P i)+2^(63 - i):Nat):Int)=(hiN (ofW P i):Int)+2^(63 - i) from by simp]
   exact this
  ·have C:=zjL j (by omega) hi (zoK (by omega) (by omega) A)
   rw [g (hiN (ofW P i)) (loN (ofW P i)+2^(127 - i)) C (by rw [f,zmO,o])]
   have:=zkJ _ _ i w j (by omega) hi A
   rw [show ((loN (ofW P i)+2^(127 - i):Nat):Int)=(loN (ofW P i):Int)+2^(127 - i) from by simp]
   exact this
theorem zdL {W n P k i:Nat} (h:zbQ W P i (min n k - i)=zcI W n P k) (g:i=min n k∨bitW W i≠bitW P i):zcI W n P k=i:=by
 rw [←h]
 rcases g with e|e
 ·rw [e,Nat.sub_self];rfl
 ·cases f:min n k - i with
  |zero=>rfl
  |succ f=>show (if bitW W i=bitW P i then _ else i)=i;rw [if_neg e]
theorem zfX {W n P k i:Nat} (hi:i<min n k) (h:zbQ W P i (min n k - i)=zcI W n P k) (f:bitW W i=bitW P i):zbQ W P (i+1) (min n k - (i+1))=zcI W n P k:=by
 rw [←h,show min n k - i=(min n k - (i+1))+1 from by omega]
 show _=if bitW W i=bitW P i then _ else i
 rw [if_pos f]
theorem znB {w:World} {b:Nat} {x y z g f i:Value} {t:TypeId} (h:w.heap[b]? =some (.cells #[x,y,z] t)):
  (((w.setCell ⟨b,0,none⟩ g).setCell ⟨b,1,none⟩ f).setCell ⟨b,2,none⟩ i).heap[b]? =some (.cells #[g,f,i] t):=by
 have o:=zfO h 0 g
 have j:=zfO o 1 f
 have p:=zfO j 2 i
 exact p
theorem ziE {w:World} {b f:Nat} (g:b≠f) (j i o:Value):(((w.setCell ⟨f,0,none⟩ j).setCell ⟨f,1,none⟩ i).setCell ⟨f,2,none⟩ o).heap[b]? =w.heap[b]? :=by
 rw [zcW g,zcW g,zcW g]
theorem Blks.set3 {L:List (Nat×Array Value×TypeId)} {w:World} {f:Nat} (h:Blks L w) (i: ∀e∈L,e.1≠f) (o j p:Value):Blks L (((w.setCell ⟨f,0,none⟩ o).setCell ⟨f,1,none⟩ j).setCell ⟨f,2,none⟩ p):=fun e g=>by
 rw [ziE (i e g)];exact h e g
theorem Below.set3 {a w:World} (h:Below a.heap.size a w) {b:Nat} (f:a.heap.size≤b) (x y z:Value):Below a.heap.size a (((w.setCell ⟨b,0,none⟩ x).setCell ⟨b,1,none⟩ y).setCell ⟨b,2,none⟩ z):=
 ((h.setCell (p:=⟨b,0,none⟩) f x).setCell (p:=⟨b,1,none⟩) f y).setCell (p:=⟨b,2,none⟩) f z
theorem zhR (hi lo n y B k:Nat) (w:World) (h1:hi<18446744073709551616) (h2:lo<18446744073709551616) (h3:y<18446744073709551616) (h4:B<18446744073709551616) (hn:n≤128) (hk:k≤128):
  Calls Tryz.prog 104 #[.agg #[.int .u64 (hi:Nat),.int .u64 (lo:Nat),.int .i64 (n:Nat)],.agg #[.int .u64 (y:Nat),.int .u64 (B:Nat),.int .i64 (k:Nat)]] w
   fun e w'=>e= .returned (pfW (ofW (zaE y B) (zcI (zaE hi lo) n (zaE y B) k)) (zcI (zaE hi lo) n (zaE y B) k:Nat))∧Below w.heap.size w w':=by
 obtain ⟨W,hW⟩: ∃W,zaE hi lo=W:=⟨_,rfl⟩
 obtain ⟨P,hP⟩: ∃P,zaE y B=P:=⟨_,rfl⟩
 have qs:P<2^128:=hP▸znR h3 h4
 have qv:Hid (∀(i:Nat) V,i<128→Calls Tryz.prog 103 #[.agg #[.int .u64 (hi:Nat),.int .u64 (lo:Nat),.int .i64 (n:Nat)],.int .i64 (i:Nat)] V fun e w'=>e= .returned (.int .i64 (bitW W i:Nat))∧Below V.heap.size V w'):=fun i V h=>by
  have:=znL hi lo n i V h1 h2 h;rwa [hW] at this
 have qg:Hid (∀(i:Nat) V,i<128→Calls Tryz.prog 103 #[.agg #[.int .u64 (y:Nat),.int .u64 (B:Nat),.int .i64 (k:Nat)],.int .i64 (i:Nat)] V fun e w'=>e= .returned (.int .i64 (bitW P i:Nat))∧Below V.heap.size V w'):=fun i V h=>by
  have:=znL y B k i V h3 h4 h;rwa [hP] at this
 have qA:Hid (∀(i:Nat) V,i<128→Calls Tryz.prog 142 #[.agg #[.int .u64 (hiN (ofW P i):Nat),.int .u64 (loN (ofW P i):Nat),.int .i64 (i:Nat)],.int .i64 (bitW P i:Nat)] V fun e w'=>e= .returned (.agg #[.int .u64 (hiN (ofW P (i+1)):Nat),.int .u64 (loN (ofW P (i+1)):Nat),.int .i64 ((i+1:Nat):Int)])∧Below V.heap.size V w'):=fun i V h=>zkB P i V qs h
 have HZ:Hid (hiN (ofW P 0)=0∧loN (ofW P 0)=0):=by
  have e:ofW P 0=0:=by show qt P 0*_=0;rw [qt_lt qs,Nat.zero_mul]
  exact ⟨by rw [e];rfl,by rw [e];rfl⟩
 rw [hW,hP]
 clear hW hP
 obtain ⟨L,hL⟩: ∃L,min n k=L:=⟨_,rfl⟩
 have HL:=zpA hL
 have qD:min (n:Int) (k:Int)=(L:Nat):=by omega
 have qN:L≤128:=by omega
 clear hL
 go_enter Tryz.func104,Tryz.ntmps104
 go_wp2
 go_loopw [13] (fun x wr=> ∃i:Nat,i≤L∧x= .int .i64 i∧Hid (Blks [(w.heap.size+1+1,#[.int .u64 0,.int .u64 0,.int .i64 0],125),(w.heap.size+1,#[.int .u64 (y:Nat),.int .u64 (B:Nat),.int .i64 (k:Nat)],125),(w.heap.size,#[.int .u64 (hi:Nat),.int .u64 (lo:Nat),.int .i64 (n:Nat)],125)] wr)∧Hid (wr.heap[w.heap.size+1+1+1]? =some (.cells #[.int .u64 (hiN (ofW P i):Nat),.int .u64 (loN (ofW P i):Nat),.int .i64 (i:Nat)] 125))∧Below w.heap.size w wr∧Hid (zbQ W P i (min n k - i)=zcI W n P k)) (fun x _=>L - (intOf x).toNat)
 case atStart=>
  refine ⟨0,by omega,rfl,?_,?_,?_,rfl⟩
  ·have h:=(((Blks.empty w).new #[.int .u64 (hi:Nat),.int .u64 (lo:Nat),.int .i64 (n:Nat)] 125).new #[.int .u64 (y:Nat),.int .u64 (B:Nat),.int .i64 (k:Nat)] 125).new #[.int .u64 0,.int .u64 0,.int .i64 0] 125
   simp only [World.size_alloc] at h
   exact h.keep ((zpC _ _).alloc (zpB _) _)
  ·show _=_
   rw [HZ.out.1,HZ.out.2]
   have h:=(((((Blks.empty w).new #[.int .u64 (hi:Nat),.int .u64 (lo:Nat),.int .i64 (n:Nat)] 125).new #[.int .u64 (y:Nat),.int .u64 (B:Nat),.int .i64 (k:Nat)] 125).new #[.int .u64 0,.int .u64 0,.int .i64 0] 125).new #[.int .u64 0,.int .u64 0,.int .i64 0] 125) _ (.head _)
   simp only [World.size_alloc] at h
   exact h
  ·exact ((((zpC _ _).alloc (zpB _) _).alloc (by simp) _).alloc (by simp;omega) _).alloc (by simp;omega) _
 case round=>
  obtain ⟨i,qS,rfl,D,R,hc,HC⟩:=hrel
  by_cases qB:i<L
  ·have A:i<128:=by omega
   by_cases E:bitW W i=bitW P i
   ·have HS:=zpA (zfX (by rw [HL.out];exact qB) HC.out E)
    have q1:=zpA (fun V=>qv.out i V A)
    rw [E] at q1
    have q2:=zpA (fun V=>qg.out i V A)
    have q3:=zpA (fun V=>qA.out i V A)
    clear E
    obtain ⟨la,a0,a1,a2⟩:=D.out.r3 (b:=w.heap.size) (by repeat first|exact .head _|apply List.Mem.tail)
    obtain ⟨lb,b0,b1,b2⟩:=D.out.r3 (b:=w.heap.size+1) (by repeat first|exact .head _|apply List.Mem.tail)
    obtain ⟨⟨r0,r1,r2⟩,f0,f1,f2⟩:=row3 R.out
    go_wp2_with fail
    refine (q1.out _).mono ?_
    rintro e y1 ⟨rfl,g⟩
    have j:=zpA (D.out.keep g)
    have o:Hid (y1.heap[w.heap.size+1+1+1]? =_):=(g.block _ (zaH R.out)).trans R.out
    have Y:=zaS hc g
    clear la a0 a1 a2 lb b0 b1 b2 r0 r1 r2 f0 f1 f2
    obtain ⟨qf,Z,T,N⟩:=j.out.r3 (b:=w.heap.size) (by repeat first|exact .head _|apply List.Mem.tail)
    obtain ⟨J,G,qa,S⟩:=j.out.r3 (b:=w.heap.size+1) (by repeat first|exact .head _|apply List.Mem.tail)
    obtain ⟨⟨O,K,U⟩,qe,H,qb⟩:=row3 o.out
    go_wp2_with fail
    refine (q2.out _).mono ?_
    rintro e y2 ⟨rfl,p⟩
    have f:=zpA (j.out.keep p)
    have C:Hid (y2.heap[w.heap.size+1+1+1]? =_):=(p.block _ (zaH o.out)).trans o.out
    have qd:=zaS Y p
    clear qf Z T N J G qa S O K U qe H qb
    obtain ⟨qr,qx,qh,qy⟩:=f.out.r3 (b:=w.heap.size) (by repeat first|exact .head _|apply List.Mem.tail)
    obtain ⟨qn,qk,qz,qj⟩:=f.out.r3 (b:=w.heap.size+1) (by repeat first|exact .head _|apply List.Mem.tail)
    obtain ⟨⟨qq,qw,qm⟩,qi,qo,qp⟩:=row3 C.out
    go_wp2_with fail
    refine (q3.out _).mono ?_
    rintro e y3 ⟨rfl,I⟩
    have qc:=zpA (f.out.keep I)
    have ql:Hid (y3.heap[w.heap.size+1+1+1]? =_):=(I.block _ (zaH C.out)).trans C.out
    have qC:=zaS qd I
    clear qr qx qh qy qn qk qz qj qq qw qm qi qo qp
    obtain ⟨qR,qE,qO,qG⟩:=qc.out.r3 (b:=w.heap.size) (by repeat first|exact .head _|apply List.Mem.tail)
    obtain ⟨qM,qH,qL,qF⟩:=qc.out.r3 (b:=w.heap.size+1) (by repeat first|exact .head _|apply List.Mem.tail)
    obtain ⟨⟨qQ,qK,qT⟩,qJ,qI,qP⟩:=row3 ql.out
    go_wp2
    go_roundw
    case rel=>exact ⟨i+1,by omega,by go_num,qc.out.set3 (fun e E=>by simp at E;rcases E with rfl|rfl|rfl<;>simp<;>omega) _ _ _,znB ql.out,Below.set3 qC (by omega) _ _ _,HS.out⟩
    case measure=>simp [intOf];omega
   ·have HE:=zpA (zdL HC.out (.inr E))
    have q1:=zpA (fun V=>qv.out i V A)
    have q2:=zpA (fun V=>qg.out i V A)
    have t1:((bitW W i:Int) !=(bitW P i:Int))=true:=by
     have:(bitW W i:Int)≠(bitW P i:Int):=by omega
     simp [this]
    clear E
    obtain ⟨la,a0,a1,a2⟩:=D.out.r3 (b:=w.heap.size) (by repeat first|exact .head _|apply List.Mem.tail)
    obtain ⟨lb,b0,b1,b2⟩:=D.out.r3 (b:=w.heap.size+1) (by repeat first|exact .head _|apply List.Mem.tail)
    obtain ⟨⟨r0,r1,r2⟩,f0,f1,f2⟩:=row3 R.out
    go_wp2_with fail
    refine (q1.out _).mono ?_
    rintro e y1 ⟨rfl,g⟩
    have j:=zpA (D.out.keep g)
    have o:Hid (y1.heap[w.heap.size+1+1+1]? =_):=(g.block _ (zaH R.out)).trans R.out
    have Y:=zaS hc g
    clear la a0 a1 a2 lb b0 b1 b2 r0 r1 r2 f0 f1 f2
    obtain ⟨qf,Z,T,N⟩:=j.out.r3 (b:=w.heap.size) (by repeat first|exact .head _|apply List.Mem.tail)
    obtain ⟨J,G,qa,S⟩:=j.out.r3 (b:=w.heap.size+1) (by repeat first|exact .head _|apply List.Mem.tail)
    obtain ⟨⟨O,K,U⟩,qe,H,qb⟩:=row3 o.out
    go_wp2_with fail
    refine (q2.out _).mono ?_
    rintro e y2 ⟨rfl,p⟩
    have f:=zpA (j.out.keep p)
    have C:Hid (y2.heap[w.heap.size+1+1+1]? =_):=(p.block _ (zaH o.out)).trans o.out
    have qd:=zaS Y p
    clear qf Z T N J G qa S O K U qe H qb
    obtain ⟨qr,qx,qh,qy⟩:=f.out.r3 (b:=w.heap.size) (by repeat first|exact .head _|apply List.Mem.tail)
    obtain ⟨qn,qk,qz,qj⟩:=f.out.r3 (b:=w.heap.size+1) (by repeat first|exact .head _|apply List.Mem.tail)
    obtain ⟨⟨qq,qw,qm⟩,qi,qo,qp⟩:=row3 C.out
    obtain ⟨lz,z0,z1,z2⟩:=f.out.r3 (b:=w.heap.size+1+1) (by repeat first|exact .head _|apply List.Mem.tail)
    obtain ⟨_,g0,g1,g2⟩:=row3 (f.out _ (List.Mem.head _))
    go_wp2
    refine bodyPost_ret (v:= .agg #[.int .u64 (hiN (ofW P i):Nat),.int .u64 (loN (ofW P i):Nat),.int .i64 (i:Nat)]) (by simp [results,Tryz.results104,go_sem,z0,z1,z2]) rfl ⟨?_,?_⟩
    ·rw [HE.out];rfl
    ·exact Below.set3 qd (by omega) _ _ _
  ·have e3:i=L:=by omega
   have HE:=zpA (zdL HC.out (.inl (by rw [HL.out];exact e3)))
   subst e3
   obtain ⟨la,a0,a1,a2⟩:=D.out.r3 (b:=w.heap.size) (by repeat first|exact .head _|apply List.Mem.tail)
   obtain ⟨lb,b0,b1,b2⟩:=D.out.r3 (b:=w.heap.size+1) (by repeat first|exact .head _|apply List.Mem.tail)
   obtain ⟨⟨r0,r1,r2⟩,f0,f1,f2⟩:=row3 R.out
   obtain ⟨lz,z0,z1,z2⟩:=D.out.r3 (b:=w.heap.size+1+1) (by repeat first|exact .head _|apply List.Mem.tail)
   obtain ⟨_,g0,g1,g2⟩:=row3 (D.out _ (List.Mem.head _))
   go_wp2
   refine bodyPost_ret (v:= .agg #[.int .u64 (hiN (ofW P i):Nat),.int .u64 (loN (ofW P i):Nat),.int .i64 (i:Nat)]) (by simp [results,Tryz.results104,go_sem,z0,z1,z2]) rfl ⟨?_,?_⟩
   ·rw [HE.out];rfl
   ·exact Below.set3 hc (by omega) _ _ _
end
end Go.Proofs.YteajemblhlbfpaaGreatDoor
