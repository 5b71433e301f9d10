/-
  What the law AnswersNone leans on, and its walk (10 of 12).
-/
import Derived.RegionTactic
import Derived.Test.YtkiehdigpchebaaGreatDoorAnswersNonePkG
import Derived.Test.YtkiehdigpchebaaGreatDoorAnswersNonePkI
namespace Go.Proofs.YtkiehdigpchebaaGreatDoor
set_option maxRecDepth 100000
set_option maxHeartbeats 16000000
abbrev ziG := @Lib.hid
abbrev ziH := @Nat.le_refl
abbrev ziI := @Go.RowKit.Below.refl
section
open Go.RowKit
theorem zgC (hi a n:Nat) (w:World) (b:hi<18446744073709551616) (d:n<64):
  Calls Tryz.prog 150 #[.agg #[.int .u64 (hi:Nat),.int .u64 (a:Nat),.int .i64 (n:Nat)],.int .i64 0] w fun e w'=>e= .returned (.agg #[.int .u64 ((hi:Nat)),.int .u64 (a:Nat),.int .i64 ((n:Int)+1)])∧Below w.heap.size w w':=by
 have c:=or_zero hi b
 go_enter Tryz.func150,Tryz.ntmps150
 go_wp2
 go_region
 go_wp2
 refine bodyPost_ret (v:= .agg #[.int .u64 ((hi:Nat)),.int .u64 (a:Nat),.int .i64 ((n:Int)+1)]) (by simp [results,Tryz.results150,go_sem]) rfl ⟨rfl,?_⟩
 exact (((ziI _ _).alloc (ziH _) _).alloc (by simp) _).drew
theorem zgB (hi b n:Nat) (w:World) (h:hi<18446744073709551616) (f:b<18446744073709551616) (c:n<64) (d:rt (zaD hi b) n):
  Calls Tryz.prog 150 #[.agg #[.int .u64 (hi:Nat),.int .u64 (b:Nat),.int .i64 (n:Nat)],.int .i64 1] w fun e w'=>e= .returned (.agg #[.int .u64 ((hi:Int)+2^(63 - n)),.int .u64 (b:Nat),.int .i64 ((n:Int)+1)])∧Below w.heap.size w w':=by
 have a:=zhW h c (rt_hi f c d)
 have i:=zdV (63 - n) a (by rw [show (63 - n)+1=64 - n from by omega];exact rt_hi f c d)
 have g:IntKind.u64.wrap ((2:Int)^(63 - n))=(2:Int)^(63 - n):=by
  rw [show ((2:Int)^(63 - n))=((2^(63 - n):Nat):Int) from by simp]
  exact zdK _ (Nat.lt_of_le_of_lt (Nat.le_add_left _ _) a)
 go_enter Tryz.func150,Tryz.ntmps150
 go_wp2
 go_region
 go_wp2
 refine bodyPost_ret (v:= .agg #[.int .u64 ((hi:Int)+2^(63 - n)),.int .u64 (b:Nat),.int .i64 ((n:Int)+1)]) (by simp [results,Tryz.results150,go_sem]) rfl ⟨rfl,?_⟩
 exact (((ziI _ _).alloc (ziH _) _).alloc (by simp) _).drew
theorem zfT (hi a n:Nat) (w:World) (d:a<18446744073709551616) (f:64≤n) (b:n<128):
  Calls Tryz.prog 150 #[.agg #[.int .u64 (hi:Nat),.int .u64 (a:Nat),.int .i64 (n:Nat)],.int .i64 0] w fun e w'=>e= .returned (.agg #[.int .u64 (hi:Nat),.int .u64 ((a:Nat)),.int .i64 ((n:Int)+1)])∧Below w.heap.size w w':=by
 have c:=or_zero a d
 go_enter Tryz.func150,Tryz.ntmps150
 go_wp2
 go_region
 go_wp2
 refine bodyPost_ret (v:= .agg #[.int .u64 (hi:Nat),.int .u64 ((a:Nat)),.int .i64 ((n:Int)+1)]) (by simp [results,Tryz.results150,go_sem]) rfl ⟨rfl,?_⟩
 exact (((ziI _ _).alloc (ziH _) _).alloc (by simp) _).drew
theorem zfM (hi b n:Nat) (w:World) (i:b<18446744073709551616) (c:64≤n) (d:n<128) (f:rt (zaD hi b) n):
  Calls Tryz.prog 150 #[.agg #[.int .u64 (hi:Nat),.int .u64 (b:Nat),.int .i64 (n:Nat)],.int .i64 1] w fun e w'=>e= .returned (.agg #[.int .u64 (hi:Nat),.int .u64 ((b:Int)+2^(127 - n)),.int .i64 ((n:Int)+1)])∧Below w.heap.size w w':=by
 have a:=zfG i c d (ziA c (by omega) f)
 have h:=zdV (127 - n) a (by rw [show (127 - n)+1=128 - n from by omega];exact ziA c (by omega) f)
 have g:IntKind.u64.wrap ((2:Int)^(127 - n))=(2:Int)^(127 - n):=by
  rw [show ((2:Int)^(127 - n))=((2^(127 - n):Nat):Int) from by simp]
  exact zdK _ (Nat.lt_of_le_of_lt (Nat.le_add_left _ _) a)
 go_enter Tryz.func150,Tryz.ntmps150
 go_wp2
 go_region
 go_wp2
 refine bodyPost_ret (v:= .agg #[.int .u64 (hi:Nat),.int .u64 ((b:Int)+2^(127 - n)),.int .i64 ((n:Int)+1)]) (by simp [results,Tryz.results150,go_sem]) rfl ⟨rfl,?_⟩
 exact (((ziI _ _).alloc (ziH _) _).alloc (by simp) _).drew
theorem zfP (P i:Nat) (w:World) (l:P<2^128) (hi:i<128):
  Calls Tryz.prog 150 #[pfW (ofW P i) (i:Nat),.int .i64 (bitW P i:Nat)] w fun e w'=>e= .returned (pfW (ofW P (i+1)) ((i+1:Nat):Int))∧Below w.heap.size w w':=by
 have j:=hiN_lt (ofW_lt (n:=i) l)
 have c:=loN_lt (ofW P i)
 have d:=zaW (ofW P i)
 have f:rt (zaD (hiN (ofW P i)) (loN (ofW P i))) i:=by rw [d];exact zhU P i
 have a:=zgP P i hi
 have b: ∀x y:Nat,y<18446744073709551616→zaD x y=ofW P (i+1)→pfW (ofW P (i+1)) ((i+1:Nat):Int)= .agg #[.int .u64 (x:Nat),.int .u64 (y:Nat),.int .i64 ((i:Int)+1)]:=fun x y m e=>by
  rw [←e,zgR m];rfl
 show Calls Tryz.prog 150 #[.agg #[.int .u64 (hiN (ofW P i):Nat),.int .u64 (loN (ofW P i):Nat),.int .i64 (i:Nat)],.int .i64 (bitW P i:Nat)] w _
 rcases zgY P i with g|g
 ·rw [g] at a ⊢
  rw [b (hiN (ofW P i)) (loN (ofW P i)) c (by rw [d,a];simp)]
  by_cases h:i<64
  ·exact zgC _ _ i w j h
  ·exact zfT _ _ i w c (by omega) hi
 ·rw [g] at a ⊢
  rw [Nat.one_mul] at a
  by_cases h:i<64
  ·have k:(2:Nat)^(127 - i)=2^(63 - i)*2^64:=by rw [←Nat.pow_add];congr 1;omega
   rw [b (hiN (ofW P i)+2^(63 - i)) (loN (ofW P i)) c (by rw [a,k,zhG,d])]
   have:=zgB _ _ i w j c h f
   rw [show ((hiN (ofW P i)+2^(63 - i):Nat):Int)=(hiN (ofW P i):Int)+2^(63 - i) from by simp]
   exact this
  ·have o:=zfG c (by omega) hi (ziA (by omega) (by omega) f)
   rw [b (hiN (ofW P i)) (loN (ofW P i)+2^(127 - i)) o (by rw [a,zhA,d])]
   have:=zfM _ _ i w c (by omega) hi f
   rw [show ((loN (ofW P i)+2^(127 - i):Nat):Int)=(loN (ofW P i):Int)+2^(127 - i) from by simp]
   exact this
theorem zbF {W n P k i:Nat} (h:zaP W P i (min n k - i)=zaS W n P k) (a:i=min n k∨bitW W i≠bitW P i):zaS W n P k=i:=by
 rw [←h]
 rcases a with e|e
 ·rw [e,Nat.sub_self];rfl
 ·cases f:min n k - i with
  |zero=>rfl
  |succ f=>show (if bitW W i=bitW P i then _ else i)=i;rw [if_neg e]
theorem zcG {W n P k i:Nat} (hi:i<min n k) (h:zaP W P i (min n k - i)=zaS W n P k) (a:bitW W i=bitW P i):zaP W P (i+1) (min n k - (i+1))=zaS W n P k:=by
 rw [←h,show min n k - i=(min n k - (i+1))+1 from by omega]
 show _=if bitW W i=bitW P i then _ else i
 rw [if_pos a]
theorem zgX {w:World} {b:Nat} {x y z c a d:Value} {t:TypeId} (h:w.heap[b]? =some (.cells #[x,y,z] t)):
  (((w.setCell ⟨b,0,none⟩ c).setCell ⟨b,1,none⟩ a).setCell ⟨b,2,none⟩ d).heap[b]? =some (.cells #[c,a,d] t):=by
 have f:=zcH h 0 c
 have g:=zcH f 1 a
 have e:=zcH g 2 d
 exact e
theorem zdO {w:World} {b a:Nat} (c:b≠a) (e d f:Value):(((w.setCell ⟨a,0,none⟩ e).setCell ⟨a,1,none⟩ d).setCell ⟨a,2,none⟩ f).heap[b]? =w.heap[b]? :=by
 rw [zaZ c,zaZ c,zaZ c]
theorem Blks.set3 {L:List (Nat×Array Value×TypeId)} {w:World} {a:Nat} (h:Blks L w) (f: ∀e∈L,e.1≠a) (d c g:Value):Blks L (((w.setCell ⟨a,0,none⟩ d).setCell ⟨a,1,none⟩ c).setCell ⟨a,2,none⟩ g):=fun e b=>by
 rw [zdO (f e b)];exact h e b
theorem Below.set3 {a w:World} (h:Below a.heap.size a w) {b:Nat} (c:a.heap.size≤b) (x y z:Value):Below a.heap.size a (((w.setCell ⟨b,0,none⟩ x).setCell ⟨b,1,none⟩ y).setCell ⟨b,2,none⟩ z):=
 ((h.setCell (p:=⟨b,0,none⟩) c x).setCell (p:=⟨b,1,none⟩) c y).setCell (p:=⟨b,2,none⟩) c z
theorem zdQ (hi p n m l k:Nat) (w:World) (h1:hi<18446744073709551616) (h2:p<18446744073709551616) (h3:m<18446744073709551616) (h4:l<18446744073709551616) (hn:n≤128) (hk:k≤128):
  Calls Tryz.prog 112 #[.agg #[.int .u64 (hi:Nat),.int .u64 (p:Nat),.int .i64 (n:Nat)],.agg #[.int .u64 (m:Nat),.int .u64 (l:Nat),.int .i64 (k:Nat)]] w
   fun e w'=>e= .returned (pfW (ofW (zaD m l) (zaS (zaD hi p) n (zaD m l) k)) (zaS (zaD hi p) n (zaD m l) k:Nat))∧Below w.heap.size w w':=by
 obtain ⟨W,hW⟩: ∃W,zaD hi p=W:=⟨_,rfl⟩
 obtain ⟨P,hP⟩: ∃P,zaD m l=P:=⟨_,rfl⟩
 have qh:P<2^128:=hP▸zhS h3 h4
 have U:Hid (∀(i:Nat) V,i<128→Calls Tryz.prog 111 #[.agg #[.int .u64 (hi:Nat),.int .u64 (p:Nat),.int .i64 (n:Nat)],.int .i64 (i:Nat)] V fun e w'=>e= .returned (.int .i64 (bitW W i:Nat))∧Below V.heap.size V w'):=fun i V h=>by
  have:=zhN hi p n i V h1 h2 h;rwa [hW] at this
 have Y:Hid (∀(i:Nat) V,i<128→Calls Tryz.prog 111 #[.agg #[.int .u64 (m:Nat),.int .u64 (l:Nat),.int .i64 (k:Nat)],.int .i64 (i:Nat)] V fun e w'=>e= .returned (.int .i64 (bitW P i:Nat))∧Below V.heap.size V w'):=fun i V h=>by
  have:=zhN m l k i V h3 h4 h;rwa [hP] at this
 have ql:Hid (∀(i:Nat) V,i<128→Calls Tryz.prog 150 #[.agg #[.int .u64 (hiN (ofW P i):Nat),.int .u64 (loN (ofW P i):Nat),.int .i64 (i:Nat)],.int .i64 (bitW P i:Nat)] V fun e w'=>e= .returned (.agg #[.int .u64 (hiN (ofW P (i+1)):Nat),.int .u64 (loN (ofW P (i+1)):Nat),.int .i64 ((i+1:Nat):Int)])∧Below V.heap.size V w'):=fun i V h=>zfP P i V qh h
 have HZ:Hid (hiN (ofW P 0)=0∧loN (ofW P 0)=0):=by
  have e:ofW P 0=0:=by show qt P 0*_=0;rw [qt_lt qh,Nat.zero_mul]
  exact ⟨by rw [e];rfl,by rw [e];rfl⟩
 rw [hW,hP]
 clear hW hP
 obtain ⟨L,hL⟩: ∃L,min n k=L:=⟨_,rfl⟩
 have HL:=ziG hL
 have qo:min (n:Int) (k:Int)=(L:Nat):=by omega
 have qB:L≤128:=by omega
 clear hL
 go_enter Tryz.func112,Tryz.ntmps112
 go_wp2
 go_loopw [13] (fun x wr=> ∃i:Nat,i≤L∧x= .int .i64 i∧Hid (Blks [(w.heap.size+1+1,#[.int .u64 0,.int .u64 0,.int .i64 0],151),(w.heap.size+1,#[.int .u64 (m:Nat),.int .u64 (l:Nat),.int .i64 (k:Nat)],151),(w.heap.size,#[.int .u64 (hi:Nat),.int .u64 (p:Nat),.int .i64 (n:Nat)],151)] wr)∧Hid (wr.heap[w.heap.size+1+1+1]? =some (.cells #[.int .u64 (hiN (ofW P i):Nat),.int .u64 (loN (ofW P i):Nat),.int .i64 (i:Nat)] 151))∧Below w.heap.size w wr∧Hid (zaP W P i (min n k - i)=zaS W n P k)) (fun x _=>L - (intOf x).toNat)
 case atStart=>
  refine ⟨0,by omega,rfl,?_,?_,?_,rfl⟩
  ·have h:=(((Blks.empty w).new #[.int .u64 (hi:Nat),.int .u64 (p:Nat),.int .i64 (n:Nat)] 151).new #[.int .u64 (m:Nat),.int .u64 (l:Nat),.int .i64 (k:Nat)] 151).new #[.int .u64 0,.int .u64 0,.int .i64 0] 151
   simp only [World.size_alloc] at h
   exact h.keep ((ziI _ _).alloc (ziH _) _)
  ·show _=_
   rw [HZ.out.1,HZ.out.2]
   have h:=(((((Blks.empty w).new #[.int .u64 (hi:Nat),.int .u64 (p:Nat),.int .i64 (n:Nat)] 151).new #[.int .u64 (m:Nat),.int .u64 (l:Nat),.int .i64 (k:Nat)] 151).new #[.int .u64 0,.int .u64 0,.int .i64 0] 151).new #[.int .u64 0,.int .u64 0,.int .i64 0] 151) _ (.head _)
   simp only [World.size_alloc] at h
   exact h
  ·exact ((((ziI _ _).alloc (ziH _) _).alloc (by simp) _).alloc (by simp;omega) _).alloc (by simp;omega) _
 case round=>
  obtain ⟨i,qr,rfl,q,M,hc,HC⟩:=hrel
  by_cases qm:i<L
  ·have j:i<128:=by omega
   by_cases r:bitW W i=bitW P i
   ·have HS:=ziG (zcG (by rw [HL.out];exact qm) HC.out r)
    have q1:=ziG (fun V=>U.out i V j)
    rw [r] at q1
    have q2:=ziG (fun V=>Y.out i V j)
    have q3:=ziG (fun V=>ql.out i V j)
    clear r
    obtain ⟨la,a0,a1,a2⟩:=q.out.r3 (b:=w.heap.size) (by repeat first|exact .head _|apply List.Mem.tail)
    obtain ⟨lb,b0,b1,b2⟩:=q.out.r3 (b:=w.heap.size+1) (by repeat first|exact .head _|apply List.Mem.tail)
    obtain ⟨⟨r0,r1,r2⟩,f0,f1,f2⟩:=row3 M.out
    go_wp2_with fail
    refine (q1.out _).mono ?_
    rintro e y1 ⟨rfl,g⟩
    have d:=ziG (q.out.keep g)
    have f:Hid (y1.heap[w.heap.size+1+1+1]? =_):=(g.block _ (zaO M.out)).trans M.out
    have y:=zaH hc g
    clear la a0 a1 a2 lb b0 b1 b2 r0 r1 r2 f0 f1 f2
    obtain ⟨F,O,B,D⟩:=d.out.r3 (b:=w.heap.size) (by repeat first|exact .head _|apply List.Mem.tail)
    obtain ⟨E,z,K,s⟩:=d.out.r3 (b:=w.heap.size+1) (by repeat first|exact .head _|apply List.Mem.tail)
    obtain ⟨⟨N,I,J⟩,G,A,Q⟩:=row3 f.out
    go_wp2_with fail
    refine (q2.out _).mono ?_
    rintro e y2 ⟨rfl,c⟩
    have a:=ziG (d.out.keep c)
    have o:Hid (y2.heap[w.heap.size+1+1+1]? =_):=(c.block _ (zaO f.out)).trans f.out
    have t:=zaH y c
    clear F O B D E z K s N I J G A Q
    obtain ⟨X,qk,qd,Z⟩:=a.out.r3 (b:=w.heap.size) (by repeat first|exact .head _|apply List.Mem.tail)
    obtain ⟨qb,T,qf,qe⟩:=a.out.r3 (b:=w.heap.size+1) (by repeat first|exact .head _|apply List.Mem.tail)
    obtain ⟨⟨qi,R,qj⟩,qc,qa,S⟩:=row3 o.out
    go_wp2_with fail
    refine (q3.out _).mono ?_
    rintro e y3 ⟨rfl,H⟩
    have C:=ziG (a.out.keep H)
    have qg:Hid (y3.heap[w.heap.size+1+1+1]? =_):=(H.block _ (zaO o.out)).trans o.out
    have qn:=zaH t H
    clear X qk qd Z qb T qf qe qi R qj qc qa S
    obtain ⟨qG,qs,qq,qy⟩:=C.out.r3 (b:=w.heap.size) (by repeat first|exact .head _|apply List.Mem.tail)
    obtain ⟨qF,qz,qA,qp⟩:=C.out.r3 (b:=w.heap.size+1) (by repeat first|exact .head _|apply List.Mem.tail)
    obtain ⟨⟨qC,qE,qx⟩,qw,qv,qD⟩:=row3 qg.out
    go_wp2
    go_roundw
    case rel=>exact ⟨i+1,by omega,by go_num,C.out.set3 (fun e r=>by simp at r;rcases r with rfl|rfl|rfl<;>simp<;>omega) _ _ _,zgX qg.out,Below.set3 qn (by omega) _ _ _,HS.out⟩
    case measure=>simp [intOf];omega
   ·have HE:=ziG (zbF HC.out (.inr r))
    have q1:=ziG (fun V=>U.out i V j)
    have q2:=ziG (fun V=>Y.out i V j)
    have t1:((bitW W i:Int) !=(bitW P i:Int))=true:=by
     have:(bitW W i:Int)≠(bitW P i:Int):=by omega
     simp [this]
    clear r
    obtain ⟨la,a0,a1,a2⟩:=q.out.r3 (b:=w.heap.size) (by repeat first|exact .head _|apply List.Mem.tail)
    obtain ⟨lb,b0,b1,b2⟩:=q.out.r3 (b:=w.heap.size+1) (by repeat first|exact .head _|apply List.Mem.tail)
    obtain ⟨⟨r0,r1,r2⟩,f0,f1,f2⟩:=row3 M.out
    go_wp2_with fail
    refine (q1.out _).mono ?_
    rintro e y1 ⟨rfl,g⟩
    have d:=ziG (q.out.keep g)
    have f:Hid (y1.heap[w.heap.size+1+1+1]? =_):=(g.block _ (zaO M.out)).trans M.out
    have y:=zaH hc g
    clear la a0 a1 a2 lb b0 b1 b2 r0 r1 r2 f0 f1 f2
    obtain ⟨F,O,B,D⟩:=d.out.r3 (b:=w.heap.size) (by repeat first|exact .head _|apply List.Mem.tail)
    obtain ⟨E,z,K,s⟩:=d.out.r3 (b:=w.heap.size+1) (by repeat first|exact .head _|apply List.Mem.tail)
    obtain ⟨⟨N,I,J⟩,G,A,Q⟩:=row3 f.out
    go_wp2_with fail
    refine (q2.out _).mono ?_
    rintro e y2 ⟨rfl,c⟩
    have a:=ziG (d.out.keep c)
    have o:Hid (y2.heap[w.heap.size+1+1+1]? =_):=(c.block _ (zaO f.out)).trans f.out
    have t:=zaH y c
    clear F O B D E z K s N I J G A Q
    obtain ⟨X,qk,qd,Z⟩:=a.out.r3 (b:=w.heap.size) (by repeat first|exact .head _|apply List.Mem.tail)
    obtain ⟨qb,T,qf,qe⟩:=a.out.r3 (b:=w.heap.size+1) (by repeat first|exact .head _|apply List.Mem.tail)
    obtain ⟨⟨qi,R,qj⟩,qc,qa,S⟩:=row3 o.out
    obtain ⟨lz,z0,z1,z2⟩:=a.out.r3 (b:=w.heap.size+1+1) (by repeat first|exact .head _|apply List.Mem.tail)
    obtain ⟨_,g0,g1,g2⟩:=row3 (a.out _ (List.Mem.head _))
    go_wp2
    refine bodyPost_ret (v:= .agg #[.int .u64 (hiN (ofW P i):Nat),.int .u64 (loN (ofW P i):Nat),.int .i64 (i:Nat)]) (by simp [results,Tryz.results112,go_sem,z0,z1,z2]) rfl ⟨?_,?_⟩
    ·rw [HE.out];rfl
    ·exact Below.set3 t (by omega) _ _ _
  ·have e3:i=L:=by omega
   have HE:=ziG (zbF HC.out (.inl (by rw [HL.out];exact e3)))
   subst e3
   obtain ⟨la,a0,a1,a2⟩:=q.out.r3 (b:=w.heap.size) (by repeat first|exact .head _|apply List.Mem.tail)
   obtain ⟨lb,b0,b1,b2⟩:=q.out.r3 (b:=w.heap.size+1) (by repeat first|exact .head _|apply List.Mem.tail)
   obtain ⟨⟨r0,r1,r2⟩,f0,f1,f2⟩:=row3 M.out
   obtain ⟨lz,z0,z1,z2⟩:=q.out.r3 (b:=w.heap.size+1+1) (by repeat first|exact .head _|apply List.Mem.tail)
   obtain ⟨_,g0,g1,g2⟩:=row3 (q.out _ (List.Mem.head _))
   go_wp2
   refine bodyPost_ret (v:= .agg #[.int .u64 (hiN (ofW P i):Nat),.int .u64 (loN (ofW P i):Nat),.int .i64 (i:Nat)]) (by simp [results,Tryz.results112,go_sem,z0,z1,z2]) rfl ⟨?_,?_⟩
   ·rw [HE.out];rfl
   ·exact Below.set3 hc (by omega) _ _ _
end
end Go.Proofs.YtkiehdigpchebaaGreatDoor
