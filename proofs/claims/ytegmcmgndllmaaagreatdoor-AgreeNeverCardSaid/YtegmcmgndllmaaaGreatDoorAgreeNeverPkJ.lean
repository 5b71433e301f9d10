/-
  What the law AgreeNever leans on, and its walk (10 of 42).
-/
import Derived.RegionTactic
import Derived.Test.YtegmcmgndllmaaaGreatDoorAgreeNeverPkG
import Derived.Test.YtegmcmgndllmaaaGreatDoorAgreeNeverPkI
import Derived.Test.YtegmcmgndllmaaaGreatDoorAgreeNeverPkF
namespace Go.Proofs.YtegmcmgndllmaaaGreatDoor
set_option maxRecDepth 100000
set_option maxHeartbeats 16000000
theorem tkJ {P : Program} {m : Region.Mode} {f : Array Oper} {Q : Exit → Act → World → Prop} {S : World → Prop} (i : Nat) (s : Option Nat) {o : Op} {B : TypeId} {j : String} {A : _} {C : _} {v : Value} {fuel : Nat} {d : Array Bool} {a : Act} {w : World} (hi : f[i]? = some ⟨s, o, B, j, A, C⟩)
 (J : YieldsIf P f S ⟨s, o, B, j, A, C⟩ v a) (E : S w)
 (h : wpAnyH P m f Q S fuel (d.setIfInBounds i true) (a.put s v) w)
 (G : Region.noSelect f = true := by kernel_rfl) (D : Region.free m f d i = true := by kernel_rfl) (I : (Region.ready m f d).contains i = true := by kernel_rfl)
 (H : ∀ c a w, Q (.panic c) (a.put s v) w → Q (.panic c) a w := by exact fun _ _ _ h => h) : wpAnyH P m f Q S (fuel + 1) d a w :=
 wpAnyH_take hi G D I H J E h
theorem tkJa {d : Type _} (l : List d) (i : Nat) (a : d) : l.toArray.setIfInBounds i a = (l.set i a).toArray := List.setIfInBounds_toArray ..
theorem tkJb {d : Type _} (x y : d) (l : List d) : (x :: l).set 0 y = y :: l := rfl
theorem tkJc {d : Type _} (x y : d) (l : List d) (n : Nat) : (x :: l).set (n + 1) y = x :: l.set n y := rfl
abbrev ykS := @Lib.hid
abbrev ykT := @Nat.le_refl
abbrev ykU := @Go.RowKit.Below.refl
abbrev ykV := @List.mem_cons_self
section
open Go.RowKit
theorem z9A (hi lo n:Nat) (w:World) (d:hi<18446744073709551616) (i:n<64):
  Calls Tryz.prog 290 #[.agg #[.int .u64 (hi:Nat),.int .u64 (lo:Nat),.int .i64 (n:Nat)],.int .i64 0] w fun e w'=>e= .returned (.agg #[.int .u64 ((hi:Nat)),.int .u64 (lo:Nat),.int .i64 ((n:Int)+1)])∧Below w.heap.size w w':=by
 have f:=or_zero hi d
 go_enter Tryz.func290,Tryz.ntmps290
 go_wp2
 go_region
 go_wp2
 refine bodyPost_ret (v:= .agg #[.int .u64 ((hi:Nat)),.int .u64 (lo:Nat),.int .i64 ((n:Int)+1)]) (by simp [results,Tryz.results290,go_sem]) rfl ⟨rfl,?_⟩
 exact (((ykU _ _).alloc (ykT _) _).alloc (by simp) _).drew
theorem ybU (hi lo n:Nat) (w:World) (m:hi<18446744073709551616) (j:lo<18446744073709551616) (f:n<64) (i:rt (zaL hi lo) n):
  Calls Tryz.prog 290 #[.agg #[.int .u64 (hi:Nat),.int .u64 (lo:Nat),.int .i64 (n:Nat)],.int .i64 1] w fun e w'=>e= .returned (.agg #[.int .u64 ((hi:Int)+2^(63 - n)),.int .u64 (lo:Nat),.int .i64 ((n:Int)+1)])∧Below w.heap.size w w':=by
 have d:=ygW m f (rt_hi j f i)
 have A:=z9J (63 - n) d (by rw [show (63 - n)+1=64 - n from by omega];exact rt_hi j f i)
 have o:IntKind.u64.wrap ((2:Int)^(63 - n))=(2:Int)^(63 - n):=by
  rw [show ((2:Int)^(63 - n))=((2^(63 - n):Nat):Int) from by simp]
  exact zyU _ (Nat.lt_of_le_of_lt (Nat.le_add_left _ _) d)
 go_enter Tryz.func290,Tryz.ntmps290
 go_wp2
 go_region
 go_wp2
 refine bodyPost_ret (v:= .agg #[.int .u64 ((hi:Int)+2^(63 - n)),.int .u64 (lo:Nat),.int .i64 ((n:Int)+1)]) (by simp [results,Tryz.results290,go_sem]) rfl ⟨rfl,?_⟩
 exact (((ykU _ _).alloc (ykT _) _).alloc (by simp) _).drew
theorem yaI (hi lo n:Nat) (w:World) (f:lo<18446744073709551616) (j:64≤n) (d:n<128):
  Calls Tryz.prog 290 #[.agg #[.int .u64 (hi:Nat),.int .u64 (lo:Nat),.int .i64 (n:Nat)],.int .i64 0] w fun e w'=>e= .returned (.agg #[.int .u64 (hi:Nat),.int .u64 ((lo:Nat)),.int .i64 ((n:Int)+1)])∧Below w.heap.size w w':=by
 have i:=or_zero lo f
 go_enter Tryz.func290,Tryz.ntmps290
 go_wp2
 go_region
 go_wp2
 refine bodyPost_ret (v:= .agg #[.int .u64 (hi:Nat),.int .u64 ((lo:Nat)),.int .i64 ((n:Int)+1)]) (by simp [results,Tryz.results290,go_sem]) rfl ⟨rfl,?_⟩
 exact (((ykU _ _).alloc (ykT _) _).alloc (by simp) _).drew
theorem z6U (hi lo n:Nat) (w:World) (m:lo<18446744073709551616) (i:64≤n) (f:n<128) (j:rt (zaL hi lo) n):
  Calls Tryz.prog 290 #[.agg #[.int .u64 (hi:Nat),.int .u64 (lo:Nat),.int .i64 (n:Nat)],.int .i64 1] w fun e w'=>e= .returned (.agg #[.int .u64 (hi:Nat),.int .u64 ((lo:Int)+2^(127 - n)),.int .i64 ((n:Int)+1)])∧Below w.heap.size w w':=by
 have d:=z7E m i f (yiS i (by omega) j)
 have A:=z9J (127 - n) d (by rw [show (127 - n)+1=128 - n from by omega];exact yiS i (by omega) j)
 have o:IntKind.u64.wrap ((2:Int)^(127 - n))=(2:Int)^(127 - n):=by
  rw [show ((2:Int)^(127 - n))=((2^(127 - n):Nat):Int) from by simp]
  exact zyU _ (Nat.lt_of_le_of_lt (Nat.le_add_left _ _) d)
 go_enter Tryz.func290,Tryz.ntmps290
 go_wp2
 go_region
 go_wp2
 refine bodyPost_ret (v:= .agg #[.int .u64 (hi:Nat),.int .u64 ((lo:Int)+2^(127 - n)),.int .i64 ((n:Int)+1)]) (by simp [results,Tryz.results290,go_sem]) rfl ⟨rfl,?_⟩
 exact (((ykU _ _).alloc (ykT _) _).alloc (by simp) _).drew
theorem z4K (P i:Nat) (w:World) (hP:P<2^128) (hi:i<128):
  Calls Tryz.prog 290 #[pfW (ofW P i) (i:Nat),.int .i64 (bitW P i:Nat)] w fun e w'=>e= .returned (pfW (ofW P (i+1)) ((i+1:Nat):Int))∧Below w.heap.size w w':=by
 have A:=zhG (ygM (n:=i) hP)
 have f:=zhE (ofW P i)
 have j:=zbQ (ofW P i)
 have o:rt (zaL (hiN (ofW P i)) (loN (ofW P i))) i:=by rw [j];exact zvN P i
 have d:=yfU P i hi
 have key: ∀x y:Nat,y<18446744073709551616→zaL x y=ofW P (i+1)→pfW (ofW P (i+1)) ((i+1:Nat):Int)= .agg #[.int .u64 (x:Nat),.int .u64 (y:Nat),.int .i64 ((i:Int)+1)]:=fun x y D e=>by
  rw [←e,zjX D];rfl
 show Calls Tryz.prog 290 #[.agg #[.int .u64 (hiN (ofW P i):Nat),.int .u64 (loN (ofW P i):Nat),.int .i64 (i:Nat)],.int .i64 (bitW P i:Nat)] w _
 rcases zdA P i with m|m
 ·rw [m] at d ⊢
  rw [key (hiN (ofW P i)) (loN (ofW P i)) f (by rw [j,d];simp)]
  by_cases h:i<64
  ·exact z9A _ _ i w A h
  ·exact yaI _ _ i w f (by omega) hi
 ·rw [m] at d ⊢
  rw [Nat.one_mul] at d
  by_cases h:i<64
  ·have B:(2:Nat)^(127 - i)=2^(63 - i)*2^64:=by rw [←Nat.pow_add];congr 1;omega
   rw [key (hiN (ofW P i)+2^(63 - i)) (loN (ofW P i)) f (by rw [d,B,ydY,j])]
   have:=ybU _ _ i w A f h o
   rw [show ((hiN (ofW P i)+2^(63 - i):Nat):Int)=(hiN (ofW P i):Int)+2^(63 - i) from by simp]
   exact this
  ·have C:=z7E f (by omega) hi (yiS (by omega) (by omega) o)
   rw [key (hiN (ofW P i)) (loN (ofW P i)+2^(127 - i)) C (by rw [d,yeK,j])]
   have:=z6U _ _ i w f (by omega) hi o
   rw [show ((loN (ofW P i)+2^(127 - i):Nat):Int)=(loN (ofW P i):Int)+2^(127 - i) from by simp]
   exact this
theorem zpC {W n P k i:Nat} (h:zcN W P i (min n k - i)=zbB W n P k) (d:i=min n k∨bitW W i≠bitW P i):zbB W n P k=i:=by
 rw [←h]
 rcases d with e|e
 ·rw [e,Nat.sub_self];rfl
 ·cases f:min n k - i with
  |zero=>rfl
  |succ f=>show (if bitW W i=bitW P i then _ else i)=i;rw [if_neg e]
theorem zvE {W n P k i:Nat} (hi:i<min n k) (h:zcN W P i (min n k - i)=zbB W n P k) (d:bitW W i=bitW P i):zcN W P (i+1) (min n k - (i+1))=zbB W n P k:=by
 rw [←h,show min n k - i=(min n k - (i+1))+1 from by omega]
 show _=if bitW W i=bitW P i then _ else i
 rw [if_pos d]
theorem yeV {w:World} {b:Nat} {x y z i f d:Value} {t:TypeId} (h:w.heap[b]? =some (.cells #[x,y,z] t)):
  (((w.setCell ⟨b,0,none⟩ i).setCell ⟨b,1,none⟩ f).setCell ⟨b,2,none⟩ d).heap[b]? =some (.cells #[i,f,d] t):=by
 have j:=zaK h 0 i
 have m:=zaK j 1 f
 have o:=zaK m 2 d
 exact o
theorem z2E {w:World} {b b':Nat} (d:b≠b') (j i f:Value):(((w.setCell ⟨b',0,none⟩ j).setCell ⟨b',1,none⟩ i).setCell ⟨b',2,none⟩ f).heap[b]? =w.heap[b]? :=by
 rw [zaZ d,zaZ d,zaZ d]
theorem Blks.set3 {L:List (Nat×Array Value×TypeId)} {w:World} {b':Nat} (h:Blks L w) (m: ∀e∈L,e.1≠b') (j i f:Value):Blks L (((w.setCell ⟨b',0,none⟩ j).setCell ⟨b',1,none⟩ i).setCell ⟨b',2,none⟩ f):=fun e d=>by
 rw [z2E (m e d)];exact h e d
theorem Below.set3 {a w:World} (h:Below a.heap.size a w) {b:Nat} (d:a.heap.size≤b) (x y z:Value):Below a.heap.size a (((w.setCell ⟨b,0,none⟩ x).setCell ⟨b,1,none⟩ y).setCell ⟨b,2,none⟩ z):=
 ((h.setCell (p:=⟨b,0,none⟩) d x).setCell (p:=⟨b,1,none⟩) d y).setCell (p:=⟨b,2,none⟩) d z
theorem zoO (hi lo n C D k:Nat) (w:World) (h1:hi<18446744073709551616) (h2:lo<18446744073709551616) (h3:C<18446744073709551616) (h4:D<18446744073709551616) (hn:n≤128) (hk:k≤128):
  Calls Tryz.prog 247 #[.agg #[.int .u64 (hi:Nat),.int .u64 (lo:Nat),.int .i64 (n:Nat)],.agg #[.int .u64 (C:Nat),.int .u64 (D:Nat),.int .i64 (k:Nat)]] w
   fun e w'=>e= .returned (pfW (ofW (zaL C D) (zbB (zaL hi lo) n (zaL C D) k)) (zbB (zaL hi lo) n (zaL C D) k:Nat))∧Below w.heap.size w w':=by
 obtain ⟨W,hW⟩: ∃W,zaL hi lo=W:=⟨_,rfl⟩
 obtain ⟨P,hP⟩: ∃P,zaL C D=P:=⟨_,rfl⟩
 have qy:P<2^128:=hP▸zpY h3 h4
 have qz:Hid (∀(i:Nat) V,i<128→Calls Tryz.prog 246 #[.agg #[.int .u64 (hi:Nat),.int .u64 (lo:Nat),.int .i64 (n:Nat)],.int .i64 (i:Nat)] V fun e w'=>e= .returned (.int .i64 (bitW W i:Nat))∧Below V.heap.size V w'):=fun i V h=>by
  have:=z8I hi lo n i V h1 h2 h;rwa [hW] at this
 have qh:Hid (∀(i:Nat) V,i<128→Calls Tryz.prog 246 #[.agg #[.int .u64 (C:Nat),.int .u64 (D:Nat),.int .i64 (k:Nat)],.int .i64 (i:Nat)] V fun e w'=>e= .returned (.int .i64 (bitW P i:Nat))∧Below V.heap.size V w'):=fun i V h=>by
  have:=z8I C D k i V h3 h4 h;rwa [hP] at this
 have qC:Hid (∀(i:Nat) V,i<128→Calls Tryz.prog 290 #[.agg #[.int .u64 (hiN (ofW P i):Nat),.int .u64 (loN (ofW P i):Nat),.int .i64 (i:Nat)],.int .i64 (bitW P i:Nat)] V fun e w'=>e= .returned (.agg #[.int .u64 (hiN (ofW P (i+1)):Nat),.int .u64 (loN (ofW P (i+1)):Nat),.int .i64 ((i+1:Nat):Int)])∧Below V.heap.size V w'):=fun i V h=>z4K P i V qy h
 have HZ:Hid (hiN (ofW P 0)=0∧loN (ofW P 0)=0):=by
  have e:ofW P 0=0:=by show qt P 0*_=0;rw [zuB qy,Nat.zero_mul]
  exact ⟨by rw [e];rfl,by rw [e];rfl⟩
 rw [hW,hP]
 clear hW hP
 obtain ⟨L,hL⟩: ∃L,min n k=L:=⟨_,rfl⟩
 have HL:=ykS hL
 have qD:min (n:Int) (k:Int)=(L:Nat):=by omega
 have qM:L≤128:=by omega
 clear hL
 go_enter Tryz.func247,Tryz.ntmps247
 go_wp2
 go_loopw [13] (fun x wr=> ∃i:Nat,i≤L∧x= .int .i64 i∧Hid (Blks [(w.heap.size+1+1,#[.int .u64 0,.int .u64 0,.int .i64 0],183),(w.heap.size+1,#[.int .u64 (C:Nat),.int .u64 (D:Nat),.int .i64 (k:Nat)],183),(w.heap.size,#[.int .u64 (hi:Nat),.int .u64 (lo:Nat),.int .i64 (n:Nat)],183)] wr)∧Hid (wr.heap[w.heap.size+1+1+1]? =some (.cells #[.int .u64 (hiN (ofW P i):Nat),.int .u64 (loN (ofW P i):Nat),.int .i64 (i:Nat)] 183))∧Below w.heap.size w wr∧Hid (zcN W P i (min n k - i)=zbB W n P k)) (fun x _=>L - (intOf x).toNat)
 case atStart=>
  refine ⟨0,by omega,rfl,?_,?_,?_,rfl⟩
  ·have h:=(((Blks.empty w).new #[.int .u64 (hi:Nat),.int .u64 (lo:Nat),.int .i64 (n:Nat)] 183).new #[.int .u64 (C:Nat),.int .u64 (D:Nat),.int .i64 (k:Nat)] 183).new #[.int .u64 0,.int .u64 0,.int .i64 0] 183
   simp only [World.size_alloc] at h
   exact h.keep ((ykU _ _).alloc (ykT _) _)
  ·show _=_
   rw [HZ.out.1,HZ.out.2]
   have h:=(((((Blks.empty w).new #[.int .u64 (hi:Nat),.int .u64 (lo:Nat),.int .i64 (n:Nat)] 183).new #[.int .u64 (C:Nat),.int .u64 (D:Nat),.int .i64 (k:Nat)] 183).new #[.int .u64 0,.int .u64 0,.int .i64 0] 183).new #[.int .u64 0,.int .u64 0,.int .i64 0] 183) _ (.head _)
   simp only [World.size_alloc] at h
   exact h
  ·exact ((((ykU _ _).alloc (ykT _) _).alloc (by simp) _).alloc (by simp;omega) _).alloc (by simp;omega) _
 case round=>
  obtain ⟨i,qE,rfl,E,J,hc,HC⟩:=hrel
  by_cases qA:i<L
  ·have B:i<128:=by omega
   by_cases G:bitW W i=bitW P i
   ·have HS:=ykS (zvE (by rw [HL.out];exact qA) HC.out G)
    have q1:=ykS (fun V=>qz.out i V B)
    rw [G] at q1
    have q2:=ykS (fun V=>qh.out i V B)
    have q3:=ykS (fun V=>qC.out i V B)
    clear G
    obtain ⟨la,a0,a1,a2⟩:=E.out.r3 (b:=w.heap.size) (by repeat first|exact .head _|apply List.Mem.tail)
    obtain ⟨lb,b0,b1,b2⟩:=E.out.r3 (b:=w.heap.size+1) (by repeat first|exact .head _|apply List.Mem.tail)
    obtain ⟨⟨r0,r1,r2⟩,f0,f1,f2⟩:=row3 J.out
    go_wp2_with fail
    refine (q1.out _).mono ?_
    rintro e y1 ⟨rfl,o⟩
    have m:=ykS (E.out.keep o)
    have f:Hid (y1.heap[w.heap.size+1+1+1]? =_):=(o.block _ (zaD J.out)).trans J.out
    have N:=zaC hc o
    clear la a0 a1 a2 lb b0 b1 b2 r0 r1 r2 f0 f1 f2
    obtain ⟨Z,H,I,U⟩:=m.out.r3 (b:=w.heap.size) (by repeat first|exact .head _|apply List.Mem.tail)
    obtain ⟨Y,O,X,qd⟩:=m.out.r3 (b:=w.heap.size+1) (by repeat first|exact .head _|apply List.Mem.tail)
    obtain ⟨⟨qa,Q,qf⟩,qe,M,qc⟩:=row3 f.out
    go_wp2_with fail
    refine (q2.out _).mono ?_
    rintro e y2 ⟨rfl,j⟩
    have d:=ykS (m.out.keep j)
    have A:Hid (y2.heap[w.heap.size+1+1+1]? =_):=(j.block _ (zaD f.out)).trans f.out
    have qb:=zaC N j
    clear Z H I U Y O X qd qa Q qf qe M qc
    obtain ⟨qn,ql,qp,qm⟩:=d.out.r3 (b:=w.heap.size) (by repeat first|exact .head _|apply List.Mem.tail)
    obtain ⟨qq,qx,qg,qj⟩:=d.out.r3 (b:=w.heap.size+1) (by repeat first|exact .head _|apply List.Mem.tail)
    obtain ⟨⟨qw,qi,qs⟩,qo,qk,qv⟩:=row3 A.out
    go_wp2_with fail
    refine (q3.out _).mono ?_
    rintro e y3 ⟨rfl,S⟩
    have K:=ykS (d.out.keep S)
    have qr:Hid (y3.heap[w.heap.size+1+1+1]? =_):=(S.block _ (zaD A.out)).trans A.out
    have qB:=zaC qb S
    clear qn ql qp qm qq qx qg qj qw qi qs qo qk qv
    obtain ⟨qF,qK,qO,qJ⟩:=K.out.r3 (b:=w.heap.size) (by repeat first|exact .head _|apply List.Mem.tail)
    obtain ⟨qQ,qS,qN,qG⟩:=K.out.r3 (b:=w.heap.size+1) (by repeat first|exact .head _|apply List.Mem.tail)
    obtain ⟨⟨qR,qI,qP⟩,qH,qT,qL⟩:=row3 qr.out
    go_wp2
    go_roundw
    case rel=>exact ⟨i+1,by omega,by go_num,K.out.set3 (fun e G=>by simp at G;rcases G with rfl|rfl|rfl<;>simp<;>omega) _ _ _,yeV qr.out,Below.set3 qB (by omega) _ _ _,HS.out⟩
    case measure=>simp [intOf];omega
   ·have HE:=ykS (zpC HC.out (.inr G))
    have q1:=ykS (fun V=>qz.out i V B)
    have q2:=ykS (fun V=>qh.out i V B)
    have t1:((bitW W i:Int) !=(bitW P i:Int))=true:=by
     have:(bitW W i:Int)≠(bitW P i:Int):=by omega
     simp [this]
    clear G
    obtain ⟨la,a0,a1,a2⟩:=E.out.r3 (b:=w.heap.size) (by repeat first|exact .head _|apply List.Mem.tail)
    obtain ⟨lb,b0,b1,b2⟩:=E.out.r3 (b:=w.heap.size+1) (by repeat first|exact .head _|apply List.Mem.tail)
    obtain ⟨⟨r0,r1,r2⟩,f0,f1,f2⟩:=row3 J.out
    go_wp2_with fail
    refine (q1.out _).mono ?_
    rintro e y1 ⟨rfl,o⟩
    have m:=ykS (E.out.keep o)
    have f:Hid (y1.heap[w.heap.size+1+1+1]? =_):=(o.block _ (zaD J.out)).trans J.out
    have N:=zaC hc o
    clear la a0 a1 a2 lb b0 b1 b2 r0 r1 r2 f0 f1 f2
    obtain ⟨Z,H,I,U⟩:=m.out.r3 (b:=w.heap.size) (by repeat first|exact .head _|apply List.Mem.tail)
    obtain ⟨Y,O,X,qd⟩:=m.out.r3 (b:=w.heap.size+1) (by repeat first|exact .head _|apply List.Mem.tail)
    obtain ⟨⟨qa,Q,qf⟩,qe,M,qc⟩:=row3 f.out
    go_wp2_with fail
    refine (q2.out _).mono ?_
    rintro e y2 ⟨rfl,j⟩
    have d:=ykS (m.out.keep j)
    have A:Hid (y2.heap[w.heap.size+1+1+1]? =_):=(j.block _ (zaD f.out)).trans f.out
    have qb:=zaC N j
    clear Z H I U Y O X qd qa Q qf qe M qc
    obtain ⟨qn,ql,qp,qm⟩:=d.out.r3 (b:=w.heap.size) (by repeat first|exact .head _|apply List.Mem.tail)
    obtain ⟨qq,qx,qg,qj⟩:=d.out.r3 (b:=w.heap.size+1) (by repeat first|exact .head _|apply List.Mem.tail)
    obtain ⟨⟨qw,qi,qs⟩,qo,qk,qv⟩:=row3 A.out
    obtain ⟨lz,z0,z1,z2⟩:=d.out.r3 (b:=w.heap.size+1+1) (by repeat first|exact .head _|apply List.Mem.tail)
    obtain ⟨_,g0,g1,g2⟩:=row3 (d.out _ (List.Mem.head _))
    go_wp2
    refine bodyPost_ret (v:= .agg #[.int .u64 (hiN (ofW P i):Nat),.int .u64 (loN (ofW P i):Nat),.int .i64 (i:Nat)]) (by simp [results,Tryz.results247,go_sem,z0,z1,z2]) rfl ⟨?_,?_⟩
    ·rw [HE.out];rfl
    ·exact Below.set3 qb (by omega) _ _ _
  ·have e3:i=L:=by omega
   have HE:=ykS (zpC HC.out (.inl (by rw [HL.out];exact e3)))
   subst e3
   obtain ⟨la,a0,a1,a2⟩:=E.out.r3 (b:=w.heap.size) (by repeat first|exact .head _|apply List.Mem.tail)
   obtain ⟨lb,b0,b1,b2⟩:=E.out.r3 (b:=w.heap.size+1) (by repeat first|exact .head _|apply List.Mem.tail)
   obtain ⟨⟨r0,r1,r2⟩,f0,f1,f2⟩:=row3 J.out
   obtain ⟨lz,z0,z1,z2⟩:=E.out.r3 (b:=w.heap.size+1+1) (by repeat first|exact .head _|apply List.Mem.tail)
   obtain ⟨_,g0,g1,g2⟩:=row3 (E.out _ (List.Mem.head _))
   go_wp2
   refine bodyPost_ret (v:= .agg #[.int .u64 (hiN (ofW P i):Nat),.int .u64 (loN (ofW P i):Nat),.int .i64 (i:Nat)]) (by simp [results,Tryz.results247,go_sem,z0,z1,z2]) rfl ⟨?_,?_⟩
   ·rw [HE.out];rfl
   ·exact Below.set3 hc (by omega) _ _ _
def RetT (w:World) (T:HT) (t:PT) (e:Ending) (w':World):Prop:= ∃T':HT,e= .returned T'.ptr∧zfJ w w' T T'∧T'.pt=t
theorem z0J {w d:World} (f:Below w.heap.size w d) {P k:Nat} {v:Int} (hP:P<2^128) (j:k≤128) (i:rt P k):
  zfJ w (d.alloc (.cells (zkH P k v true (.pointer none) (.pointer none)) 275)) .nil (.node d.heap.size P k v true .nil .nil):=
 ⟨⟨Go.Deep.blk_alloc_new _ _,⟨hP,j,i⟩,trivial,trivial⟩,by simp [HT.blocks],(fun b h=>by
  rcases List.mem_cons.1 h with g|g
  ·exact .inr (by rw [g];exact f.size)
  ·cases g),(Only.of_below f).alloc _⟩
theorem zqQ (P k:Nat) (v:Int) (w:World) (hP:P<2^128) (A:k≤128) (i:rt P k):
  Calls Tryz.prog 189 #[HT.nil.ptr,pfW P (k:Nat),.int .i64 v] w (RetT w .nil (PT.leaf P k v)):=by
 show Calls Tryz.prog 189 #[.pointer none,.agg #[.int .u64 (hiN P:Nat),.int .u64 (loN P:Nat),.int .i64 (k:Nat)],.int .i64 v] w _
 have f:=fun j (m:Below w.heap.size w j)=>z0J (v:=v) m hP A i
 have o:=ykS f
 have d:Hid (zkH P k v true (.pointer none) (.pointer none)= #[.int .u64 (hiN P:Nat),.int .u64 (loN P:Nat),.int .i64 (k:Nat),.int .i64 v,.bool true,.pointer none,.pointer none]):=rfl
 clear f
 go_enter Tryz.func189,Tryz.ntmps189
 go_wp2
 go_ret
 refine ⟨.node (w.heap.size+1) P k v true .nil .nil,rfl,?_,rfl⟩
 have:=o.out (w.alloc (.cells #[.int .u64 (hiN P:Nat),.int .u64 (loN P:Nat),.int .i64 (k:Nat)] 183)) ((ykU _ _).alloc (ykT _) _)
 rw [d.out] at this
 simpa using this
theorem z4W {w i:World} {b W n:Nat} {u v:Int} {h h':Bool} {l r:HT} (j:(HT.node b W n u h l r).In w) (B:(HT.node b W n u h l r).blocks.Nodup) (f:Below w.heap.size w i):
  zfJ w ((i.setCell ⟨b,3,none⟩ (.int .i64 v)).setCell ⟨b,4,none⟩ (.bool h')) (.node b W n u h l r) (.node b W n v h' l r):=by
 obtain ⟨A,o,J,I,H⟩:=zhZ B
 obtain ⟨C,E,G,D⟩:=j
 have m:i.heap[b]? =some (.cells (zkH W n u h l.ptr r.ptr) 275):=(f.block b (zaD C)).trans C
 refine ⟨⟨?_,E,?_,?_⟩,B,fun x d=> .inl d,?_⟩
 ·rw [zaK (zaK m 3 _) 4];rfl
 ·exact HT.in_same (HT.in_below G f) (fun x d=>by rw [zaZ (fun e:x=b=>A (e▸d)),zaZ (fun e:x=b=>A (e▸d))])
 ·exact HT.in_same (HT.in_below D f) (fun x d=>by rw [zaZ (fun e:x=b=>o (e▸d)),zaZ (fun e:x=b=>o (e▸d))])
 ·exact ((Only.of_below (F:=(HT.node b W n u h l r).blocks) f).setCell (p:=⟨b,3,none⟩) (.inl (ykV ..)) _).setCell (p:=⟨b,4,none⟩) (.inl (ykV ..)) _
theorem zqN (b P k:Nat) (u v:Int) (h:Bool) (l r:HT) (w:World) (d:(HT.node b P k u h l r).In w) (f:(HT.node b P k u h l r).blocks.Nodup):
  Calls Tryz.prog 189 #[(HT.node b P k u h l r).ptr,pfW P (k:Nat),.int .i64 v] w (RetT w (.node b P k u h l r) (.node P k v true l.pt r.pt)):=by
 show Calls Tryz.prog 189 #[.pointer (some ⟨b,0,none⟩),.agg #[.int .u64 (hiN P:Nat),.int .u64 (loN P:Nat),.int .i64 (k:Nat)],.int .i64 v] w _
 have o:=ykS (fun i (m:Below w.heap.size w i)=>z4W (v:=v) (h':=true) d f m)
 obtain ⟨⟨C,D,G⟩,B,H,K,M⟩:=zfQ d.1
 have N:=zaF d.1 3
 have E:=zaF d.1 4
 have j:=zaD d.1
 have A: ∀W:World,(binOp .eql 183 (.agg #[.int .u64 (hiN P:Nat),.int .u64 (loN P:Nat),.int .i64 (k:Nat)]) (.agg #[.int .u64 (hiN P:Nat),.int .u64 (loN P:Nat),.int .i64 (k:Nat)])).run Tryz.prog W= .ok (.bool true) W:=fun W=>by rw [eqPf];simp
 have O:=zfS
 clear d f
 generalize hiN P=I at*
 generalize loN P=J at*
 go_enter Tryz.func189,Tryz.ntmps189
 go_wp2
 go_quiet (fail)
 go_wp2
 go_ret
 exact ⟨.node b P k v true l r,rfl,o.out _ (((ykU _ _).alloc (ykT _) _).trans zcX),rfl⟩
theorem drew_o {x:World}:Below x.heap.size x x.drew:=(ykU _ _).drew
theorem HT.ptr_form (T:HT): ∃u,T.ptr= .pointer u:=by cases T<;>exact ⟨_,rfl⟩
theorem zjJ (b W n P k:Nat) (u v:Int) (h:Bool) (l r c:HT) (tc t2:PT) (w:World) (M:(HT.node b W n u h l r).In w) (hd:(HT.node b W n u h l r).blocks.Nodup) (hP:P<2^128)
  (qo: ¬(W=P∧n=k)) (qx:zbJ W n P k=true) (hs:(bitZ P n=0∧l=c∧ .node W n u h tc r.pt=t2)∨(bitZ P n=1∧r=c∧ .node W n u h l.pt tc=t2)) (HC:Hid (∀X,Below w.heap.size w X→Calls Tryz.prog 189 #[c.ptr,pfW P (k:Nat),.int .i64 v] X (RetT X c tc))):
  Calls Tryz.prog 189 #[(HT.node b W n u h l r).ptr,pfW P (k:Nat),.int .i64 v] w (RetT w (.node b W n u h l r) t2):=by
 have hW:=M.2.1.1
 obtain ⟨U,J⟩: ∃x,hiN W=x:=⟨_,rfl⟩
 obtain ⟨V,I⟩: ∃x,loN W=x:=⟨_,rfl⟩
 obtain ⟨B,C⟩: ∃x,hiN P=x:=⟨_,rfl⟩
 obtain ⟨j,m⟩: ∃x,loN P=x:=⟨_,rfl⟩
 have qg:((U:Int)==B&&((V:Int)==j&&(n:Int)==k))=false:=by
  rw [Bool.eq_false_iff]
  intro g
  simp only [Bool.and_eq_true,beq_iff_eq] at g
  exact qo ⟨zlM (by rw [J,C];omega) (by rw [I,m];omega),by omega⟩
 have qC:=eqPf U V n B j k
 rw [qg] at qC
 have hg:=zfS
 have qF:Hid (∀X,Calls Tryz.prog 245 #[.agg #[.int .u64 (U:Nat),.int .u64 (V:Nat),.int .i64 (n:Nat)],.agg #[.int .u64 (B:Nat),.int .u64 (j:Nat),.int .i64 (k:Nat)]] X fun e w'=>e= .returned (.bool true)∧Below X.heap.size X w'):=fun X=>by
  have:=zhX U V B j n k X (J▸zhG hW) (I▸zhE W) (C▸zhG hP) (m▸zhE P)
  rw [←J,←I,←C,←m,zbQ,zbQ,qx] at this
  rw [←J,←I,←C,←m];exact this
 have ql:Hid (∀β,bitZ P n=β→ ∀X,Calls Tryz.prog 246 #[.agg #[.int .u64 (B:Nat),.int .u64 (j:Nat),.int .i64 (k:Nat)],.int .i64 (n:Nat)] X fun e w'=>e= .returned (.int .i64 β)∧Below X.heap.size X w'):=fun β E X=>by
  have:=zvM B j k n X (C▸zhG hP) (m▸zhE P)
  rw [←C,←m,zbQ,E] at this
  rw [←C,←m];exact this
 have qh:Hid (w.heap[b]? =some (.cells #[.int .u64 (U:Nat),.int .u64 (V:Nat),.int .i64 (n:Nat),.int .i64 u,.bool h,l.ptr,r.ptr] 275)):=by
  have:=M.1;unfold zkH at this;rw [J,I] at this;exact this
 have qn:=ykS M
 have HD:=ykS hd
 have qG:=zaD M.1
 have qr: ∀x∈(HT.node b W n u h l r).blocks,x<w.heap.size:=HT.in_lt M
 have qD:=ykS qr
 show Calls Tryz.prog 189 #[.pointer (some ⟨b,0,none⟩),.agg #[.int .u64 (hiN P:Nat),.int .u64 (loN P:Nat),.int .i64 (k:Nat)],.int .i64 v] w _
 have qw:Hid (∀X,Below w.heap.size w X→Calls Tryz.prog 189 #[c.ptr,.agg #[.int .u64 (B:Nat),.int .u64 (j:Nat),.int .i64 (k:Nat)],.int .i64 v] X (RetT X c tc)):=by
  have:=HC.out
  rw [show pfW P (k:Nat)= .agg #[.int .u64 (B:Nat),.int .u64 (j:Nat),.int .i64 (k:Nat)] from by unfold pfW pfV;rw [C,m]] at this
  exact this
 rw [C,m]
 clear HC
 have HC:=ykS qw.out
 obtain ⟨uc,qp⟩:=HT.ptr_form c
 have D: ∀X:World,X.heap[b]? =some (.cells #[.int .u64 (U:Nat),.int .u64 (V:Nat),.int .i64 (n:Nat),.int .i64 u,.bool h,l.ptr,r.ptr] 275)→(X.cell? ⟨b,0,none⟩=some (.int .u64 (U:Nat))∧X.cell? ⟨b,1,none⟩=some (.int .u64 (V:Nat))∧X.cell? ⟨b,2,none⟩=some (.int .i64 (n:Nat)))∧X.cell? ⟨b,5,none⟩=some l.ptr∧X.cell? ⟨b,6,none⟩=some r.ptr:=fun X O=>⟨⟨zaB O 0,zaB O 1,zaB O 2⟩,zaB O 5,zaB O 6⟩
 have H:=ykS D
 obtain ⟨⟨c0,c1,c2⟩,-⟩:=D w qh.out
 clear M hd hW J I C m qo qg qx qr hP D qw
 go_enter Tryz.func189,Tryz.ntmps189
 go_wp2
 go_quiet (fail)
 go_wp2
 have qy:Below w.heap.size w ((w.alloc (.cells #[.int .u64 (B:Nat),.int .u64 (j:Nat),.int .i64 (k:Nat)] 183)).drewN nq):=((ykU _ _).alloc (ykT _) _).trans zcX
 have Z:Hid (((w.alloc (.cells #[.int .u64 (B:Nat),.int .u64 (j:Nat),.int .i64 (k:Nat)] 183)).drewN nq).heap[w.heap.size]? =some (.cells #[.int .u64 (B:Nat),.int .u64 (j:Nat),.int .i64 (k:Nat)] 183)):=Go.Deep.blk_alloc_new _ _
 generalize (w.alloc (.cells #[.int .u64 (B:Nat),.int .u64 (j:Nat),.int .i64 (k:Nat)] 183)).drewN nq=x1 at*
 have qc:Hid (x1.heap[b]? =_):=(qy.block b qG).trans qh.out
 have qa:Hid (∀X,Below x1.heap.size x1 X→(fun W=>(W.cell? ⟨b,0,none⟩=some (.int .u64 (U:Nat))∧W.cell? ⟨b,1,none⟩=some (.int .u64 (V:Nat))∧W.cell? ⟨b,2,none⟩=some (.int .i64 (n:Nat)))∧(W.cell? ⟨w.heap.size,0,none⟩=some (.int .u64 (B:Nat))∧W.cell? ⟨w.heap.size,1,none⟩=some (.int .u64 (j:Nat))∧W.cell? ⟨w.heap.size,2,none⟩=some (.int .i64 (k:Nat)))) X):=fun X O=>
  ⟨(H.out X ((O.block b (zaD qc.out)).trans qc.out)).1,(row3 ((O.block w.heap.size (zaD Z.out)).trans Z.out)).1⟩
 clear c0 c1 c2
 go_region_held3 (fun W=>(W.cell? ⟨b,0,none⟩=some (.int .u64 (U:Nat))∧W.cell? ⟨b,1,none⟩=some (.int .u64 (V:Nat))∧W.cell? ⟨b,2,none⟩=some (.int .i64 (n:Nat)))∧(W.cell? ⟨w.heap.size,0,none⟩=some (.int .u64 (B:Nat))∧W.cell? ⟨w.heap.size,1,none⟩=some (.int .u64 (j:Nat))∧W.cell? ⟨w.heap.size,2,none⟩=some (.int .i64 (k:Nat))))
  (first|exact qa.out _ (ykU _ _).drew|exact qa.out _ (zcG qi))
  (first
   |(go_simp;go_at_call 245;((with_reducible refine (qF.out _).mono ?_);rintro e x2 ⟨rfl,qi⟩)))
 go_wp2
 have qd:Below x1.heap.size x1 x2:=zcG qi
 clear qi
 rcases hs with ⟨E,rfl,rfl⟩|⟨E,rfl,rfl⟩
 have HW:=ykS (fun (Y X:World) (T':HT) (hi:(HT.node b W n u h l r).In Y) (N:zfJ Y X l T')=>z1U hi HD.out N)
 rotate_left
 have HW:=ykS (fun (Y X:World) (T':HT) (hi:(HT.node b W n u h l r).In Y) (N:zfJ Y X r T')=>zvX hi HD.out N)
 rotate_left
 all_goals
  have ql:=ykS (ql.out _ E)
  clear E
  go_region_held3 (fun W=>(W.cell? ⟨b,0,none⟩=some (.int .u64 (U:Nat))∧W.cell? ⟨b,1,none⟩=some (.int .u64 (V:Nat))∧W.cell? ⟨b,2,none⟩=some (.int .i64 (n:Nat)))∧(W.cell? ⟨w.heap.size,0,none⟩=some (.int .u64 (B:Nat))∧W.cell? ⟨w.heap.size,1,none⟩=some (.int .u64 (j:Nat))∧W.cell? ⟨w.heap.size,2,none⟩=some (.int .i64 (k:Nat))))
   (first|exact qa.out _ (qd.drew)|exact qa.out _ (zaC qd (zcG qj)))
   (first
    |(go_simp;go_at_call 246;((with_reducible refine (ql.out _).mono ?_);rintro e Q ⟨rfl,qj⟩)))
  go_wp2
  have qe:Below x1.heap.size x1 Q:=zaC qd (zcG qj)
  have qm:Below w.heap.size w Q:=zaC qy qe
  have qH:Hid (Q.heap[b]? =_):=(qe.block b (zaD qc.out)).trans qc.out
  have qf:Hid (Q.heap[w.heap.size]? =_):=(qe.block w.heap.size (zaD Z.out)).trans Z.out
  have qq:Hid (∀X,Below Q.heap.size Q X→(fun W=>(W.cell? ⟨w.heap.size,0,none⟩=some (.int .u64 (B:Nat))∧W.cell? ⟨w.heap.size,1,none⟩=some (.int .u64 (j:Nat))∧W.cell? ⟨w.heap.size,2,none⟩=some (.int .i64 (k:Nat)))) X):=fun X O=>(row3 ((O.block w.heap.size (zaD qf.out)).trans qf.out)).1
  have qk:Hid ((HT.node b W n u h l r).In Q):=HT.in_below qn.out qm
  have HW:=ykS (fun (X:World) (T':HT) (N:zfJ Q.drew X _ T')=>HW.out Q X T' qk.out (N.before (ykU _ _).drew (by first|exact qk.out.2.2.1|exact qk.out.2.2.2)))
  have qs:Hid (∀X {A T':HT},zfJ Q.drew X A T'→(∀x,x∈A.blocks→x∈l.blocks∨x∈r.blocks)→(fun W=>(W.cell? ⟨w.heap.size,0,none⟩=some (.int .u64 (B:Nat))∧W.cell? ⟨w.heap.size,1,none⟩=some (.int .u64 (j:Nat))∧W.cell? ⟨w.heap.size,2,none⟩=some (.int .i64 (k:Nat)))) X):=fun X A T' N hA=>
   (row3 ((N.only.block w.heap.size (zaD qf.out) (fun g=>Nat.lt_irrefl _ (qD.out _ (List.mem_cons_of_mem _ (List.mem_append.2 (hA _ g)))))).trans qf.out)).1
  have qB:Hid (∀(X:World) (o:Nat) {v:Value},(fun W=>(W.cell? ⟨w.heap.size,0,none⟩=some (.int .u64 (B:Nat))∧W.cell? ⟨w.heap.size,1,none⟩=some (.int .u64 (j:Nat))∧W.cell? ⟨w.heap.size,2,none⟩=some (.int .i64 (k:Nat)))) X→(fun W=>(W.cell? ⟨w.heap.size,0,none⟩=some (.int .u64 (B:Nat))∧W.cell? ⟨w.heap.size,1,none⟩=some (.int .u64 (j:Nat))∧W.cell? ⟨w.heap.size,2,none⟩=some (.int .i64 (k:Nat)))) (X.setCell ⟨b,o,none⟩ v)):=fun X o v O=>by
   have e: ∀i,(X.setCell ⟨b,o,none⟩ v).cell? ⟨w.heap.size,i,none⟩=X.cell? ⟨w.heap.size,i,none⟩:=fun i=>World.cell?_of_block (w:=X) (zaZ (by show w.heap.size≠b;omega) _ _)
   show ((X.setCell ⟨b,o,none⟩ v).cell? ⟨w.heap.size,0,none⟩=some (.int .u64 (B:Nat))∧(X.setCell ⟨b,o,none⟩ v).cell? ⟨w.heap.size,1,none⟩=some (.int .u64 (j:Nat))∧(X.setCell ⟨b,o,none⟩ v).cell? ⟨w.heap.size,2,none⟩=some (.int .i64 (k:Nat)))
   rw [e,e,e];exact O
  obtain ⟨-,d5,d6⟩:=H.out Q qH.out
  first|rw [qp] at d5 HC|rw [qp] at d6 HC
  clear qd qe qj
  refine wp_region_held_drew (S:=fun W=>(W.cell? ⟨w.heap.size,0,none⟩=some (.int .u64 (B:Nat))∧W.cell? ⟨w.heap.size,1,none⟩=some (.int .u64 (j:Nat))∧W.cell? ⟨w.heap.size,2,none⟩=some (.int .i64 (k:Nat)))) (by kernel_rfl) ?_ (fun d=> ?_)
  ·exact qq.out _ (ykU _ _).drew
  refine tkJ 0 (some 45) (v:= ?_) rfl (.inl ⟨by rfl,?_⟩) d ?_;rotate_left;·intro w f;(try dsimp only at f);go_simp;try with_reducible rfl
  try simp only [Act.put,tkJa,tkJb,tkJc]
  refine tkJ 1 (some 46) (v:= ?_) rfl (.inl ⟨by rfl,?_⟩) d ?_;rotate_left;·intro w f;(try dsimp only at f);go_simp;try with_reducible rfl
  try simp only [Act.put,tkJa,tkJb,tkJc]
  refine tkJ 2 (some 47) (v:= ?_) rfl (.inl ⟨by rfl,?_⟩) d ?_;rotate_left;·intro w f;(try dsimp only at f);go_simp;try with_reducible rfl
  try simp only [Act.put,tkJa,tkJb,tkJc]
  refine tkJ 3 (some 48) (v:= ?_) rfl (.inl ⟨by rfl,?_⟩) d ?_;rotate_left;·intro w f;(try dsimp only at f);go_simp;try with_reducible rfl
  try simp only [Act.put,tkJa,tkJb,tkJc]
  refine tkJ 4 (some 49) (v:= ?_) rfl (.inl ⟨by rfl,?_⟩) d ?_;rotate_left;·intro w f;(try dsimp only at f);go_simp;try with_reducible rfl
  try simp only [Act.put,tkJa,tkJb,tkJc]
  refine tkJ 5 (some 50) (v:= ?_) rfl (.inl ⟨by rfl,?_⟩) d ?_;rotate_left;·intro w f;(try dsimp only at f);go_simp;try with_reducible rfl
  try simp only [Act.put,tkJa,tkJb,tkJc]
  refine tkJ 6 (some 51) (v:= ?_) rfl (.inl ⟨by rfl,?_⟩) d ?_;rotate_left;·intro w f;(try dsimp only at f);go_simp;try with_reducible rfl
  try simp only [Act.put,tkJa,tkJb,tkJc]
  refine tkJ 8 (some 53) (v:= ?_) rfl (.inl ⟨by rfl,?_⟩) d ?_;rotate_left;·intro w f;(try dsimp only at f);go_simp;try with_reducible rfl
  try simp only [Act.put,tkJa,tkJb,tkJc]
  refine tkJ 9 (some 54) (v:= ?_) rfl (.inl ⟨by rfl,?_⟩) d ?_;rotate_left;·intro w f;(try dsimp only at f);go_simp;try with_reducible rfl
  try simp only [Act.put,tkJa,tkJb,tkJc]
  refine tkJ 11 (some 56) (v:= ?_) rfl (.inl ⟨by rfl,?_⟩) d ?_;rotate_left;·intro w f;(try dsimp only at f);go_simp;try with_reducible rfl
  try simp only [Act.put,tkJa,tkJb,tkJc]
  refine tkJ 12 (some 57) (v:= ?_) rfl (.inl ⟨by rfl,?_⟩) d ?_;rotate_left;·intro w f;(try dsimp only at f);go_simp;try with_reducible rfl
  try simp only [Act.put,tkJa,tkJb,tkJc]
  refine wpAnyH_ready (rs:=[7]) (by kernel_rfl) (by simp) ?_
  refine AllReadyH.cons (o:=⟨some 52,_,_,_,_,_⟩) rfl (fun K hK=> ?_) AllReadyH.nil
  go_simp
  refine hK.out _ _ ?_ (fun qz=> ?_)
  ·exact qq.out _ (ykU _ _).drew
  clear hK K
  try simp only [Act.put,tkJa,tkJb,tkJc]
  refine wpAnyH_ready (rs:=[10]) (by kernel_rfl) (by simp) ?_
  refine AllReadyH.cons (o:=⟨some 55,_,_,_,_,_⟩) rfl (fun K hK=> ?_) AllReadyH.nil
  go_simp
  go_at_call 189
  refine (HC.out _ (zaC qm drew_o)).mono ?_
  rintro e x4 ⟨T',rfl,N,ht⟩
  have qv:=(HW.out _ _ N).1
  have G:=(HW.out _ _ N).2
  have q5:=(zfQ G).2.2.2.1
  have q6:=(zfQ G).2.2.2.2
  have g5:=zaF G 5
  have g6:=zaF G 6
  obtain ⟨ut,qE⟩:=HT.ptr_form T'
  rw [qE] at qv ⊢
  (try go_wp2_with fail)
  refine hK.out _ _ ?_ (fun qb=> ?_)
  ·exact qs.out _ N (by first|exact fun _ g=> .inl g|exact fun _ g=> .inr g)
  clear hK K
  try simp only [Act.put,tkJa,tkJb,tkJc]
  refine tkJ 13 (some 58) (v:= ?_) rfl (.inl ⟨by rfl,?_⟩) qb ?_;rotate_left;·intro w f;(try dsimp only at f);go_simp;try with_reducible rfl
  try simp only [Act.put,tkJa,tkJb,tkJc]
  refine wpAnyH_ready (rs:=[14]) (by kernel_rfl) (by simp) ?_
  refine AllReadyH.cons (o:=⟨none,_,_,_,_,_⟩) rfl (fun K hK=> ?_) AllReadyH.nil
  go_simp
  refine hK.out _ _ ?_ (fun qA=> ?_)
  ·exact qB.out _ _ (qs.out _ N (by first|exact fun _ g=> .inl g|exact fun _ g=> .inr g))
  clear hK K
  try simp only [Act.put,tkJa,tkJb,tkJc]
  refine wpAnyH_done (by kernel_rfl) ?_ _
  go_wp2
  go_ret
  refine ⟨_,?_,qv.before qm qn.out,?_⟩
  ·rfl
  ·show PT.node _ _ _ _ _ _=_
   rw [ht]
theorem zwF {w X w':World} {T A T':HT} (h:zfJ X w' A T') (d:Below w.heap.size w X) (f: ∀x∈A.blocks,x∈T.blocks∨w.heap.size≤x):zfJ w w' T T':=
 ⟨h.lies,h.once,fun x i=>by
  rcases h.sub x i with g|g
  ·exact f x g
  ·exact .inr (Nat.le_trans d.size g),(Only.of_below d).trans h.only f⟩
theorem zjE (b W n P k m:Nat) (u v:Int) (h:Bool) (l r:HT) (tA:PT) (A:Nat→HT) (w:World) (N:(HT.node b W n u h l r).In w) (hd:(HT.node b W n u h l r).blocks.Nodup) (hP:P<2^128) (hk:k≤128)
  (qs: ¬(W=P∧n=k)) (qv:zbJ W n P k=false) (hm:zbB W n P k=m) (qB:m≤128) (hA:(bitZ W m=0∧(fun ga=> .node ga (ofW P m) m 0 false (.node b W n u h l r) .nil)=A)∨(bitZ W m=1∧(fun ga=> .node ga (ofW P m) m 0 false .nil (.node b W n u h l r))=A))
  (HA:Hid (∀(ga:Nat) X,HT.In X (A ga)→(HT.blocks (A ga)).Nodup→Calls Tryz.prog 189 #[.pointer (some ⟨ga,0,none⟩),pfW P (k:Nat),.int .i64 v] X (RetT X (A ga) tA))):
  Calls Tryz.prog 189 #[(HT.node b W n u h l r).ptr,pfW P (k:Nat),.int .i64 v] w (RetT w (.node b W n u h l r) tA):=by
 have hW:=N.2.1.1
 have hn:=N.2.1.2.1
 have hS:ofW P m<2^128:=ygM hP
 obtain ⟨G,B⟩: ∃x,hiN W=x:=⟨_,rfl⟩
 obtain ⟨I,C⟩: ∃x,loN W=x:=⟨_,rfl⟩
 obtain ⟨O,E⟩: ∃x,hiN P=x:=⟨_,rfl⟩
 obtain ⟨U,D⟩: ∃x,loN P=x:=⟨_,rfl⟩
 obtain ⟨sh,qn⟩: ∃x,hiN (ofW P m)=x:=⟨_,rfl⟩
 obtain ⟨Z,qk⟩: ∃x,loN (ofW P m)=x:=⟨_,rfl⟩
 have qh:((G:Int)==O&&((I:Int)==U&&(n:Int)==k))=false:=by
  rw [Bool.eq_false_iff]
  intro g
  simp only [Bool.and_eq_true,beq_iff_eq] at g
  exact qs ⟨zlM (by rw [B,E];omega) (by rw [C,D];omega),by omega⟩
 have qO:=eqPf G I n O U k
 rw [qh] at qO
 have hg:=zfS
 have qN:Hid (∀X,Calls Tryz.prog 245 #[.agg #[.int .u64 (G:Nat),.int .u64 (I:Nat),.int .i64 (n:Nat)],.agg #[.int .u64 (O:Nat),.int .u64 (U:Nat),.int .i64 (k:Nat)]] X fun e w'=>e= .returned (.bool false)∧Below X.heap.size X w'):=fun X=>by
  have:=zhX G I O U n k X (B▸zhG hW) (C▸zhE W) (E▸zhG hP) (D▸zhE P)
  rw [←B,←C,←E,←D,zbQ,zbQ,qv] at this
  rw [←B,←C,←E,←D];exact this
 have qH:Hid (∀X,Calls Tryz.prog 247 #[.agg #[.int .u64 (G:Nat),.int .u64 (I:Nat),.int .i64 (n:Nat)],.agg #[.int .u64 (O:Nat),.int .u64 (U:Nat),.int .i64 (k:Nat)]] X fun e w'=>e= .returned (.agg #[.int .u64 (sh:Nat),.int .u64 (Z:Nat),.int .i64 (m:Nat)])∧Below X.heap.size X w'):=fun X=>by
  have:=zoO G I n O U k X (B▸zhG hW) (C▸zhE W) (E▸zhG hP) (D▸zhE P) hn hk
  rw [←B,←C,←E,←D,zbQ,zbQ,hm] at this
  rw [←B,←C,←E,←D,←qn,←qk];exact this
 have qp:Hid (∀β,bitZ W m=β→ ∀X,Calls Tryz.prog 246 #[.agg #[.int .u64 (G:Nat),.int .u64 (I:Nat),.int .i64 (n:Nat)],.int .i64 (m:Nat)] X fun e w'=>e= .returned (.int .i64 β)∧Below X.heap.size X w'):=fun β M X=>by
  have:=zvM G I n m X (B▸zhG hW) (C▸zhE W)
  rw [←B,←C,zbQ,M] at this
  rw [←B,←C];exact this
 have qi:Hid (w.heap[b]? =some (.cells #[.int .u64 (G:Nat),.int .u64 (I:Nat),.int .i64 (n:Nat),.int .i64 u,.bool h,l.ptr,r.ptr] 275)):=by
  have:=N.1;unfold zkH at this;rw [B,C] at this;exact this
 have qm:Hid (∀x y,zkH (ofW P m) m 0 false x y= #[.int .u64 (sh:Nat),.int .u64 (Z:Nat),.int .i64 (m:Nat),.int .i64 0,.bool false,x,y]):=fun x y=>by
  unfold zkH;rw [qn,qk]
 have qJ:Hid (ofW P m<2^128∧m≤128∧rt (ofW P m) m):=⟨hS,qB,zvN P m⟩
 have qK:=ykS N
 have HD:=ykS hd
 have qw:=zaD N.1
 have qx:=ykS (HT.in_lt N)
 show Calls Tryz.prog 189 #[.pointer (some ⟨b,0,none⟩),.agg #[.int .u64 (hiN P:Nat),.int .u64 (loN P:Nat),.int .i64 (k:Nat)],.int .i64 v] w _
 have qD:Hid (∀(ga:Nat) X,HT.In X (A ga)→(HT.blocks (A ga)).Nodup→Calls Tryz.prog 189 #[.pointer (some ⟨ga,0,none⟩),.agg #[.int .u64 (O:Nat),.int .u64 (U:Nat),.int .i64 (k:Nat)],.int .i64 v] X (RetT X (A ga) tA)):=by
  have:=HA.out
  rw [show pfW P (k:Nat)= .agg #[.int .u64 (O:Nat),.int .u64 (U:Nat),.int .i64 (k:Nat)] from by unfold pfW pfV;rw [E,D]] at this
  exact this
 rw [E,D]
 clear HA
 have HA:=ykS qD.out
 have J:Hid (∀X:World,X.heap[b]? =some (.cells #[.int .u64 (G:Nat),.int .u64 (I:Nat),.int .i64 (n:Nat),.int .i64 u,.bool h,l.ptr,r.ptr] 275)→(X.cell? ⟨b,0,none⟩=some (.int .u64 (G:Nat))∧X.cell? ⟨b,1,none⟩=some (.int .u64 (I:Nat))∧X.cell? ⟨b,2,none⟩=some (.int .i64 (n:Nat)))):=fun X V=>⟨zaB V 0,zaB V 1,zaB V 2⟩
 obtain ⟨c0,c1,c2⟩:=J.out w qi.out
 clear N hd hW B C E D qn qk qs qh qv hP hm hS hn hk qB qD
 go_enter Tryz.func189,Tryz.ntmps189
 go_wp2
 go_quiet (fail)
 go_wp2
 have qz:Below w.heap.size w ((w.alloc (.cells #[.int .u64 (O:Nat),.int .u64 (U:Nat),.int .i64 (k:Nat)] 183)).drewN nq):=((ykU _ _).alloc (ykT _) _).trans zcX
 have qb:Hid (((w.alloc (.cells #[.int .u64 (O:Nat),.int .u64 (U:Nat),.int .i64 (k:Nat)] 183)).drewN nq).heap[w.heap.size]? =some (.cells #[.int .u64 (O:Nat),.int .u64 (U:Nat),.int .i64 (k:Nat)] 183)):=Go.Deep.blk_alloc_new _ _
 generalize (w.alloc (.cells #[.int .u64 (O:Nat),.int .u64 (U:Nat),.int .i64 (k:Nat)] 183)).drewN nq=x1 at*
 have qf:Hid (x1.heap[b]? =_):=(qz.block b qw).trans qi.out
 have qd:Hid (∀X,Below x1.heap.size x1 X→(fun W=>(W.cell? ⟨b,0,none⟩=some (.int .u64 (G:Nat))∧W.cell? ⟨b,1,none⟩=some (.int .u64 (I:Nat))∧W.cell? ⟨b,2,none⟩=some (.int .i64 (n:Nat)))∧(W.cell? ⟨w.heap.size,0,none⟩=some (.int .u64 (O:Nat))∧W.cell? ⟨w.heap.size,1,none⟩=some (.int .u64 (U:Nat))∧W.cell? ⟨w.heap.size,2,none⟩=some (.int .i64 (k:Nat)))) X):=fun X V=>
  ⟨J.out X ((V.block b (zaD qf.out)).trans qf.out),(row3 ((V.block w.heap.size (zaD qb.out)).trans qb.out)).1⟩
 clear c0 c1 c2
 go_region_held3 (fun W=>(W.cell? ⟨b,0,none⟩=some (.int .u64 (G:Nat))∧W.cell? ⟨b,1,none⟩=some (.int .u64 (I:Nat))∧W.cell? ⟨b,2,none⟩=some (.int .i64 (n:Nat)))∧(W.cell? ⟨w.heap.size,0,none⟩=some (.int .u64 (O:Nat))∧W.cell? ⟨w.heap.size,1,none⟩=some (.int .u64 (U:Nat))∧W.cell? ⟨w.heap.size,2,none⟩=some (.int .i64 (k:Nat))))
  (first|exact qd.out _ (ykU _ _).drew|exact qd.out _ (zcG qj))
  (first
   |(go_simp;go_at_call 245;((with_reducible refine (qN.out _).mono ?_);rintro e x2 ⟨rfl,qj⟩)))
 go_wp2
 have qa:Below x1.heap.size x1 x2:=zcG qj
 clear qj
 refine wp_region_held_drew (S:=fun W=>(W.cell? ⟨b,0,none⟩=some (.int .u64 (G:Nat))∧W.cell? ⟨b,1,none⟩=some (.int .u64 (I:Nat))∧W.cell? ⟨b,2,none⟩=some (.int .i64 (n:Nat)))∧(W.cell? ⟨w.heap.size,0,none⟩=some (.int .u64 (O:Nat))∧W.cell? ⟨w.heap.size,1,none⟩=some (.int .u64 (U:Nat))∧W.cell? ⟨w.heap.size,2,none⟩=some (.int .i64 (k:Nat)))) (by kernel_rfl) ?_ (fun f=> ?_)
 ·exact qd.out _ qa.drew
 refine tkJ 0 (some 60) (v:= ?_) rfl (.inl ⟨by rfl,?_⟩) f ?_;rotate_left;·intro w d;(try dsimp only at d);go_simp;try with_reducible rfl
 try simp only [Act.put,tkJa,tkJb,tkJc]
 refine tkJ 1 (some 61) (v:= ?_) rfl (.inl ⟨by rfl,?_⟩) f ?_;rotate_left;·intro w d;(try dsimp only at d);go_simp;try with_reducible rfl
 try simp only [Act.put,tkJa,tkJb,tkJc]
 refine tkJ 2 (some 62) (v:= ?_) rfl (.inl ⟨by rfl,?_⟩) f ?_;rotate_left;·intro w d;(try dsimp only at d);go_simp;try with_reducible rfl
 try simp only [Act.put,tkJa,tkJb,tkJc]
 refine tkJ 3 (some 63) (v:= ?_) rfl (.inl ⟨by rfl,?_⟩) f ?_;rotate_left;·intro w d;(try dsimp only at d);go_simp;try with_reducible rfl
 try simp only [Act.put,tkJa,tkJb,tkJc]
 refine tkJ 4 (some 64) (v:= ?_) rfl (.inl ⟨by rfl,?_⟩) f ?_;rotate_left;·intro w d;(try dsimp only at d);go_simp;try with_reducible rfl
 try simp only [Act.put,tkJa,tkJb,tkJc]
 refine wpAnyH_ready (rs:=[5]) (by kernel_rfl) (by simp) ?_
 refine AllReadyH.cons (o:=⟨some 65,_,_,_,_,_⟩) rfl (fun K hK=> ?_) AllReadyH.nil
 go_simp
 go_at_call 247
 refine (qH.out _).mono ?_
 rintro e j ⟨rfl,qc⟩
 (try go_wp2_with fail)
 refine hK.out _ _ ?_ (fun H=> ?_)
 ·exact qd.out _ (zaC qa (zcG qc))
 clear hK K
 try simp only [Act.put,tkJa,tkJb,tkJc]
 refine tkJ 6 (some 66) (v:= ?_) rfl (.inl ⟨by rfl,?_⟩) H ?_;rotate_left;·intro w d;(try dsimp only at d);go_simp;try with_reducible rfl
 try simp only [Act.put,tkJa,tkJb,tkJc]
 refine wpAnyH_ready (rs:=[7]) (by kernel_rfl) (by simp) ?_
 refine AllReadyH.cons (o:=⟨some 67,_,_,_,_,_⟩) rfl (fun K hK=> ?_) AllReadyH.nil
 go_simp
 refine hK.out _ _ ?_ (fun Y=> ?_)
 ·exact qd.out _ ((zaC qa (zcG qc)).alloc (zaC qa (zcG qc)).size _)
 clear hK K
 try simp only [Act.put,tkJa,tkJb,tkJc]
 refine tkJ 8 (some 8) (v:= ?_) rfl (.inl ⟨by rfl,?_⟩) Y ?_;rotate_left;·intro w d;(try dsimp only at d);go_simp;try with_reducible rfl
 try simp only [Act.put,tkJa,tkJb,tkJc]
 refine wpAnyH_done (by kernel_rfl) ?_ _
 go_wp2
 have Q:Below x1.heap.size x1 j:=zaC qa (zcG qc)
 have ql:Below w.heap.size w j:=zaC qz Q
 have qQ:b<j.heap.size:=Nat.lt_of_lt_of_le qw ql.size
 have qG:w.heap.size<j.heap.size:=Nat.lt_of_lt_of_le (zaD qb.out) Q.size
 have qy:Hid ((j.alloc (.cells #[.int .u64 (sh:Nat),.int .u64 (Z:Nat),.int .i64 (m:Nat),.int .i64 0,.bool false,.pointer none,.pointer none] 275)).heap[b]? =_):=((Q.alloc Q.size _).block b (zaD qf.out)).trans qf.out
 have qg:Hid ((j.alloc (.cells #[.int .u64 (sh:Nat),.int .u64 (Z:Nat),.int .i64 (m:Nat),.int .i64 0,.bool false,.pointer none,.pointer none] 275)).heap[j.heap.size]? =some (.cells #[.int .u64 (sh:Nat),.int .u64 (Z:Nat),.int .i64 (m:Nat),.int .i64 0,.bool false,.pointer none,.pointer none] 275)):=Go.Deep.blk_alloc_new _ _
 have qE:Hid ((j.alloc (.cells #[.int .u64 (sh:Nat),.int .u64 (Z:Nat),.int .i64 (m:Nat),.int .i64 0,.bool false,.pointer none,.pointer none] 275)).heap[w.heap.size]? =_):=((Q.alloc Q.size _).block w.heap.size (zaD qb.out)).trans qb.out
 have qP:Below w.heap.size w (j.alloc (.cells #[.int .u64 (sh:Nat),.int .u64 (Z:Nat),.int .i64 (m:Nat),.int .i64 0,.bool false,.pointer none,.pointer none] 275)):=ql.alloc ql.size _
 have qo:Hid (∀X,Below (j.alloc (.cells #[.int .u64 (sh:Nat),.int .u64 (Z:Nat),.int .i64 (m:Nat),.int .i64 0,.bool false,.pointer none,.pointer none] 275)).heap.size (j.alloc (.cells #[.int .u64 (sh:Nat),.int .u64 (Z:Nat),.int .i64 (m:Nat),.int .i64 0,.bool false,.pointer none,.pointer none] 275)) X→(fun W=>(W.cell? ⟨b,0,none⟩=some (.int .u64 (G:Nat))∧W.cell? ⟨b,1,none⟩=some (.int .u64 (I:Nat))∧W.cell? ⟨b,2,none⟩=some (.int .i64 (n:Nat)))∧W.cell? ⟨j.heap.size,2,none⟩=some (.int .i64 (m:Nat))) X):=fun X V=>
  ⟨J.out X ((V.block b (zaD qy.out)).trans qy.out),zaB ((V.block _ (zaD qg.out)).trans qg.out) 2⟩
 have qF:Hid (∀X,Below (j.alloc (.cells #[.int .u64 (sh:Nat),.int .u64 (Z:Nat),.int .i64 (m:Nat),.int .i64 0,.bool false,.pointer none,.pointer none] 275)).heap.size (j.alloc (.cells #[.int .u64 (sh:Nat),.int .u64 (Z:Nat),.int .i64 (m:Nat),.int .i64 0,.bool false,.pointer none,.pointer none] 275)) X→X.heap[j.heap.size]? =some (.cells #[.int .u64 (sh:Nat),.int .u64 (Z:Nat),.int .i64 (m:Nat),.int .i64 0,.bool false,.pointer none,.pointer none] 275)):=fun X V=>(V.block _ (zaD qg.out)).trans qg.out
 have qL:Hid (∀(X:World) (o:Nat),o≠2→ ∀{v:Value},(fun W=>(W.cell? ⟨b,0,none⟩=some (.int .u64 (G:Nat))∧W.cell? ⟨b,1,none⟩=some (.int .u64 (I:Nat))∧W.cell? ⟨b,2,none⟩=some (.int .i64 (n:Nat)))∧W.cell? ⟨j.heap.size,2,none⟩=some (.int .i64 (m:Nat))) X→(fun W=>(W.cell? ⟨b,0,none⟩=some (.int .u64 (G:Nat))∧W.cell? ⟨b,1,none⟩=some (.int .u64 (I:Nat))∧W.cell? ⟨b,2,none⟩=some (.int .i64 (n:Nat)))∧W.cell? ⟨j.heap.size,2,none⟩=some (.int .i64 (m:Nat))) (X.setCell ⟨j.heap.size,o,none⟩ v)):=fun X o ho v V=>by
  have e: ∀i,(X.setCell ⟨j.heap.size,o,none⟩ v).cell? ⟨b,i,none⟩=X.cell? ⟨b,i,none⟩:=fun i=>World.cell?_of_block (w:=X) (zaZ (by show b≠j.heap.size;omega) _ _)
  have e2:(X.setCell ⟨j.heap.size,o,none⟩ v).cell? ⟨j.heap.size,2,none⟩=X.cell? ⟨j.heap.size,2,none⟩:=World.cell?_setCell_other _ _ _ _ (by intro q;have:=congrArg Addr.off q;simp at this;omega)
  show ((X.setCell ⟨j.heap.size,o,none⟩ v).cell? ⟨b,0,none⟩=some (.int .u64 (G:Nat))∧(X.setCell ⟨j.heap.size,o,none⟩ v).cell? ⟨b,1,none⟩=some (.int .u64 (I:Nat))∧(X.setCell ⟨j.heap.size,o,none⟩ v).cell? ⟨b,2,none⟩=some (.int .i64 (n:Nat)))∧_
  refine ⟨?_,?_⟩
  ·rw [e,e,e];exact V.1
  ·exact e2.trans V.2
 generalize qI:j.alloc (.cells #[.int .u64 (sh:Nat),.int .u64 (Z:Nat),.int .i64 (m:Nat),.int .i64 0,.bool false,.pointer none,.pointer none] 275)=y3 at*
 clear qc qa Q qI
 rcases hA with ⟨M,rfl⟩|⟨M,rfl⟩
 all_goals
  have qp:=ykS (qp.out _ M)
  clear M
  try dsimp only at HA
  refine wp_region_held_drew (S:=fun W=>(W.cell? ⟨b,0,none⟩=some (.int .u64 (G:Nat))∧W.cell? ⟨b,1,none⟩=some (.int .u64 (I:Nat))∧W.cell? ⟨b,2,none⟩=some (.int .i64 (n:Nat)))∧W.cell? ⟨j.heap.size,2,none⟩=some (.int .i64 (m:Nat))) (by kernel_rfl) ?_ (fun f=> ?_)
  ·exact qo.out _ (ykU _ _).drew
  refine tkJ 0 (some 68) (v:= ?_) rfl (.inl ⟨by rfl,?_⟩) f ?_;rotate_left;·intro w d;(try dsimp only at d);go_simp;try with_reducible rfl
  try simp only [Act.put,tkJa,tkJb,tkJc]
  refine tkJ 1 (some 69) (v:= ?_) rfl (.inl ⟨by rfl,?_⟩) f ?_;rotate_left;·intro w d;(try dsimp only at d);go_simp;try with_reducible rfl
  try simp only [Act.put,tkJa,tkJb,tkJc]
  refine tkJ 2 (some 70) (v:= ?_) rfl (.inl ⟨by rfl,?_⟩) f ?_;rotate_left;·intro w d;(try dsimp only at d);go_simp;try with_reducible rfl
  try simp only [Act.put,tkJa,tkJb,tkJc]
  refine tkJ 3 (some 71) (v:= ?_) rfl (.inl ⟨by rfl,?_⟩) f ?_;rotate_left;·intro w d;(try dsimp only at d);go_simp;try with_reducible rfl
  try simp only [Act.put,tkJa,tkJb,tkJc]
  refine tkJ 4 (some 72) (v:= ?_) rfl (.inl ⟨by rfl,?_⟩) f ?_;rotate_left;·intro w d;(try dsimp only at d);go_simp;try with_reducible rfl
  try simp only [Act.put,tkJa,tkJb,tkJc]
  refine tkJ 5 (some 73) (v:= ?_) rfl (.inl ⟨by rfl,?_⟩) f ?_;rotate_left;·intro w d;(try dsimp only at d);go_simp;try with_reducible rfl
  try simp only [Act.put,tkJa,tkJb,tkJc]
  refine tkJ 6 (some 74) (v:= ?_) rfl (.inl ⟨by rfl,?_⟩) f ?_;rotate_left;·intro w d;(try dsimp only at d);go_simp;try with_reducible rfl
  try simp only [Act.put,tkJa,tkJb,tkJc]
  refine tkJ 7 (some 75) (v:= ?_) rfl (.inl ⟨by rfl,?_⟩) f ?_;rotate_left;·intro w d;(try dsimp only at d);go_simp;try with_reducible rfl
  try simp only [Act.put,tkJa,tkJb,tkJc]
  refine tkJ 8 (some 76) (v:= ?_) rfl (.inl ⟨by rfl,?_⟩) f ?_;rotate_left;·intro w d;(try dsimp only at d);go_simp;try with_reducible rfl
  try simp only [Act.put,tkJa,tkJb,tkJc]
  refine tkJ 9 (some 77) (v:= ?_) rfl (.inl ⟨by rfl,?_⟩) f ?_;rotate_left;·intro w d;(try dsimp only at d);go_simp;try with_reducible rfl
  try simp only [Act.put,tkJa,tkJb,tkJc]
  refine tkJ 11 (some 79) (v:= ?_) rfl (.inl ⟨by rfl,?_⟩) f ?_;rotate_left;·intro w d;(try dsimp only at d);go_simp;try with_reducible rfl
  try simp only [Act.put,tkJa,tkJb,tkJc]
  refine tkJ 12 (some 80) (v:= ?_) rfl (.inl ⟨by rfl,?_⟩) f ?_;rotate_left;·intro w d;(try dsimp only at d);go_simp;try with_reducible rfl
  try simp only [Act.put,tkJa,tkJb,tkJc]
  refine tkJ 13 (some 81) (v:= ?_) rfl (.inl ⟨by rfl,?_⟩) f ?_;rotate_left;·intro w d;(try dsimp only at d);go_simp;try with_reducible rfl
  try simp only [Act.put,tkJa,tkJb,tkJc]
  refine wpAnyH_ready (rs:=[10]) (by kernel_rfl) (by simp) ?_
  refine AllReadyH.cons (o:=⟨some 78,_,_,_,_,_⟩) rfl (fun K hK=> ?_) AllReadyH.nil
  go_simp
  go_at_call 246
  refine (qp.out _).mono ?_
  rintro e x4 ⟨rfl,qe⟩
  have r4:=qF.out _ (zcG qe)
  have c4:=zaB r4 5
  have f4:=zaF r4 5
  have c5:=zaB r4 6
  have f5:=zaF r4 6
  (try go_wp2_with fail)
  refine hK.out _ _ ?_ (fun H=> ?_)
  ·exact qo.out _ (zcG qe)
  clear hK K
  try simp only [Act.put,tkJa,tkJb,tkJc]
  refine tkJ 14 (some 82) (v:= ?_) rfl (.inl ⟨by rfl,?_⟩) H ?_;rotate_left;·intro w d;(try dsimp only at d);go_simp;try with_reducible rfl
  try simp only [Act.put,tkJa,tkJb,tkJc]
  refine wpAnyH_ready (rs:=[15]) (by kernel_rfl) (by simp) ?_
  refine AllReadyH.cons (o:=⟨none,_,_,_,_,_⟩) rfl (fun K hK=> ?_) AllReadyH.nil
  go_simp
  refine hK.out _ _ ?_ (fun Y=> ?_)
  ·exact qL.out _ _ (by decide) (qo.out _ (zcG qe))
  clear hK K
  try simp only [Act.put,tkJa,tkJb,tkJc]
  refine wpAnyH_done (by kernel_rfl) ?_ _
  have qA:Below y3.heap.size y3 x4:=zcG qe
  have qM:Hid (x4.heap[w.heap.size]? =_):=(qA.block _ (zaD qE.out)).trans qE.out
  have qr:Hid (∀o,(x4.setCell ⟨j.heap.size,o,none⟩ (.pointer (some ⟨b,0,none⟩))).heap[w.heap.size]? =_):=fun o=>(zaZ (by omega) _ _).trans qM.out
  have qq:Hid (∀o,Below w.heap.size w (x4.setCell ⟨j.heap.size,o,none⟩ (.pointer (some ⟨b,0,none⟩)))):=fun o=>(zaC qP qA).setCell (Nat.le_of_lt qG) _
  have qC:Hid (∀o,HT.In (x4.setCell ⟨j.heap.size,o,none⟩ (.pointer (some ⟨b,0,none⟩))) (.node b W n u h l r)):=fun o=>HT.in_below qK.out (qq.out o)
  obtain ⟨e0,e1,e2⟩:=(row3 (qr.out 5)).1
  obtain ⟨e3,e4,e5⟩:=(row3 (qr.out 6)).1
  clear qe c4 f4 c5 f5
  go_wp2_with fail
  refine (HA.out _ _ ?_ ?_).mono ?_
  ·refine ⟨?_,qJ.out,?_⟩
   ·rw [qm.out,zaK r4];rfl
   ·first|exact ⟨qC.out _,trivial⟩|exact ⟨trivial,qC.out _⟩
  ·first
    |exact zlY (fun g=>absurd (qx.out _ g) (by omega)) (by intro g;cases g) HD.out List.nodup_nil (fun x _ g=>by cases g)
    |exact zlY (by intro g;cases g) (fun g=>absurd (qx.out _ g) (by omega)) List.nodup_nil HD.out (fun x g _=>by cases g)
  rintro e x7 ⟨T',rfl,hw,ht⟩
  go_wp2
  go_ret
  refine ⟨T',rfl,zwF hw (qq.out _) (fun x hx=> ?_),ht⟩
  rcases List.mem_cons.1 hx with g|g
  ·exact .inr (by rw [g];omega)
  ·rcases List.mem_append.1 g with g|g<;>first|exact .inl g|cases g
theorem zlZ (P k:Nat) (v:Int) (hP:P<2^128) (i:k≤128) (B:rt P k): ∀(T:HT) (w:World),T.In w→T.blocks.Nodup→
  Calls Tryz.prog 189 #[T.ptr,pfW P (k:Nat),.int .i64 v] w (RetT w T (T.pt.put P k v))
 | .nil,w,_,_=>zqQ P k v w hP i B
 | .node b W n u h l r,w,d,C=>by
  obtain ⟨d1,d2,d3,O,d5⟩:=zhZ C
  show Calls Tryz.prog 189 #[(HT.node b W n u h l r).ptr,pfW P (k:Nat),.int .i64 v] w (RetT w _ ((PT.node W n u h l.pt r.pt).put P k v))
  unfold PT.put
  by_cases e:W=P∧n=k
  ·rw [if_pos e]
   obtain ⟨rfl,rfl⟩:=e
   exact zqN b W n u v h l r w d C
  rw [if_neg e]
  by_cases c:zbJ W n P k=true
  ·rw [if_pos c]
   rcases zmA P n with f|f
   ·rw [if_pos f]
    exact zjJ b W n P k u v h l r l _ _ w d C hP e c (.inl ⟨f,rfl,rfl⟩) (fun X J=>zlZ P k v hP i B l X (HT.in_below d.2.2.1 J) d3)
   ·rw [if_neg (by omega)]
    exact zjJ b W n P k u v h l r r _ _ w d C hP e c (.inr ⟨f,rfl,rfl⟩) (fun X J=>zlZ P k v hP i B r X (HT.in_below d.2.2.2 J) O)
  ·rw [if_neg c]
   have I:zbJ W n P k=false:=by simpa using c
   have K:=d.2.1
   have hq:qt W 0=qt P 0:=by rw [zuB K.1,zuB hP]
   obtain ⟨p1,Z,V,N⟩:=ybS hq K.2.1 K.2.2 i B c
   obtain ⟨m,G⟩: ∃m,zbB W n P k=m:=⟨_,rfl⟩
   rw [G] at p1 Z V N ⊢
   have E:m<128:=by omega
   have Q:=zgV W m E
   have U:=zgV P m E
   have b2:=zdA W m
   have b3:=zdA P m
   by_cases j:m=k
   ·rw [if_pos j]
    have M:ofW P m=P:=by rw [j];exact zyI ⟨i,B⟩
    rcases zmA W k with f|f
    ·rw [if_pos f]
     refine zjE b W n P k m u v h l r _ _ w d C hP i e I G (by omega) (.inl ⟨by rw [j];exact f,rfl⟩) (fun D X o A=> ?_)
     rw [M,j] at o A ⊢
     exact zqN D P k 0 v false _ _ X o A
    ·rw [if_neg (by omega)]
     refine zjE b W n P k m u v h l r _ _ w d C hP i e I G (by omega) (.inr ⟨by rw [j];exact f,rfl⟩) (fun D X o A=> ?_)
     rw [M,j] at o A ⊢
     exact zqN D P k 0 v false _ _ X o A
   ·rw [if_neg j]
    have S:=N (by omega)
    have H:zbJ (ofW P m) m P k=true:=zdC.2 ⟨⟨by omega,zvN _ _⟩,⟨i,B⟩,by omega,zwJ _ _⟩
    rcases zmA W m with f|f
    ·rw [if_pos f]
     refine zjE b W n P k m u v h l r _ _ w d C hP i e I G (by omega) (.inl ⟨f,rfl⟩) (fun D X o A=> ?_)
     exact zjJ D (ofW P m) m P k 0 v false _ .nil .nil (PT.leaf P k v) _ X o A hP (fun q=>j q.2) H (.inr ⟨by omega,rfl,rfl⟩) (fun Y _=>zqQ P k v Y hP i B)
    ·rw [if_neg (by omega)]
     refine zjE b W n P k m u v h l r _ _ w d C hP i e I G (by omega) (.inr ⟨f,rfl⟩) (fun D X o A=> ?_)
     exact zjJ D (ofW P m) m P k 0 v false .nil _ .nil (PT.leaf P k v) _ X o A hP (fun q=>j q.2) H (.inl ⟨by omega,rfl,rfl⟩) (fun Y _=>zqQ P k v Y hP i B)
theorem zmO (u v:Array Value): ∀(p q:Operand) (W:World),(eqGuard .neq 183 p q (.agg u) (.agg v)).run Tryz.prog W= .ok () W:=by
 intro p q W;kernel_rfl
theorem neqPf (a b c d b' f:Int): ∀W:World,(binOp .neq 183 (.agg #[.int .u64 a,.int .u64 b,.int .i64 c]) (.agg #[.int .u64 d,.int .u64 b',.int .i64 f])).run Tryz.prog W= .ok (.bool (!(a==d&&(b==b'&&c==f)))) W:=by
 intro W
 have i:(Op.equal 183 (.agg #[.int .u64 a,.int .u64 b,.int .i64 c]) (.agg #[.int .u64 d,.int .u64 b',.int .i64 f])).run Tryz.prog W= .ok (a==d&&(b==b'&&c==f)) W:=by
  show (Op.equalIn 10000 183 _ _).run Tryz.prog W=_
  rw [run_equalIn_struct W 9999 183 _ _ (by kernel_rfl) (by kernel_rfl)]
  simp [Program.fieldsOf,Tryz.underlying183,Op.eqFields,go_sem,part,Tryz.sizeOf59,Tryz.isAgg59,Tryz.underlying59,Tryz.sizeOf3,Tryz.isAgg3,Tryz.underlying3]
  by_cases m:a=d<;>by_cases o:b=b'<;>by_cases j:c=f<;>simp [m,o,j]
 show ((Op.equal _ _ _>>=fun b=>pure (Value.bool (!b))):Sem Value).run _ _=_
 rw [Sem.run_bind,i];rfl
structure zdS (w:World) (g:Nat) (T:HT):Prop where
 own:w.heap[g]? =some (.cells #[T.ptr,.int .i64 (T.pt.list.length:Nat)] 230)
 lies:T.In w
 once:(g::T.blocks).Nodup
 inv:T.pt.Inv 0 0
def HT.size:HT→Nat
 | .nil=>0
 | .node _ _ _ _ _ l r=>l.size+r.size+1
def RetG (w:World) (x:Option Int) (e:Ending) (w':World):Prop:=e= .returned (.tuple #[.int .i64 (x.getD 0),.bool x.isSome])∧Below w.heap.size w w'
theorem z4Y (g:Nat) (T:HT) (hi lo:Nat) (k:Int) (w:World) (ht:zdS w g T) (h1:hi<18446744073709551616) (h2:lo<18446744073709551616):
  Calls Tryz.prog 188 #[.pointer (some ⟨g,0,none⟩),.agg #[.int .u64 (hi:Nat),.int .u64 (lo:Nat),.int .i64 k]] w (RetG w (T.pt.get (zaL hi lo) k)):=by
 obtain ⟨x,hx⟩: ∃x,T.pt.get (zaL hi lo) k=x:=⟨_,rfl⟩
 rw [hx]
 have HX:=ykS hx
 have S:=ykS ht.lies
 have g0:w.cell? ⟨g,0,none⟩=some T.ptr:=zaB ht.own 0
 have qb:=zaD ht.own
 obtain ⟨uT,U⟩:=HT.ptr_form T
 have qa:=ykS U
 rw [U] at g0
 clear ht hx U
 go_enter Tryz.func188,Tryz.ntmps188
 go_wp2
 go_loopg [6] (T.size) (fun gk p wr=> ∃T':HT,p=T'.ptr∧T'.size=gk∧Below w.heap.size w wr∧Hid (wr.heap[w.heap.size]? =some (.cells #[.int .u64 (hi:Nat),.int .u64 (lo:Nat),.int .i64 k] 183))∧Hid (T'.In wr)∧Hid (T'.pt.get (zaL hi lo) k=x))
 case atStart=>exact ⟨T,qa.out.symm,rfl,(ykU _ _).alloc (ykT _) _,Go.Deep.blk_alloc_new _ _,HT.in_below S.out ((ykU _ _).alloc (ykT _) _),HX.out⟩
 case round=>
  clear g0 qb S qa HX
  obtain ⟨T',rfl,rfl,D,Y,HI,HG⟩:=hrel
  obtain ⟨p0,p1,p2⟩:=(row3 Y.out).1
  cases T' with
  |nil=>
   have J:Hid (x=none):=HG.out.symm
   simp only [HT.ptr]
   go_wp2
   go_quiet (fail)
   go_wp2
   go_quiet (fail)
   go_wp2
   go_ret2
   exact ⟨by rw [J.out];rfl,(by first|exact D.trans zcX|exact (D.trans zcX).trans zcX)⟩
  |node b W n u h l r=>
   have V:=HI.out.2.1
   obtain ⟨A,j⟩: ∃y,hiN W=y:=⟨_,rfl⟩
   obtain ⟨C,o⟩: ∃y,loN W=y:=⟨_,rfl⟩
   obtain ⟨⟨c0,c1,c2⟩,c3,c4,c5,c6⟩:=zfQ HI.out.1
   rw [j] at c0
   rw [o] at c1
   have qd:A<18446744073709551616:=j▸zhG V.1
   have qe:C<18446744073709551616:=o▸zhE W
   have Q:zaL A C=W:=by rw [←j,←o,zbQ]
   have d:(if W=zaL hi lo∧(n:Int)=k then (if h=true then some u else none) else if zbJ W n (zaL hi lo) k=true then (if bitZ (zaL hi lo) n=0 then l.pt.get (zaL hi lo) k else r.pt.get (zaL hi lo) k) else none)=x:=HG.out
   by_cases e:W=zaL hi lo∧(n:Int)=k
   ·have ev:((A:Int)==hi&&((C:Int)==lo&&(n:Int)==k))=true:=by
     obtain ⟨q1,q2⟩:=e
     rw [q1,zgR h2] at j
     rw [q1,zhQ h2] at o
     simp only [Bool.and_eq_true,beq_iff_eq]
     exact ⟨by omega,by omega,q2⟩
    have H:=neqPf A C n hi lo k
    rw [ev] at H
    simp only [Bool.not_true] at H
    have hg:=zmO
    rw [if_pos e] at d
    have J:=ykS d
    clear d e j o ev V Q
    simp only [HT.ptr]
    cases h with
    |true=>
     go_wp2
     go_quiet (fail)
     go_wp2
     go_quiet (fail)
     go_wp2
     go_ret2
     exact ⟨by rw [←J.out];rfl,(by first|exact D.trans zcX|exact (D.trans zcX).trans zcX)⟩
    |false=>
     go_wp2
     go_quiet (fail)
     go_wp2
     go_quiet (fail)
     go_wp2
     go_ret2
     exact ⟨by rw [←J.out];rfl,(by first|exact D.trans zcX|exact (D.trans zcX).trans zcX)⟩
   ·have ev:((A:Int)==hi&&((C:Int)==lo&&(n:Int)==k))=false:=by
     rw [Bool.eq_false_iff]
     intro q
     simp only [Bool.and_eq_true,beq_iff_eq] at q
     exact e ⟨by rw [←Q,show A=hi from by omega,show C=lo from by omega],q.2.2⟩
    have H:=neqPf A C n hi lo k
    rw [ev] at H
    simp only [Bool.not_false] at H
    have hg:=zmO
    rw [if_neg e] at d
    obtain ⟨ul,M⟩:=HT.ptr_form l
    obtain ⟨ur,K⟩:=HT.ptr_form r
    have qg:=ykS M
    have qf:=ykS K
    rw [M] at c5
    rw [K] at c6
    have E:Hid (∀X,Below wr.heap.size wr X→(fun W=>((W.cell? ⟨b,0,none⟩=some (.int .u64 (A:Nat))∧W.cell? ⟨b,1,none⟩=some (.int .u64 (C:Nat))∧W.cell? ⟨b,2,none⟩=some (.int .i64 (n:Nat)))∧W.cell? ⟨b,5,none⟩=some (.pointer ul)∧W.cell? ⟨b,6,none⟩=some (.pointer ur))∧(W.cell? ⟨w.heap.size,0,none⟩=some (.int .u64 (hi:Nat))∧W.cell? ⟨w.heap.size,1,none⟩=some (.int .u64 (lo:Nat))∧W.cell? ⟨w.heap.size,2,none⟩=some (.int .i64 k))) X):=fun X hX=>by
     have qh:=(hX.block b (zaD HI.out.1)).trans HI.out.1
     obtain ⟨⟨q0,q1,q2⟩,q3,q4,q5,q6⟩:=zfQ qh
     rw [j] at q0
     rw [o] at q1
     rw [M] at q5
     rw [K] at q6
     exact ⟨⟨⟨q0,q1,q2⟩,q5,q6⟩,(row3 ((hX.block w.heap.size (zaD Y.out)).trans Y.out)).1⟩
    have I:Hid (∀X,Calls Tryz.prog 245 #[.agg #[.int .u64 (A:Nat),.int .u64 (C:Nat),.int .i64 (n:Nat)],.agg #[.int .u64 (hi:Nat),.int .u64 (lo:Nat),.int .i64 k]] X fun e w'=>e= .returned (.bool (zbJ W n (zaL hi lo) k))∧Below X.heap.size X w'):=fun X=>by
     have:=zhX A C hi lo n k X qd qe h1 h2;rwa [Q] at this
    have O:Hid (∀X,Calls Tryz.prog 246 #[.agg #[.int .u64 (hi:Nat),.int .u64 (lo:Nat),.int .i64 k],.int .i64 (n:Nat)] X fun e w'=>e= .returned (.int .i64 (bitZ (zaL hi lo) n))∧Below X.heap.size X w'):=fun X=>zvM hi lo k n X h1 h2
    have i:=zmA (zaL hi lo) n
    clear e j o ev V Q M K
    simp only [HT.ptr]
    cases N:zbJ W n (zaL hi lo) k with
    |false=>
     rw [N] at I d
     have J:Hid (x=none):=by rw [if_neg (by simp)] at d;exact d.symm
     clear d N i
     go_wp2
     go_region_held3 (fun W=>((W.cell? ⟨b,0,none⟩=some (.int .u64 (A:Nat))∧W.cell? ⟨b,1,none⟩=some (.int .u64 (C:Nat))∧W.cell? ⟨b,2,none⟩=some (.int .i64 (n:Nat)))∧W.cell? ⟨b,5,none⟩=some (.pointer ul)∧W.cell? ⟨b,6,none⟩=some (.pointer ur))∧(W.cell? ⟨w.heap.size,0,none⟩=some (.int .u64 (hi:Nat))∧W.cell? ⟨w.heap.size,1,none⟩=some (.int .u64 (lo:Nat))∧W.cell? ⟨w.heap.size,2,none⟩=some (.int .i64 k)))
      (first|exact E.out _ (ykU _ _).drew|exact E.out _ (zcG f))
      (first|(go_simp;go_at_call 245;((with_reducible refine (I.out _).mono ?_);rintro e x1 ⟨rfl,f⟩)))
     clear p0 p1 p2 c0 c1 c2 c3 c4 c5 c6
     have qc:=D.trans ((zcG f).mono D.size)
     obtain ⟨⟨⟨c0,c1,c2⟩,c5,c6⟩,p0,p1,p2⟩:=E.out _ (zcG f)
     go_wp2
     go_quiet (fail)
     go_wp2
     go_ret2
     exact ⟨by rw [J.out];rfl,qc.trans zcX⟩
    |true=>
     rw [N] at I d
     rw [if_pos rfl] at d
     clear N
     rcases i with i|i
     ·rw [i] at O
      rw [if_pos i] at d
      have J:=ykS d
      clear d i
      go_wp2
      go_region_held3 (fun W=>((W.cell? ⟨b,0,none⟩=some (.int .u64 (A:Nat))∧W.cell? ⟨b,1,none⟩=some (.int .u64 (C:Nat))∧W.cell? ⟨b,2,none⟩=some (.int .i64 (n:Nat)))∧W.cell? ⟨b,5,none⟩=some (.pointer ul)∧W.cell? ⟨b,6,none⟩=some (.pointer ur))∧(W.cell? ⟨w.heap.size,0,none⟩=some (.int .u64 (hi:Nat))∧W.cell? ⟨w.heap.size,1,none⟩=some (.int .u64 (lo:Nat))∧W.cell? ⟨w.heap.size,2,none⟩=some (.int .i64 k)))
       (first|exact E.out _ (ykU _ _).drew|exact E.out _ (zcG f))
       (first|(go_simp;go_at_call 245;((with_reducible refine (I.out _).mono ?_);rintro e x1 ⟨rfl,f⟩)))
      clear p0 p1 p2 c0 c1 c2 c3 c4 c5 c6
      have m:=zcG f
      clear f
      go_wp2
      go_region_held3 (fun W=>((W.cell? ⟨b,0,none⟩=some (.int .u64 (A:Nat))∧W.cell? ⟨b,1,none⟩=some (.int .u64 (C:Nat))∧W.cell? ⟨b,2,none⟩=some (.int .i64 (n:Nat)))∧W.cell? ⟨b,5,none⟩=some (.pointer ul)∧W.cell? ⟨b,6,none⟩=some (.pointer ur))∧(W.cell? ⟨w.heap.size,0,none⟩=some (.int .u64 (hi:Nat))∧W.cell? ⟨w.heap.size,1,none⟩=some (.int .u64 (lo:Nat))∧W.cell? ⟨w.heap.size,2,none⟩=some (.int .i64 k)))
       (first|exact E.out _ m.drew|exact E.out _ (zaC m (zcG G)))
       (first|(go_simp;go_at_call 246;((with_reducible refine (O.out _).mono ?_);rintro e x2 ⟨rfl,G⟩)))
      have B:=zaC m (zcG G)
      have Z:=D.trans (B.mono D.size)
      go_wp2
      go_roundg l.size
      case measure=>show l.size<l.size+r.size+1;omega
      case rel=>exact ⟨l,qg.out.symm,rfl,Z,(B.block _ (zaD Y.out)).trans Y.out,HT.in_below HI.out.2.2.1 B,J.out⟩
     ·rw [i] at O
      rw [if_neg (by omega)] at d
      have J:=ykS d
      clear d i
      go_wp2
      go_region_held3 (fun W=>((W.cell? ⟨b,0,none⟩=some (.int .u64 (A:Nat))∧W.cell? ⟨b,1,none⟩=some (.int .u64 (C:Nat))∧W.cell? ⟨b,2,none⟩=some (.int .i64 (n:Nat)))∧W.cell? ⟨b,5,none⟩=some (.pointer ul)∧W.cell? ⟨b,6,none⟩=some (.pointer ur))∧(W.cell? ⟨w.heap.size,0,none⟩=some (.int .u64 (hi:Nat))∧W.cell? ⟨w.heap.size,1,none⟩=some (.int .u64 (lo:Nat))∧W.cell? ⟨w.heap.size,2,none⟩=some (.int .i64 k)))
       (first|exact E.out _ (ykU _ _).drew|exact E.out _ (zcG f))
       (first|(go_simp;go_at_call 245;((with_reducible refine (I.out _).mono ?_);rintro e x1 ⟨rfl,f⟩)))
      clear p0 p1 p2 c0 c1 c2 c3 c4 c5 c6
      have m:=zcG f
      clear f
      go_wp2
      go_region_held3 (fun W=>((W.cell? ⟨b,0,none⟩=some (.int .u64 (A:Nat))∧W.cell? ⟨b,1,none⟩=some (.int .u64 (C:Nat))∧W.cell? ⟨b,2,none⟩=some (.int .i64 (n:Nat)))∧W.cell? ⟨b,5,none⟩=some (.pointer ul)∧W.cell? ⟨b,6,none⟩=some (.pointer ur))∧(W.cell? ⟨w.heap.size,0,none⟩=some (.int .u64 (hi:Nat))∧W.cell? ⟨w.heap.size,1,none⟩=some (.int .u64 (lo:Nat))∧W.cell? ⟨w.heap.size,2,none⟩=some (.int .i64 k)))
       (first|exact E.out _ m.drew|exact E.out _ (zaC m (zcG G)))
       (first|(go_simp;go_at_call 246;((with_reducible refine (O.out _).mono ?_);rintro e x2 ⟨rfl,G⟩)))
      have B:=zaC m (zcG G)
      have Z:=D.trans (B.mono D.size)
      go_wp2
      go_roundg r.size
      case measure=>show r.size<l.size+r.size+1;omega
      case rel=>exact ⟨r,qf.out.symm,rfl,Z,(B.block _ (zaD Y.out)).trans Y.out,HT.in_below HI.out.2.2.2 B,J.out⟩
structure zgC (w w':World) (g:Nat) (T T':HT):Prop where
 trie:zdS w' g T'
 only:Only (g::T.blocks) w w'
 sub: ∀b∈T'.blocks,b∈T.blocks∨w.heap.size≤b
theorem zdS.keep {w w':World} {g:Nat} {T:HT} (h:zdS w g T) (d:Below w.heap.size w w'):zdS w' g T:=
 ⟨(d.block g (zaD h.own)).trans h.own,HT.in_below h.lies d,h.once,h.inv⟩
theorem zdS.lt {w:World} {g:Nat} {T:HT} (h:zdS w g T): ∀b∈g::T.blocks,b<w.heap.size:=fun b d=>by
 rcases List.mem_cons.1 d with q|q
 ·rw [q];exact zaD h.own
 ·exact HT.in_lt h.lies b q
theorem zgC.refl {w w':World} {g:Nat} {T:HT} (h:zdS w g T) (d:Below w.heap.size w w'):zgC w w' g T T:=⟨h.keep d,Only.of_below d,fun _ f=> .inl f⟩
theorem z5N {w:World} {b:Nat} {x y d:Value} {t:TypeId} (h:w.heap[b]? =some (.cells #[x,y] t)):(w.setCell ⟨b,0,none⟩ d).heap[b]? =some (.cells #[d,y] t):=zaK h 0 d
theorem z8T {w:World} {b:Nat} {x y d:Value} {t:TypeId} (h:w.heap[b]? =some (.cells #[x,y] t)):(w.setCell ⟨b,1,none⟩ d).heap[b]? =some (.cells #[x,d] t):=zaK h 1 d
theorem yjH (w:World):Calls Tryz.prog 115 #[] w fun e w'=>e= .returned (.pointer (some ⟨w.heap.size,0,none⟩))∧Below w.heap.size w w'∧zdS w' w.heap.size .nil:=by
 go_enter Tryz.func115,Tryz.ntmps115
 go_wp2
 go_ret
 exact ⟨rfl,(ykU _ _).alloc (ykT _) _,⟨Go.Deep.blk_alloc_new _ _,trivial,by simp [HT.blocks],trivial⟩⟩
theorem zqZ {w X j:World} {g c:Nat} {T T':HT} (C:zdS w g T) (o:Only [g] w X) (d:X.heap[g]? =some (.cells #[T.ptr,.int .i64 (c:Nat)] 230)) (f:zfJ X j T T') (D:c=T'.pt.list.length) (hi:T'.pt.Inv 0 0):
  zgC w (j.setCell ⟨g,0,none⟩ T'.ptr) g T T'∧j.heap[g]? =some (.cells #[T.ptr,.int .i64 (c:Nat)] 230):=by
 have B:=(List.nodup_cons.1 C.once).1
 have m:=zaD d
 have A:j.heap[g]? =some (.cells #[T.ptr,.int .i64 (c:Nat)] 230):=(f.only.block g m B).trans d
 have i: ∀b∈T'.blocks,b≠g:=fun b q e=>by
  subst e
  rcases f.sub _ q with s|s
  ·exact B s
  ·omega
 refine ⟨⟨⟨?_,HT.in_same f.lies (fun b q=>zaZ (i b q) _ _),List.nodup_cons.2 ⟨fun q=>i g q rfl,f.once⟩,hi⟩,?_,fun b q=>(f.sub b q).imp id (fun s=>Nat.le_trans o.size s)⟩,A⟩
 ·rw [z5N A,D]
 ·refine ((o.mono (G:=g::T.blocks) (fun x q=>by rw [List.mem_singleton.1 q];exact ykV ..)).trans f.only (fun x q=> .inl (List.mem_cons_of_mem _ q))).setCell (p:=⟨g,0,none⟩) (.inl (ykV ..)) _
theorem z3C (g:Nat) (T:HT) (hi lo k:Nat) (v:Int) (w:World) (m:zdS w g T) (h1:hi<18446744073709551616) (h2:lo<18446744073709551616) (hk:k≤128) (hr:rt (zaL hi lo) k) (_:T.pt.list.length<1000000)
  (qa:(T.pt.get (zaL hi lo) k).isSome=true):
  Calls Tryz.prog 118 #[.pointer (some ⟨g,0,none⟩),.agg #[.int .u64 (hi:Nat),.int .u64 (lo:Nat),.int .i64 (k:Nat)],.int .i64 v] w fun e w'=> ∃T',e= .returned (.bool true)∧zgC w w' g T T'∧T'.pt=T.pt.put (zaL hi lo) k v:=by
 have E:=zpY h1 h2
 have qp:Hid (∀X,Calls Tryz.prog 186 #[.agg #[.int .u64 (hi:Nat),.int .u64 (lo:Nat),.int .i64 (k:Nat)]] X fun e w'=>e= .returned (.bool true)∧Below X.heap.size X w'):=fun X=>by
  have:=zbM hi lo k X h1 h2;rwa [zbU.2 ⟨hk,hr⟩] at this
 obtain ⟨xv,qf⟩: ∃y,(T.pt.get (zaL hi lo) k).getD 0=y:=⟨_,rfl⟩
 have qw:Hid (∀X,Below w.heap.size w X→Calls Tryz.prog 188 #[.pointer (some ⟨g,0,none⟩),.agg #[.int .u64 (hi:Nat),.int .u64 (lo:Nat),.int .i64 (k:Nat)]] X fun e w'=>e= .returned (.tuple #[.int .i64 xv,.bool true])∧Below X.heap.size X w'):=fun X hX=>by
  have:=z4Y g T hi lo k X (m.keep hX) h1 h2
  unfold RetG at this
  rw [qf,qa] at this
  exact this
 have J:((T.pt.put (zaL hi lo) k v).list.length)=T.pt.list.length:=by
  rw [PT.put_list m.inv hk hr E,zqP (PT.sorted m.inv),←PT.get_list m.inv,qa];rfl
 have G:(T.pt.put (zaL hi lo) k v).Inv 0 0:=PT.put_inv m.inv hk hr (zuB E) (Nat.zero_le _)
 have qi:=ykS J
 have qk:=ykS G
 have D:=ykS m
 have qr:=zaD m.own
 obtain ⟨uT,M⟩:=HT.ptr_form T
 have Q:=ykS M
 obtain ⟨q0,q1⟩:w.cell? ⟨g,0,none⟩=some T.ptr∧w.cell? ⟨g,1,none⟩=some (.int .i64 (T.pt.list.length:Nat)):=⟨zaB m.own 0,zaB m.own 1⟩
 have V:Hid (∀X,T.In X→Calls Tryz.prog 189 #[T.ptr,.agg #[.int .u64 (hi:Nat),.int .u64 (lo:Nat),.int .i64 (k:Nat)],.int .i64 v] X (RetT X T (T.pt.put (zaL hi lo) k v))):=fun X hX=>by
  have:=zlZ (zaL hi lo) k v E hk hr T X hX (List.nodup_cons.1 m.once).2
  rwa [zjX h2] at this
 have qz:=ykS (HT.in_lt m.lies)
 rw [M] at q0
 clear m qa qf J G M hr E
 go_enter Tryz.func118,Tryz.ntmps118
 go_wp2_with fail
 refine (qp.out _).mono ?_
 rintro e x1 ⟨rfl,N⟩
 have ql:=zhU N
 have O:Hid (x1.heap[w.heap.size]? =some (.cells #[.int .u64 (hi:Nat),.int .u64 (lo:Nat),.int .i64 (k:Nat)] 183)):=(N.block _ (by simp)).trans (Go.Deep.blk_alloc_new _ _)
 obtain ⟨p0,p1,p2⟩:=(row3 O.out).1
 clear N
 go_wp2_with fail
 refine (qw.out _ ql).mono ?_
 rintro e x2 ⟨rfl,U⟩
 have qg:=zaC ql U
 have qm:Hid (x2.heap[w.heap.size]? =_):=(U.block _ (zaD O.out)).trans O.out
 clear p0 p1 p2 q0 q1 U
 obtain ⟨p0,p1,p2⟩:=(row3 qm.out).1
 have B:Hid (x2.heap[g]? =_):=(qg.block g qr).trans D.out.own
 have q0:x2.cell? ⟨g,0,none⟩=some (.pointer uT):=by have:=zaB B.out 0;rw [Q.out] at this;exact this
 have q1:x2.cell? ⟨g,1,none⟩=some (.int .i64 (T.pt.list.length:Nat)):=zaB B.out 1
 have f1:=zaF B.out 1
 have qA:=zaD B.out
 have qv:g≠w.heap.size:=by omega
 go_wp2
 have qb:Only [g] w x2:=Only.of_below qg
 have qj:=B
 have A:=qm
 generalize x2=X at*
 have qd:Hid (T.In X):=HT.in_only D.out.lies qb (fun b hb q=>(List.nodup_cons.1 D.out.once).1 (by rw [←List.mem_singleton.1 q];exact hb))
 have qy:Hid (∀Y T',zfJ X.drew Y T T'→T'.pt=T.pt.put (zaL hi lo) k v→zgC w (Y.setCell ⟨g,0,none⟩ T'.ptr) g T T'∧Y.heap[g]? =_):=fun Y T' Z C=>
  zqZ D.out qb qj.out (Z.before (ykU _ _).drew qd.out) (by rw [C,qi.out]) (by rw [C];exact qk.out)
 have qc:Hid (∀Y T',zfJ X.drew Y T T'→(fun W=>(W.cell? ⟨w.heap.size,0,none⟩=some (.int .u64 (hi:Nat))∧W.cell? ⟨w.heap.size,1,none⟩=some (.int .u64 (lo:Nat))∧W.cell? ⟨w.heap.size,2,none⟩=some (.int .i64 (k:Nat)))) Y):=fun Y T' Z=>
  (row3 ((Z.only.block w.heap.size (zaD A.out) (fun q=>Nat.lt_irrefl _ (qz.out _ q))).trans A.out)).1
 have qx:Hid (∀(Y:World) {v:Value},(fun W=>(W.cell? ⟨w.heap.size,0,none⟩=some (.int .u64 (hi:Nat))∧W.cell? ⟨w.heap.size,1,none⟩=some (.int .u64 (lo:Nat))∧W.cell? ⟨w.heap.size,2,none⟩=some (.int .i64 (k:Nat)))) Y→(fun W=>(W.cell? ⟨w.heap.size,0,none⟩=some (.int .u64 (hi:Nat))∧W.cell? ⟨w.heap.size,1,none⟩=some (.int .u64 (lo:Nat))∧W.cell? ⟨w.heap.size,2,none⟩=some (.int .i64 (k:Nat)))) (Y.setCell ⟨g,0,none⟩ v)):=fun Y v hY=>by
  have e: ∀i,(Y.setCell ⟨g,0,none⟩ v).cell? ⟨w.heap.size,i,none⟩=Y.cell? ⟨w.heap.size,i,none⟩:=fun i=>World.cell?_of_block (w:=Y) (zaZ (fun e=>qv e.symm) _ _)
  show ((Y.setCell ⟨g,0,none⟩ v).cell? ⟨w.heap.size,0,none⟩=some (.int .u64 (hi:Nat))∧(Y.setCell ⟨g,0,none⟩ v).cell? ⟨w.heap.size,1,none⟩=some (.int .u64 (lo:Nat))∧(Y.setCell ⟨g,0,none⟩ v).cell? ⟨w.heap.size,2,none⟩=some (.int .i64 (k:Nat)))
  rw [e,e,e];exact hY
 have qe:Hid ((fun W=>(W.cell? ⟨w.heap.size,0,none⟩=some (.int .u64 (hi:Nat))∧W.cell? ⟨w.heap.size,1,none⟩=some (.int .u64 (lo:Nat))∧W.cell? ⟨w.heap.size,2,none⟩=some (.int .i64 (k:Nat)))) X.drew):=(row3 A.out).1
 have qq:Hid (Calls Tryz.prog 189 #[.pointer uT,.agg #[.int .u64 (hi:Nat),.int .u64 (lo:Nat),.int .i64 (k:Nat)],.int .i64 v] X.drew (RetT X.drew T (T.pt.put (zaL hi lo) k v))):=by
  have:=V.out X.drew (HT.in_below qd.out (ykU _ _).drew);rwa [Q.out] at this
 clear p0 p1 p2 q0 q1 f1
 have q0:X.cell? ⟨g,0,none⟩=some (.pointer uT):=by have:=zaB qj.out 0;rw [Q.out] at this;exact this
 refine wp_region_held_drew (S:=fun W=>(W.cell? ⟨w.heap.size,0,none⟩=some (.int .u64 (hi:Nat))∧W.cell? ⟨w.heap.size,1,none⟩=some (.int .u64 (lo:Nat))∧W.cell? ⟨w.heap.size,2,none⟩=some (.int .i64 (k:Nat)))) (by kernel_rfl) ?_ (fun f=> ?_)
 ·exact qe.out
 refine tkJ 0 (some 31) (v:= ?_) rfl (.inl ⟨by rfl,?_⟩) f ?_;rotate_left;·intro w d;(try dsimp only at d);go_simp;try with_reducible rfl
 try simp only [Act.put,tkJa,tkJb,tkJc]
 refine tkJ 1 (some 32) (v:= ?_) rfl (.inl ⟨by rfl,?_⟩) f ?_;rotate_left;·intro w d;(try dsimp only at d);go_simp;try with_reducible rfl
 try simp only [Act.put,tkJa,tkJb,tkJc]
 refine tkJ 2 (some 33) (v:= ?_) rfl (.inl ⟨by rfl,?_⟩) f ?_;rotate_left;·intro w d;(try dsimp only at d);go_simp;try with_reducible rfl
 try simp only [Act.put,tkJa,tkJb,tkJc]
 refine tkJ 3 (some 34) (v:= ?_) rfl (.inl ⟨by rfl,?_⟩) f ?_;rotate_left;·intro w d;(try dsimp only at d);go_simp;try with_reducible rfl
 try simp only [Act.put,tkJa,tkJb,tkJc]
 refine tkJ 5 (some 36) (v:= ?_) rfl (.inl ⟨by rfl,?_⟩) f ?_;rotate_left;·intro w d;(try dsimp only at d);go_simp;try with_reducible rfl
 try simp only [Act.put,tkJa,tkJb,tkJc]
 refine tkJ 6 (some 37) (v:= ?_) rfl (.inl ⟨by rfl,?_⟩) f ?_;rotate_left;·intro w d;(try dsimp only at d);go_simp;try with_reducible rfl
 try simp only [Act.put,tkJa,tkJb,tkJc]
 refine wpAnyH_ready (rs:=[4]) (by kernel_rfl) (by simp) ?_
 refine AllReadyH.cons (o:=⟨some 35,_,_,_,_,_⟩) rfl (fun K H=> ?_) AllReadyH.nil
 go_simp
 refine H.out _ _ ?_ (fun qo=> ?_)
 ·exact qe.out
 clear H K
 try simp only [Act.put,tkJa,tkJb,tkJc]
 refine wpAnyH_ready (rs:=[7]) (by kernel_rfl) (by simp) ?_
 refine AllReadyH.cons (o:=⟨some 38,_,_,_,_,_⟩) rfl (fun K H=> ?_) AllReadyH.nil
 go_simp
 go_at_call 189
 refine (qq.out).mono ?_
 rintro e x4 ⟨T',rfl,Z,C⟩
 obtain ⟨qh,I⟩:=qy.out _ _ Z C
 have q5:=zaB I 0
 have g5:=zaF I 0
 obtain ⟨ut,qs⟩:=HT.ptr_form T'
 rw [qs] at qh ⊢
 simp at q5
 (try go_wp2_with fail)
 refine H.out _ _ ?_ (fun j=> ?_)
 ·exact qc.out _ _ Z
 clear H K
 try simp only [Act.put,tkJa,tkJb,tkJc]
 refine tkJ 8 (some 39) (v:= ?_) rfl (.inl ⟨by rfl,?_⟩) j ?_;rotate_left;·intro w d;(try dsimp only at d);go_simp;try with_reducible rfl
 try simp only [Act.put,tkJa,tkJb,tkJc]
 refine tkJ 9 (some 40) (v:= ?_) rfl (.inl ⟨by rfl,?_⟩) j ?_;rotate_left;·intro w d;(try dsimp only at d);go_simp;try with_reducible rfl
 try simp only [Act.put,tkJa,tkJb,tkJc]
 refine wpAnyH_ready (rs:=[10]) (by kernel_rfl) (by simp) ?_
 refine AllReadyH.cons (o:=⟨none,_,_,_,_,_⟩) rfl (fun K H=> ?_) AllReadyH.nil
 go_simp
 refine H.out _ _ ?_ (fun qn=> ?_)
 ·exact qx.out _ (qc.out _ _ Z)
 clear H K
 try simp only [Act.put,tkJa,tkJb,tkJc]
 refine wpAnyH_done (by kernel_rfl) ?_ _
 go_wp2
 go_ret
 exact ⟨T',rfl,qh,C⟩
theorem z3P (g:Nat) (T:HT) (hi lo k:Nat) (v:Int) (w:World) (m:zdS w g T) (h1:hi<18446744073709551616) (h2:lo<18446744073709551616) (hk:k≤128) (hr:rt (zaL hi lo) k) (qA:T.pt.list.length<1000000)
  (qa:(T.pt.get (zaL hi lo) k).isSome=false):
  Calls Tryz.prog 118 #[.pointer (some ⟨g,0,none⟩),.agg #[.int .u64 (hi:Nat),.int .u64 (lo:Nat),.int .i64 (k:Nat)],.int .i64 v] w fun e w'=> ∃T',e= .returned (.bool true)∧zgC w w' g T T'∧T'.pt=T.pt.put (zaL hi lo) k v:=by
 have E:=zpY h1 h2
 have qq:Hid (∀X,Calls Tryz.prog 186 #[.agg #[.int .u64 (hi:Nat),.int .u64 (lo:Nat),.int .i64 (k:Nat)]] X fun e w'=>e= .returned (.bool true)∧Below X.heap.size X w'):=fun X=>by
  have:=zbM hi lo k X h1 h2;rwa [zbU.2 ⟨hk,hr⟩] at this
 obtain ⟨xv,qg⟩: ∃y,(T.pt.get (zaL hi lo) k).getD 0=y:=⟨_,rfl⟩
 have qw:Hid (∀X,Below w.heap.size w X→Calls Tryz.prog 188 #[.pointer (some ⟨g,0,none⟩),.agg #[.int .u64 (hi:Nat),.int .u64 (lo:Nat),.int .i64 (k:Nat)]] X fun e w'=>e= .returned (.tuple #[.int .i64 xv,.bool false])∧Below X.heap.size X w'):=fun X hX=>by
  have:=z4Y g T hi lo k X (m.keep hX) h1 h2
  unfold RetG at this
  rw [qg,qa] at this
  exact this
 have M:((T.pt.put (zaL hi lo) k v).list.length)=(T.pt.list.length+1):=by
  rw [PT.put_list m.inv hk hr E,zqP (PT.sorted m.inv),←PT.get_list m.inv,qa];rfl
 have H:(T.pt.put (zaL hi lo) k v).Inv 0 0:=PT.put_inv m.inv hk hr (zuB E) (Nat.zero_le _)
 have qj:=ykS M
 have ql:=ykS H
 have D:=ykS m
 have qs:=zaD m.own
 obtain ⟨uT,N⟩:=HT.ptr_form T
 have U:=ykS N
 obtain ⟨q0,q1⟩:w.cell? ⟨g,0,none⟩=some T.ptr∧w.cell? ⟨g,1,none⟩=some (.int .i64 (T.pt.list.length:Nat)):=⟨zaB m.own 0,zaB m.own 1⟩
 have Z:Hid (∀X,T.In X→Calls Tryz.prog 189 #[T.ptr,.agg #[.int .u64 (hi:Nat),.int .u64 (lo:Nat),.int .i64 (k:Nat)],.int .i64 v] X (RetT X T (T.pt.put (zaL hi lo) k v))):=fun X hX=>by
  have:=zlZ (zaL hi lo) k v E hk hr T X hX (List.nodup_cons.1 m.once).2
  rwa [zjX h2] at this
 have qz:=ykS (HT.in_lt m.lies)
 rw [N] at q0
 clear m qa qg M H N hr E
 go_enter Tryz.func118,Tryz.ntmps118
 go_wp2_with fail
 refine (qq.out _).mono ?_
 rintro e x1 ⟨rfl,O⟩
 have qm:=zhU O
 have Q:Hid (x1.heap[w.heap.size]? =some (.cells #[.int .u64 (hi:Nat),.int .u64 (lo:Nat),.int .i64 (k:Nat)] 183)):=(O.block _ (by simp)).trans (Go.Deep.blk_alloc_new _ _)
 obtain ⟨p0,p1,p2⟩:=(row3 Q.out).1
 clear O
 go_wp2_with fail
 refine (qw.out _ qm).mono ?_
 rintro e G ⟨rfl,V⟩
 have qh:=zaC qm V
 have qn:Hid (G.heap[w.heap.size]? =_):=(V.block _ (zaD Q.out)).trans Q.out
 clear p0 p1 p2 q0 q1 V
 obtain ⟨p0,p1,p2⟩:=(row3 qn.out).1
 have B:Hid (G.heap[g]? =_):=(qh.block g qs).trans D.out.own
 have q0:G.cell? ⟨g,0,none⟩=some (.pointer uT):=by have:=zaB B.out 0;rw [U.out] at this;exact this
 have q1:G.cell? ⟨g,1,none⟩=some (.int .i64 (T.pt.list.length:Nat)):=zaB B.out 1
 have f1:=zaF B.out 1
 have qB:=zaD B.out
 have qd:g≠w.heap.size:=by omega
 go_wp2
 have qb:Only [g] w (G.setCell ⟨g,1,none⟩ (.int .i64 ((T.pt.list.length:Int)+1))):=(Only.of_below qh).setCell (p:=⟨g,1,none⟩) (.inl (List.mem_singleton.2 rfl)) _
 have qk:Hid ((G.setCell ⟨g,1,none⟩ (.int .i64 ((T.pt.list.length:Int)+1))).heap[g]? =some (.cells #[T.ptr,.int .i64 (((T.pt.list.length+1):Nat):Int)] 230)):=by
  show _=_
  rw [z8T B.out];simp
 have A:Hid ((G.setCell ⟨g,1,none⟩ (.int .i64 ((T.pt.list.length:Int)+1))).heap[w.heap.size]? =_):=(zaZ (fun e=>qd e.symm) _ _).trans qn.out
 generalize (G.setCell ⟨g,1,none⟩ (.int .i64 ((T.pt.list.length:Int)+1)))=X at*
 have qe:Hid (T.In X):=HT.in_only D.out.lies qb (fun b hb q=>(List.nodup_cons.1 D.out.once).1 (by rw [←List.mem_singleton.1 q];exact hb))
 have qy:Hid (∀Y T',zfJ X.drew Y T T'→T'.pt=T.pt.put (zaL hi lo) k v→zgC w (Y.setCell ⟨g,0,none⟩ T'.ptr) g T T'∧Y.heap[g]? =_):=fun Y T' hw C=>
  zqZ D.out qb qk.out (hw.before (ykU _ _).drew qe.out) (by rw [C,qj.out]) (by rw [C];exact ql.out)
 have qc:Hid (∀Y T',zfJ X.drew Y T T'→(fun W=>(W.cell? ⟨w.heap.size,0,none⟩=some (.int .u64 (hi:Nat))∧W.cell? ⟨w.heap.size,1,none⟩=some (.int .u64 (lo:Nat))∧W.cell? ⟨w.heap.size,2,none⟩=some (.int .i64 (k:Nat)))) Y):=fun Y T' hw=>
  (row3 ((hw.only.block w.heap.size (zaD A.out) (fun q=>Nat.lt_irrefl _ (qz.out _ q))).trans A.out)).1
 have qx:Hid (∀(Y:World) {v:Value},(fun W=>(W.cell? ⟨w.heap.size,0,none⟩=some (.int .u64 (hi:Nat))∧W.cell? ⟨w.heap.size,1,none⟩=some (.int .u64 (lo:Nat))∧W.cell? ⟨w.heap.size,2,none⟩=some (.int .i64 (k:Nat)))) Y→(fun W=>(W.cell? ⟨w.heap.size,0,none⟩=some (.int .u64 (hi:Nat))∧W.cell? ⟨w.heap.size,1,none⟩=some (.int .u64 (lo:Nat))∧W.cell? ⟨w.heap.size,2,none⟩=some (.int .i64 (k:Nat)))) (Y.setCell ⟨g,0,none⟩ v)):=fun Y v hY=>by
  have e: ∀i,(Y.setCell ⟨g,0,none⟩ v).cell? ⟨w.heap.size,i,none⟩=Y.cell? ⟨w.heap.size,i,none⟩:=fun i=>World.cell?_of_block (w:=Y) (zaZ (fun e=>qd e.symm) _ _)
  show ((Y.setCell ⟨g,0,none⟩ v).cell? ⟨w.heap.size,0,none⟩=some (.int .u64 (hi:Nat))∧(Y.setCell ⟨g,0,none⟩ v).cell? ⟨w.heap.size,1,none⟩=some (.int .u64 (lo:Nat))∧(Y.setCell ⟨g,0,none⟩ v).cell? ⟨w.heap.size,2,none⟩=some (.int .i64 (k:Nat)))
  rw [e,e,e];exact hY
 have qf:Hid ((fun W=>(W.cell? ⟨w.heap.size,0,none⟩=some (.int .u64 (hi:Nat))∧W.cell? ⟨w.heap.size,1,none⟩=some (.int .u64 (lo:Nat))∧W.cell? ⟨w.heap.size,2,none⟩=some (.int .i64 (k:Nat)))) X.drew):=(row3 A.out).1
 have qr:Hid (Calls Tryz.prog 189 #[.pointer uT,.agg #[.int .u64 (hi:Nat),.int .u64 (lo:Nat),.int .i64 (k:Nat)],.int .i64 v] X.drew (RetT X.drew T (T.pt.put (zaL hi lo) k v))):=by
  have:=Z.out X.drew (HT.in_below qe.out (ykU _ _).drew);rwa [U.out] at this
 clear p0 p1 p2 q0 q1 f1
 have q0:X.cell? ⟨g,0,none⟩=some (.pointer uT):=by have:=zaB qk.out 0;rw [U.out] at this;exact this
 refine wp_region_held_drew (S:=fun W=>(W.cell? ⟨w.heap.size,0,none⟩=some (.int .u64 (hi:Nat))∧W.cell? ⟨w.heap.size,1,none⟩=some (.int .u64 (lo:Nat))∧W.cell? ⟨w.heap.size,2,none⟩=some (.int .i64 (k:Nat)))) (by kernel_rfl) ?_ (fun f=> ?_)
 ·exact qf.out
 refine tkJ 0 (some 31) (v:= ?_) rfl (.inl ⟨by rfl,?_⟩) f ?_;rotate_left;·intro w d;(try dsimp only at d);go_simp;try with_reducible rfl
 try simp only [Act.put,tkJa,tkJb,tkJc]
 refine tkJ 1 (some 32) (v:= ?_) rfl (.inl ⟨by rfl,?_⟩) f ?_;rotate_left;·intro w d;(try dsimp only at d);go_simp;try with_reducible rfl
 try simp only [Act.put,tkJa,tkJb,tkJc]
 refine tkJ 2 (some 33) (v:= ?_) rfl (.inl ⟨by rfl,?_⟩) f ?_;rotate_left;·intro w d;(try dsimp only at d);go_simp;try with_reducible rfl
 try simp only [Act.put,tkJa,tkJb,tkJc]
 refine tkJ 3 (some 34) (v:= ?_) rfl (.inl ⟨by rfl,?_⟩) f ?_;rotate_left;·intro w d;(try dsimp only at d);go_simp;try with_reducible rfl
 try simp only [Act.put,tkJa,tkJb,tkJc]
 refine tkJ 5 (some 36) (v:= ?_) rfl (.inl ⟨by rfl,?_⟩) f ?_;rotate_left;·intro w d;(try dsimp only at d);go_simp;try with_reducible rfl
 try simp only [Act.put,tkJa,tkJb,tkJc]
 refine tkJ 6 (some 37) (v:= ?_) rfl (.inl ⟨by rfl,?_⟩) f ?_;rotate_left;·intro w d;(try dsimp only at d);go_simp;try with_reducible rfl
 try simp only [Act.put,tkJa,tkJb,tkJc]
 refine wpAnyH_ready (rs:=[4]) (by kernel_rfl) (by simp) ?_
 refine AllReadyH.cons (o:=⟨some 35,_,_,_,_,_⟩) rfl (fun K I=> ?_) AllReadyH.nil
 go_simp
 refine I.out _ _ ?_ (fun qp=> ?_)
 ·exact qf.out
 clear I K
 try simp only [Act.put,tkJa,tkJb,tkJc]
 refine wpAnyH_ready (rs:=[7]) (by kernel_rfl) (by simp) ?_
 refine AllReadyH.cons (o:=⟨some 38,_,_,_,_,_⟩) rfl (fun K I=> ?_) AllReadyH.nil
 go_simp
 go_at_call 189
 refine (qr.out).mono ?_
 rintro e x4 ⟨T',rfl,hw,C⟩
 obtain ⟨qi,J⟩:=qy.out _ _ hw C
 have q5:=zaB J 0
 have g5:=zaF J 0
 obtain ⟨ut,qv⟩:=HT.ptr_form T'
 rw [qv] at qi ⊢
 simp at q5
 (try go_wp2_with fail)
 refine I.out _ _ ?_ (fun j=> ?_)
 ·exact qc.out _ _ hw
 clear I K
 try simp only [Act.put,tkJa,tkJb,tkJc]
 refine tkJ 8 (some 39) (v:= ?_) rfl (.inl ⟨by rfl,?_⟩) j ?_;rotate_left;·intro w d;(try dsimp only at d);go_simp;try with_reducible rfl
 try simp only [Act.put,tkJa,tkJb,tkJc]
 refine tkJ 9 (some 40) (v:= ?_) rfl (.inl ⟨by rfl,?_⟩) j ?_;rotate_left;·intro w d;(try dsimp only at d);go_simp;try with_reducible rfl
 try simp only [Act.put,tkJa,tkJb,tkJc]
 refine wpAnyH_ready (rs:=[10]) (by kernel_rfl) (by simp) ?_
 refine AllReadyH.cons (o:=⟨none,_,_,_,_,_⟩) rfl (fun K I=> ?_) AllReadyH.nil
 go_simp
 refine I.out _ _ ?_ (fun qo=> ?_)
 ·exact qx.out _ (qc.out _ _ hw)
 clear I K
 try simp only [Act.put,tkJa,tkJb,tkJc]
 refine wpAnyH_done (by kernel_rfl) ?_ _
 go_wp2
 go_ret
 exact ⟨T',rfl,qi,C⟩
theorem zxA (g:Nat) (T:HT) (hi lo k:Nat) (v:Int) (w:World) (j:zdS w g T) (m:hi<18446744073709551616) (o:lo<18446744073709551616) (A:k≤128) (i:rt (zaL hi lo) k) (d:T.pt.list.length<1000000):
  Calls Tryz.prog 118 #[.pointer (some ⟨g,0,none⟩),.agg #[.int .u64 (hi:Nat),.int .u64 (lo:Nat),.int .i64 (k:Nat)],.int .i64 v] w fun e w'=> ∃T',e= .returned (.bool true)∧zgC w w' g T T'∧T'.pt=T.pt.put (zaL hi lo) k v:=by
 cases f:(T.pt.get (zaL hi lo) k).isSome with
 |true=>exact z3C g T hi lo k v w j m o A i d f
 |false=>exact z3P g T hi lo k v w j m o A i d f
structure St (w x:World) (g:Nat) (T:HT) (L:List (Nat×Array Value×TypeId)):Prop where
 below:Below w.heap.size w x
 trie:zdS x g T
 own: ∀b∈g::T.blocks,w.heap.size≤b
 blks:Blks L x
 apart: ∀e∈L,e.1∉g::T.blocks
theorem St.keep {w x y:World} {g:Nat} {T:HT} {L:List (Nat×Array Value×TypeId)} (h:St w x g T L) (d:Below x.heap.size x y):St w y g T L:=
 ⟨zaC h.below d,h.trie.keep d,h.own,h.blks.keep d,h.apart⟩
theorem St.new {w x:World} {g:Nat} {T:HT} {L:List (Nat×Array Value×TypeId)} (h:St w x g T L) (c:Array Value) (t:TypeId):St w (x.alloc (.cells c t)) g T ((x.heap.size,c,t)::L):=
 have d:Below x.heap.size x (x.alloc (.cells c t)):=(ykU _ _).alloc (ykT _) _
 ⟨zaC h.below d,h.trie.keep d,h.own,h.blks.new c t,fun e f q=>by
  rcases List.mem_cons.1 f with r|r
  ·rw [r] at q;exact Nat.lt_irrefl _ (h.trie.lt _ q)
  ·exact h.apart e r q⟩
theorem St.moved {w x y:World} {g:Nat} {T T':HT} {L:List (Nat×Array Value×TypeId)} (h:St w x g T L) (f:zgC x y g T T'):St w y g T' L:=
 ⟨h.below.trans (f.only.below h.below.size h.own),f.trie,fun b i=>by
  rcases List.mem_cons.1 i with q|q
  ·rw [q];exact h.own g (ykV ..)
  ·rcases f.sub b q with r|r
   ·exact h.own b (List.mem_cons_of_mem _ r)
   ·exact Nat.le_trans h.below.size r,fun e d=>(f.only.block e.1 (zaD (h.blks e d)) (h.apart e d)).trans (h.blks e d),fun e d q=>by
  rcases List.mem_cons.1 q with r|r
  ·exact h.apart e d (List.mem_cons.2 (.inl r))
  ·rcases f.sub _ r with s|s
   ·exact h.apart e d (List.mem_cons_of_mem _ s)
   ·have:=zaD (h.blks e d);omega⟩
theorem St.drop {w x:World} {g:Nat} {T:HT} {L f:List (Nat×Array Value×TypeId)} (h:St w x g T L) (i: ∀e∈f,e∈L):St w x g T f:=
 ⟨h.below,h.trie,h.own,fun e d=>h.blks e (i e d),fun e d=>h.apart e (i e d)⟩
theorem znN {n:Int} (h:(Lit.int .u64 n).wf=true): ∃x:Nat,n=x∧x<18446744073709551616:=by
 simp [Lit.wf,IntKind.min,IntKind.max,IntKind.bits,IntKind.signed] at h
 exact ⟨n.toNat,by omega,by omega⟩
theorem zgC.keep {w x y:World} {g:Nat} {T T':HT} (h:zgC w x g T T') (d:Below x.heap.size x y):zgC w y g T T':=⟨h.trie.keep d,h.only.then_below d,h.sub⟩
theorem zgC.then {w x y:World} {g:Nat} {T T' f:HT} (h:zgC w x g T T') (k:zgC x y g T' f):zgC w y g T f:=
 ⟨k.trie,h.only.trans k.only (fun b d=>by
  rcases List.mem_cons.1 d with q|q
  ·exact .inl (by rw [q];exact ykV ..)
  ·rcases h.sub b q with r|r
   ·exact .inl (List.mem_cons_of_mem _ r)
   ·exact .inr r),fun b d=>by
  rcases k.sub b d with q|q
  ·exact h.sub b q
  ·exact .inr (Nat.le_trans h.only.size q)⟩
structure Mt (w x:World) (g:Nat) (T T':HT) (L:List (Nat×Array Value×TypeId)):Prop where
 mv:zgC w x g T T'
 blks:Blks L x
 apart: ∀e∈L,e.1∉g::T'.blocks
theorem Mt.keep {w x y:World} {g:Nat} {T T':HT} {L:List (Nat×Array Value×TypeId)} (h:Mt w x g T T' L) (d:Below x.heap.size x y):Mt w y g T T' L:=⟨h.mv.keep d,h.blks.keep d,h.apart⟩
theorem Mt.moved {w x y:World} {g:Nat} {T T' f:HT} {L:List (Nat×Array Value×TypeId)} (h:Mt w x g T T' L) (k:zgC x y g T' f):Mt w y g T f L:=
 ⟨h.mv.then k,fun e d=>(k.only.block e.1 (zaD (h.blks e d)) (h.apart e d)).trans (h.blks e d),fun e d q=>by
  rcases List.mem_cons.1 q with r|r
  ·exact h.apart e d (List.mem_cons.2 (.inl r))
  ·rcases k.sub _ r with s|s
   ·exact h.apart e d (List.mem_cons_of_mem _ s)
   ·have:=zaD (h.blks e d);omega⟩
theorem Mt.first {w x:World} {g:Nat} {T:HT} {b:Nat} {c:Array Value} {t:TypeId} (f:zdS w g T) (i:Below w.heap.size w x) (j:w.heap.size≤b) (h:x.heap[b]? =some (.cells c t)):Mt w x g T T [(b,c,t)]:=by
 refine ⟨zgC.refl f i,fun e d=> ?_,fun e d q=> ?_⟩
 ·rcases List.mem_cons.1 d with r|r
  ·rw [r];exact h
  ·cases r
 ·rcases List.mem_cons.1 d with r|r
  ·rw [r] at q
   have:=f.lt _ q
   simp only at this
   omega
  ·cases r
theorem ycK (g:Nat) (T:HT) (v:Int) (w:World) (f:MaxVar w) (Q:zdS w g T) (Y:T.pt.list.length<900000):
  Calls Tryz.prog 117 #[.pointer (some ⟨g,0,none⟩),.int .i64 v] w fun e w'=> ∃T',e= .returned (.int .i64 27)∧zgC w w' g T T'∧T'.pt=lay9 v T.pt:=by
 have HX:=ykS f
 have U:=ykS Q
 clear f Q
 go_enter Tryz.func117,Tryz.ntmps117
 go_wp2_with fail
 refine (z4E _ HX.out).mono ?_
 rintro e x1 ⟨b,rfl,E,m,C⟩
 have HM:=ykS (Mt.first U.out C E m)
 clear C m E
 go_wp2
 go_loopw [5,10] (fun c i wr=> ∃(j:Nat) (T':HT),j≤27∧c= .int .i64 j∧i= .int .i64 j∧Hid (Mt w wr g T T' [(b,zwK,234)])∧Hid (T'.pt=zkT v j T.pt)) (fun _ i _=>27 - (intOf i).toNat)
 case atStart=>exact ⟨0,T,by omega,rfl,rfl,HM,rfl⟩
 case round=>
  obtain ⟨j,T',hj,rfl,rfl,J,M⟩:=hrel
  by_cases I:j<27
  ·obtain ⟨x,N⟩:=T9_get I
   obtain ⟨c0,c1,c2,Z⟩:=tab_at (J.out.blks _ (.head _)) N
   obtain ⟨D,B,G⟩:=yiW N
   have d:T'.pt.list.length<1000000:=by
    rw [M.out]
    have:=z3E (v:=v) U.out.inv j
    omega
   have A:=ykS (J.out.keep ((ykU _ _).alloc (ykT _) (.cells #[.int .u64 (hiN x.W:Nat),.int .u64 (loN x.W:Nat),.int .i64 (x.n:Nat),.string ⟨x.s.toArray⟩] 234)))
   have o:=ykS (zxA g T' (hiN x.W) (loN x.W) x.n v _ A.out.mv.trie (zhG G) (zhE _) D (by rw [zbQ];exact B) d)
   rw [zbQ] at o
   have qa:(j:Int)<27:=by omega
   have qb:decide ((j:Int)+1<1000)=true:=by simp;omega
   clear d D B G
   go_wp2_with fail
   refine o.out.mono ?_
   rintro e x2 ⟨S,rfl,X,V⟩
   have K:=ykS (A.out.moved X)
   have O:Hid (S.pt=zkT v (j+1) T.pt):=by rw [zlA N,←M.out];exact V
   clear X V o A c0 c1 c2 Z
   go_wp2
   go_roundw
   case rel=>exact ⟨j+1,S,by omega,by go_num,by go_num,K,O⟩
   case measure=>simp [intOf];omega
  ·have H:j=27:=by omega
   subst H
   go_wp2
   go_ret
   exact ⟨T',rfl,J.out.mv,by rw [M.out,ztP]⟩
end
end Go.Proofs.YtegmcmgndllmaaaGreatDoor
