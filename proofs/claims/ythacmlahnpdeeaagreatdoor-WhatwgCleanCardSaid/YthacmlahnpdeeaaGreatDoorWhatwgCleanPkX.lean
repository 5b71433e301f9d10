/-
  What the law WhatwgClean leans on, and its walk (23 of 31).
-/
import Derived.RegionTactic
import Derived.Test.YthacmlahnpdeeaaGreatDoorWhatwgCleanPkL
import Derived.Test.YthacmlahnpdeeaaGreatDoorWhatwgCleanPkW
import Derived.Test.YthacmlahnpdeeaaGreatDoorWhatwgCleanPkK
namespace Go.Proofs.YthacmlahnpdeeaaGreatDoor
set_option maxRecDepth 100000
set_option maxHeartbeats 16000000
theorem tkX {P : Program} {md : Region.Mode} {ops : Array Oper} {Q : Exit → Act → World → Prop} {S : World → Prop} (i : Nat) (s : Option Nat) {op : Op} {ty : TypeId} {pos : String} {af : _} {gd : _} {v : Value} {fuel : Nat} {listed : Array Bool} {a : Act} {w : World} (hi : ops[i]? = some ⟨s, op, ty, pos, af, gd⟩)
 (hy : YieldsIf P ops S ⟨s, op, ty, pos, af, gd⟩ v a) (hS : S w)
 (h : wpAnyH P md ops Q S fuel (listed.setIfInBounds i true) (a.put s v) w)
 (hs : Region.noSelect ops = true := by kernel_rfl) (hf : Region.free md ops listed i = true := by kernel_rfl) (hr : (Region.ready md ops listed).contains i = true := by kernel_rfl)
 (hQ : ∀ c a w, Q (.panic c) (a.put s v) w → Q (.panic c) a w := by exact fun _ _ _ h => h) : wpAnyH P md ops Q S (fuel + 1) listed a w :=
 wpAnyH_take hi hs hf hr hQ hy hS h
theorem tkXa {α : Type _} (l : List α) (i : Nat) (a : α) : l.toArray.setIfInBounds i a = (l.set i a).toArray := List.setIfInBounds_toArray ..
theorem tkXb {α : Type _} (x y : α) (l : List α) : (x :: l).set 0 y = y :: l := rfl
theorem tkXc {α : Type _} (x y : α) (l : List α) (n : Nat) : (x :: l).set (n + 1) y = x :: l.set n y := rfl
section
open Go.RowKit
theorem yaQ (hi lo n:Nat) (w:World) (h1:hi<18446744073709551616) (hn:n<64):
  Calls Tryz.prog 271 #[.agg #[.int .u64 (hi:Nat),.int .u64 (lo:Nat),.int .i64 (n:Nat)],.int .i64 0] w fun e w'=>e= .returned (.agg #[.int .u64 ((hi:Nat)),.int .u64 (lo:Nat),.int .i64 ((n:Int)+1)])∧Below w.heap.size w w':=by
 have hor:=or_zero hi h1
 go_enter Tryz.func271,Tryz.ntmps271
 go_wp2
 go_region
 go_wp2
 refine bodyPost_ret (v:= .agg #[.int .u64 ((hi:Nat)),.int .u64 (lo:Nat),.int .i64 ((n:Int)+1)]) (by simp [results,Tryz.results271,go_sem]) rfl ⟨rfl,?_⟩
 exact (((Below.refl _ _).alloc (Nat.le_refl _) _).alloc (by simp) _).drew
theorem z7P (hi lo n:Nat) (w:World) (h1:hi<18446744073709551616) (h2:lo<18446744073709551616) (hn:n<64) (hr:rt (zaH hi lo) n):
  Calls Tryz.prog 271 #[.agg #[.int .u64 (hi:Nat),.int .u64 (lo:Nat),.int .i64 (n:Nat)],.int .i64 1] w fun e w'=>e= .returned (.agg #[.int .u64 ((hi:Int)+2^(63 - n)),.int .u64 (lo:Nat),.int .i64 ((n:Int)+1)])∧Below w.heap.size w w':=by
 have hbd:=ylD h1 hn (rt_hi h2 hn hr)
 have hor:=z9L (63 - n) hbd (by rw [show (63 - n)+1=64 - n from by omega];exact rt_hi h2 hn hr)
 have hwr:IntKind.u64.wrap ((2:Int)^(63 - n))=(2:Int)^(63 - n):=by
  rw [show ((2:Int)^(63 - n))=((2^(63 - n):Nat):Int) from by simp]
  exact z1T _ (Nat.lt_of_le_of_lt (Nat.le_add_left _ _) hbd)
 go_enter Tryz.func271,Tryz.ntmps271
 go_wp2
 go_region
 go_wp2
 refine bodyPost_ret (v:= .agg #[.int .u64 ((hi:Int)+2^(63 - n)),.int .u64 (lo:Nat),.int .i64 ((n:Int)+1)]) (by simp [results,Tryz.results271,go_sem]) rfl ⟨rfl,?_⟩
 exact (((Below.refl _ _).alloc (Nat.le_refl _) _).alloc (by simp) _).drew
theorem ydI (hi lo n:Nat) (w:World) (h2:lo<18446744073709551616) (hn:64≤n) (hn2:n<128):
  Calls Tryz.prog 271 #[.agg #[.int .u64 (hi:Nat),.int .u64 (lo:Nat),.int .i64 (n:Nat)],.int .i64 0] w fun e w'=>e= .returned (.agg #[.int .u64 (hi:Nat),.int .u64 ((lo:Nat)),.int .i64 ((n:Int)+1)])∧Below w.heap.size w w':=by
 have hor:=or_zero lo h2
 go_enter Tryz.func271,Tryz.ntmps271
 go_wp2
 go_region
 go_wp2
 refine bodyPost_ret (v:= .agg #[.int .u64 (hi:Nat),.int .u64 ((lo:Nat)),.int .i64 ((n:Int)+1)]) (by simp [results,Tryz.results271,go_sem]) rfl ⟨rfl,?_⟩
 exact (((Below.refl _ _).alloc (Nat.le_refl _) _).alloc (by simp) _).drew
theorem z7I (hi lo n:Nat) (w:World) (h2:lo<18446744073709551616) (hn:64≤n) (hn2:n<128) (hr:rt (zaH hi lo) n):
  Calls Tryz.prog 271 #[.agg #[.int .u64 (hi:Nat),.int .u64 (lo:Nat),.int .i64 (n:Nat)],.int .i64 1] w fun e w'=>e= .returned (.agg #[.int .u64 (hi:Nat),.int .u64 ((lo:Int)+2^(127 - n)),.int .i64 ((n:Int)+1)])∧Below w.heap.size w w':=by
 have hbd:=z9F h2 hn hn2 (yjT hn (by omega) hr)
 have hor:=z9L (127 - n) hbd (by rw [show (127 - n)+1=128 - n from by omega];exact yjT hn (by omega) hr)
 have hwr:IntKind.u64.wrap ((2:Int)^(127 - n))=(2:Int)^(127 - n):=by
  rw [show ((2:Int)^(127 - n))=((2^(127 - n):Nat):Int) from by simp]
  exact z1T _ (Nat.lt_of_le_of_lt (Nat.le_add_left _ _) hbd)
 go_enter Tryz.func271,Tryz.ntmps271
 go_wp2
 go_region
 go_wp2
 refine bodyPost_ret (v:= .agg #[.int .u64 (hi:Nat),.int .u64 ((lo:Int)+2^(127 - n)),.int .i64 ((n:Int)+1)]) (by simp [results,Tryz.results271,go_sem]) rfl ⟨rfl,?_⟩
 exact (((Below.refl _ _).alloc (Nat.le_refl _) _).alloc (by simp) _).drew
/-- one bit more of a number -/
theorem ybC (P i:Nat) (w:World) (hP:P<2^128) (hi:i<128):
  Calls Tryz.prog 271 #[pfW (ofW P i) (i:Nat),.int .i64 (bitW P i:Nat)] w fun e w'=>e= .returned (pfW (ofW P (i+1)) ((i+1:Nat):Int))∧Below w.heap.size w w':=by
 have b1:=zfW (yiQ (n:=i) hP)
 have b2:=zgD (ofW P i)
 have hs:=zbS (ofW P i)
 have hr:rt (zaH (hiN (ofW P i)) (loN (ofW P i))) i:=by rw [hs];exact zsE P i
 have hsu:=ygP P i hi
 have key: ∀x y:Nat,y<18446744073709551616→zaH x y=ofW P (i+1)→pfW (ofW P (i+1)) ((i+1:Nat):Int)= .agg #[.int .u64 (x:Nat),.int .u64 (y:Nat),.int .i64 ((i:Int)+1)]:=fun x y hy e=>by
  rw [←e,zkL hy];rfl
 show Calls Tryz.prog 271 #[.agg #[.int .u64 (hiN (ofW P i):Nat),.int .u64 (loN (ofW P i):Nat),.int .i64 (i:Nat)],.int .i64 (bitW P i:Nat)] w _
 rcases zcX P i with hb|hb
 ·rw [hb] at hsu ⊢
  rw [key (hiN (ofW P i)) (loN (ofW P i)) b2 (by rw [hs,hsu];simp)]
  by_cases h:i<64
  ·exact yaQ _ _ i w b1 h
  ·exact ydI _ _ i w b2 (by omega) hi
 ·rw [hb] at hsu ⊢
  rw [Nat.one_mul] at hsu
  by_cases h:i<64
  ·have e1:(2:Nat)^(127 - i)=2^(63 - i)*2^64:=by rw [←Nat.pow_add];congr 1;omega
   rw [key (hiN (ofW P i)+2^(63 - i)) (loN (ofW P i)) b2 (by rw [hsu,e1,ygG,hs])]
   have:=z7P _ _ i w b1 b2 h hr
   rw [show ((hiN (ofW P i)+2^(63 - i):Nat):Int)=(hiN (ofW P i):Int)+2^(63 - i) from by simp]
   exact this
  ·have hl:=z9F b2 (by omega) hi (yjT (by omega) (by omega) hr)
   rw [key (hiN (ofW P i)) (loN (ofW P i)+2^(127 - i)) hl (by rw [hsu,ygD,hs])]
   have:=z7I _ _ i w b2 (by omega) hi hr
   rw [show ((loN (ofW P i)+2^(127 - i):Nat):Int)=(loN (ofW P i):Int)+2^(127 - i) from by simp]
   exact this
end

section
open Go.RowKit
theorem zqP {W n P k i:Nat} (h:zcW W P i (min n k - i)=zbM W n P k) (he:i=min n k∨bitW W i≠bitW P i):zbM W n P k=i:=by
 rw [←h]
 rcases he with e|e
 ·rw [e,Nat.sub_self];rfl
 ·cases f:min n k - i with
  |zero=>rfl
  |succ f=>show (if bitW W i=bitW P i then _ else i)=i;rw [if_neg e]
theorem zyO {W n P k i:Nat} (hi:i<min n k) (h:zcW W P i (min n k - i)=zbM W n P k) (he:bitW W i=bitW P i):zcW W P (i+1) (min n k - (i+1))=zbM W n P k:=by
 rw [←h,show min n k - i=(min n k - (i+1))+1 from by omega]
 show _=if bitW W i=bitW P i then _ else i
 rw [if_pos he]
theorem yhV {w:World} {b:Nat} {x y z x' y' z':Value} {t:TypeId} (h:w.heap[b]? =some (.cells #[x,y,z] t)):
  (((w.setCell ⟨b,0,none⟩ x').setCell ⟨b,1,none⟩ y').setCell ⟨b,2,none⟩ z').heap[b]? =some (.cells #[x',y',z'] t):=by
 have h1:=zaP h 0 x'
 have h2:=zaP h1 1 y'
 have h3:=zaP h2 2 z'
 exact h3
theorem z5K {w:World} {b b':Nat} (hb:b≠b') (x' y' z':Value):(((w.setCell ⟨b',0,none⟩ x').setCell ⟨b',1,none⟩ y').setCell ⟨b',2,none⟩ z').heap[b]? =w.heap[b]? :=by
 rw [zbD hb,zbD hb,zbD hb]
theorem Blks.set3 {L:List (Nat×Array Value×TypeId)} {w:World} {b':Nat} (h:Blks L w) (hb: ∀e∈L,e.1≠b') (x' y' z':Value):Blks L (((w.setCell ⟨b',0,none⟩ x').setCell ⟨b',1,none⟩ y').setCell ⟨b',2,none⟩ z'):=fun e he=>by
 rw [z5K (hb e he)];exact h e he
theorem Below.set3 {a w:World} (h:Below a.heap.size a w) {b:Nat} (hb:a.heap.size≤b) (x y z:Value):Below a.heap.size a (((w.setCell ⟨b,0,none⟩ x).setCell ⟨b,1,none⟩ y).setCell ⟨b,2,none⟩ z):=
 ((h.setCell (p:=⟨b,0,none⟩) hb x).setCell (p:=⟨b,1,none⟩) hb y).setCell (p:=⟨b,2,none⟩) hb z
theorem z4P (hi lo n ph pl k:Nat) (w:World) (h1:hi<18446744073709551616) (h2:lo<18446744073709551616) (h3:ph<18446744073709551616) (h4:pl<18446744073709551616) (hn:n≤128) (hk:k≤128):
  Calls Tryz.prog 264 #[.agg #[.int .u64 (hi:Nat),.int .u64 (lo:Nat),.int .i64 (n:Nat)],.agg #[.int .u64 (ph:Nat),.int .u64 (pl:Nat),.int .i64 (k:Nat)]] w
   fun e w'=>e= .returned (pfW (ofW (zaH ph pl) (zbM (zaH hi lo) n (zaH ph pl) k)) (zbM (zaH hi lo) n (zaH ph pl) k:Nat))∧Below w.heap.size w w':=by
 obtain ⟨W,hW⟩: ∃W,zaH hi lo=W:=⟨_,rfl⟩
 obtain ⟨P,hP⟩: ∃P,zaH ph pl=P:=⟨_,rfl⟩
 have hPl:P<2^128:=hP▸znH h3 h4
 have HBW:Hid (∀(i:Nat) V,i<128→Calls Tryz.prog 263 #[.agg #[.int .u64 (hi:Nat),.int .u64 (lo:Nat),.int .i64 (n:Nat)],.int .i64 (i:Nat)] V fun e w'=>e= .returned (.int .i64 (bitW W i:Nat))∧Below V.heap.size V w'):=fun i V h=>by
  have:=z6X hi lo n i V h1 h2 h;rwa [hW] at this
 have HBP:Hid (∀(i:Nat) V,i<128→Calls Tryz.prog 263 #[.agg #[.int .u64 (ph:Nat),.int .u64 (pl:Nat),.int .i64 (k:Nat)],.int .i64 (i:Nat)] V fun e w'=>e= .returned (.int .i64 (bitW P i:Nat))∧Below V.heap.size V w'):=fun i V h=>by
  have:=z6X ph pl k i V h3 h4 h;rwa [hP] at this
 have HLG:Hid (∀(i:Nat) V,i<128→Calls Tryz.prog 271 #[.agg #[.int .u64 (hiN (ofW P i):Nat),.int .u64 (loN (ofW P i):Nat),.int .i64 (i:Nat)],.int .i64 (bitW P i:Nat)] V fun e w'=>e= .returned (.agg #[.int .u64 (hiN (ofW P (i+1)):Nat),.int .u64 (loN (ofW P (i+1)):Nat),.int .i64 ((i+1:Nat):Int)])∧Below V.heap.size V w'):=fun i V h=>ybC P i V hPl h
 have HZ:Hid (hiN (ofW P 0)=0∧loN (ofW P 0)=0):=by
  have e:ofW P 0=0:=by show qt P 0*_=0;rw [zxE hPl,Nat.zero_mul]
  exact ⟨by rw [e];rfl,by rw [e];rfl⟩
 rw [hW,hP]
 clear hW hP
 obtain ⟨L,hL⟩: ∃L,min n k=L:=⟨_,rfl⟩
 have HL:=Lib.hid hL
 have hmin:min (n:Int) (k:Int)=(L:Nat):=by omega
 have hL8:L≤128:=by omega
 clear hL
 go_enter Tryz.func264,Tryz.ntmps264
 go_wp2
 go_loopw [13] (fun x wr=> ∃i:Nat,i≤L∧x= .int .i64 i∧Hid (Blks [(w.heap.size+1+1,#[.int .u64 0,.int .u64 0,.int .i64 0],235),(w.heap.size+1,#[.int .u64 (ph:Nat),.int .u64 (pl:Nat),.int .i64 (k:Nat)],235),(w.heap.size,#[.int .u64 (hi:Nat),.int .u64 (lo:Nat),.int .i64 (n:Nat)],235)] wr)∧Hid (wr.heap[w.heap.size+1+1+1]? =some (.cells #[.int .u64 (hiN (ofW P i):Nat),.int .u64 (loN (ofW P i):Nat),.int .i64 (i:Nat)] 235))∧Below w.heap.size w wr∧Hid (zcW W P i (min n k - i)=zbM W n P k)) (fun x _=>L - (intOf x).toNat)
 case atStart=>
  refine ⟨0,by omega,rfl,?_,?_,?_,rfl⟩
  ·have h:=(((Blks.empty w).new #[.int .u64 (hi:Nat),.int .u64 (lo:Nat),.int .i64 (n:Nat)] 235).new #[.int .u64 (ph:Nat),.int .u64 (pl:Nat),.int .i64 (k:Nat)] 235).new #[.int .u64 0,.int .u64 0,.int .i64 0] 235
   simp only [World.size_alloc] at h
   exact h.keep ((Below.refl _ _).alloc (Nat.le_refl _) _)
  ·show _=_
   rw [HZ.out.1,HZ.out.2]
   have h:=(((((Blks.empty w).new #[.int .u64 (hi:Nat),.int .u64 (lo:Nat),.int .i64 (n:Nat)] 235).new #[.int .u64 (ph:Nat),.int .u64 (pl:Nat),.int .i64 (k:Nat)] 235).new #[.int .u64 0,.int .u64 0,.int .i64 0] 235).new #[.int .u64 0,.int .u64 0,.int .i64 0] 235) _ (.head _)
   simp only [World.size_alloc] at h
   exact h
  ·exact ((((Below.refl _ _).alloc (Nat.le_refl _) _).alloc (by simp) _).alloc (by simp;omega) _).alloc (by simp;omega) _
 case round=>
  obtain ⟨i,hi2,rfl,HB,HR,hc,HC⟩:=hrel
  by_cases hlt:i<L
  ·have hi8:i<128:=by omega
   by_cases he:bitW W i=bitW P i
   ·have HS:=Lib.hid (zyO (by rw [HL.out];exact hlt) HC.out he)
    have q1:=Lib.hid (fun V=>HBW.out i V hi8)
    rw [he] at q1
    have q2:=Lib.hid (fun V=>HBP.out i V hi8)
    have q3:=Lib.hid (fun V=>HLG.out i V hi8)
    clear he
    obtain ⟨la,a0,a1,a2⟩:=HB.out.r3 (b:=w.heap.size) (by repeat first|exact .head _|apply List.Mem.tail)
    obtain ⟨lb,b0,b1,b2⟩:=HB.out.r3 (b:=w.heap.size+1) (by repeat first|exact .head _|apply List.Mem.tail)
    obtain ⟨⟨r0,r1,r2⟩,f0,f1,f2⟩:=row3 HR.out
    go_wp2_with fail
    refine (q1.out _).mono ?_
    rintro e y1 ⟨rfl,hy1⟩
    have HB1:=Lib.hid (HB.out.keep hy1)
    have HR1:Hid (y1.heap[w.heap.size+1+1+1]? =_):=(hy1.block _ (zaC HR.out)).trans HR.out
    have hc1:=zaA hc hy1
    clear la a0 a1 a2 lb b0 b1 b2 r0 r1 r2 f0 f1 f2
    obtain ⟨la1,a01,a11,a21⟩:=HB1.out.r3 (b:=w.heap.size) (by repeat first|exact .head _|apply List.Mem.tail)
    obtain ⟨lb1,b01,b11,b21⟩:=HB1.out.r3 (b:=w.heap.size+1) (by repeat first|exact .head _|apply List.Mem.tail)
    obtain ⟨⟨r01,r11,r21⟩,f01,f11,f21⟩:=row3 HR1.out
    go_wp2_with fail
    refine (q2.out _).mono ?_
    rintro e y2 ⟨rfl,hy2⟩
    have HB2:=Lib.hid (HB1.out.keep hy2)
    have HR2:Hid (y2.heap[w.heap.size+1+1+1]? =_):=(hy2.block _ (zaC HR1.out)).trans HR1.out
    have hc2:=zaA hc1 hy2
    clear la1 a01 a11 a21 lb1 b01 b11 b21 r01 r11 r21 f01 f11 f21
    obtain ⟨la2,a02,a12,a22⟩:=HB2.out.r3 (b:=w.heap.size) (by repeat first|exact .head _|apply List.Mem.tail)
    obtain ⟨lb2,b02,b12,b22⟩:=HB2.out.r3 (b:=w.heap.size+1) (by repeat first|exact .head _|apply List.Mem.tail)
    obtain ⟨⟨r02,r12,r22⟩,f02,f12,f22⟩:=row3 HR2.out
    go_wp2_with fail
    refine (q3.out _).mono ?_
    rintro e y3 ⟨rfl,hy3⟩
    have HB3:=Lib.hid (HB2.out.keep hy3)
    have HR3:Hid (y3.heap[w.heap.size+1+1+1]? =_):=(hy3.block _ (zaC HR2.out)).trans HR2.out
    have hc3:=zaA hc2 hy3
    clear la2 a02 a12 a22 lb2 b02 b12 b22 r02 r12 r22 f02 f12 f22
    obtain ⟨la3,a03,a13,a23⟩:=HB3.out.r3 (b:=w.heap.size) (by repeat first|exact .head _|apply List.Mem.tail)
    obtain ⟨lb3,b03,b13,b23⟩:=HB3.out.r3 (b:=w.heap.size+1) (by repeat first|exact .head _|apply List.Mem.tail)
    obtain ⟨⟨r03,r13,r23⟩,f03,f13,f23⟩:=row3 HR3.out
    go_wp2
    go_roundw
    case rel=>exact ⟨i+1,by omega,by go_num,HB3.out.set3 (fun e he=>by simp at he;rcases he with rfl|rfl|rfl<;>simp<;>omega) _ _ _,yhV HR3.out,Below.set3 hc3 (by omega) _ _ _,HS.out⟩
    case measure=>simp [intOf];omega
   ·have HE:=Lib.hid (zqP HC.out (.inr he))
    have q1:=Lib.hid (fun V=>HBW.out i V hi8)
    have q2:=Lib.hid (fun V=>HBP.out i V hi8)
    have t1:((bitW W i:Int) !=(bitW P i:Int))=true:=by
     have:(bitW W i:Int)≠(bitW P i:Int):=by omega
     simp [this]
    clear he
    obtain ⟨la,a0,a1,a2⟩:=HB.out.r3 (b:=w.heap.size) (by repeat first|exact .head _|apply List.Mem.tail)
    obtain ⟨lb,b0,b1,b2⟩:=HB.out.r3 (b:=w.heap.size+1) (by repeat first|exact .head _|apply List.Mem.tail)
    obtain ⟨⟨r0,r1,r2⟩,f0,f1,f2⟩:=row3 HR.out
    go_wp2_with fail
    refine (q1.out _).mono ?_
    rintro e y1 ⟨rfl,hy1⟩
    have HB1:=Lib.hid (HB.out.keep hy1)
    have HR1:Hid (y1.heap[w.heap.size+1+1+1]? =_):=(hy1.block _ (zaC HR.out)).trans HR.out
    have hc1:=zaA hc hy1
    clear la a0 a1 a2 lb b0 b1 b2 r0 r1 r2 f0 f1 f2
    obtain ⟨la1,a01,a11,a21⟩:=HB1.out.r3 (b:=w.heap.size) (by repeat first|exact .head _|apply List.Mem.tail)
    obtain ⟨lb1,b01,b11,b21⟩:=HB1.out.r3 (b:=w.heap.size+1) (by repeat first|exact .head _|apply List.Mem.tail)
    obtain ⟨⟨r01,r11,r21⟩,f01,f11,f21⟩:=row3 HR1.out
    go_wp2_with fail
    refine (q2.out _).mono ?_
    rintro e y2 ⟨rfl,hy2⟩
    have HB2:=Lib.hid (HB1.out.keep hy2)
    have HR2:Hid (y2.heap[w.heap.size+1+1+1]? =_):=(hy2.block _ (zaC HR1.out)).trans HR1.out
    have hc2:=zaA hc1 hy2
    clear la1 a01 a11 a21 lb1 b01 b11 b21 r01 r11 r21 f01 f11 f21
    obtain ⟨la2,a02,a12,a22⟩:=HB2.out.r3 (b:=w.heap.size) (by repeat first|exact .head _|apply List.Mem.tail)
    obtain ⟨lb2,b02,b12,b22⟩:=HB2.out.r3 (b:=w.heap.size+1) (by repeat first|exact .head _|apply List.Mem.tail)
    obtain ⟨⟨r02,r12,r22⟩,f02,f12,f22⟩:=row3 HR2.out
    obtain ⟨lz,z0,z1,z2⟩:=HB2.out.r3 (b:=w.heap.size+1+1) (by repeat first|exact .head _|apply List.Mem.tail)
    obtain ⟨_,g0,g1,g2⟩:=row3 (HB2.out _ (List.Mem.head _))
    go_wp2
    refine bodyPost_ret (v:= .agg #[.int .u64 (hiN (ofW P i):Nat),.int .u64 (loN (ofW P i):Nat),.int .i64 (i:Nat)]) (by simp [results,Tryz.results264,go_sem,z0,z1,z2]) rfl ⟨?_,?_⟩
    ·rw [HE.out];rfl
    ·exact Below.set3 hc2 (by omega) _ _ _
  ·have e3:i=L:=by omega
   have HE:=Lib.hid (zqP HC.out (.inl (by rw [HL.out];exact e3)))
   subst e3
   obtain ⟨la,a0,a1,a2⟩:=HB.out.r3 (b:=w.heap.size) (by repeat first|exact .head _|apply List.Mem.tail)
   obtain ⟨lb,b0,b1,b2⟩:=HB.out.r3 (b:=w.heap.size+1) (by repeat first|exact .head _|apply List.Mem.tail)
   obtain ⟨⟨r0,r1,r2⟩,f0,f1,f2⟩:=row3 HR.out
   obtain ⟨lz,z0,z1,z2⟩:=HB.out.r3 (b:=w.heap.size+1+1) (by repeat first|exact .head _|apply List.Mem.tail)
   obtain ⟨_,g0,g1,g2⟩:=row3 (HB.out _ (List.Mem.head _))
   go_wp2
   refine bodyPost_ret (v:= .agg #[.int .u64 (hiN (ofW P i):Nat),.int .u64 (loN (ofW P i):Nat),.int .i64 (i:Nat)]) (by simp [results,Tryz.results264,go_sem,z0,z1,z2]) rfl ⟨?_,?_⟩
   ·rw [HE.out];rfl
   ·exact Below.set3 hc (by omega) _ _ _
end

section
open Go.RowKit
/-- a root is returned;what was written -/
def RetT (w:World) (T:HT) (t:PT) (e:Ending) (w':World):Prop:= ∃T':HT,e= .returned T'.ptr∧zdT w w' T T'∧T'.pt=t
theorem z5O {w w1:World} (hb:Below w.heap.size w w1) {P k:Nat} {v:Int} (hP:P<2^128) (hk:k≤128) (hr:rt P k):
  zdT w (w1.alloc (.cells (zjC P k v true (.pointer none) (.pointer none)) 269)) .nil (.node w1.heap.size P k v true .nil .nil):=
 ⟨⟨Go.Deep.blk_alloc_new _ _,⟨hP,hk,hr⟩,trivial,trivial⟩,by simp [HT.blocks],(fun b h=>by
  rcases List.mem_cons.1 h with g|g
  ·exact .inr (by rw [g];exact hb.size)
  ·cases g),(Only.of_below hb).alloc _⟩
theorem zsZ (P k:Nat) (v:Int) (w:World) (hP:P<2^128) (hk:k≤128) (hr:rt P k):
  Calls Tryz.prog 252 #[HT.nil.ptr,pfW P (k:Nat),.int .i64 v] w (RetT w .nil (PT.leaf P k v)):=by
 show Calls Tryz.prog 252 #[.pointer none,.agg #[.int .u64 (hiN P:Nat),.int .u64 (loN P:Nat),.int .i64 (k:Nat)],.int .i64 v] w _
 have HW:=fun w1 (hb:Below w.heap.size w w1)=>z5O (v:=v) hb hP hk hr
 have HH:=Lib.hid HW
 have HP':Hid (zjC P k v true (.pointer none) (.pointer none)= #[.int .u64 (hiN P:Nat),.int .u64 (loN P:Nat),.int .i64 (k:Nat),.int .i64 v,.bool true,.pointer none,.pointer none]):=rfl
 clear HW
 go_enter Tryz.func252,Tryz.ntmps252
 go_wp2
 go_ret
 refine ⟨.node (w.heap.size+1) P k v true .nil .nil,rfl,?_,rfl⟩
 have:=HH.out (w.alloc (.cells #[.int .u64 (hiN P:Nat),.int .u64 (loN P:Nat),.int .i64 (k:Nat)] 235)) ((Below.refl _ _).alloc (Nat.le_refl _) _)
 rw [HP'.out] at this
 simpa using this
theorem z6U {w w1:World} {b W n:Nat} {u v:Int} {h h':Bool} {l r:HT} (hin:(HT.node b W n u h l r).In w) (hd:(HT.node b W n u h l r).blocks.Nodup) (hb:Below w.heap.size w w1):
  zdT w ((w1.setCell ⟨b,3,none⟩ (.int .i64 v)).setCell ⟨b,4,none⟩ (.bool h')) (.node b W n u h l r) (.node b W n v h' l r):=by
 obtain ⟨d1,d2,d3,d4,d5⟩:=zeY hd
 obtain ⟨i1,i2,i3,i4⟩:=hin
 have hb1:w1.heap[b]? =some (.cells (zjC W n u h l.ptr r.ptr) 269):=(hb.block b (zaC i1)).trans i1
 refine ⟨⟨?_,i2,?_,?_⟩,hd,fun x hx=> .inl hx,?_⟩
 ·rw [zaP (zaP hb1 3 _) 4];rfl
 ·exact HT.in_same (HT.in_below i3 hb) (fun x hx=>by rw [zbD (fun e:x=b=>d1 (e▸hx)),zbD (fun e:x=b=>d1 (e▸hx))])
 ·exact HT.in_same (HT.in_below i4 hb) (fun x hx=>by rw [zbD (fun e:x=b=>d2 (e▸hx)),zbD (fun e:x=b=>d2 (e▸hx))])
 ·exact ((Only.of_below (F:=(HT.node b W n u h l r).blocks) hb).setCell (p:=⟨b,3,none⟩) (.inl (List.mem_cons_self ..)) _).setCell (p:=⟨b,4,none⟩) (.inl (List.mem_cons_self ..)) _
theorem zsU (b P k:Nat) (u v:Int) (h:Bool) (l r:HT) (w:World) (hin:(HT.node b P k u h l r).In w) (hd:(HT.node b P k u h l r).blocks.Nodup):
  Calls Tryz.prog 252 #[(HT.node b P k u h l r).ptr,pfW P (k:Nat),.int .i64 v] w (RetT w (.node b P k u h l r) (.node P k v true l.pt r.pt)):=by
 show Calls Tryz.prog 252 #[.pointer (some ⟨b,0,none⟩),.agg #[.int .u64 (hiN P:Nat),.int .u64 (loN P:Nat),.int .i64 (k:Nat)],.int .i64 v] w _
 have HW:=Lib.hid (fun w1 (hb:Below w.heap.size w w1)=>z6U (v:=v) (h':=true) hin hd hb)
 obtain ⟨⟨c0,c1,c2⟩,c3,c4,c5,c6⟩:=zcT hin.1
 have f3:=zaK hin.1 3
 have f4:=zaK hin.1 4
 have hlt:=zaC hin.1
 have heq: ∀W:World,(binOp .eql 235 (.agg #[.int .u64 (hiN P:Nat),.int .u64 (loN P:Nat),.int .i64 (k:Nat)]) (.agg #[.int .u64 (hiN P:Nat),.int .u64 (loN P:Nat),.int .i64 (k:Nat)])).run Tryz.prog W= .ok (.bool true) W:=fun W=>by rw [eqPf];simp
 have hg:=zeX
 clear hin hd
 generalize hiN P=ph at*
 generalize loN P=pl at*
 go_enter Tryz.func252,Tryz.ntmps252
 go_wp2
 go_quiet (fail)
 go_wp2
 go_ret
 exact ⟨.node b P k v true l r,rfl,HW.out _ (((Below.refl _ _).alloc (Nat.le_refl _) _).trans zdI),rfl⟩
end

section
open Go.RowKit
theorem drew_o {x:World}:Below x.heap.size x x.drew:=(Below.refl _ _).drew
theorem HT.ptr_form (T:HT): ∃u,T.ptr= .pointer u:=by cases T<;>exact ⟨_,rfl⟩
theorem zjZ (b W n P k:Nat) (u v:Int) (h:Bool) (l r c:HT) (tc t2:PT) (w:World) (hin:(HT.node b W n u h l r).In w) (hd:(HT.node b W n u h l r).blocks.Nodup) (hP:P<2^128)
  (hne: ¬(W=P∧n=k)) (hcv:zbW W n P k=true) (hs:(bitZ P n=0∧l=c∧ .node W n u h tc r.pt=t2)∨(bitZ P n=1∧r=c∧ .node W n u h l.pt tc=t2)) (HC:Hid (∀X,Below w.heap.size w X→Calls Tryz.prog 252 #[c.ptr,pfW P (k:Nat),.int .i64 v] X (RetT X c tc))):
  Calls Tryz.prog 252 #[(HT.node b W n u h l r).ptr,pfW P (k:Nat),.int .i64 v] w (RetT w (.node b W n u h l r) t2):=by
 have hW:=hin.2.1.1
 obtain ⟨wh,ewh⟩: ∃x,hiN W=x:=⟨_,rfl⟩
 obtain ⟨wl,ewl⟩: ∃x,loN W=x:=⟨_,rfl⟩
 obtain ⟨ph,eph⟩: ∃x,hiN P=x:=⟨_,rfl⟩
 obtain ⟨pl,epl⟩: ∃x,loN P=x:=⟨_,rfl⟩
 have hne2:((wh:Int)==ph&&((wl:Int)==pl&&(n:Int)==k))=false:=by
  rw [Bool.eq_false_iff]
  intro g
  simp only [Bool.and_eq_true,beq_iff_eq] at g
  exact hne ⟨zkC (by rw [ewh,eph];omega) (by rw [ewl,epl];omega),by omega⟩
 have heq:=eqPf wh wl n ph pl k
 rw [hne2] at heq
 have hg:=zeX
 have HCV:Hid (∀X,Calls Tryz.prog 262 #[.agg #[.int .u64 (wh:Nat),.int .u64 (wl:Nat),.int .i64 (n:Nat)],.agg #[.int .u64 (ph:Nat),.int .u64 (pl:Nat),.int .i64 (k:Nat)]] X fun e w'=>e= .returned (.bool true)∧Below X.heap.size X w'):=fun X=>by
  have:=zlR wh wl ph pl n k X (ewh▸zfW hW) (ewl▸zgD W) (eph▸zfW hP) (epl▸zgD P)
  rw [←ewh,←ewl,←eph,←epl,zbS,zbS,hcv] at this
  rw [←ewh,←ewl,←eph,←epl];exact this
 have HBT:Hid (∀β,bitZ P n=β→ ∀X,Calls Tryz.prog 263 #[.agg #[.int .u64 (ph:Nat),.int .u64 (pl:Nat),.int .i64 (k:Nat)],.int .i64 (n:Nat)] X fun e w'=>e= .returned (.int .i64 β)∧Below X.heap.size X w'):=fun β hbit X=>by
  have:=zsT ph pl k n X (eph▸zfW hP) (epl▸zgD P)
  rw [←eph,←epl,zbS,hbit] at this
  rw [←eph,←epl];exact this
 have HROW:Hid (w.heap[b]? =some (.cells #[.int .u64 (wh:Nat),.int .u64 (wl:Nat),.int .i64 (n:Nat),.int .i64 u,.bool h,l.ptr,r.ptr] 269)):=by
  have:=hin.1;unfold zjC at this;rw [ewh,ewl] at this;exact this
 have HIN:=Lib.hid hin
 have HD:=Lib.hid hd
 have hlt:=zaC hin.1
 have hbx: ∀x∈(HT.node b W n u h l r).blocks,x<w.heap.size:=HT.in_lt hin
 have HBX:=Lib.hid hbx
 show Calls Tryz.prog 252 #[.pointer (some ⟨b,0,none⟩),.agg #[.int .u64 (hiN P:Nat),.int .u64 (loN P:Nat),.int .i64 (k:Nat)],.int .i64 v] w _
 have HC':Hid (∀X,Below w.heap.size w X→Calls Tryz.prog 252 #[c.ptr,.agg #[.int .u64 (ph:Nat),.int .u64 (pl:Nat),.int .i64 (k:Nat)],.int .i64 v] X (RetT X c tc)):=by
  have:=HC.out
  rw [show pfW P (k:Nat)= .agg #[.int .u64 (ph:Nat),.int .u64 (pl:Nat),.int .i64 (k:Nat)] from by unfold pfW pfV;rw [eph,epl]] at this
  exact this
 rw [eph,epl]
 clear HC
 have HC:=Lib.hid HC'.out
 obtain ⟨uc,huc⟩:=HT.ptr_form c
 have hcells: ∀X:World,X.heap[b]? =some (.cells #[.int .u64 (wh:Nat),.int .u64 (wl:Nat),.int .i64 (n:Nat),.int .i64 u,.bool h,l.ptr,r.ptr] 269)→(X.cell? ⟨b,0,none⟩=some (.int .u64 (wh:Nat))∧X.cell? ⟨b,1,none⟩=some (.int .u64 (wl:Nat))∧X.cell? ⟨b,2,none⟩=some (.int .i64 (n:Nat)))∧X.cell? ⟨b,5,none⟩=some l.ptr∧X.cell? ⟨b,6,none⟩=some r.ptr:=fun X hX=>⟨⟨zaD hX 0,zaD hX 1,zaD hX 2⟩,zaD hX 5,zaD hX 6⟩
 have HCELLS:=Lib.hid hcells
 obtain ⟨⟨c0,c1,c2⟩,-⟩:=hcells w HROW.out
 clear hin hd hW ewh ewl eph epl hne hne2 hcv hbx hP hcells HC'
 go_enter Tryz.func252,Tryz.ntmps252
 go_wp2
 go_quiet (fail)
 go_wp2
 have hx1:Below w.heap.size w ((w.alloc (.cells #[.int .u64 (ph:Nat),.int .u64 (pl:Nat),.int .i64 (k:Nat)] 235)).drewN nq):=((Below.refl _ _).alloc (Nat.le_refl _) _).trans zdI
 have HB1:Hid (((w.alloc (.cells #[.int .u64 (ph:Nat),.int .u64 (pl:Nat),.int .i64 (k:Nat)] 235)).drewN nq).heap[w.heap.size]? =some (.cells #[.int .u64 (ph:Nat),.int .u64 (pl:Nat),.int .i64 (k:Nat)] 235)):=Go.Deep.blk_alloc_new _ _
 generalize (w.alloc (.cells #[.int .u64 (ph:Nat),.int .u64 (pl:Nat),.int .i64 (k:Nat)] 235)).drewN nq=x1 at*
 have HN1:Hid (x1.heap[b]? =_):=(hx1.block b hlt).trans HROW.out
 have HK1:Hid (∀X,Below x1.heap.size x1 X→(fun W=>(W.cell? ⟨b,0,none⟩=some (.int .u64 (wh:Nat))∧W.cell? ⟨b,1,none⟩=some (.int .u64 (wl:Nat))∧W.cell? ⟨b,2,none⟩=some (.int .i64 (n:Nat)))∧(W.cell? ⟨w.heap.size,0,none⟩=some (.int .u64 (ph:Nat))∧W.cell? ⟨w.heap.size,1,none⟩=some (.int .u64 (pl:Nat))∧W.cell? ⟨w.heap.size,2,none⟩=some (.int .i64 (k:Nat)))) X):=fun X hX=>
  ⟨(HCELLS.out X ((hX.block b (zaC HN1.out)).trans HN1.out)).1,(row3 ((hX.block w.heap.size (zaC HB1.out)).trans HB1.out)).1⟩
 clear c0 c1 c2
 go_region_held3 (fun W=>(W.cell? ⟨b,0,none⟩=some (.int .u64 (wh:Nat))∧W.cell? ⟨b,1,none⟩=some (.int .u64 (wl:Nat))∧W.cell? ⟨b,2,none⟩=some (.int .i64 (n:Nat)))∧(W.cell? ⟨w.heap.size,0,none⟩=some (.int .u64 (ph:Nat))∧W.cell? ⟨w.heap.size,1,none⟩=some (.int .u64 (pl:Nat))∧W.cell? ⟨w.heap.size,2,none⟩=some (.int .i64 (k:Nat))))
  (first|exact HK1.out _ (Below.refl _ _).drew|exact HK1.out _ (zbZ hy2))
  (first
   |(go_simp;go_at_call 262;((with_reducible refine (HCV.out _).mono ?_);rintro e x2 ⟨rfl,hy2⟩)))
 go_wp2
 have hk2:Below x1.heap.size x1 x2:=zbZ hy2
 clear hy2
 rcases hs with ⟨hbit,rfl,rfl⟩|⟨hbit,rfl,rfl⟩
 have HW:=Lib.hid (fun (Y X:World) (T':HT) (hi:(HT.node b W n u h l r).In Y) (hw:zdT Y X l T')=>z5B hi HD.out hw)
 rotate_left
 have HW:=Lib.hid (fun (Y X:World) (T':HT) (hi:(HT.node b W n u h l r).In Y) (hw:zdT Y X r T')=>z0N hi HD.out hw)
 rotate_left
 all_goals
  have HBT:=Lib.hid (HBT.out _ hbit)
  clear hbit
  go_region_held3 (fun W=>(W.cell? ⟨b,0,none⟩=some (.int .u64 (wh:Nat))∧W.cell? ⟨b,1,none⟩=some (.int .u64 (wl:Nat))∧W.cell? ⟨b,2,none⟩=some (.int .i64 (n:Nat)))∧(W.cell? ⟨w.heap.size,0,none⟩=some (.int .u64 (ph:Nat))∧W.cell? ⟨w.heap.size,1,none⟩=some (.int .u64 (pl:Nat))∧W.cell? ⟨w.heap.size,2,none⟩=some (.int .i64 (k:Nat))))
   (first|exact HK1.out _ (hk2.drew)|exact HK1.out _ (zaA hk2 (zbZ hy3)))
   (first
    |(go_simp;go_at_call 263;((with_reducible refine (HBT.out _).mono ?_);rintro e x3 ⟨rfl,hy3⟩)))
  go_wp2
  have hk3:Below x1.heap.size x1 x3:=zaA hk2 (zbZ hy3)
  have hx3:Below w.heap.size w x3:=zaA hx1 hk3
  have HN3:Hid (x3.heap[b]? =_):=(hk3.block b (zaC HN1.out)).trans HN1.out
  have HB3:Hid (x3.heap[w.heap.size]? =_):=(hk3.block w.heap.size (zaC HB1.out)).trans HB1.out
  have HK8:Hid (∀X,Below x3.heap.size x3 X→(fun W=>(W.cell? ⟨w.heap.size,0,none⟩=some (.int .u64 (ph:Nat))∧W.cell? ⟨w.heap.size,1,none⟩=some (.int .u64 (pl:Nat))∧W.cell? ⟨w.heap.size,2,none⟩=some (.int .i64 (k:Nat)))) X):=fun X hX=>(row3 ((hX.block w.heap.size (zaC HB3.out)).trans HB3.out)).1
  have HI3:Hid ((HT.node b W n u h l r).In x3):=HT.in_below HIN.out hx3
  have HW:=Lib.hid (fun (X:World) (T':HT) (hw:zdT x3.drew X _ T')=>HW.out x3 X T' HI3.out (hw.before (Below.refl _ _).drew (by first|exact HI3.out.2.2.1|exact HI3.out.2.2.2)))
  have HK9:Hid (∀X {A T':HT},zdT x3.drew X A T'→(∀x,x∈A.blocks→x∈l.blocks∨x∈r.blocks)→(fun W=>(W.cell? ⟨w.heap.size,0,none⟩=some (.int .u64 (ph:Nat))∧W.cell? ⟨w.heap.size,1,none⟩=some (.int .u64 (pl:Nat))∧W.cell? ⟨w.heap.size,2,none⟩=some (.int .i64 (k:Nat)))) X):=fun X A T' hw hA=>
   (row3 ((hw.only.block w.heap.size (zaC HB3.out) (fun g=>Nat.lt_irrefl _ (HBX.out _ (List.mem_cons_of_mem _ (List.mem_append.2 (hA _ g)))))).trans HB3.out)).1
  have HKS:Hid (∀(X:World) (o:Nat) {v:Value},(fun W=>(W.cell? ⟨w.heap.size,0,none⟩=some (.int .u64 (ph:Nat))∧W.cell? ⟨w.heap.size,1,none⟩=some (.int .u64 (pl:Nat))∧W.cell? ⟨w.heap.size,2,none⟩=some (.int .i64 (k:Nat)))) X→(fun W=>(W.cell? ⟨w.heap.size,0,none⟩=some (.int .u64 (ph:Nat))∧W.cell? ⟨w.heap.size,1,none⟩=some (.int .u64 (pl:Nat))∧W.cell? ⟨w.heap.size,2,none⟩=some (.int .i64 (k:Nat)))) (X.setCell ⟨b,o,none⟩ v)):=fun X o v hX=>by
   have e: ∀i,(X.setCell ⟨b,o,none⟩ v).cell? ⟨w.heap.size,i,none⟩=X.cell? ⟨w.heap.size,i,none⟩:=fun i=>World.cell?_of_block (w:=X) (zbD (by show w.heap.size≠b;omega) _ _)
   show ((X.setCell ⟨b,o,none⟩ v).cell? ⟨w.heap.size,0,none⟩=some (.int .u64 (ph:Nat))∧(X.setCell ⟨b,o,none⟩ v).cell? ⟨w.heap.size,1,none⟩=some (.int .u64 (pl:Nat))∧(X.setCell ⟨b,o,none⟩ v).cell? ⟨w.heap.size,2,none⟩=some (.int .i64 (k:Nat)))
   rw [e,e,e];exact hX
  obtain ⟨-,d5,d6⟩:=HCELLS.out x3 HN3.out
  first|rw [huc] at d5 HC|rw [huc] at d6 HC
  clear hk2 hk3 hy3
  refine wp_region_held_drew (S:=fun W=>(W.cell? ⟨w.heap.size,0,none⟩=some (.int .u64 (ph:Nat))∧W.cell? ⟨w.heap.size,1,none⟩=some (.int .u64 (pl:Nat))∧W.cell? ⟨w.heap.size,2,none⟩=some (.int .i64 (k:Nat)))) (by kernel_rfl) ?_ (fun hHeld=> ?_)
  ·exact HK8.out _ (Below.refl _ _).drew
  refine tkX 0 (some 45) (v:= ?_) rfl (.inl ⟨by rfl,?_⟩) hHeld ?_;rotate_left;·intro w hSw;(try dsimp only at hSw);go_simp;try with_reducible rfl
  try simp only [Act.put,tkXa,tkXb,tkXc]
  refine tkX 1 (some 46) (v:= ?_) rfl (.inl ⟨by rfl,?_⟩) hHeld ?_;rotate_left;·intro w hSw;(try dsimp only at hSw);go_simp;try with_reducible rfl
  try simp only [Act.put,tkXa,tkXb,tkXc]
  refine tkX 2 (some 47) (v:= ?_) rfl (.inl ⟨by rfl,?_⟩) hHeld ?_;rotate_left;·intro w hSw;(try dsimp only at hSw);go_simp;try with_reducible rfl
  try simp only [Act.put,tkXa,tkXb,tkXc]
  refine tkX 3 (some 48) (v:= ?_) rfl (.inl ⟨by rfl,?_⟩) hHeld ?_;rotate_left;·intro w hSw;(try dsimp only at hSw);go_simp;try with_reducible rfl
  try simp only [Act.put,tkXa,tkXb,tkXc]
  refine tkX 4 (some 49) (v:= ?_) rfl (.inl ⟨by rfl,?_⟩) hHeld ?_;rotate_left;·intro w hSw;(try dsimp only at hSw);go_simp;try with_reducible rfl
  try simp only [Act.put,tkXa,tkXb,tkXc]
  refine tkX 5 (some 50) (v:= ?_) rfl (.inl ⟨by rfl,?_⟩) hHeld ?_;rotate_left;·intro w hSw;(try dsimp only at hSw);go_simp;try with_reducible rfl
  try simp only [Act.put,tkXa,tkXb,tkXc]
  refine tkX 6 (some 51) (v:= ?_) rfl (.inl ⟨by rfl,?_⟩) hHeld ?_;rotate_left;·intro w hSw;(try dsimp only at hSw);go_simp;try with_reducible rfl
  try simp only [Act.put,tkXa,tkXb,tkXc]
  refine tkX 8 (some 53) (v:= ?_) rfl (.inl ⟨by rfl,?_⟩) hHeld ?_;rotate_left;·intro w hSw;(try dsimp only at hSw);go_simp;try with_reducible rfl
  try simp only [Act.put,tkXa,tkXb,tkXc]
  refine tkX 9 (some 54) (v:= ?_) rfl (.inl ⟨by rfl,?_⟩) hHeld ?_;rotate_left;·intro w hSw;(try dsimp only at hSw);go_simp;try with_reducible rfl
  try simp only [Act.put,tkXa,tkXb,tkXc]
  refine tkX 11 (some 56) (v:= ?_) rfl (.inl ⟨by rfl,?_⟩) hHeld ?_;rotate_left;·intro w hSw;(try dsimp only at hSw);go_simp;try with_reducible rfl
  try simp only [Act.put,tkXa,tkXb,tkXc]
  refine tkX 12 (some 57) (v:= ?_) rfl (.inl ⟨by rfl,?_⟩) hHeld ?_;rotate_left;·intro w hSw;(try dsimp only at hSw);go_simp;try with_reducible rfl
  try simp only [Act.put,tkXa,tkXb,tkXc]
  refine wpAnyH_ready (rs:=[7]) (by kernel_rfl) (by simp) ?_
  refine AllReadyH.cons (o:=⟨some 52,_,_,_,_,_⟩) rfl (fun K hK=> ?_) AllReadyH.nil
  go_simp
  refine hK.out _ _ ?_ (fun hHeld1=> ?_)
  ·exact HK8.out _ (Below.refl _ _).drew
  clear hK K
  try simp only [Act.put,tkXa,tkXb,tkXc]
  refine wpAnyH_ready (rs:=[10]) (by kernel_rfl) (by simp) ?_
  refine AllReadyH.cons (o:=⟨some 55,_,_,_,_,_⟩) rfl (fun K hK=> ?_) AllReadyH.nil
  go_simp
  go_at_call 252
  refine (HC.out _ (zaA hx3 drew_o)).mono ?_
  rintro e x4 ⟨T',rfl,hw,ht⟩
  have hw2:=(HW.out _ _ hw).1
  have hrow:=(HW.out _ _ hw).2
  have q5:=(zcT hrow).2.2.2.1
  have q6:=(zcT hrow).2.2.2.2
  have g5:=zaK hrow 5
  have g6:=zaK hrow 6
  obtain ⟨ut,hut⟩:=HT.ptr_form T'
  rw [hut] at hw2 ⊢
  (try go_wp2_with fail)
  refine hK.out _ _ ?_ (fun hHeld2=> ?_)
  ·exact HK9.out _ hw (by first|exact fun _ g=> .inl g|exact fun _ g=> .inr g)
  clear hK K
  try simp only [Act.put,tkXa,tkXb,tkXc]
  refine tkX 13 (some 58) (v:= ?_) rfl (.inl ⟨by rfl,?_⟩) hHeld2 ?_;rotate_left;·intro w hSw;(try dsimp only at hSw);go_simp;try with_reducible rfl
  try simp only [Act.put,tkXa,tkXb,tkXc]
  refine wpAnyH_ready (rs:=[14]) (by kernel_rfl) (by simp) ?_
  refine AllReadyH.cons (o:=⟨none,_,_,_,_,_⟩) rfl (fun K hK=> ?_) AllReadyH.nil
  go_simp
  refine hK.out _ _ ?_ (fun hHeld3=> ?_)
  ·exact HKS.out _ _ (HK9.out _ hw (by first|exact fun _ g=> .inl g|exact fun _ g=> .inr g))
  clear hK K
  try simp only [Act.put,tkXa,tkXb,tkXc]
  refine wpAnyH_done (by kernel_rfl) ?_ _
  go_wp2
  go_ret
  refine ⟨_,?_,hw2.before hx3 HIN.out,?_⟩
  ·rfl
  ·show PT.node _ _ _ _ _ _=_
   rw [ht]
end

section
open Go.RowKit
theorem z0C {w X w':World} {T A T':HT} (h:zdT X w' A T') (hb:Below w.heap.size w X) (hA: ∀x∈A.blocks,x∈T.blocks∨w.heap.size≤x):zdT w w' T T':=
 ⟨h.lies,h.once,fun x hx=>by
  rcases h.sub x hx with g|g
  ·exact hA x g
  ·exact .inr (Nat.le_trans hb.size g),(Only.of_below hb).trans h.only hA⟩
theorem zkY (b W n P k m:Nat) (u v:Int) (h:Bool) (l r:HT) (tA:PT) (A:Nat→HT) (w:World) (hin:(HT.node b W n u h l r).In w) (hd:(HT.node b W n u h l r).blocks.Nodup) (hP:P<2^128) (hk:k≤128)
  (hne: ¬(W=P∧n=k)) (hcv:zbW W n P k=false) (hm:zbM W n P k=m) (hm2:m≤128) (hA:(bitZ W m=0∧(fun ga=> .node ga (ofW P m) m 0 false (.node b W n u h l r) .nil)=A)∨(bitZ W m=1∧(fun ga=> .node ga (ofW P m) m 0 false .nil (.node b W n u h l r))=A))
  (HA:Hid (∀(ga:Nat) X,HT.In X (A ga)→(HT.blocks (A ga)).Nodup→Calls Tryz.prog 252 #[.pointer (some ⟨ga,0,none⟩),pfW P (k:Nat),.int .i64 v] X (RetT X (A ga) tA))):
  Calls Tryz.prog 252 #[(HT.node b W n u h l r).ptr,pfW P (k:Nat),.int .i64 v] w (RetT w (.node b W n u h l r) tA):=by
 have hW:=hin.2.1.1
 have hn:=hin.2.1.2.1
 have hS:ofW P m<2^128:=yiQ hP
 obtain ⟨wh,ewh⟩: ∃x,hiN W=x:=⟨_,rfl⟩
 obtain ⟨wl,ewl⟩: ∃x,loN W=x:=⟨_,rfl⟩
 obtain ⟨ph,eph⟩: ∃x,hiN P=x:=⟨_,rfl⟩
 obtain ⟨pl,epl⟩: ∃x,loN P=x:=⟨_,rfl⟩
 obtain ⟨sh,esh⟩: ∃x,hiN (ofW P m)=x:=⟨_,rfl⟩
 obtain ⟨sl,esl⟩: ∃x,loN (ofW P m)=x:=⟨_,rfl⟩
 have hne2:((wh:Int)==ph&&((wl:Int)==pl&&(n:Int)==k))=false:=by
  rw [Bool.eq_false_iff]
  intro g
  simp only [Bool.and_eq_true,beq_iff_eq] at g
  exact hne ⟨zkC (by rw [ewh,eph];omega) (by rw [ewl,epl];omega),by omega⟩
 have heq:=eqPf wh wl n ph pl k
 rw [hne2] at heq
 have hg:=zeX
 have HCV:Hid (∀X,Calls Tryz.prog 262 #[.agg #[.int .u64 (wh:Nat),.int .u64 (wl:Nat),.int .i64 (n:Nat)],.agg #[.int .u64 (ph:Nat),.int .u64 (pl:Nat),.int .i64 (k:Nat)]] X fun e w'=>e= .returned (.bool false)∧Below X.heap.size X w'):=fun X=>by
  have:=zlR wh wl ph pl n k X (ewh▸zfW hW) (ewl▸zgD W) (eph▸zfW hP) (epl▸zgD P)
  rw [←ewh,←ewl,←eph,←epl,zbS,zbS,hcv] at this
  rw [←ewh,←ewl,←eph,←epl];exact this
 have HSH:Hid (∀X,Calls Tryz.prog 264 #[.agg #[.int .u64 (wh:Nat),.int .u64 (wl:Nat),.int .i64 (n:Nat)],.agg #[.int .u64 (ph:Nat),.int .u64 (pl:Nat),.int .i64 (k:Nat)]] X fun e w'=>e= .returned (.agg #[.int .u64 (sh:Nat),.int .u64 (sl:Nat),.int .i64 (m:Nat)])∧Below X.heap.size X w'):=fun X=>by
  have:=z4P wh wl n ph pl k X (ewh▸zfW hW) (ewl▸zgD W) (eph▸zfW hP) (epl▸zgD P) hn hk
  rw [←ewh,←ewl,←eph,←epl,zbS,zbS,hm] at this
  rw [←ewh,←ewl,←eph,←epl,←esh,←esl];exact this
 have HBT:Hid (∀β,bitZ W m=β→ ∀X,Calls Tryz.prog 263 #[.agg #[.int .u64 (wh:Nat),.int .u64 (wl:Nat),.int .i64 (n:Nat)],.int .i64 (m:Nat)] X fun e w'=>e= .returned (.int .i64 β)∧Below X.heap.size X w'):=fun β hbit X=>by
  have:=zsT wh wl n m X (ewh▸zfW hW) (ewl▸zgD W)
  rw [←ewh,←ewl,zbS,hbit] at this
  rw [←ewh,←ewl];exact this
 have HROW:Hid (w.heap[b]? =some (.cells #[.int .u64 (wh:Nat),.int .u64 (wl:Nat),.int .i64 (n:Nat),.int .i64 u,.bool h,l.ptr,r.ptr] 269)):=by
  have:=hin.1;unfold zjC at this;rw [ewh,ewl] at this;exact this
 have HAROW:Hid (∀x y,zjC (ofW P m) m 0 false x y= #[.int .u64 (sh:Nat),.int .u64 (sl:Nat),.int .i64 (m:Nat),.int .i64 0,.bool false,x,y]):=fun x y=>by
  unfold zjC;rw [esh,esl]
 have HOK:Hid (ofW P m<2^128∧m≤128∧rt (ofW P m) m):=⟨hS,hm2,zsE P m⟩
 have HIN:=Lib.hid hin
 have HD:=Lib.hid hd
 have hlt:=zaC hin.1
 have HBX:=Lib.hid (HT.in_lt hin)
 show Calls Tryz.prog 252 #[.pointer (some ⟨b,0,none⟩),.agg #[.int .u64 (hiN P:Nat),.int .u64 (loN P:Nat),.int .i64 (k:Nat)],.int .i64 v] w _
 have HA':Hid (∀(ga:Nat) X,HT.In X (A ga)→(HT.blocks (A ga)).Nodup→Calls Tryz.prog 252 #[.pointer (some ⟨ga,0,none⟩),.agg #[.int .u64 (ph:Nat),.int .u64 (pl:Nat),.int .i64 (k:Nat)],.int .i64 v] X (RetT X (A ga) tA)):=by
  have:=HA.out
  rw [show pfW P (k:Nat)= .agg #[.int .u64 (ph:Nat),.int .u64 (pl:Nat),.int .i64 (k:Nat)] from by unfold pfW pfV;rw [eph,epl]] at this
  exact this
 rw [eph,epl]
 clear HA
 have HA:=Lib.hid HA'.out
 have HCELLS:Hid (∀X:World,X.heap[b]? =some (.cells #[.int .u64 (wh:Nat),.int .u64 (wl:Nat),.int .i64 (n:Nat),.int .i64 u,.bool h,l.ptr,r.ptr] 269)→(X.cell? ⟨b,0,none⟩=some (.int .u64 (wh:Nat))∧X.cell? ⟨b,1,none⟩=some (.int .u64 (wl:Nat))∧X.cell? ⟨b,2,none⟩=some (.int .i64 (n:Nat)))):=fun X hX=>⟨zaD hX 0,zaD hX 1,zaD hX 2⟩
 obtain ⟨c0,c1,c2⟩:=HCELLS.out w HROW.out
 clear hin hd hW ewh ewl eph epl esh esl hne hne2 hcv hP hm hS hn hk hm2 HA'
 go_enter Tryz.func252,Tryz.ntmps252
 go_wp2
 go_quiet (fail)
 go_wp2
 have hx1:Below w.heap.size w ((w.alloc (.cells #[.int .u64 (ph:Nat),.int .u64 (pl:Nat),.int .i64 (k:Nat)] 235)).drewN nq):=((Below.refl _ _).alloc (Nat.le_refl _) _).trans zdI
 have HB1:Hid (((w.alloc (.cells #[.int .u64 (ph:Nat),.int .u64 (pl:Nat),.int .i64 (k:Nat)] 235)).drewN nq).heap[w.heap.size]? =some (.cells #[.int .u64 (ph:Nat),.int .u64 (pl:Nat),.int .i64 (k:Nat)] 235)):=Go.Deep.blk_alloc_new _ _
 generalize (w.alloc (.cells #[.int .u64 (ph:Nat),.int .u64 (pl:Nat),.int .i64 (k:Nat)] 235)).drewN nq=x1 at*
 have HN1:Hid (x1.heap[b]? =_):=(hx1.block b hlt).trans HROW.out
 have HK1:Hid (∀X,Below x1.heap.size x1 X→(fun W=>(W.cell? ⟨b,0,none⟩=some (.int .u64 (wh:Nat))∧W.cell? ⟨b,1,none⟩=some (.int .u64 (wl:Nat))∧W.cell? ⟨b,2,none⟩=some (.int .i64 (n:Nat)))∧(W.cell? ⟨w.heap.size,0,none⟩=some (.int .u64 (ph:Nat))∧W.cell? ⟨w.heap.size,1,none⟩=some (.int .u64 (pl:Nat))∧W.cell? ⟨w.heap.size,2,none⟩=some (.int .i64 (k:Nat)))) X):=fun X hX=>
  ⟨HCELLS.out X ((hX.block b (zaC HN1.out)).trans HN1.out),(row3 ((hX.block w.heap.size (zaC HB1.out)).trans HB1.out)).1⟩
 clear c0 c1 c2
 go_region_held3 (fun W=>(W.cell? ⟨b,0,none⟩=some (.int .u64 (wh:Nat))∧W.cell? ⟨b,1,none⟩=some (.int .u64 (wl:Nat))∧W.cell? ⟨b,2,none⟩=some (.int .i64 (n:Nat)))∧(W.cell? ⟨w.heap.size,0,none⟩=some (.int .u64 (ph:Nat))∧W.cell? ⟨w.heap.size,1,none⟩=some (.int .u64 (pl:Nat))∧W.cell? ⟨w.heap.size,2,none⟩=some (.int .i64 (k:Nat))))
  (first|exact HK1.out _ (Below.refl _ _).drew|exact HK1.out _ (zbZ hy2))
  (first
   |(go_simp;go_at_call 262;((with_reducible refine (HCV.out _).mono ?_);rintro e x2 ⟨rfl,hy2⟩)))
 go_wp2
 have hk2:Below x1.heap.size x1 x2:=zbZ hy2
 clear hy2
 refine wp_region_held_drew (S:=fun W=>(W.cell? ⟨b,0,none⟩=some (.int .u64 (wh:Nat))∧W.cell? ⟨b,1,none⟩=some (.int .u64 (wl:Nat))∧W.cell? ⟨b,2,none⟩=some (.int .i64 (n:Nat)))∧(W.cell? ⟨w.heap.size,0,none⟩=some (.int .u64 (ph:Nat))∧W.cell? ⟨w.heap.size,1,none⟩=some (.int .u64 (pl:Nat))∧W.cell? ⟨w.heap.size,2,none⟩=some (.int .i64 (k:Nat)))) (by kernel_rfl) ?_ (fun hHeld=> ?_)
 ·exact HK1.out _ hk2.drew
 refine tkX 0 (some 60) (v:= ?_) rfl (.inl ⟨by rfl,?_⟩) hHeld ?_;rotate_left;·intro w hSw;(try dsimp only at hSw);go_simp;try with_reducible rfl
 try simp only [Act.put,tkXa,tkXb,tkXc]
 refine tkX 1 (some 61) (v:= ?_) rfl (.inl ⟨by rfl,?_⟩) hHeld ?_;rotate_left;·intro w hSw;(try dsimp only at hSw);go_simp;try with_reducible rfl
 try simp only [Act.put,tkXa,tkXb,tkXc]
 refine tkX 2 (some 62) (v:= ?_) rfl (.inl ⟨by rfl,?_⟩) hHeld ?_;rotate_left;·intro w hSw;(try dsimp only at hSw);go_simp;try with_reducible rfl
 try simp only [Act.put,tkXa,tkXb,tkXc]
 refine tkX 3 (some 63) (v:= ?_) rfl (.inl ⟨by rfl,?_⟩) hHeld ?_;rotate_left;·intro w hSw;(try dsimp only at hSw);go_simp;try with_reducible rfl
 try simp only [Act.put,tkXa,tkXb,tkXc]
 refine tkX 4 (some 64) (v:= ?_) rfl (.inl ⟨by rfl,?_⟩) hHeld ?_;rotate_left;·intro w hSw;(try dsimp only at hSw);go_simp;try with_reducible rfl
 try simp only [Act.put,tkXa,tkXb,tkXc]
 refine wpAnyH_ready (rs:=[5]) (by kernel_rfl) (by simp) ?_
 refine AllReadyH.cons (o:=⟨some 65,_,_,_,_,_⟩) rfl (fun K hK=> ?_) AllReadyH.nil
 go_simp
 go_at_call 264
 refine (HSH.out _).mono ?_
 rintro e x3 ⟨rfl,hy3⟩
 (try go_wp2_with fail)
 refine hK.out _ _ ?_ (fun hHeld1=> ?_)
 ·exact HK1.out _ (zaA hk2 (zbZ hy3))
 clear hK K
 try simp only [Act.put,tkXa,tkXb,tkXc]
 refine tkX 6 (some 66) (v:= ?_) rfl (.inl ⟨by rfl,?_⟩) hHeld1 ?_;rotate_left;·intro w hSw;(try dsimp only at hSw);go_simp;try with_reducible rfl
 try simp only [Act.put,tkXa,tkXb,tkXc]
 refine wpAnyH_ready (rs:=[7]) (by kernel_rfl) (by simp) ?_
 refine AllReadyH.cons (o:=⟨some 67,_,_,_,_,_⟩) rfl (fun K hK=> ?_) AllReadyH.nil
 go_simp
 refine hK.out _ _ ?_ (fun hHeld2=> ?_)
 ·exact HK1.out _ ((zaA hk2 (zbZ hy3)).alloc (zaA hk2 (zbZ hy3)).size _)
 clear hK K
 try simp only [Act.put,tkXa,tkXb,tkXc]
 refine tkX 8 (some 8) (v:= ?_) rfl (.inl ⟨by rfl,?_⟩) hHeld2 ?_;rotate_left;·intro w hSw;(try dsimp only at hSw);go_simp;try with_reducible rfl
 try simp only [Act.put,tkXa,tkXb,tkXc]
 refine wpAnyH_done (by kernel_rfl) ?_ _
 go_wp2
 have hk3:Below x1.heap.size x1 x3:=zaA hk2 (zbZ hy3)
 have hx3:Below w.heap.size w x3:=zaA hx1 hk3
 have hlt3:b<x3.heap.size:=Nat.lt_of_lt_of_le hlt hx3.size
 have hw3:w.heap.size<x3.heap.size:=Nat.lt_of_lt_of_le (zaC HB1.out) hk3.size
 have HN3:Hid ((x3.alloc (.cells #[.int .u64 (sh:Nat),.int .u64 (sl:Nat),.int .i64 (m:Nat),.int .i64 0,.bool false,.pointer none,.pointer none] 269)).heap[b]? =_):=((hk3.alloc hk3.size _).block b (zaC HN1.out)).trans HN1.out
 have HAR:Hid ((x3.alloc (.cells #[.int .u64 (sh:Nat),.int .u64 (sl:Nat),.int .i64 (m:Nat),.int .i64 0,.bool false,.pointer none,.pointer none] 269)).heap[x3.heap.size]? =some (.cells #[.int .u64 (sh:Nat),.int .u64 (sl:Nat),.int .i64 (m:Nat),.int .i64 0,.bool false,.pointer none,.pointer none] 269)):=Go.Deep.blk_alloc_new _ _
 have HB3:Hid ((x3.alloc (.cells #[.int .u64 (sh:Nat),.int .u64 (sl:Nat),.int .i64 (m:Nat),.int .i64 0,.bool false,.pointer none,.pointer none] 269)).heap[w.heap.size]? =_):=((hk3.alloc hk3.size _).block w.heap.size (zaC HB1.out)).trans HB1.out
 have hx4:Below w.heap.size w (x3.alloc (.cells #[.int .u64 (sh:Nat),.int .u64 (sl:Nat),.int .i64 (m:Nat),.int .i64 0,.bool false,.pointer none,.pointer none] 269)):=hx3.alloc hx3.size _
 have HK2:Hid (∀X,Below (x3.alloc (.cells #[.int .u64 (sh:Nat),.int .u64 (sl:Nat),.int .i64 (m:Nat),.int .i64 0,.bool false,.pointer none,.pointer none] 269)).heap.size (x3.alloc (.cells #[.int .u64 (sh:Nat),.int .u64 (sl:Nat),.int .i64 (m:Nat),.int .i64 0,.bool false,.pointer none,.pointer none] 269)) X→(fun W=>(W.cell? ⟨b,0,none⟩=some (.int .u64 (wh:Nat))∧W.cell? ⟨b,1,none⟩=some (.int .u64 (wl:Nat))∧W.cell? ⟨b,2,none⟩=some (.int .i64 (n:Nat)))∧W.cell? ⟨x3.heap.size,2,none⟩=some (.int .i64 (m:Nat))) X):=fun X hX=>
  ⟨HCELLS.out X ((hX.block b (zaC HN3.out)).trans HN3.out),zaD ((hX.block _ (zaC HAR.out)).trans HAR.out) 2⟩
 have HR4:Hid (∀X,Below (x3.alloc (.cells #[.int .u64 (sh:Nat),.int .u64 (sl:Nat),.int .i64 (m:Nat),.int .i64 0,.bool false,.pointer none,.pointer none] 269)).heap.size (x3.alloc (.cells #[.int .u64 (sh:Nat),.int .u64 (sl:Nat),.int .i64 (m:Nat),.int .i64 0,.bool false,.pointer none,.pointer none] 269)) X→X.heap[x3.heap.size]? =some (.cells #[.int .u64 (sh:Nat),.int .u64 (sl:Nat),.int .i64 (m:Nat),.int .i64 0,.bool false,.pointer none,.pointer none] 269)):=fun X hX=>(hX.block _ (zaC HAR.out)).trans HAR.out
 have HKS:Hid (∀(X:World) (o:Nat),o≠2→ ∀{v:Value},(fun W=>(W.cell? ⟨b,0,none⟩=some (.int .u64 (wh:Nat))∧W.cell? ⟨b,1,none⟩=some (.int .u64 (wl:Nat))∧W.cell? ⟨b,2,none⟩=some (.int .i64 (n:Nat)))∧W.cell? ⟨x3.heap.size,2,none⟩=some (.int .i64 (m:Nat))) X→(fun W=>(W.cell? ⟨b,0,none⟩=some (.int .u64 (wh:Nat))∧W.cell? ⟨b,1,none⟩=some (.int .u64 (wl:Nat))∧W.cell? ⟨b,2,none⟩=some (.int .i64 (n:Nat)))∧W.cell? ⟨x3.heap.size,2,none⟩=some (.int .i64 (m:Nat))) (X.setCell ⟨x3.heap.size,o,none⟩ v)):=fun X o ho v hX=>by
  have e: ∀i,(X.setCell ⟨x3.heap.size,o,none⟩ v).cell? ⟨b,i,none⟩=X.cell? ⟨b,i,none⟩:=fun i=>World.cell?_of_block (w:=X) (zbD (by show b≠x3.heap.size;omega) _ _)
  have e2:(X.setCell ⟨x3.heap.size,o,none⟩ v).cell? ⟨x3.heap.size,2,none⟩=X.cell? ⟨x3.heap.size,2,none⟩:=World.cell?_setCell_other _ _ _ _ (by intro q;have:=congrArg Addr.off q;simp at this;omega)
  show ((X.setCell ⟨x3.heap.size,o,none⟩ v).cell? ⟨b,0,none⟩=some (.int .u64 (wh:Nat))∧(X.setCell ⟨x3.heap.size,o,none⟩ v).cell? ⟨b,1,none⟩=some (.int .u64 (wl:Nat))∧(X.setCell ⟨x3.heap.size,o,none⟩ v).cell? ⟨b,2,none⟩=some (.int .i64 (n:Nat)))∧_
  refine ⟨?_,?_⟩
  ·rw [e,e,e];exact hX.1
  ·exact e2.trans hX.2
 generalize hgx:x3.alloc (.cells #[.int .u64 (sh:Nat),.int .u64 (sl:Nat),.int .i64 (m:Nat),.int .i64 0,.bool false,.pointer none,.pointer none] 269)=y3 at*
 clear hy3 hk2 hk3 hgx
 rcases hA with ⟨hbit,rfl⟩|⟨hbit,rfl⟩
 all_goals
  have HBT:=Lib.hid (HBT.out _ hbit)
  clear hbit
  try dsimp only at HA
  refine wp_region_held_drew (S:=fun W=>(W.cell? ⟨b,0,none⟩=some (.int .u64 (wh:Nat))∧W.cell? ⟨b,1,none⟩=some (.int .u64 (wl:Nat))∧W.cell? ⟨b,2,none⟩=some (.int .i64 (n:Nat)))∧W.cell? ⟨x3.heap.size,2,none⟩=some (.int .i64 (m:Nat))) (by kernel_rfl) ?_ (fun hHeld=> ?_)
  ·exact HK2.out _ (Below.refl _ _).drew
  refine tkX 0 (some 68) (v:= ?_) rfl (.inl ⟨by rfl,?_⟩) hHeld ?_;rotate_left;·intro w hSw;(try dsimp only at hSw);go_simp;try with_reducible rfl
  try simp only [Act.put,tkXa,tkXb,tkXc]
  refine tkX 1 (some 69) (v:= ?_) rfl (.inl ⟨by rfl,?_⟩) hHeld ?_;rotate_left;·intro w hSw;(try dsimp only at hSw);go_simp;try with_reducible rfl
  try simp only [Act.put,tkXa,tkXb,tkXc]
  refine tkX 2 (some 70) (v:= ?_) rfl (.inl ⟨by rfl,?_⟩) hHeld ?_;rotate_left;·intro w hSw;(try dsimp only at hSw);go_simp;try with_reducible rfl
  try simp only [Act.put,tkXa,tkXb,tkXc]
  refine tkX 3 (some 71) (v:= ?_) rfl (.inl ⟨by rfl,?_⟩) hHeld ?_;rotate_left;·intro w hSw;(try dsimp only at hSw);go_simp;try with_reducible rfl
  try simp only [Act.put,tkXa,tkXb,tkXc]
  refine tkX 4 (some 72) (v:= ?_) rfl (.inl ⟨by rfl,?_⟩) hHeld ?_;rotate_left;·intro w hSw;(try dsimp only at hSw);go_simp;try with_reducible rfl
  try simp only [Act.put,tkXa,tkXb,tkXc]
  refine tkX 5 (some 73) (v:= ?_) rfl (.inl ⟨by rfl,?_⟩) hHeld ?_;rotate_left;·intro w hSw;(try dsimp only at hSw);go_simp;try with_reducible rfl
  try simp only [Act.put,tkXa,tkXb,tkXc]
  refine tkX 6 (some 74) (v:= ?_) rfl (.inl ⟨by rfl,?_⟩) hHeld ?_;rotate_left;·intro w hSw;(try dsimp only at hSw);go_simp;try with_reducible rfl
  try simp only [Act.put,tkXa,tkXb,tkXc]
  refine tkX 7 (some 75) (v:= ?_) rfl (.inl ⟨by rfl,?_⟩) hHeld ?_;rotate_left;·intro w hSw;(try dsimp only at hSw);go_simp;try with_reducible rfl
  try simp only [Act.put,tkXa,tkXb,tkXc]
  refine tkX 8 (some 76) (v:= ?_) rfl (.inl ⟨by rfl,?_⟩) hHeld ?_;rotate_left;·intro w hSw;(try dsimp only at hSw);go_simp;try with_reducible rfl
  try simp only [Act.put,tkXa,tkXb,tkXc]
  refine tkX 9 (some 77) (v:= ?_) rfl (.inl ⟨by rfl,?_⟩) hHeld ?_;rotate_left;·intro w hSw;(try dsimp only at hSw);go_simp;try with_reducible rfl
  try simp only [Act.put,tkXa,tkXb,tkXc]
  refine tkX 11 (some 79) (v:= ?_) rfl (.inl ⟨by rfl,?_⟩) hHeld ?_;rotate_left;·intro w hSw;(try dsimp only at hSw);go_simp;try with_reducible rfl
  try simp only [Act.put,tkXa,tkXb,tkXc]
  refine tkX 12 (some 80) (v:= ?_) rfl (.inl ⟨by rfl,?_⟩) hHeld ?_;rotate_left;·intro w hSw;(try dsimp only at hSw);go_simp;try with_reducible rfl
  try simp only [Act.put,tkXa,tkXb,tkXc]
  refine tkX 13 (some 81) (v:= ?_) rfl (.inl ⟨by rfl,?_⟩) hHeld ?_;rotate_left;·intro w hSw;(try dsimp only at hSw);go_simp;try with_reducible rfl
  try simp only [Act.put,tkXa,tkXb,tkXc]
  refine wpAnyH_ready (rs:=[10]) (by kernel_rfl) (by simp) ?_
  refine AllReadyH.cons (o:=⟨some 78,_,_,_,_,_⟩) rfl (fun K hK=> ?_) AllReadyH.nil
  go_simp
  go_at_call 263
  refine (HBT.out _).mono ?_
  rintro e x4 ⟨rfl,hy4⟩
  have r4:=HR4.out _ (zbZ hy4)
  have c4:=zaD r4 5
  have f4:=zaK r4 5
  have c5:=zaD r4 6
  have f5:=zaK r4 6
  (try go_wp2_with fail)
  refine hK.out _ _ ?_ (fun hHeld1=> ?_)
  ·exact HK2.out _ (zbZ hy4)
  clear hK K
  try simp only [Act.put,tkXa,tkXb,tkXc]
  refine tkX 14 (some 82) (v:= ?_) rfl (.inl ⟨by rfl,?_⟩) hHeld1 ?_;rotate_left;·intro w hSw;(try dsimp only at hSw);go_simp;try with_reducible rfl
  try simp only [Act.put,tkXa,tkXb,tkXc]
  refine wpAnyH_ready (rs:=[15]) (by kernel_rfl) (by simp) ?_
  refine AllReadyH.cons (o:=⟨none,_,_,_,_,_⟩) rfl (fun K hK=> ?_) AllReadyH.nil
  go_simp
  refine hK.out _ _ ?_ (fun hHeld2=> ?_)
  ·exact HKS.out _ _ (by decide) (HK2.out _ (zbZ hy4))
  clear hK K
  try simp only [Act.put,tkXa,tkXb,tkXc]
  refine wpAnyH_done (by kernel_rfl) ?_ _
  have hy5:Below y3.heap.size y3 x4:=zbZ hy4
  have HB5:Hid (x4.heap[w.heap.size]? =_):=(hy5.block _ (zaC HB3.out)).trans HB3.out
  have HB6:Hid (∀o,(x4.setCell ⟨x3.heap.size,o,none⟩ (.pointer (some ⟨b,0,none⟩))).heap[w.heap.size]? =_):=fun o=>(zbD (by omega) _ _).trans HB5.out
  have hx5:Hid (∀o,Below w.heap.size w (x4.setCell ⟨x3.heap.size,o,none⟩ (.pointer (some ⟨b,0,none⟩)))):=fun o=>(zaA hx4 hy5).setCell (Nat.le_of_lt hw3) _
  have HAI:Hid (∀o,HT.In (x4.setCell ⟨x3.heap.size,o,none⟩ (.pointer (some ⟨b,0,none⟩))) (.node b W n u h l r)):=fun o=>HT.in_below HIN.out (hx5.out o)
  obtain ⟨e0,e1,e2⟩:=(row3 (HB6.out 5)).1
  obtain ⟨e3,e4,e5⟩:=(row3 (HB6.out 6)).1
  clear hy4 c4 f4 c5 f5
  go_wp2_with fail
  refine (HA.out _ _ ?_ ?_).mono ?_
  ·refine ⟨?_,HOK.out,?_⟩
   ·rw [HAROW.out,zaP r4];rfl
   ·first|exact ⟨HAI.out _,trivial⟩|exact ⟨trivial,HAI.out _⟩
  ·first
    |exact zmU (fun g=>absurd (HBX.out _ g) (by omega)) (by intro g;cases g) HD.out List.nodup_nil (fun x _ g=>by cases g)
    |exact zmU (by intro g;cases g) (fun g=>absurd (HBX.out _ g) (by omega)) List.nodup_nil HD.out (fun x g _=>by cases g)
  rintro e x7 ⟨T',rfl,hw,ht⟩
  go_wp2
  go_ret
  refine ⟨T',rfl,z0C hw (hx5.out _) (fun x hx=> ?_),ht⟩
  rcases List.mem_cons.1 hx with g|g
  ·exact .inr (by rw [g];omega)
  ·rcases List.mem_append.1 g with g|g<;>first|exact .inl g|cases g
theorem zmQ (P k:Nat) (v:Int) (hP:P<2^128) (hk:k≤128) (hr:rt P k): ∀(T:HT) (w:World),T.In w→T.blocks.Nodup→
  Calls Tryz.prog 252 #[T.ptr,pfW P (k:Nat),.int .i64 v] w (RetT w T (T.pt.put P k v))
 | .nil,w,_,_=>zsZ P k v w hP hk hr
 | .node b W n u h l r,w,hin,hd=>by
  obtain ⟨d1,d2,d3,d4,d5⟩:=zeY hd
  show Calls Tryz.prog 252 #[(HT.node b W n u h l r).ptr,pfW P (k:Nat),.int .i64 v] w (RetT w _ ((PT.node W n u h l.pt r.pt).put P k v))
  unfold PT.put
  by_cases e:W=P∧n=k
  ·rw [if_pos e]
   obtain ⟨rfl,rfl⟩:=e
   exact zsU b W n u v h l r w hin hd
  rw [if_neg e]
  by_cases c:zbW W n P k=true
  ·rw [if_pos c]
   rcases zkK P n with b0|b0
   ·rw [if_pos b0]
    exact zjZ b W n P k u v h l r l _ _ w hin hd hP e c (.inl ⟨b0,rfl,rfl⟩) (fun X hX=>zmQ P k v hP hk hr l X (HT.in_below hin.2.2.1 hX) d3)
   ·rw [if_neg (by omega)]
    exact zjZ b W n P k u v h l r r _ _ w hin hd hP e c (.inr ⟨b0,rfl,rfl⟩) (fun X hX=>zmQ P k v hP hk hr r X (HT.in_below hin.2.2.2 hX) d4)
  ·rw [if_neg c]
   have c':zbW W n P k=false:=by simpa using c
   have hW:=hin.2.1
   have hq:qt W 0=qt P 0:=by rw [zxE hW.1,zxE hP]
   obtain ⟨p1,p2,p3,p4⟩:=ydB hq hW.2.1 hW.2.2 hk hr c
   obtain ⟨m,hm⟩: ∃m,zbM W n P k=m:=⟨_,rfl⟩
   rw [hm] at p1 p2 p3 p4 ⊢
   have hm8:m<128:=by omega
   have hbW:=zfV W m hm8
   have hbP:=zfV P m hm8
   have b2:=zcX W m
   have b3:=zcX P m
   by_cases e2:m=k
   ·rw [if_pos e2]
    have hS:ofW P m=P:=by rw [e2];exact z2J ⟨hk,hr⟩
    rcases zkK W k with b0|b0
    ·rw [if_pos b0]
     refine zkY b W n P k m u v h l r _ _ w hin hd hP hk e c' hm (by omega) (.inl ⟨by rw [e2];exact b0,rfl⟩) (fun ga X h1 h2=> ?_)
     rw [hS,e2] at h1 h2 ⊢
     exact zsU ga P k 0 v false _ _ X h1 h2
    ·rw [if_neg (by omega)]
     refine zkY b W n P k m u v h l r _ _ w hin hd hP hk e c' hm (by omega) (.inr ⟨by rw [e2];exact b0,rfl⟩) (fun ga X h1 h2=> ?_)
     rw [hS,e2] at h1 h2 ⊢
     exact zsU ga P k 0 v false _ _ X h1 h2
   ·rw [if_neg e2]
    have hne:=p4 (by omega)
    have hcS:zbW (ofW P m) m P k=true:=zdN.2 ⟨⟨by omega,zsE _ _⟩,⟨hk,hr⟩,by omega,ztS _ _⟩
    rcases zkK W m with b0|b0
    ·rw [if_pos b0]
     refine zkY b W n P k m u v h l r _ _ w hin hd hP hk e c' hm (by omega) (.inl ⟨b0,rfl⟩) (fun ga X h1 h2=> ?_)
     exact zjZ ga (ofW P m) m P k 0 v false _ .nil .nil (PT.leaf P k v) _ X h1 h2 hP (fun q=>e2 q.2) hcS (.inr ⟨by omega,rfl,rfl⟩) (fun Y _=>zsZ P k v Y hP hk hr)
    ·rw [if_neg (by omega)]
     refine zkY b W n P k m u v h l r _ _ w hin hd hP hk e c' hm (by omega) (.inr ⟨b0,rfl⟩) (fun ga X h1 h2=> ?_)
     exact zjZ ga (ofW P m) m P k 0 v false .nil _ .nil (PT.leaf P k v) _ X h1 h2 hP (fun q=>e2 q.2) hcS (.inl ⟨by omega,rfl,rfl⟩) (fun Y _=>zsZ P k v Y hP hk hr)
end

section
open Go.RowKit
theorem zdT.left {w w':World} {T l r:HT} {b W n:Nat} {u:Int} {h:Bool} (hw:zdT w w' T (.node b W n u h l r)):zdT w w' T l:=
 ⟨hw.lies.2.2.1,(zeY hw.once).2.2.1,fun x hx=>hw.sub x (List.mem_cons_of_mem _ (List.mem_append_left _ hx)),hw.only⟩
theorem zdT.right {w w':World} {T l r:HT} {b W n:Nat} {u:Int} {h:Bool} (hw:zdT w w' T (.node b W n u h l r)):zdT w w' T r:=
 ⟨hw.lies.2.2.2,(zeY hw.once).2.2.2.1,fun x hx=>hw.sub x (List.mem_cons_of_mem _ (List.mem_append_right _ hx)),hw.only⟩
end

section
open Go.RowKit
theorem zpI (u v:Array Value): ∀(p q:Operand) (W:World),(eqGuard .neq 235 p q (.agg u) (.agg v)).run Tryz.prog W= .ok () W:=by
 intro p q W;kernel_rfl
theorem neqPf (a b c a' b' c':Int): ∀W:World,(binOp .neq 235 (.agg #[.int .u64 a,.int .u64 b,.int .i64 c]) (.agg #[.int .u64 a',.int .u64 b',.int .i64 c'])).run Tryz.prog W= .ok (.bool (!(a==a'&&(b==b'&&c==c')))) W:=by
 intro W
 have e1:(Op.equal 235 (.agg #[.int .u64 a,.int .u64 b,.int .i64 c]) (.agg #[.int .u64 a',.int .u64 b',.int .i64 c'])).run Tryz.prog W= .ok (a==a'&&(b==b'&&c==c')) W:=by
  show (Op.equalIn 10000 235 _ _).run Tryz.prog W=_
  rw [run_equalIn_struct W 9999 235 _ _ (by kernel_rfl) (by kernel_rfl)]
  simp [Program.fieldsOf,Tryz.underlying235,Op.eqFields,go_sem,part,Tryz.sizeOf31,Tryz.isAgg31,Tryz.underlying31,Tryz.sizeOf3,Tryz.isAgg3,Tryz.underlying3]
  by_cases g1:a=a'<;>by_cases g2:b=b'<;>by_cases g3:c=c'<;>simp [g1,g2,g3]
 show ((Op.equal _ _ _>>=fun b=>pure (Value.bool (!b))):Sem Value).run _ _=_
 rw [Sem.run_bind,e1];rfl
/-- a trie in memory:its own block,and its tree -/
structure zdB (w:World) (g:Nat) (T:HT):Prop where
 own:w.heap[g]? =some (.cells #[T.ptr,.int .i64 (T.pt.list.length:Nat)] 250)
 lies:T.In w
 once:(g::T.blocks).Nodup
 inv:T.pt.Inv 0 0
def HT.size:HT→Nat
 | .nil=>0
 | .node _ _ _ _ _ l r=>l.size+r.size+1
def RetG (w:World) (x:Option Int) (e:Ending) (w':World):Prop:=e= .returned (.tuple #[.int .i64 (x.getD 0),.bool x.isSome])∧Below w.heap.size w w'
theorem yaH (g:Nat) (T:HT) (hi lo:Nat) (k:Int) (w:World) (ht:zdB w g T) (h1:hi<18446744073709551616) (h2:lo<18446744073709551616):
  Calls Tryz.prog 251 #[.pointer (some ⟨g,0,none⟩),.agg #[.int .u64 (hi:Nat),.int .u64 (lo:Nat),.int .i64 k]] w (RetG w (T.pt.get (zaH hi lo) k)):=by
 obtain ⟨x,hx⟩: ∃x,T.pt.get (zaH hi lo) k=x:=⟨_,rfl⟩
 rw [hx]
 have HX:=Lib.hid hx
 have HTIN:=Lib.hid ht.lies
 have g0:w.cell? ⟨g,0,none⟩=some T.ptr:=zaD ht.own 0
 have hgl:=zaC ht.own
 obtain ⟨uT,huT⟩:=HT.ptr_form T
 have HUT:=Lib.hid huT
 rw [huT] at g0
 clear ht hx huT
 go_enter Tryz.func251,Tryz.ntmps251
 go_wp2
 go_loopg [6] (T.size) (fun gk p wr=> ∃T':HT,p=T'.ptr∧T'.size=gk∧Below w.heap.size w wr∧Hid (wr.heap[w.heap.size]? =some (.cells #[.int .u64 (hi:Nat),.int .u64 (lo:Nat),.int .i64 k] 235))∧Hid (T'.In wr)∧Hid (T'.pt.get (zaH hi lo) k=x))
 case atStart=>exact ⟨T,HUT.out.symm,rfl,(Below.refl _ _).alloc (Nat.le_refl _) _,Go.Deep.blk_alloc_new _ _,HT.in_below HTIN.out ((Below.refl _ _).alloc (Nat.le_refl _) _),HX.out⟩
 case round=>
  clear g0 hgl HTIN HUT HX
  obtain ⟨T',rfl,rfl,hc,HB,HI,HG⟩:=hrel
  obtain ⟨p0,p1,p2⟩:=(row3 HB.out).1
  cases T' with
  |nil=>
   have HE:Hid (x=none):=HG.out.symm
   simp only [HT.ptr]
   go_wp2
   go_quiet (fail)
   go_wp2
   go_quiet (fail)
   go_wp2
   go_ret2
   exact ⟨by rw [HE.out];rfl,(by first|exact hc.trans zdI|exact (hc.trans zdI).trans zdI)⟩
  |node b W n u h l r=>
   have hok:=HI.out.2.1
   obtain ⟨wh,ewh⟩: ∃y,hiN W=y:=⟨_,rfl⟩
   obtain ⟨wl,ewl⟩: ∃y,loN W=y:=⟨_,rfl⟩
   obtain ⟨⟨c0,c1,c2⟩,c3,c4,c5,c6⟩:=zcT HI.out.1
   rw [ewh] at c0
   rw [ewl] at c1
   have bw1:wh<18446744073709551616:=ewh▸zfW hok.1
   have bw2:wl<18446744073709551616:=ewl▸zgD W
   have hWw:zaH wh wl=W:=by rw [←ewh,←ewl,zbS]
   have hGe:(if W=zaH hi lo∧(n:Int)=k then (if h=true then some u else none) else if zbW W n (zaH hi lo) k=true then (if bitZ (zaH hi lo) n=0 then l.pt.get (zaH hi lo) k else r.pt.get (zaH hi lo) k) else none)=x:=HG.out
   by_cases e:W=zaH hi lo∧(n:Int)=k
   ·have ev:((wh:Int)==hi&&((wl:Int)==lo&&(n:Int)==k))=true:=by
     obtain ⟨q1,q2⟩:=e
     rw [q1,zeS h2] at ewh
     rw [q1,zfY h2] at ewl
     simp only [Bool.and_eq_true,beq_iff_eq]
     exact ⟨by omega,by omega,q2⟩
    have hne:=neqPf wh wl n hi lo k
    rw [ev] at hne
    simp only [Bool.not_true] at hne
    have hg:=zpI
    rw [if_pos e] at hGe
    have HE:=Lib.hid hGe
    clear hGe e ewh ewl ev hok hWw
    simp only [HT.ptr]
    cases h with
    |true=>
     go_wp2
     go_quiet (fail)
     go_wp2
     go_quiet (fail)
     go_wp2
     go_ret2
     exact ⟨by rw [←HE.out];rfl,(by first|exact hc.trans zdI|exact (hc.trans zdI).trans zdI)⟩
    |false=>
     go_wp2
     go_quiet (fail)
     go_wp2
     go_quiet (fail)
     go_wp2
     go_ret2
     exact ⟨by rw [←HE.out];rfl,(by first|exact hc.trans zdI|exact (hc.trans zdI).trans zdI)⟩
   ·have ev:((wh:Int)==hi&&((wl:Int)==lo&&(n:Int)==k))=false:=by
     rw [Bool.eq_false_iff]
     intro q
     simp only [Bool.and_eq_true,beq_iff_eq] at q
     exact e ⟨by rw [←hWw,show wh=hi from by omega,show wl=lo from by omega],q.2.2⟩
    have hne:=neqPf wh wl n hi lo k
    rw [ev] at hne
    simp only [Bool.not_false] at hne
    have hg:=zpI
    rw [if_neg e] at hGe
    obtain ⟨ul,hul⟩:=HT.ptr_form l
    obtain ⟨ur,hur⟩:=HT.ptr_form r
    have HUL:=Lib.hid hul
    have HUR:=Lib.hid hur
    rw [hul] at c5
    rw [hur] at c6
    have HK:Hid (∀X,Below wr.heap.size wr X→(fun W=>((W.cell? ⟨b,0,none⟩=some (.int .u64 (wh:Nat))∧W.cell? ⟨b,1,none⟩=some (.int .u64 (wl:Nat))∧W.cell? ⟨b,2,none⟩=some (.int .i64 (n:Nat)))∧W.cell? ⟨b,5,none⟩=some (.pointer ul)∧W.cell? ⟨b,6,none⟩=some (.pointer ur))∧(W.cell? ⟨w.heap.size,0,none⟩=some (.int .u64 (hi:Nat))∧W.cell? ⟨w.heap.size,1,none⟩=some (.int .u64 (lo:Nat))∧W.cell? ⟨w.heap.size,2,none⟩=some (.int .i64 k))) X):=fun X hX=>by
     have hr1:=(hX.block b (zaC HI.out.1)).trans HI.out.1
     obtain ⟨⟨q0,q1,q2⟩,q3,q4,q5,q6⟩:=zcT hr1
     rw [ewh] at q0
     rw [ewl] at q1
     rw [hul] at q5
     rw [hur] at q6
     exact ⟨⟨⟨q0,q1,q2⟩,q5,q6⟩,(row3 ((hX.block w.heap.size (zaC HB.out)).trans HB.out)).1⟩
    have HCV:Hid (∀X,Calls Tryz.prog 262 #[.agg #[.int .u64 (wh:Nat),.int .u64 (wl:Nat),.int .i64 (n:Nat)],.agg #[.int .u64 (hi:Nat),.int .u64 (lo:Nat),.int .i64 k]] X fun e w'=>e= .returned (.bool (zbW W n (zaH hi lo) k))∧Below X.heap.size X w'):=fun X=>by
     have:=zlR wh wl hi lo n k X bw1 bw2 h1 h2;rwa [hWw] at this
    have HBT:Hid (∀X,Calls Tryz.prog 263 #[.agg #[.int .u64 (hi:Nat),.int .u64 (lo:Nat),.int .i64 k],.int .i64 (n:Nat)] X fun e w'=>e= .returned (.int .i64 (bitZ (zaH hi lo) n))∧Below X.heap.size X w'):=fun X=>zsT hi lo k n X h1 h2
    have hb2:=zkK (zaH hi lo) n
    clear e ewh ewl ev hok hWw hul hur
    simp only [HT.ptr]
    cases hcv:zbW W n (zaH hi lo) k with
    |false=>
     rw [hcv] at HCV hGe
     have HE:Hid (x=none):=by rw [if_neg (by simp)] at hGe;exact hGe.symm
     clear hGe hcv hb2
     go_wp2
     go_region_held3 (fun W=>((W.cell? ⟨b,0,none⟩=some (.int .u64 (wh:Nat))∧W.cell? ⟨b,1,none⟩=some (.int .u64 (wl:Nat))∧W.cell? ⟨b,2,none⟩=some (.int .i64 (n:Nat)))∧W.cell? ⟨b,5,none⟩=some (.pointer ul)∧W.cell? ⟨b,6,none⟩=some (.pointer ur))∧(W.cell? ⟨w.heap.size,0,none⟩=some (.int .u64 (hi:Nat))∧W.cell? ⟨w.heap.size,1,none⟩=some (.int .u64 (lo:Nat))∧W.cell? ⟨w.heap.size,2,none⟩=some (.int .i64 k)))
      (first|exact HK.out _ (Below.refl _ _).drew|exact HK.out _ (zbZ hy1))
      (first|(go_simp;go_at_call 262;((with_reducible refine (HCV.out _).mono ?_);rintro e x1 ⟨rfl,hy1⟩)))
     clear p0 p1 p2 c0 c1 c2 c3 c4 c5 c6
     have hc1:=hc.trans ((zbZ hy1).mono hc.size)
     obtain ⟨⟨⟨c0,c1,c2⟩,c5,c6⟩,p0,p1,p2⟩:=HK.out _ (zbZ hy1)
     go_wp2
     go_quiet (fail)
     go_wp2
     go_ret2
     exact ⟨by rw [HE.out];rfl,hc1.trans zdI⟩
    |true=>
     rw [hcv] at HCV hGe
     rw [if_pos rfl] at hGe
     clear hcv
     rcases hb2 with hb2|hb2
     ·rw [hb2] at HBT
      rw [if_pos hb2] at hGe
      have HE:=Lib.hid hGe
      clear hGe hb2
      go_wp2
      go_region_held3 (fun W=>((W.cell? ⟨b,0,none⟩=some (.int .u64 (wh:Nat))∧W.cell? ⟨b,1,none⟩=some (.int .u64 (wl:Nat))∧W.cell? ⟨b,2,none⟩=some (.int .i64 (n:Nat)))∧W.cell? ⟨b,5,none⟩=some (.pointer ul)∧W.cell? ⟨b,6,none⟩=some (.pointer ur))∧(W.cell? ⟨w.heap.size,0,none⟩=some (.int .u64 (hi:Nat))∧W.cell? ⟨w.heap.size,1,none⟩=some (.int .u64 (lo:Nat))∧W.cell? ⟨w.heap.size,2,none⟩=some (.int .i64 k)))
       (first|exact HK.out _ (Below.refl _ _).drew|exact HK.out _ (zbZ hy1))
       (first|(go_simp;go_at_call 262;((with_reducible refine (HCV.out _).mono ?_);rintro e x1 ⟨rfl,hy1⟩)))
      clear p0 p1 p2 c0 c1 c2 c3 c4 c5 c6
      have hk1:=zbZ hy1
      clear hy1
      go_wp2
      go_region_held3 (fun W=>((W.cell? ⟨b,0,none⟩=some (.int .u64 (wh:Nat))∧W.cell? ⟨b,1,none⟩=some (.int .u64 (wl:Nat))∧W.cell? ⟨b,2,none⟩=some (.int .i64 (n:Nat)))∧W.cell? ⟨b,5,none⟩=some (.pointer ul)∧W.cell? ⟨b,6,none⟩=some (.pointer ur))∧(W.cell? ⟨w.heap.size,0,none⟩=some (.int .u64 (hi:Nat))∧W.cell? ⟨w.heap.size,1,none⟩=some (.int .u64 (lo:Nat))∧W.cell? ⟨w.heap.size,2,none⟩=some (.int .i64 k)))
       (first|exact HK.out _ hk1.drew|exact HK.out _ (zaA hk1 (zbZ hy2)))
       (first|(go_simp;go_at_call 263;((with_reducible refine (HBT.out _).mono ?_);rintro e x2 ⟨rfl,hy2⟩)))
      have hk2:=zaA hk1 (zbZ hy2)
      have hc2:=hc.trans (hk2.mono hc.size)
      go_wp2
      go_roundg l.size
      case measure=>show l.size<l.size+r.size+1;omega
      case rel=>exact ⟨l,HUL.out.symm,rfl,hc2,(hk2.block _ (zaC HB.out)).trans HB.out,HT.in_below HI.out.2.2.1 hk2,HE.out⟩
     ·rw [hb2] at HBT
      rw [if_neg (by omega)] at hGe
      have HE:=Lib.hid hGe
      clear hGe hb2
      go_wp2
      go_region_held3 (fun W=>((W.cell? ⟨b,0,none⟩=some (.int .u64 (wh:Nat))∧W.cell? ⟨b,1,none⟩=some (.int .u64 (wl:Nat))∧W.cell? ⟨b,2,none⟩=some (.int .i64 (n:Nat)))∧W.cell? ⟨b,5,none⟩=some (.pointer ul)∧W.cell? ⟨b,6,none⟩=some (.pointer ur))∧(W.cell? ⟨w.heap.size,0,none⟩=some (.int .u64 (hi:Nat))∧W.cell? ⟨w.heap.size,1,none⟩=some (.int .u64 (lo:Nat))∧W.cell? ⟨w.heap.size,2,none⟩=some (.int .i64 k)))
       (first|exact HK.out _ (Below.refl _ _).drew|exact HK.out _ (zbZ hy1))
       (first|(go_simp;go_at_call 262;((with_reducible refine (HCV.out _).mono ?_);rintro e x1 ⟨rfl,hy1⟩)))
      clear p0 p1 p2 c0 c1 c2 c3 c4 c5 c6
      have hk1:=zbZ hy1
      clear hy1
      go_wp2
      go_region_held3 (fun W=>((W.cell? ⟨b,0,none⟩=some (.int .u64 (wh:Nat))∧W.cell? ⟨b,1,none⟩=some (.int .u64 (wl:Nat))∧W.cell? ⟨b,2,none⟩=some (.int .i64 (n:Nat)))∧W.cell? ⟨b,5,none⟩=some (.pointer ul)∧W.cell? ⟨b,6,none⟩=some (.pointer ur))∧(W.cell? ⟨w.heap.size,0,none⟩=some (.int .u64 (hi:Nat))∧W.cell? ⟨w.heap.size,1,none⟩=some (.int .u64 (lo:Nat))∧W.cell? ⟨w.heap.size,2,none⟩=some (.int .i64 k)))
       (first|exact HK.out _ hk1.drew|exact HK.out _ (zaA hk1 (zbZ hy2)))
       (first|(go_simp;go_at_call 263;((with_reducible refine (HBT.out _).mono ?_);rintro e x2 ⟨rfl,hy2⟩)))
      have hk2:=zaA hk1 (zbZ hy2)
      have hc2:=hc.trans (hk2.mono hc.size)
      go_wp2
      go_roundg r.size
      case measure=>show r.size<l.size+r.size+1;omega
      case rel=>exact ⟨r,HUR.out.symm,rfl,hc2,(hk2.block _ (zaC HB.out)).trans HB.out,HT.in_below HI.out.2.2.2 hk2,HE.out⟩
end

section
open Go.RowKit
/-- a trie that was written into -/
structure zgP (w w':World) (g:Nat) (T T':HT):Prop where
 trie:zdB w' g T'
 only:Only (g::T.blocks) w w'
 sub: ∀b∈T'.blocks,b∈T.blocks∨w.heap.size≤b
theorem zdB.keep {w w':World} {g:Nat} {T:HT} (h:zdB w g T) (hb:Below w.heap.size w w'):zdB w' g T:=
 ⟨(hb.block g (zaC h.own)).trans h.own,HT.in_below h.lies hb,h.once,h.inv⟩
theorem zdB.lt {w:World} {g:Nat} {T:HT} (h:zdB w g T): ∀b∈g::T.blocks,b<w.heap.size:=fun b hb=>by
 rcases List.mem_cons.1 hb with q|q
 ·rw [q];exact zaC h.own
 ·exact HT.in_lt h.lies b q
theorem zgP.refl {w w':World} {g:Nat} {T:HT} (h:zdB w g T) (hb:Below w.heap.size w w'):zgP w w' g T T:=⟨h.keep hb,Only.of_below hb,fun _ hx=> .inl hx⟩
theorem ydC {w:World} {b:Nat} {x y x':Value} {t:TypeId} (h:w.heap[b]? =some (.cells #[x,y] t)):(w.setCell ⟨b,0,none⟩ x').heap[b]? =some (.cells #[x',y] t):=zaP h 0 x'
theorem yaX {w:World} {b:Nat} {x y y':Value} {t:TypeId} (h:w.heap[b]? =some (.cells #[x,y] t)):(w.setCell ⟨b,1,none⟩ y').heap[b]? =some (.cells #[x,y'] t):=zaP h 1 y'
theorem z8Y (w:World):Calls Tryz.prog 237 #[] w fun e w'=>e= .returned (.pointer (some ⟨w.heap.size,0,none⟩))∧Below w.heap.size w w'∧zdB w' w.heap.size .nil:=by
 go_enter Tryz.func237,Tryz.ntmps237
 go_wp2
 go_ret
 exact ⟨rfl,(Below.refl _ _).alloc (Nat.le_refl _) _,⟨Go.Deep.blk_alloc_new _ _,trivial,by simp [HT.blocks],trivial⟩⟩
/-- the tree that was written into,and its trie's own block -/
theorem zuI {w X x4:World} {g c:Nat} {T T':HT} (ht:zdB w g T) (hx:Only [g] w X) (hown:X.heap[g]? =some (.cells #[T.ptr,.int .i64 (c:Nat)] 250)) (hw:zdT X x4 T T') (hc:c=T'.pt.list.length) (hi:T'.pt.Inv 0 0):
  zgP w (x4.setCell ⟨g,0,none⟩ T'.ptr) g T T'∧x4.heap[g]? =some (.cells #[T.ptr,.int .i64 (c:Nat)] 250):=by
 have hg:=(List.nodup_cons.1 ht.once).1
 have hgl:=zaC hown
 have hb:x4.heap[g]? =some (.cells #[T.ptr,.int .i64 (c:Nat)] 250):=(hw.only.block g hgl hg).trans hown
 have hT': ∀b∈T'.blocks,b≠g:=fun b q e=>by
  subst e
  rcases hw.sub _ q with s|s
  ·exact hg s
  ·omega
 refine ⟨⟨⟨?_,HT.in_same hw.lies (fun b q=>zbD (hT' b q) _ _),List.nodup_cons.2 ⟨fun q=>hT' g q rfl,hw.once⟩,hi⟩,?_,fun b q=>(hw.sub b q).imp id (fun s=>Nat.le_trans hx.size s)⟩,hb⟩
 ·rw [ydC hb,hc]
 ·refine ((hx.mono (G:=g::T.blocks) (fun x q=>by rw [List.mem_singleton.1 q];exact List.mem_cons_self ..)).trans hw.only (fun x q=> .inl (List.mem_cons_of_mem _ q))).setCell (p:=⟨g,0,none⟩) (.inl (List.mem_cons_self ..)) _
theorem ydK (g:Nat) (T:HT) (hi lo k:Nat) (v:Int) (w:World) (ht:zdB w g T) (h1:hi<18446744073709551616) (h2:lo<18446744073709551616) (hk:k≤128) (hr:rt (zaH hi lo) k) (_:T.pt.list.length<1000000)
  (hel:(T.pt.get (zaH hi lo) k).isSome=true):
  Calls Tryz.prog 240 #[.pointer (some ⟨g,0,none⟩),.agg #[.int .u64 (hi:Nat),.int .u64 (lo:Nat),.int .i64 (k:Nat)],.int .i64 v] w fun e w'=> ∃T',e= .returned (.bool true)∧zgP w w' g T T'∧T'.pt=T.pt.put (zaH hi lo) k v:=by
 have hPl:=znH h1 h2
 have HRT:Hid (∀X,Calls Tryz.prog 249 #[.agg #[.int .u64 (hi:Nat),.int .u64 (lo:Nat),.int .i64 (k:Nat)]] X fun e w'=>e= .returned (.bool true)∧Below X.heap.size X w'):=fun X=>by
  have:=zcA hi lo k X h1 h2;rwa [zcE.2 ⟨hk,hr⟩] at this
 obtain ⟨xv,hxv⟩: ∃y,(T.pt.get (zaH hi lo) k).getD 0=y:=⟨_,rfl⟩
 have HGT:Hid (∀X,Below w.heap.size w X→Calls Tryz.prog 251 #[.pointer (some ⟨g,0,none⟩),.agg #[.int .u64 (hi:Nat),.int .u64 (lo:Nat),.int .i64 (k:Nat)]] X fun e w'=>e= .returned (.tuple #[.int .i64 xv,.bool true])∧Below X.heap.size X w'):=fun X hX=>by
  have:=yaH g T hi lo k X (ht.keep hX) h1 h2
  unfold RetG at this
  rw [hxv,hel] at this
  exact this
 have hcnt:((T.pt.put (zaH hi lo) k v).list.length)=T.pt.list.length:=by
  rw [PT.put_list ht.inv hk hr hPl,ztE (PT.sorted ht.inv),←PT.get_list ht.inv,hel];rfl
 have hinv:(T.pt.put (zaH hi lo) k v).Inv 0 0:=PT.put_inv ht.inv hk hr (zxE hPl) (Nat.zero_le _)
 have HCNT:=Lib.hid hcnt
 have HINV:=Lib.hid hinv
 have HTR:=Lib.hid ht
 have hgl:=zaC ht.own
 obtain ⟨uT,huT⟩:=HT.ptr_form T
 have HUT:=Lib.hid huT
 obtain ⟨q0,q1⟩:w.cell? ⟨g,0,none⟩=some T.ptr∧w.cell? ⟨g,1,none⟩=some (.int .i64 (T.pt.list.length:Nat)):=⟨zaD ht.own 0,zaD ht.own 1⟩
 have HWITH:Hid (∀X,T.In X→Calls Tryz.prog 252 #[T.ptr,.agg #[.int .u64 (hi:Nat),.int .u64 (lo:Nat),.int .i64 (k:Nat)],.int .i64 v] X (RetT X T (T.pt.put (zaH hi lo) k v))):=fun X hX=>by
  have:=zmQ (zaH hi lo) k v hPl hk hr T X hX (List.nodup_cons.1 ht.once).2
  rwa [zkL h2] at this
 have HBX:=Lib.hid (HT.in_lt ht.lies)
 rw [huT] at q0
 clear ht hel hxv hcnt hinv huT hr hPl
 go_enter Tryz.func240,Tryz.ntmps240
 go_wp2_with fail
 refine (HRT.out _).mono ?_
 rintro e x1 ⟨rfl,hb1⟩
 have hx1:=zcG hb1
 have HB1:Hid (x1.heap[w.heap.size]? =some (.cells #[.int .u64 (hi:Nat),.int .u64 (lo:Nat),.int .i64 (k:Nat)] 235)):=(hb1.block _ (by simp)).trans (Go.Deep.blk_alloc_new _ _)
 obtain ⟨p0,p1,p2⟩:=(row3 HB1.out).1
 clear hb1
 go_wp2_with fail
 refine (HGT.out _ hx1).mono ?_
 rintro e x2 ⟨rfl,hb2⟩
 have hx2:=zaA hx1 hb2
 have HB2:Hid (x2.heap[w.heap.size]? =_):=(hb2.block _ (zaC HB1.out)).trans HB1.out
 clear p0 p1 p2 q0 q1 hb2
 obtain ⟨p0,p1,p2⟩:=(row3 HB2.out).1
 have HO2:Hid (x2.heap[g]? =_):=(hx2.block g hgl).trans HTR.out.own
 have q0:x2.cell? ⟨g,0,none⟩=some (.pointer uT):=by have:=zaD HO2.out 0;rw [HUT.out] at this;exact this
 have q1:x2.cell? ⟨g,1,none⟩=some (.int .i64 (T.pt.list.length:Nat)):=zaD HO2.out 1
 have f1:=zaK HO2.out 1
 have hg2:=zaC HO2.out
 have hne:g≠w.heap.size:=by omega
 go_wp2
 have hxo:Only [g] w x2:=Only.of_below hx2
 have HOX:=HO2
 have HBX2:=HB2
 generalize x2=X at*
 have HIX:Hid (T.In X):=HT.in_only HTR.out.lies hxo (fun b hb q=>(List.nodup_cons.1 HTR.out.once).1 (by rw [←List.mem_singleton.1 q];exact hb))
 have HMV:Hid (∀Y T',zdT X.drew Y T T'→T'.pt=T.pt.put (zaH hi lo) k v→zgP w (Y.setCell ⟨g,0,none⟩ T'.ptr) g T T'∧Y.heap[g]? =_):=fun Y T' hw hpt=>
  zuI HTR.out hxo HOX.out (hw.before (Below.refl _ _).drew HIX.out) (by rw [hpt,HCNT.out]) (by rw [hpt];exact HINV.out)
 have HK9:Hid (∀Y T',zdT X.drew Y T T'→(fun W=>(W.cell? ⟨w.heap.size,0,none⟩=some (.int .u64 (hi:Nat))∧W.cell? ⟨w.heap.size,1,none⟩=some (.int .u64 (lo:Nat))∧W.cell? ⟨w.heap.size,2,none⟩=some (.int .i64 (k:Nat)))) Y):=fun Y T' hw=>
  (row3 ((hw.only.block w.heap.size (zaC HBX2.out) (fun q=>Nat.lt_irrefl _ (HBX.out _ q))).trans HBX2.out)).1
 have HKS:Hid (∀(Y:World) {v:Value},(fun W=>(W.cell? ⟨w.heap.size,0,none⟩=some (.int .u64 (hi:Nat))∧W.cell? ⟨w.heap.size,1,none⟩=some (.int .u64 (lo:Nat))∧W.cell? ⟨w.heap.size,2,none⟩=some (.int .i64 (k:Nat)))) Y→(fun W=>(W.cell? ⟨w.heap.size,0,none⟩=some (.int .u64 (hi:Nat))∧W.cell? ⟨w.heap.size,1,none⟩=some (.int .u64 (lo:Nat))∧W.cell? ⟨w.heap.size,2,none⟩=some (.int .i64 (k:Nat)))) (Y.setCell ⟨g,0,none⟩ v)):=fun Y v hY=>by
  have e: ∀i,(Y.setCell ⟨g,0,none⟩ v).cell? ⟨w.heap.size,i,none⟩=Y.cell? ⟨w.heap.size,i,none⟩:=fun i=>World.cell?_of_block (w:=Y) (zbD (fun e=>hne e.symm) _ _)
  show ((Y.setCell ⟨g,0,none⟩ v).cell? ⟨w.heap.size,0,none⟩=some (.int .u64 (hi:Nat))∧(Y.setCell ⟨g,0,none⟩ v).cell? ⟨w.heap.size,1,none⟩=some (.int .u64 (lo:Nat))∧(Y.setCell ⟨g,0,none⟩ v).cell? ⟨w.heap.size,2,none⟩=some (.int .i64 (k:Nat)))
  rw [e,e,e];exact hY
 have HKD:Hid ((fun W=>(W.cell? ⟨w.heap.size,0,none⟩=some (.int .u64 (hi:Nat))∧W.cell? ⟨w.heap.size,1,none⟩=some (.int .u64 (lo:Nat))∧W.cell? ⟨w.heap.size,2,none⟩=some (.int .i64 (k:Nat)))) X.drew):=(row3 HBX2.out).1
 have HWI:Hid (Calls Tryz.prog 252 #[.pointer uT,.agg #[.int .u64 (hi:Nat),.int .u64 (lo:Nat),.int .i64 (k:Nat)],.int .i64 v] X.drew (RetT X.drew T (T.pt.put (zaH hi lo) k v))):=by
  have:=HWITH.out X.drew (HT.in_below HIX.out (Below.refl _ _).drew);rwa [HUT.out] at this
 clear p0 p1 p2 q0 q1 f1
 have q0:X.cell? ⟨g,0,none⟩=some (.pointer uT):=by have:=zaD HOX.out 0;rw [HUT.out] at this;exact this
 refine wp_region_held_drew (S:=fun W=>(W.cell? ⟨w.heap.size,0,none⟩=some (.int .u64 (hi:Nat))∧W.cell? ⟨w.heap.size,1,none⟩=some (.int .u64 (lo:Nat))∧W.cell? ⟨w.heap.size,2,none⟩=some (.int .i64 (k:Nat)))) (by kernel_rfl) ?_ (fun hHeld=> ?_)
 ·exact HKD.out
 refine tkX 0 (some 31) (v:= ?_) rfl (.inl ⟨by rfl,?_⟩) hHeld ?_;rotate_left;·intro w hSw;(try dsimp only at hSw);go_simp;try with_reducible rfl
 try simp only [Act.put,tkXa,tkXb,tkXc]
 refine tkX 1 (some 32) (v:= ?_) rfl (.inl ⟨by rfl,?_⟩) hHeld ?_;rotate_left;·intro w hSw;(try dsimp only at hSw);go_simp;try with_reducible rfl
 try simp only [Act.put,tkXa,tkXb,tkXc]
 refine tkX 2 (some 33) (v:= ?_) rfl (.inl ⟨by rfl,?_⟩) hHeld ?_;rotate_left;·intro w hSw;(try dsimp only at hSw);go_simp;try with_reducible rfl
 try simp only [Act.put,tkXa,tkXb,tkXc]
 refine tkX 3 (some 34) (v:= ?_) rfl (.inl ⟨by rfl,?_⟩) hHeld ?_;rotate_left;·intro w hSw;(try dsimp only at hSw);go_simp;try with_reducible rfl
 try simp only [Act.put,tkXa,tkXb,tkXc]
 refine tkX 5 (some 36) (v:= ?_) rfl (.inl ⟨by rfl,?_⟩) hHeld ?_;rotate_left;·intro w hSw;(try dsimp only at hSw);go_simp;try with_reducible rfl
 try simp only [Act.put,tkXa,tkXb,tkXc]
 refine tkX 6 (some 37) (v:= ?_) rfl (.inl ⟨by rfl,?_⟩) hHeld ?_;rotate_left;·intro w hSw;(try dsimp only at hSw);go_simp;try with_reducible rfl
 try simp only [Act.put,tkXa,tkXb,tkXc]
 refine wpAnyH_ready (rs:=[4]) (by kernel_rfl) (by simp) ?_
 refine AllReadyH.cons (o:=⟨some 35,_,_,_,_,_⟩) rfl (fun K hK=> ?_) AllReadyH.nil
 go_simp
 refine hK.out _ _ ?_ (fun hHeld1=> ?_)
 ·exact HKD.out
 clear hK K
 try simp only [Act.put,tkXa,tkXb,tkXc]
 refine wpAnyH_ready (rs:=[7]) (by kernel_rfl) (by simp) ?_
 refine AllReadyH.cons (o:=⟨some 38,_,_,_,_,_⟩) rfl (fun K hK=> ?_) AllReadyH.nil
 go_simp
 go_at_call 252
 refine (HWI.out).mono ?_
 rintro e x4 ⟨T',rfl,hw,hpt⟩
 obtain ⟨hmv,hrow⟩:=HMV.out _ _ hw hpt
 have q5:=zaD hrow 0
 have g5:=zaK hrow 0
 obtain ⟨ut,hut⟩:=HT.ptr_form T'
 rw [hut] at hmv ⊢
 simp at q5
 (try go_wp2_with fail)
 refine hK.out _ _ ?_ (fun hHeld2=> ?_)
 ·exact HK9.out _ _ hw
 clear hK K
 try simp only [Act.put,tkXa,tkXb,tkXc]
 refine tkX 8 (some 39) (v:= ?_) rfl (.inl ⟨by rfl,?_⟩) hHeld2 ?_;rotate_left;·intro w hSw;(try dsimp only at hSw);go_simp;try with_reducible rfl
 try simp only [Act.put,tkXa,tkXb,tkXc]
 refine tkX 9 (some 40) (v:= ?_) rfl (.inl ⟨by rfl,?_⟩) hHeld2 ?_;rotate_left;·intro w hSw;(try dsimp only at hSw);go_simp;try with_reducible rfl
 try simp only [Act.put,tkXa,tkXb,tkXc]
 refine wpAnyH_ready (rs:=[10]) (by kernel_rfl) (by simp) ?_
 refine AllReadyH.cons (o:=⟨none,_,_,_,_,_⟩) rfl (fun K hK=> ?_) AllReadyH.nil
 go_simp
 refine hK.out _ _ ?_ (fun hHeld3=> ?_)
 ·exact HKS.out _ (HK9.out _ _ hw)
 clear hK K
 try simp only [Act.put,tkXa,tkXb,tkXc]
 refine wpAnyH_done (by kernel_rfl) ?_ _
 go_wp2
 go_ret
 exact ⟨T',rfl,hmv,hpt⟩
theorem z7X (g:Nat) (T:HT) (hi lo k:Nat) (v:Int) (w:World) (ht:zdB w g T) (h1:hi<18446744073709551616) (h2:lo<18446744073709551616) (hk:k≤128) (hr:rt (zaH hi lo) k) (hlen:T.pt.list.length<1000000)
  (hel:(T.pt.get (zaH hi lo) k).isSome=false):
  Calls Tryz.prog 240 #[.pointer (some ⟨g,0,none⟩),.agg #[.int .u64 (hi:Nat),.int .u64 (lo:Nat),.int .i64 (k:Nat)],.int .i64 v] w fun e w'=> ∃T',e= .returned (.bool true)∧zgP w w' g T T'∧T'.pt=T.pt.put (zaH hi lo) k v:=by
 have hPl:=znH h1 h2
 have HRT:Hid (∀X,Calls Tryz.prog 249 #[.agg #[.int .u64 (hi:Nat),.int .u64 (lo:Nat),.int .i64 (k:Nat)]] X fun e w'=>e= .returned (.bool true)∧Below X.heap.size X w'):=fun X=>by
  have:=zcA hi lo k X h1 h2;rwa [zcE.2 ⟨hk,hr⟩] at this
 obtain ⟨xv,hxv⟩: ∃y,(T.pt.get (zaH hi lo) k).getD 0=y:=⟨_,rfl⟩
 have HGT:Hid (∀X,Below w.heap.size w X→Calls Tryz.prog 251 #[.pointer (some ⟨g,0,none⟩),.agg #[.int .u64 (hi:Nat),.int .u64 (lo:Nat),.int .i64 (k:Nat)]] X fun e w'=>e= .returned (.tuple #[.int .i64 xv,.bool false])∧Below X.heap.size X w'):=fun X hX=>by
  have:=yaH g T hi lo k X (ht.keep hX) h1 h2
  unfold RetG at this
  rw [hxv,hel] at this
  exact this
 have hcnt:((T.pt.put (zaH hi lo) k v).list.length)=(T.pt.list.length+1):=by
  rw [PT.put_list ht.inv hk hr hPl,ztE (PT.sorted ht.inv),←PT.get_list ht.inv,hel];rfl
 have hinv:(T.pt.put (zaH hi lo) k v).Inv 0 0:=PT.put_inv ht.inv hk hr (zxE hPl) (Nat.zero_le _)
 have HCNT:=Lib.hid hcnt
 have HINV:=Lib.hid hinv
 have HTR:=Lib.hid ht
 have hgl:=zaC ht.own
 obtain ⟨uT,huT⟩:=HT.ptr_form T
 have HUT:=Lib.hid huT
 obtain ⟨q0,q1⟩:w.cell? ⟨g,0,none⟩=some T.ptr∧w.cell? ⟨g,1,none⟩=some (.int .i64 (T.pt.list.length:Nat)):=⟨zaD ht.own 0,zaD ht.own 1⟩
 have HWITH:Hid (∀X,T.In X→Calls Tryz.prog 252 #[T.ptr,.agg #[.int .u64 (hi:Nat),.int .u64 (lo:Nat),.int .i64 (k:Nat)],.int .i64 v] X (RetT X T (T.pt.put (zaH hi lo) k v))):=fun X hX=>by
  have:=zmQ (zaH hi lo) k v hPl hk hr T X hX (List.nodup_cons.1 ht.once).2
  rwa [zkL h2] at this
 have HBX:=Lib.hid (HT.in_lt ht.lies)
 rw [huT] at q0
 clear ht hel hxv hcnt hinv huT hr hPl
 go_enter Tryz.func240,Tryz.ntmps240
 go_wp2_with fail
 refine (HRT.out _).mono ?_
 rintro e x1 ⟨rfl,hb1⟩
 have hx1:=zcG hb1
 have HB1:Hid (x1.heap[w.heap.size]? =some (.cells #[.int .u64 (hi:Nat),.int .u64 (lo:Nat),.int .i64 (k:Nat)] 235)):=(hb1.block _ (by simp)).trans (Go.Deep.blk_alloc_new _ _)
 obtain ⟨p0,p1,p2⟩:=(row3 HB1.out).1
 clear hb1
 go_wp2_with fail
 refine (HGT.out _ hx1).mono ?_
 rintro e x2 ⟨rfl,hb2⟩
 have hx2:=zaA hx1 hb2
 have HB2:Hid (x2.heap[w.heap.size]? =_):=(hb2.block _ (zaC HB1.out)).trans HB1.out
 clear p0 p1 p2 q0 q1 hb2
 obtain ⟨p0,p1,p2⟩:=(row3 HB2.out).1
 have HO2:Hid (x2.heap[g]? =_):=(hx2.block g hgl).trans HTR.out.own
 have q0:x2.cell? ⟨g,0,none⟩=some (.pointer uT):=by have:=zaD HO2.out 0;rw [HUT.out] at this;exact this
 have q1:x2.cell? ⟨g,1,none⟩=some (.int .i64 (T.pt.list.length:Nat)):=zaD HO2.out 1
 have f1:=zaK HO2.out 1
 have hg2:=zaC HO2.out
 have hne:g≠w.heap.size:=by omega
 go_wp2
 have hxo:Only [g] w (x2.setCell ⟨g,1,none⟩ (.int .i64 ((T.pt.list.length:Int)+1))):=(Only.of_below hx2).setCell (p:=⟨g,1,none⟩) (.inl (List.mem_singleton.2 rfl)) _
 have HOX:Hid ((x2.setCell ⟨g,1,none⟩ (.int .i64 ((T.pt.list.length:Int)+1))).heap[g]? =some (.cells #[T.ptr,.int .i64 (((T.pt.list.length+1):Nat):Int)] 250)):=by
  show _=_
  rw [yaX HO2.out];simp
 have HBX2:Hid ((x2.setCell ⟨g,1,none⟩ (.int .i64 ((T.pt.list.length:Int)+1))).heap[w.heap.size]? =_):=(zbD (fun e=>hne e.symm) _ _).trans HB2.out
 generalize (x2.setCell ⟨g,1,none⟩ (.int .i64 ((T.pt.list.length:Int)+1)))=X at*
 have HIX:Hid (T.In X):=HT.in_only HTR.out.lies hxo (fun b hb q=>(List.nodup_cons.1 HTR.out.once).1 (by rw [←List.mem_singleton.1 q];exact hb))
 have HMV:Hid (∀Y T',zdT X.drew Y T T'→T'.pt=T.pt.put (zaH hi lo) k v→zgP w (Y.setCell ⟨g,0,none⟩ T'.ptr) g T T'∧Y.heap[g]? =_):=fun Y T' hw hpt=>
  zuI HTR.out hxo HOX.out (hw.before (Below.refl _ _).drew HIX.out) (by rw [hpt,HCNT.out]) (by rw [hpt];exact HINV.out)
 have HK9:Hid (∀Y T',zdT X.drew Y T T'→(fun W=>(W.cell? ⟨w.heap.size,0,none⟩=some (.int .u64 (hi:Nat))∧W.cell? ⟨w.heap.size,1,none⟩=some (.int .u64 (lo:Nat))∧W.cell? ⟨w.heap.size,2,none⟩=some (.int .i64 (k:Nat)))) Y):=fun Y T' hw=>
  (row3 ((hw.only.block w.heap.size (zaC HBX2.out) (fun q=>Nat.lt_irrefl _ (HBX.out _ q))).trans HBX2.out)).1
 have HKS:Hid (∀(Y:World) {v:Value},(fun W=>(W.cell? ⟨w.heap.size,0,none⟩=some (.int .u64 (hi:Nat))∧W.cell? ⟨w.heap.size,1,none⟩=some (.int .u64 (lo:Nat))∧W.cell? ⟨w.heap.size,2,none⟩=some (.int .i64 (k:Nat)))) Y→(fun W=>(W.cell? ⟨w.heap.size,0,none⟩=some (.int .u64 (hi:Nat))∧W.cell? ⟨w.heap.size,1,none⟩=some (.int .u64 (lo:Nat))∧W.cell? ⟨w.heap.size,2,none⟩=some (.int .i64 (k:Nat)))) (Y.setCell ⟨g,0,none⟩ v)):=fun Y v hY=>by
  have e: ∀i,(Y.setCell ⟨g,0,none⟩ v).cell? ⟨w.heap.size,i,none⟩=Y.cell? ⟨w.heap.size,i,none⟩:=fun i=>World.cell?_of_block (w:=Y) (zbD (fun e=>hne e.symm) _ _)
  show ((Y.setCell ⟨g,0,none⟩ v).cell? ⟨w.heap.size,0,none⟩=some (.int .u64 (hi:Nat))∧(Y.setCell ⟨g,0,none⟩ v).cell? ⟨w.heap.size,1,none⟩=some (.int .u64 (lo:Nat))∧(Y.setCell ⟨g,0,none⟩ v).cell? ⟨w.heap.size,2,none⟩=some (.int .i64 (k:Nat)))
  rw [e,e,e];exact hY
 have HKD:Hid ((fun W=>(W.cell? ⟨w.heap.size,0,none⟩=some (.int .u64 (hi:Nat))∧W.cell? ⟨w.heap.size,1,none⟩=some (.int .u64 (lo:Nat))∧W.cell? ⟨w.heap.size,2,none⟩=some (.int .i64 (k:Nat)))) X.drew):=(row3 HBX2.out).1
 have HWI:Hid (Calls Tryz.prog 252 #[.pointer uT,.agg #[.int .u64 (hi:Nat),.int .u64 (lo:Nat),.int .i64 (k:Nat)],.int .i64 v] X.drew (RetT X.drew T (T.pt.put (zaH hi lo) k v))):=by
  have:=HWITH.out X.drew (HT.in_below HIX.out (Below.refl _ _).drew);rwa [HUT.out] at this
 clear p0 p1 p2 q0 q1 f1
 have q0:X.cell? ⟨g,0,none⟩=some (.pointer uT):=by have:=zaD HOX.out 0;rw [HUT.out] at this;exact this
 refine wp_region_held_drew (S:=fun W=>(W.cell? ⟨w.heap.size,0,none⟩=some (.int .u64 (hi:Nat))∧W.cell? ⟨w.heap.size,1,none⟩=some (.int .u64 (lo:Nat))∧W.cell? ⟨w.heap.size,2,none⟩=some (.int .i64 (k:Nat)))) (by kernel_rfl) ?_ (fun hHeld=> ?_)
 ·exact HKD.out
 refine tkX 0 (some 31) (v:= ?_) rfl (.inl ⟨by rfl,?_⟩) hHeld ?_;rotate_left;·intro w hSw;(try dsimp only at hSw);go_simp;try with_reducible rfl
 try simp only [Act.put,tkXa,tkXb,tkXc]
 refine tkX 1 (some 32) (v:= ?_) rfl (.inl ⟨by rfl,?_⟩) hHeld ?_;rotate_left;·intro w hSw;(try dsimp only at hSw);go_simp;try with_reducible rfl
 try simp only [Act.put,tkXa,tkXb,tkXc]
 refine tkX 2 (some 33) (v:= ?_) rfl (.inl ⟨by rfl,?_⟩) hHeld ?_;rotate_left;·intro w hSw;(try dsimp only at hSw);go_simp;try with_reducible rfl
 try simp only [Act.put,tkXa,tkXb,tkXc]
 refine tkX 3 (some 34) (v:= ?_) rfl (.inl ⟨by rfl,?_⟩) hHeld ?_;rotate_left;·intro w hSw;(try dsimp only at hSw);go_simp;try with_reducible rfl
 try simp only [Act.put,tkXa,tkXb,tkXc]
 refine tkX 5 (some 36) (v:= ?_) rfl (.inl ⟨by rfl,?_⟩) hHeld ?_;rotate_left;·intro w hSw;(try dsimp only at hSw);go_simp;try with_reducible rfl
 try simp only [Act.put,tkXa,tkXb,tkXc]
 refine tkX 6 (some 37) (v:= ?_) rfl (.inl ⟨by rfl,?_⟩) hHeld ?_;rotate_left;·intro w hSw;(try dsimp only at hSw);go_simp;try with_reducible rfl
 try simp only [Act.put,tkXa,tkXb,tkXc]
 refine wpAnyH_ready (rs:=[4]) (by kernel_rfl) (by simp) ?_
 refine AllReadyH.cons (o:=⟨some 35,_,_,_,_,_⟩) rfl (fun K hK=> ?_) AllReadyH.nil
 go_simp
 refine hK.out _ _ ?_ (fun hHeld1=> ?_)
 ·exact HKD.out
 clear hK K
 try simp only [Act.put,tkXa,tkXb,tkXc]
 refine wpAnyH_ready (rs:=[7]) (by kernel_rfl) (by simp) ?_
 refine AllReadyH.cons (o:=⟨some 38,_,_,_,_,_⟩) rfl (fun K hK=> ?_) AllReadyH.nil
 go_simp
 go_at_call 252
 refine (HWI.out).mono ?_
 rintro e x4 ⟨T',rfl,hw,hpt⟩
 obtain ⟨hmv,hrow⟩:=HMV.out _ _ hw hpt
 have q5:=zaD hrow 0
 have g5:=zaK hrow 0
 obtain ⟨ut,hut⟩:=HT.ptr_form T'
 rw [hut] at hmv ⊢
 simp at q5
 (try go_wp2_with fail)
 refine hK.out _ _ ?_ (fun hHeld2=> ?_)
 ·exact HK9.out _ _ hw
 clear hK K
 try simp only [Act.put,tkXa,tkXb,tkXc]
 refine tkX 8 (some 39) (v:= ?_) rfl (.inl ⟨by rfl,?_⟩) hHeld2 ?_;rotate_left;·intro w hSw;(try dsimp only at hSw);go_simp;try with_reducible rfl
 try simp only [Act.put,tkXa,tkXb,tkXc]
 refine tkX 9 (some 40) (v:= ?_) rfl (.inl ⟨by rfl,?_⟩) hHeld2 ?_;rotate_left;·intro w hSw;(try dsimp only at hSw);go_simp;try with_reducible rfl
 try simp only [Act.put,tkXa,tkXb,tkXc]
 refine wpAnyH_ready (rs:=[10]) (by kernel_rfl) (by simp) ?_
 refine AllReadyH.cons (o:=⟨none,_,_,_,_,_⟩) rfl (fun K hK=> ?_) AllReadyH.nil
 go_simp
 refine hK.out _ _ ?_ (fun hHeld3=> ?_)
 ·exact HKS.out _ (HK9.out _ _ hw)
 clear hK K
 try simp only [Act.put,tkXa,tkXb,tkXc]
 refine wpAnyH_done (by kernel_rfl) ?_ _
 go_wp2
 go_ret
 exact ⟨T',rfl,hmv,hpt⟩
theorem zoT (g:Nat) (T:HT) (hi lo k:Nat) (v:Int) (w:World) (ht:zdB w g T) (h1:hi<18446744073709551616) (h2:lo<18446744073709551616) (hk:k≤128) (hr:rt (zaH hi lo) k) (hlen:T.pt.list.length<1000000):
  Calls Tryz.prog 240 #[.pointer (some ⟨g,0,none⟩),.agg #[.int .u64 (hi:Nat),.int .u64 (lo:Nat),.int .i64 (k:Nat)],.int .i64 v] w fun e w'=> ∃T',e= .returned (.bool true)∧zgP w w' g T T'∧T'.pt=T.pt.put (zaH hi lo) k v:=by
 cases hel:(T.pt.get (zaH hi lo) k).isSome with
 |true=>exact ydK g T hi lo k v w ht h1 h2 hk hr hlen hel
 |false=>exact z7X g T hi lo k v w ht h1 h2 hk hr hlen hel
end

section
open Go.RowKit
/-- what was found above -/
def ydZ (w:World) (q:Value) (o:Option En):Prop:=
 (o=none∧q= .pointer none)∨ ∃b e x y,o=some e∧q= .pointer (some ⟨b,0,none⟩)∧w.heap[b]? =some (.cells (zjC e.W e.n e.v true x y) 269)∧b=b
theorem ydZ.keep {w w':World} {q:Value} {o:Option En} (h:ydZ w q o) (hb:Below w.heap.size w w'):ydZ w' q o:=by
 rcases h with h|⟨b,e,x,y,h1,h2,h3,h4⟩
 ·exact .inl h
 ·exact .inr ⟨b,e,x,y,h1,h2,(hb.block b (zaC h3)).trans h3,h4⟩
def entV:Option En→Value
 |none=> .tuple #[.agg #[.int .u64 0,.int .u64 0,.int .i64 0],.int .i64 0,.bool false]
 |some e=> .tuple #[.agg #[.int .u64 (hiN e.W:Nat),.int .u64 (loN e.W:Nat),.int .i64 (e.n:Nat)],.int .i64 e.v,.bool true]
def RetF (w:World) (x:Option En) (e:Ending) (w':World):Prop:=e= .returned (entV x)∧Below w.heap.size w w'
theorem znD (g:Nat) (T:HT) (a:AZ) (w:World) (ht:zdB w g T) (ha:a.Ok):
  Calls Tryz.prog 256 #[.pointer (some ⟨g,0,none⟩),a.val] w (RetF w (T.pt.find a.wd none)):=by
 obtain ⟨X,hX⟩: ∃x,T.pt.find a.wd none=x:=⟨_,rfl⟩
 rw [hX]
 have hA:=AZ.wd_lt ha
 obtain ⟨ah,eah⟩: ∃x,hiN a.wd=x:=⟨_,rfl⟩
 obtain ⟨al,eal⟩: ∃x,loN a.wd=x:=⟨_,rfl⟩
 have hAe:zaH ah al=a.wd:=by rw [←eah,←eal,zbS]
 have ba1:ah<18446744073709551616:=eah▸zfW hA
 have ba2:al<18446744073709551616:=eal▸zgD a.wd
 have HOF:Hid (∀W,Calls Tryz.prog 267 #[a.val,.int .i64 128] W fun e w'=>e= .returned (.tuple #[.agg #[.int .u64 (ah:Nat),.int .u64 (al:Nat),.int .i64 128],.bool true])∧Below W.heap.size W w'):=fun W=>by
  have:=yaO a 128 W ha (by omega)
  rw [show ofW a.wd 128=a.wd from by show a.wd/2^0*2^0=a.wd;simp] at this
  unfold pfW pfV at this
  rw [eah,eal] at this
  exact this
 have HHAS:Hid (∀(wh wl n:Nat) W,wh<18446744073709551616→wl<18446744073709551616→Calls Tryz.prog 265 #[.agg #[.int .u64 (wh:Nat),.int .u64 (wl:Nat),.int .i64 (n:Nat)],a.val] W fun e w'=>e= .returned (.bool (zfP (zaH wh wl) n a.wd))∧Below W.heap.size W w'):=fun wh wl n W q1 q2=>zkE wh wl n a W q1 q2 ha
 have HBT:Hid (∀(n:Nat) W,Calls Tryz.prog 263 #[.agg #[.int .u64 (ah:Nat),.int .u64 (al:Nat),.int .i64 128],.int .i64 (n:Nat)] W fun e w'=>e= .returned (.int .i64 (bitZ a.wd n))∧Below W.heap.size W w'):=fun n W=>by
  have:=zsT ah al 128 n W ba1 ba2;rwa [hAe] at this
 obtain ⟨A,hAA⟩: ∃A,a.wd=A:=⟨_,rfl⟩
 rw [hAA] at HHAS HBT hX
 obtain ⟨va,hva⟩: ∃v,a.val=v:=⟨_,rfl⟩
 rw [hva] at HOF HHAS ⊢
 have HX:=Lib.hid hX
 have HTR:=Lib.hid ht
 have hgl:=zaC ht.own
 obtain ⟨uT,huT⟩:=HT.ptr_form T
 have HUT:=Lib.hid huT
 clear ht hX huT hA eah eal hAe ba1 ba2 hAA hva ha
 go_enter Tryz.func256,Tryz.ntmps256
 go_wp2_with fail
 refine (HOF.out _).mono ?_
 rintro e x1 ⟨rfl,hb1⟩
 have hx1:=zcG hb1
 have HR1:Hid (x1.heap[w.heap.size]? =some (.cells #[.int .u64 0,.int .u64 0,.int .i64 0] 235)):=(hb1.block _ (by simp)).trans (Go.Deep.blk_alloc_new _ _)
 have hA1:Below x1.heap.size x1 (x1.alloc (.cells #[.int .u64 (ah:Nat),.int .u64 (al:Nat),.int .i64 128] 235)):=(Below.refl _ _).alloc (Nat.le_refl _) _
 have hx2:=zaA hx1 hA1
 have HR2:Hid ((x1.alloc (.cells #[.int .u64 (ah:Nat),.int .u64 (al:Nat),.int .i64 128] 235)).heap[w.heap.size]? =_):=(hA1.block _ (zaC HR1.out)).trans HR1.out
 have HA2:Hid ((x1.alloc (.cells #[.int .u64 (ah:Nat),.int .u64 (al:Nat),.int .i64 128] 235)).heap[x1.heap.size]? =some (.cells #[.int .u64 (ah:Nat),.int .u64 (al:Nat),.int .i64 128] 235)):=Go.Deep.blk_alloc_new _ _
 have g1:x1.cell? ⟨g,0,none⟩=some (.pointer uT):=by have:=zaD ((hx1.block g hgl).trans HTR.out.own) 0;rw [HUT.out] at this;exact this
 have hg1:g<x1.heap.size:=Nat.lt_of_lt_of_le hgl hx1.size
 have hwl:w.heap.size<x1.heap.size:=zaC HR1.out
 go_wp2
 have HI2:Hid (T.In (x1.alloc (.cells #[.int .u64 (ah:Nat),.int .u64 (al:Nat),.int .i64 128] 235))):=HT.in_below HTR.out.lies hx2
 generalize x1.alloc (.cells #[.int .u64 (ah:Nat),.int .u64 (al:Nat),.int .i64 128] 235)=y1 at*
 generalize x1.heap.size=ga at*
 clear hb1 hA1 g1 HR1 hx1
 go_loopg [9,10] (T.size) (fun gk q p wr=> ∃(T':HT) (acc:Option En),p=T'.ptr∧T'.size=gk∧Below w.heap.size w wr∧Hid (wr.heap[w.heap.size]? =some (.cells #[.int .u64 0,.int .u64 0,.int .i64 0] 235))∧Hid (wr.heap[ga]? =some (.cells #[.int .u64 (ah:Nat),.int .u64 (al:Nat),.int .i64 128] 235))∧Hid (T'.In wr)∧Hid (ydZ wr q acc)∧Hid (T'.pt.find A acc=X))
 case atStart=>exact ⟨T,none,HUT.out.symm,rfl,hx2,HR2.out,HA2.out,HI2.out,.inl ⟨rfl,rfl⟩,HX.out⟩
 case round=>
  clear HX HUT HTR HI2 hx2 HR2 HA2
  rename_i q9 q10
  obtain ⟨T',acc,hT',rfl,hc,HR,HA,HI,HAC,HG⟩:=hrel
  subst hT'
  cases T' with
  |nil=>
   have HE:Hid (acc=X):=HG.out
   simp only [HT.ptr]
   obtain ⟨⟨z0,z1,z2⟩,y0,y1,y2⟩:=row3 HR.out
   rcases HAC.out with ⟨ea,rfl⟩|⟨bl,en,sx,sy,ea,rfl,hrow,hbl⟩
   ·have HE2:Hid (X=none):=HE.out.symm.trans ea
    go_wp2
    refine bodyPost_ret (v:= .tuple #[.agg #[.int .u64 0,.int .u64 0,.int .i64 0],.int .i64 0,.bool false]) (by simp [results,Tryz.results256,go_sem,z0,z1,z2]) rfl ⟨by rw [HE2.out];rfl,?_⟩
    exact Below.set3 hc (Nat.le_refl _) _ _ _
   ·have HE2:Hid (X=some en):=HE.out.symm.trans ea
    obtain ⟨⟨m0,m1,m2⟩,m3,_⟩:=zcT hrow
    have hblt:=zaC hrow
    have hbn:bl≠w.heap.size:=fun q=>by
     have q2:=hrow;rw [q,HR.out] at q2;unfold zjC at q2;simp at q2
    go_wp2
    go_region
    go_wp2
    refine bodyPost_ret (v:= .tuple #[.agg #[.int .u64 (hiN en.W:Nat),.int .u64 (loN en.W:Nat),.int .i64 (en.n:Nat)],.int .i64 en.v,.bool true]) (by simp [results,Tryz.results256,go_sem,z0,z1,z2]) rfl ⟨by rw [HE2.out];rfl,?_⟩
    first|exact Below.set3 (hc).drew (Nat.le_refl _) _ _ _|exact (Below.set3 hc (Nat.le_refl _) _ _ _).drew
  |node b W n u h l r=>
   have hok:=HI.out.2.1
   obtain ⟨wh,ewh⟩: ∃y,hiN W=y:=⟨_,rfl⟩
   obtain ⟨wl,ewl⟩: ∃y,loN W=y:=⟨_,rfl⟩
   obtain ⟨⟨c0,c1,c2⟩,c3,c4,c5,c6⟩:=zcT HI.out.1
   rw [ewh] at c0
   rw [ewl] at c1
   have bw1:wh<18446744073709551616:=ewh▸zfW hok.1
   have bw2:wl<18446744073709551616:=ewl▸zgD W
   have hWw:zaH wh wl=W:=by rw [←ewh,←ewl,zbS]
   have hGe:(if zfP W n A=true then (if bitZ A n=0 then l.pt.find A (if h=true then some ⟨W,n,u⟩ else acc) else r.pt.find A (if h=true then some ⟨W,n,u⟩ else acc)) else acc)=X:=HG.out
   have HHN:Hid (∀V,Calls Tryz.prog 265 #[.agg #[.int .u64 (wh:Nat),.int .u64 (wl:Nat),.int .i64 (n:Nat)],va] V fun e w'=>e= .returned (.bool (zfP W n A))∧Below V.heap.size V w'):=fun V=>by
    have:=HHAS.out wh wl n V bw1 bw2;rwa [hWw] at this
   have HBN:Hid (∀V,Calls Tryz.prog 263 #[.agg #[.int .u64 (ah:Nat),.int .u64 (al:Nat),.int .i64 128],.int .i64 (n:Nat)] V fun e w'=>e= .returned (.int .i64 (bitZ A n))∧Below V.heap.size V w'):=fun V=>HBT.out n V
   obtain ⟨ul,hul⟩:=HT.ptr_form l
   obtain ⟨ur,hur⟩:=HT.ptr_form r
   have HUL:=Lib.hid hul
   have HUR:=Lib.hid hur
   have HK:Hid (∀V,Below wr.heap.size wr V→(fun W=>((W.cell? ⟨b,0,none⟩=some (.int .u64 (wh:Nat))∧W.cell? ⟨b,1,none⟩=some (.int .u64 (wl:Nat))∧W.cell? ⟨b,2,none⟩=some (.int .i64 (n:Nat)))∧W.cell? ⟨b,5,none⟩=some (.pointer ul)∧W.cell? ⟨b,6,none⟩=some (.pointer ur))∧(W.cell? ⟨ga,0,none⟩=some (.int .u64 (ah:Nat))∧W.cell? ⟨ga,1,none⟩=some (.int .u64 (al:Nat))∧W.cell? ⟨ga,2,none⟩=some (.int .i64 128))) V):=fun V hV=>by
    have hr1:=(hV.block b (zaC HI.out.1)).trans HI.out.1
    obtain ⟨⟨q0,q1,q2⟩,q3,q4,q5,q6⟩:=zcT hr1
    rw [ewh] at q0
    rw [ewl] at q1
    rw [hul] at q5
    rw [hur] at q6
    exact ⟨⟨⟨q0,q1,q2⟩,q5,q6⟩,(row3 ((hV.block ga (zaC HA.out)).trans HA.out)).1⟩
   have HC4:Hid (∀V,Below wr.heap.size wr V→V.cell? ⟨b,4,none⟩=some (.bool h)):=fun V hV=>(zcT ((hV.block b (zaC HI.out.1)).trans HI.out.1)).2.2.1
   have hb2:=zkK A n
   clear ewh ewl hok hWw hul hur c3 c4 c5 c6 HHAS HBT
   simp only [HT.ptr]
   cases hv:zfP W n A with
   |false=>
    rw [hv] at HHN hGe
    have HE:Hid (acc=X):=by rw [if_neg (by simp)] at hGe;exact hGe
    clear hGe hv hb2
    go_wp2_with fail
    refine (HHN.out _).mono ?_
    rintro e x1 ⟨rfl,hy1⟩
    have hc1:=hc.trans (hy1.mono hc.size)
    have HR1:Hid (x1.heap[w.heap.size]? =_):=(hy1.block _ (zaC HR.out)).trans HR.out
    have HAC1:=Lib.hid (HAC.out.keep hy1)
    clear c0 c1 c2
    obtain ⟨⟨z0,z1,z2⟩,y0,y1,y2⟩:=row3 HR1.out
    rcases HAC1.out with ⟨ea,rfl⟩|⟨bl,en,sx,sy,ea,rfl,hrow,hbl⟩
    ·have HE2:Hid (X=none):=HE.out.symm.trans ea
     go_wp2
     refine bodyPost_ret (v:= .tuple #[.agg #[.int .u64 0,.int .u64 0,.int .i64 0],.int .i64 0,.bool false]) (by simp [results,Tryz.results256,go_sem,z0,z1,z2]) rfl ⟨by rw [HE2.out];rfl,?_⟩
     exact Below.set3 hc1 (Nat.le_refl _) _ _ _
    ·have HE2:Hid (X=some en):=HE.out.symm.trans ea
     obtain ⟨⟨m0,m1,m2⟩,m3,_⟩:=zcT hrow
     have hblt:=zaC hrow
     have hbn:bl≠w.heap.size:=fun q=>by
      have q2:=hrow;rw [q,HR1.out] at q2;unfold zjC at q2;simp at q2
     go_wp2
     go_region
     go_wp2
     refine bodyPost_ret (v:= .tuple #[.agg #[.int .u64 (hiN en.W:Nat),.int .u64 (loN en.W:Nat),.int .i64 (en.n:Nat)],.int .i64 en.v,.bool true]) (by simp [results,Tryz.results256,go_sem,z0,z1,z2]) rfl ⟨by rw [HE2.out];rfl,?_⟩
     first|exact Below.set3 (hc1).drew (Nat.le_refl _) _ _ _|exact (Below.set3 hc1 (Nat.le_refl _) _ _ _).drew
   |true=>
    rw [hv] at HHN hGe
    rw [if_pos rfl] at hGe
    clear hv
    cases h with
    |true=>
     simp only [if_true] at hGe
     rcases hb2 with hb2|hb2
     ·rw [if_pos hb2] at hGe
      rw [hb2] at HBN
      have HE:=Lib.hid hGe
      clear hGe hb2
      go_wp2_with fail
      refine (HHN.out _).mono ?_
      rintro e x1 ⟨rfl,hy1⟩
      have c4:=HC4.out _ hy1
      clear c0 c1 c2
      go_wp2
      go_region_held3 (fun W=>((W.cell? ⟨b,0,none⟩=some (.int .u64 (wh:Nat))∧W.cell? ⟨b,1,none⟩=some (.int .u64 (wl:Nat))∧W.cell? ⟨b,2,none⟩=some (.int .i64 (n:Nat)))∧W.cell? ⟨b,5,none⟩=some (.pointer ul)∧W.cell? ⟨b,6,none⟩=some (.pointer ur))∧(W.cell? ⟨ga,0,none⟩=some (.int .u64 (ah:Nat))∧W.cell? ⟨ga,1,none⟩=some (.int .u64 (al:Nat))∧W.cell? ⟨ga,2,none⟩=some (.int .i64 128)))
       (first|exact HK.out _ hy1.drew|exact HK.out _ (zaA hy1 (zbZ hy2)))
       (first|(go_simp;go_at_call 263;((with_reducible refine (HBN.out _).mono ?_);rintro e x2 ⟨rfl,hy2⟩)))
      have hk2:=zaA hy1 (zbZ hy2)
      have hc2:=hc.trans (hk2.mono hc.size)
      go_wp2
      go_roundg l.size
      case measure=>show l.size<l.size+r.size+1;omega
      case rel=>exact ⟨l,some ⟨W,n,u⟩,HUL.out.symm,rfl,hc2,(hk2.block _ (zaC HR.out)).trans HR.out,(hk2.block _ (zaC HA.out)).trans HA.out,HT.in_below HI.out.2.2.1 hk2,.inr ⟨b,⟨W,n,u⟩,_,_,rfl,rfl,(hk2.block b (zaC HI.out.1)).trans HI.out.1,rfl⟩,HE.out⟩
     ·rw [if_neg (by omega)] at hGe
      rw [hb2] at HBN
      have HE:=Lib.hid hGe
      clear hGe hb2
      go_wp2_with fail
      refine (HHN.out _).mono ?_
      rintro e x1 ⟨rfl,hy1⟩
      have c4:=HC4.out _ hy1
      clear c0 c1 c2
      go_wp2
      go_region_held3 (fun W=>((W.cell? ⟨b,0,none⟩=some (.int .u64 (wh:Nat))∧W.cell? ⟨b,1,none⟩=some (.int .u64 (wl:Nat))∧W.cell? ⟨b,2,none⟩=some (.int .i64 (n:Nat)))∧W.cell? ⟨b,5,none⟩=some (.pointer ul)∧W.cell? ⟨b,6,none⟩=some (.pointer ur))∧(W.cell? ⟨ga,0,none⟩=some (.int .u64 (ah:Nat))∧W.cell? ⟨ga,1,none⟩=some (.int .u64 (al:Nat))∧W.cell? ⟨ga,2,none⟩=some (.int .i64 128)))
       (first|exact HK.out _ hy1.drew|exact HK.out _ (zaA hy1 (zbZ hy2)))
       (first|(go_simp;go_at_call 263;((with_reducible refine (HBN.out _).mono ?_);rintro e x2 ⟨rfl,hy2⟩)))
      have hk2:=zaA hy1 (zbZ hy2)
      have hc2:=hc.trans (hk2.mono hc.size)
      go_wp2
      go_roundg r.size
      case measure=>show r.size<l.size+r.size+1;omega
      case rel=>exact ⟨r,some ⟨W,n,u⟩,HUR.out.symm,rfl,hc2,(hk2.block _ (zaC HR.out)).trans HR.out,(hk2.block _ (zaC HA.out)).trans HA.out,HT.in_below HI.out.2.2.2 hk2,.inr ⟨b,⟨W,n,u⟩,_,_,rfl,rfl,(hk2.block b (zaC HI.out.1)).trans HI.out.1,rfl⟩,HE.out⟩
    |false=>
     simp only [Bool.false_eq_true,if_false] at hGe
     rcases hb2 with hb2|hb2
     ·rw [if_pos hb2] at hGe
      rw [hb2] at HBN
      have HE:=Lib.hid hGe
      clear hGe hb2
      go_wp2_with fail
      refine (HHN.out _).mono ?_
      rintro e x1 ⟨rfl,hy1⟩
      have c4:=HC4.out _ hy1
      clear c0 c1 c2
      go_wp2
      go_region_held3 (fun W=>((W.cell? ⟨b,0,none⟩=some (.int .u64 (wh:Nat))∧W.cell? ⟨b,1,none⟩=some (.int .u64 (wl:Nat))∧W.cell? ⟨b,2,none⟩=some (.int .i64 (n:Nat)))∧W.cell? ⟨b,5,none⟩=some (.pointer ul)∧W.cell? ⟨b,6,none⟩=some (.pointer ur))∧(W.cell? ⟨ga,0,none⟩=some (.int .u64 (ah:Nat))∧W.cell? ⟨ga,1,none⟩=some (.int .u64 (al:Nat))∧W.cell? ⟨ga,2,none⟩=some (.int .i64 128)))
       (first|exact HK.out _ hy1.drew|exact HK.out _ (zaA hy1 (zbZ hy2)))
       (first|(go_simp;go_at_call 263;((with_reducible refine (HBN.out _).mono ?_);rintro e x2 ⟨rfl,hy2⟩)))
      have hk2:=zaA hy1 (zbZ hy2)
      have hc2:=hc.trans (hk2.mono hc.size)
      go_wp2
      go_roundg l.size
      case measure=>show l.size<l.size+r.size+1;omega
      case rel=>exact ⟨l,acc,HUL.out.symm,rfl,hc2,(hk2.block _ (zaC HR.out)).trans HR.out,(hk2.block _ (zaC HA.out)).trans HA.out,HT.in_below HI.out.2.2.1 hk2,HAC.out.keep hk2,HE.out⟩
     ·rw [if_neg (by omega)] at hGe
      rw [hb2] at HBN
      have HE:=Lib.hid hGe
      clear hGe hb2
      go_wp2_with fail
      refine (HHN.out _).mono ?_
      rintro e x1 ⟨rfl,hy1⟩
      have c4:=HC4.out _ hy1
      clear c0 c1 c2
      go_wp2
      go_region_held3 (fun W=>((W.cell? ⟨b,0,none⟩=some (.int .u64 (wh:Nat))∧W.cell? ⟨b,1,none⟩=some (.int .u64 (wl:Nat))∧W.cell? ⟨b,2,none⟩=some (.int .i64 (n:Nat)))∧W.cell? ⟨b,5,none⟩=some (.pointer ul)∧W.cell? ⟨b,6,none⟩=some (.pointer ur))∧(W.cell? ⟨ga,0,none⟩=some (.int .u64 (ah:Nat))∧W.cell? ⟨ga,1,none⟩=some (.int .u64 (al:Nat))∧W.cell? ⟨ga,2,none⟩=some (.int .i64 128)))
       (first|exact HK.out _ hy1.drew|exact HK.out _ (zaA hy1 (zbZ hy2)))
       (first|(go_simp;go_at_call 263;((with_reducible refine (HBN.out _).mono ?_);rintro e x2 ⟨rfl,hy2⟩)))
      have hk2:=zaA hy1 (zbZ hy2)
      have hc2:=hc.trans (hk2.mono hc.size)
      go_wp2
      go_roundg r.size
      case measure=>show r.size<l.size+r.size+1;omega
      case rel=>exact ⟨r,acc,HUR.out.symm,rfl,hc2,(hk2.block _ (zaC HR.out)).trans HR.out,(hk2.block _ (zaC HA.out)).trans HA.out,HT.in_below HI.out.2.2.2 hk2,HAC.out.keep hk2,HE.out⟩
end

section
open Go.RowKit
/-- a call's own trie and blocks,beside all that was there -/
structure St (w x:World) (g:Nat) (T:HT) (L:List (Nat×Array Value×TypeId)):Prop where
 below:Below w.heap.size w x
 trie:zdB x g T
 own: ∀b∈g::T.blocks,w.heap.size≤b
 blks:Blks L x
 apart: ∀e∈L,e.1∉g::T.blocks
theorem St.keep {w x y:World} {g:Nat} {T:HT} {L:List (Nat×Array Value×TypeId)} (h:St w x g T L) (hb:Below x.heap.size x y):St w y g T L:=
 ⟨zaA h.below hb,h.trie.keep hb,h.own,h.blks.keep hb,h.apart⟩
theorem St.new {w x:World} {g:Nat} {T:HT} {L:List (Nat×Array Value×TypeId)} (h:St w x g T L) (c:Array Value) (t:TypeId):St w (x.alloc (.cells c t)) g T ((x.heap.size,c,t)::L):=
 have hb:Below x.heap.size x (x.alloc (.cells c t)):=(Below.refl _ _).alloc (Nat.le_refl _) _
 ⟨zaA h.below hb,h.trie.keep hb,h.own,h.blks.new c t,fun e he q=>by
  rcases List.mem_cons.1 he with r|r
  ·rw [r] at q;exact Nat.lt_irrefl _ (h.trie.lt _ q)
  ·exact h.apart e r q⟩
theorem St.moved {w x y:World} {g:Nat} {T T':HT} {L:List (Nat×Array Value×TypeId)} (h:St w x g T L) (hm:zgP x y g T T'):St w y g T' L:=
 ⟨h.below.trans (hm.only.below h.below.size h.own),hm.trie,fun b hb=>by
  rcases List.mem_cons.1 hb with q|q
  ·rw [q];exact h.own g (List.mem_cons_self ..)
  ·rcases hm.sub b q with r|r
   ·exact h.own b (List.mem_cons_of_mem _ r)
   ·exact Nat.le_trans h.below.size r,fun e he=>(hm.only.block e.1 (zaC (h.blks e he)) (h.apart e he)).trans (h.blks e he),fun e he q=>by
  rcases List.mem_cons.1 q with r|r
  ·exact h.apart e he (List.mem_cons.2 (.inl r))
  ·rcases hm.sub _ r with s|s
   ·exact h.apart e he (List.mem_cons_of_mem _ s)
   ·have:=zaC (h.blks e he);omega⟩
theorem St.first {w x y:World} {g:Nat} (hb:Below w.heap.size w x) (hg:w.heap.size≤g) (hy:Below x.heap.size x y) (ht:zdB y g .nil):St w y g .nil []:=
 ⟨zaA hb hy,ht,(fun b q=>by
  rcases List.mem_cons.1 q with r|r
  ·rw [r];exact hg
  ·cases r),Blks.empty _,(fun e he=>by cases he)⟩
theorem St.drop {w x:World} {g:Nat} {T:HT} {L L':List (Nat×Array Value×TypeId)} (h:St w x g T L) (hs: ∀e∈L',e∈L):St w x g T L':=
 ⟨h.below,h.trie,h.own,fun e he=>h.blks e (hs e he),fun e he=>h.apart e (hs e he)⟩
theorem a8_z:zaY [48,46,48,46,48,46,48]=some (.four 0):=by
 unfold zaY
 rw [show zaN [48,46,48,46,48,46,48]=(0,true) from by decide+kernel];rfl
theorem a8_a:zaY [49,48,46,49,46,49,46,49]=some (.four 167837953):=by
 unfold zaY
 rw [show zaN [49,48,46,49,46,49,46,49]=(167837953,true) from by decide+kernel];rfl
theorem a8_b:zaY [49,49,46,49,46,49,46,49]=some (.four 184615169):=by
 unfold zaY
 rw [show zaN [49,49,46,49,46,49,46,49]=(184615169,true) from by decide+kernel];rfl
theorem a8_c:zaY [58,58,49]=some (.six 0 1):=by
 unfold zaY
 rw [show zaN [58,58,49]=(0,false) from by decide+kernel,show sixZ [58,58,49]=((0,1),true) from by decide+kernel];rfl
theorem p8_a:zaV [48,46,48,46,48,46,48,47,48]=some (281470681743360,96):=by
 unfold zaV
 rw [show ([48,46,48,46,48,46,48,47,48]:List UInt8)=[48,46,48,46,48,46,48]++47::[48] from rfl,zbO [48] (by decide)]
 unfold zcH
 rw [a8_z]
 simp only []
 rw [show decZ [48] (128 - (AZ.four 0).ahead)=(0,true) from by decide+kernel,show (AZ.four 0).wd=281470681743360 from by decide+kernel,show (AZ.four 0).ahead+(0,true).1=96 from rfl,show zaM 281470681743360 96=true from by decide+kernel]
 rfl
theorem o8_a:optP (some (281470681743360,96))= .agg #[.int .u64 0,.int .u64 281470681743360,.int .i64 96]:=rfl
theorem t8_a:((PT.nil.put 281470681743360 96 1).put 281470849515520 104 2).find (AZ.four 167837953).wd none=some ⟨281470849515520,104,2⟩:=by decide+kernel
theorem t8_b:((PT.nil.put 281470681743360 96 1).put 281470849515520 104 2).find (AZ.four 184615169).wd none=some ⟨281470681743360,96,1⟩:=by decide+kernel
theorem t8_c:((PT.nil.put 281470681743360 96 1).put 281470849515520 104 2).find (AZ.six 0 1).wd none=none:=by decide+kernel
theorem zzA (w:World) (hbru:BruTab w) (hmax:MaxVar w):
  Calls Tryz.prog 266 #[] w fun e w'=>e= .returned (.bool true)∧Below w.heap.size w w':=by
 have HT:=Lib.hid hbru
 have HX:=Lib.hid hmax
 clear hbru hmax
 go_enter Tryz.func266,Tryz.ntmps266
 go_wp2_with fail
 refine (z8Y _).mono ?_
 rintro e x1 ⟨rfl,hb1,ht1⟩
 have S1:=Lib.hid (St.first (Below.refl w.heap.size w) (Nat.le_refl _) hb1 ht1)
 obtain ⟨g,hgg⟩: ∃g,g=w.heap.size:=⟨_,rfl⟩
 rw [←hgg] at S1 ⊢
 clear hgg
 clear hb1 ht1
 go_wp2_with fail
 refine (zfC _ _ (by decide) (zaB HX.out S1.out.below)).mono ?_
 rw [show zaV (ByteArray.mk #[48,46,48,46,48,46,48,47,48]).data.toList=some (281470681743360,96) from p8_a]
 rintro e x2 ⟨rfl,hb2⟩
 rw [o8_a]
 simp only [Option.isSome]
 have S2:=Lib.hid ((S1.out.keep hb2).new #[.int .u64 0,.int .u64 281470681743360,.int .i64 96] 235)
 clear S1 hb2
 go_wp2_with fail
 refine (zfC _ _ (by decide) (zaB HX.out S2.out.below)).mono ?_
 rw [show zaV (ByteArray.mk #[49,48,46,48,46,48,46,48,47,56]).data.toList=some (281470849515520,104) from p7_a]
 rintro e x3 ⟨rfl,hb3⟩
 rw [o7_a]
 simp only [Option.isSome]
 obtain ⟨gp,hgp⟩: ∃y,y=x2.heap.size:=⟨_,rfl⟩
 rw [←hgp] at S2 ⊢
 have S3:=Lib.hid ((S2.out.keep hb3).new #[.int .u64 0,.int .u64 281470849515520,.int .i64 104] 235)
 clear S2 hb3 hgp
 go_wp2_with fail
 refine (zbH _ _ (by decide) (zaB HX.out S3.out.below)).mono ?_
 rw [show zaY (ByteArray.mk #[49,48,46,49,46,49,46,49]).data.toList=some (.four 167837953) from a8_a]
 rintro e x4 ⟨rfl,hb4⟩
 simp only [optV,Option.isSome]
 have S4:=Lib.hid (S3.out.keep hb4)
 clear S3 hb4
 obtain ⟨gq,hgq⟩: ∃y,y=x3.heap.size:=⟨_,rfl⟩
 rw [←hgq] at S4 ⊢
 clear hgq
 go_wp2_with fail
 refine (zbH _ _ (by decide) (zaB HX.out S4.out.below)).mono ?_
 rw [show zaY (ByteArray.mk #[49,49,46,49,46,49,46,49]).data.toList=some (.four 184615169) from a8_b]
 rintro e x5 ⟨rfl,hb5⟩
 simp only [optV,Option.isSome]
 have S5:=Lib.hid (S4.out.keep hb5)
 clear S4 hb5
 go_wp2_with fail
 refine (zbH _ _ (by decide) (zaB HX.out S5.out.below)).mono ?_
 rw [show zaY (ByteArray.mk #[58,58,49]).data.toList=some (.six 0 1) from a8_c]
 rintro e x6 ⟨rfl,hb6⟩
 simp only [optV,Option.isSome]
 have S6:=Lib.hid (S5.out.keep hb6)
 clear S5 hb6
 obtain ⟨lp,p0,p1,p2⟩:=S6.out.blks.r3 (b:=gp) (by repeat first|exact .head _|apply List.Mem.tail)
 obtain ⟨lq,q0,q1,q2⟩:=S6.out.blks.r3 (b:=gq) (by repeat first|exact .head _|apply List.Mem.tail)
 have HP1:=Lib.hid (zoT g .nil 0 281470681743360 96 1 x6 S6.out.trie (by decide) (by decide) (by decide) (by unfold rt;decide+kernel) (by decide))
 rw [show zaH 0 281470681743360=281470681743360 from by decide] at HP1
 go_wp2_with fail
 refine HP1.out.mono ?_
 rintro e x7 ⟨T1,rfl,hm7,hp7⟩
 have S7:=Lib.hid (S6.out.moved hm7)
 have HT1:Hid (T1.pt=PT.nil.put 281470681743360 96 1):=hp7
 clear S6 hm7 hp7 HP1 lp p0 p1 p2 lq q0 q1 q2
 obtain ⟨lp,p0,p1,p2⟩:=S7.out.blks.r3 (b:=gp) (by repeat first|exact .head _|apply List.Mem.tail)
 obtain ⟨lq,q0,q1,q2⟩:=S7.out.blks.r3 (b:=gq) (by repeat first|exact .head _|apply List.Mem.tail)
 have HP2:=Lib.hid (zoT g T1 0 281470849515520 104 2 x7 S7.out.trie (by decide) (by decide) (by decide) (by unfold rt;decide+kernel) (by rw [HT1.out];decide+kernel))
 rw [show zaH 0 281470849515520=281470849515520 from by decide,HT1.out] at HP2
 go_wp2_with fail
 refine HP2.out.mono ?_
 rintro e x8 ⟨T2,rfl,hm8,hp8⟩
 have S8:=Lib.hid (S7.out.moved hm8)
 have HT2:Hid (T2.pt=(PT.nil.put 281470681743360 96 1).put 281470849515520 104 2):=hp8
 clear S7 hm8 hp8 HP2 lp p0 p1 p2 lq q0 q1 q2
 have HF9:Hid (∀X,zdB X g T2→Calls Tryz.prog 256 #[.pointer (some ⟨g,0,none⟩),AZ.val (.four 167837953)] X fun e w'=>e= .returned (.tuple #[.agg #[.int .u64 0,.int .u64 281470849515520,.int .i64 104],.int .i64 2,.bool true])∧Below X.heap.size X w'):=fun X hX=>by
  have:=znD g T2 (.four 167837953) X hX ⟨by decide,by decide⟩
  rw [HT2.out,t8_a] at this
  exact this
 go_wp2_with fail
 refine (HF9.out _ S8.out.trie).mono ?_
 rintro e x9 ⟨rfl,hb9⟩
 have S9:=Lib.hid ((S8.out.keep hb9).keep ((Below.refl _ _).alloc (Nat.le_refl _) (.cells #[.int .u64 0,.int .u64 281470849515520,.int .i64 104] 235)))
 clear HF9 hb9 S8
 have HF10:Hid (∀X,zdB X g T2→Calls Tryz.prog 256 #[.pointer (some ⟨g,0,none⟩),AZ.val (.four 184615169)] X fun e w'=>e= .returned (.tuple #[.agg #[.int .u64 0,.int .u64 281470681743360,.int .i64 96],.int .i64 1,.bool true])∧Below X.heap.size X w'):=fun X hX=>by
  have:=znD g T2 (.four 184615169) X hX ⟨by decide,by decide⟩
  rw [HT2.out,t8_b] at this
  exact this
 go_wp2_with fail
 refine (HF10.out _ S9.out.trie).mono ?_
 rintro e x10 ⟨rfl,hb10⟩
 have S10:=Lib.hid ((S9.out.keep hb10).keep ((Below.refl _ _).alloc (Nat.le_refl _) (.cells #[.int .u64 0,.int .u64 281470681743360,.int .i64 96] 235)))
 clear HF10 hb10 S9
 have HF11:Hid (∀X,zdB X g T2→Calls Tryz.prog 256 #[.pointer (some ⟨g,0,none⟩),AZ.val (.six 0 1)] X fun e w'=>e= .returned (.tuple #[.agg #[.int .u64 0,.int .u64 0,.int .i64 0],.int .i64 0,.bool false])∧Below X.heap.size X w'):=fun X hX=>by
  have:=znD g T2 (.six 0 1) X hX ⟨⟨by decide,by decide⟩,by decide,by decide⟩
  rw [HT2.out,t8_c] at this
  exact this
 go_wp2_with fail
 refine (HF11.out _ S10.out.trie).mono ?_
 rintro e x11 ⟨rfl,hb11⟩
 have S11:=Lib.hid ((S10.out.keep hb11).keep ((Below.refl _ _).alloc (Nat.le_refl _) (.cells #[.int .u64 0,.int .u64 0,.int .i64 0] 235)))
 clear HF11 hb11 S10
 go_wp2_with fail
 refine (z6A _ (zaL HT.out S11.out.below) (zaB HX.out S11.out.below)).mono ?_
 rintro e x12 ⟨rfl,hb12⟩
 have S12:=Lib.hid (S11.out.keep hb12)
 go_wp2
 go_ret
 exact ⟨rfl,S12.out.below⟩
end

section
open Go.RowKit
theorem zpG {n:Int} (h:(Lit.int .u64 n).wf=true): ∃x:Nat,n=x∧x<18446744073709551616:=by
 simp [Lit.wf,IntKind.min,IntKind.max,IntKind.bits,IntKind.signed] at h
 exact ⟨n.toNat,by omega,by omega⟩
/-- the slice holds these prefixes (any numbers of their kinds) -/
def yiY (w:World) (a:Option Addr) (len _cap:Nat) (zs:List (Int×Int×Int)):Prop:=
 zs.length=len∧ ∀(j:Nat) (x:Int×Int×Int),zs[j]? =some x→(∃ad,a=some ad∧w.cell? (ad.add (j*3))=some (.int .u64 x.1)∧w.cell? (ad.add (j*3+1))=some (.int .u64 x.2.1)∧w.cell? (ad.add (j*3+2))=some (.int .i64 x.2.2))∧
  (Lit.int .u64 x.1).wf=true∧(Lit.int .u64 x.2.1).wf=true∧(Lit.int .i64 x.2.2).wf=true
theorem yiY.at {w wr:World} {a:Option Addr} {len cap:Nat} {zs:List (Int×Int×Int)} (h:yiY w a len cap zs) (hb:Below w.heap.size w wr) {j:Nat} (hj:j<zs.length):
  ∃(ad:Addr) (_:a=some ad) (qh ql:Nat) (qk:Int),zs[j]? =some ((qh:Int),(ql:Int),qk)∧wr.cell? (ad.add (j*3))=some (.int .u64 (qh:Nat))∧wr.cell? ⟨(ad.add (j*3)).block,(ad.add (j*3)).off+1,none⟩=some (.int .u64 (ql:Nat))∧wr.cell? ⟨(ad.add (j*3)).block,(ad.add (j*3)).off+2,none⟩=some (.int .i64 qk)∧qh<18446744073709551616∧ql<18446744073709551616:=by
 obtain ⟨⟨ad,ha,c0,c1,c2⟩,w0,w1,_⟩:=h.2 j zs[j] (List.getElem?_eq_getElem hj)
 obtain ⟨qh,e1,b1⟩:=zpG w0
 obtain ⟨ql,e2,b2⟩:=zpG w1
 have kp: ∀(p:Addr) (u:Value),w.cell? p=some u→wr.cell? p=some u:=fun p u hp=>(hb.cell (World.block_lt_of_cell? w p hp)).trans hp
 have s1:ad.add (j*3+1)=⟨(ad.add (j*3)).block,(ad.add (j*3)).off+1,none⟩:=by rw [←Go.Deep.add_add];rfl
 have s2:ad.add (j*3+2)=⟨(ad.add (j*3)).block,(ad.add (j*3)).off+2,none⟩:=by rw [←Go.Deep.add_add];rfl
 refine ⟨ad,ha,qh,ql,zs[j].2.2,?_,?_,?_,?_,b1,b2⟩
 ·rw [List.getElem?_eq_getElem hj,←e1,←e2]
 ·rw [←e1];exact kp _ _ c0
 ·rw [←e2,←s1];exact kp _ _ c1
 ·rw [←s2];exact kp _ _ c2
end

section
open Go.RowKit
theorem zgP.keep {w x y:World} {g:Nat} {T T':HT} (h:zgP w x g T T') (hb:Below x.heap.size x y):zgP w y g T T':=⟨h.trie.keep hb,h.only.then_below hb,h.sub⟩
theorem zgP.then {w x y:World} {g:Nat} {T T' T2:HT} (h:zgP w x g T T') (k:zgP x y g T' T2):zgP w y g T T2:=
 ⟨k.trie,h.only.trans k.only (fun b hb=>by
  rcases List.mem_cons.1 hb with q|q
  ·exact .inl (by rw [q];exact List.mem_cons_self ..)
  ·rcases h.sub b q with r|r
   ·exact .inl (List.mem_cons_of_mem _ r)
   ·exact .inr r),fun b hb=>by
  rcases k.sub b hb with q|q
  ·exact h.sub b q
  ·exact .inr (Nat.le_trans h.only.size q)⟩
/-- a trie that goes on,and blocks of the call's own beside it -/
structure Mt (w x:World) (g:Nat) (T T':HT) (L:List (Nat×Array Value×TypeId)):Prop where
 mv:zgP w x g T T'
 blks:Blks L x
 apart: ∀e∈L,e.1∉g::T'.blocks
theorem Mt.keep {w x y:World} {g:Nat} {T T':HT} {L:List (Nat×Array Value×TypeId)} (h:Mt w x g T T' L) (hb:Below x.heap.size x y):Mt w y g T T' L:=⟨h.mv.keep hb,h.blks.keep hb,h.apart⟩
theorem Mt.moved {w x y:World} {g:Nat} {T T' T2:HT} {L:List (Nat×Array Value×TypeId)} (h:Mt w x g T T' L) (k:zgP x y g T' T2):Mt w y g T T2 L:=
 ⟨h.mv.then k,fun e he=>(k.only.block e.1 (zaC (h.blks e he)) (h.apart e he)).trans (h.blks e he),fun e he q=>by
  rcases List.mem_cons.1 q with r|r
  ·exact h.apart e he (List.mem_cons.2 (.inl r))
  ·rcases k.sub _ r with s|s
   ·exact h.apart e he (List.mem_cons_of_mem _ s)
   ·have:=zaC (h.blks e he);omega⟩
theorem Mt.first {w x:World} {g:Nat} {T:HT} {b:Nat} {c:Array Value} {t:TypeId} (ht:zdB w g T) (hb:Below w.heap.size w x) (hl:w.heap.size≤b) (h:x.heap[b]? =some (.cells c t)):Mt w x g T T [(b,c,t)]:=by
 refine ⟨zgP.refl ht hb,fun e he=> ?_,fun e he q=> ?_⟩
 ·rcases List.mem_cons.1 he with r|r
  ·rw [r];exact h
  ·cases r
 ·rcases List.mem_cons.1 he with r|r
  ·rw [r] at q
   have:=ht.lt _ q
   simp only at this
   omega
  ·cases r
end

section
open Go.RowKit
theorem z8G (va:Value) (p:Nat→Nat→Bool) (w:World) (hmax:MaxVar w) (HH:Hid (∀(hi lo n:Nat) (W:World),hi<18446744073709551616→lo<18446744073709551616→Calls Tryz.prog 265 #[.agg #[.int .u64 hi,.int .u64 lo,.int .i64 n],va] W fun e w'=>e= .returned (.bool (p (zaH hi lo) n))∧Below W.heap.size W w')):
  Calls Tryz.prog 253 #[va] w fun e w'=>e= .returned (yeA (zxP p))∧Below w.heap.size w w':=by
 have HX:=Lib.hid hmax
 clear hmax
 go_enter Tryz.func253,Tryz.ntmps253
 go_wp2_with fail
 refine (zuT _ HX.out).mono ?_
 rintro e x1 ⟨b,rfl,hbl,hblk,hb1⟩
 have HB:=Lib.hid (fun (W:World) (h:Below x1.heap.size x1 W)=>(h.block b (zaC hblk)).trans hblk)
 have HW:=Lib.hid hb1
 clear hb1 hblk hbl
 go_wp2
 go_loopw [8] (fun i wr=> ∃j:Nat,j≤27∧i= .int .i64 j∧Hid (Below x1.heap.size x1 wr)∧Hid (∀i y,i<j→T9[i]? =some y→p y.W y.n=false)) (fun i _=>27 - (intOf i).toNat)
 case atStart=>exact ⟨0,by omega,rfl,Below.refl _ _,fun i y hi=>absurd hi (Nat.not_lt_zero _)⟩
 case round=>
  obtain ⟨j,hj,rfl,hbw,hno⟩:=hrel
  by_cases hlt:j<27
  ·obtain ⟨x,hx⟩:=yiV hlt
   obtain ⟨c0,c1,c2,c3⟩:=yiU (HB.out wr hbw.out) hx
   obtain ⟨_,_,hx3⟩:=ygI hx
   have HC:Hid (∀W,Calls Tryz.prog 265 #[.agg #[.int .u64 (hiN x.W:Nat),.int .u64 (loN x.W:Nat),.int .i64 (x.n:Nat)],va] W fun e w'=>e= .returned (.bool (p x.W x.n))∧Below W.heap.size W w'):=fun W=>by
    have:=HH.out (hiN x.W) (loN x.W) x.n W (zfW hx3) (zgD _)
    rwa [zbS] at this
   have hjl:(j:Int)<27:=by omega
   have HN:Hid (Below wr.heap.size wr (wr.alloc (.cells #[.int .u64 (hiN x.W:Nat),.int .u64 (loN x.W:Nat),.int .i64 (x.n:Nat),.string ⟨x.s.toArray⟩] 254))):=(Below.refl _ _).alloc (Nat.le_refl _) _
   have HL:=Lib.hid ((Blks.empty wr).new #[.int .u64 (hiN x.W:Nat),.int .u64 (loN x.W:Nat),.int .i64 (x.n:Nat),.string ⟨x.s.toArray⟩] 254)
   go_wp2_with fail
   refine (HC.out _).mono ?_
   rintro e x2 ⟨rfl,hb2⟩
   have HB2:=Lib.hid (HN.out.trans (hb2.mono HN.out.size))
   obtain ⟨l1,d0,d1,d2,d3⟩:=(HL.out.keep hb2).q4 (.head _)
   clear hb2 HL HN HC c0 c1 c2 c3
   cases hp:p x.W x.n with
   |true=>
    have hn:zxP p=some x:=zuN hx (fun i y hi hy=>hno.out i y hi hy) hp
    go_wp2
    go_ret2
    rw [hn]
    exact ⟨rfl,HW.out.trans ((hbw.out.trans (HB2.out.mono hbw.out.size)).mono HW.out.size)⟩
   |false=>
    have HNO:Hid (∀i y,i<j+1→T9[i]? =some y→p y.W y.n=false):=fun i y hi hy=>by
     by_cases c:i<j
     ·exact hno.out i y c hy
     ·rw [show i=j from by omega,hx] at hy
      injection hy with hy
      rw [←hy];exact hp
    go_wp2
    go_roundw
    case rel=>exact ⟨j+1,by omega,by go_num,hbw.out.trans (HB2.out.mono hbw.out.size),HNO⟩
    case measure=>simp [intOf];omega
  ·have hj':j=27:=by omega
   subst hj'
   have hn:zxP p=none:=ygR (fun i y hl hy=>hno.out i y (by rw [z8O] at hl;exact hl) hy)
   go_wp2
   go_ret2
   rw [hn]
   exact ⟨rfl,HW.out.trans (hbw.out.mono HW.out.size)⟩
theorem zxQ (a:AZ) (w:World) (hmax:MaxVar w) (ha:a.Ok):
  Calls Tryz.prog 253 #[a.val] w fun e w'=>e= .returned (yeA (zxP fun W n=>zfP W n a.wd))∧Below w.heap.size w w':=
 z8G a.val _ w hmax (fun hi lo n W h1 h2=>zkE hi lo n a W h1 h2 ha)
theorem yiK (g:Nat) (T:HT) (v:Int) (w:World) (hmax:MaxVar w) (ht:zdB w g T) (hlen:T.pt.list.length<900000):
  Calls Tryz.prog 239 #[.pointer (some ⟨g,0,none⟩),.int .i64 v] w fun e w'=> ∃T',e= .returned (.int .i64 27)∧zgP w w' g T T'∧T'.pt=lay9 v T.pt:=by
 have HX:=Lib.hid hmax
 have HI:=Lib.hid ht
 clear hmax ht
 go_enter Tryz.func239,Tryz.ntmps239
 go_wp2_with fail
 refine (zuT _ HX.out).mono ?_
 rintro e x1 ⟨b,rfl,hbl,hblk,hb1⟩
 have HM:=Lib.hid (Mt.first HI.out hb1 hbl hblk)
 clear hb1 hblk hbl
 go_wp2
 go_loopw [5,10] (fun c i wr=> ∃(j:Nat) (T':HT),j≤27∧c= .int .i64 j∧i= .int .i64 j∧Hid (Mt w wr g T T' [(b,z0G,254)])∧Hid (T'.pt=zlZ v j T.pt)) (fun _ i _=>27 - (intOf i).toNat)
 case atStart=>exact ⟨0,T,by omega,rfl,rfl,HM,rfl⟩
 case round=>
  obtain ⟨j,T',hj,rfl,rfl,HS,HP⟩:=hrel
  by_cases hlt:j<27
  ·obtain ⟨x,hx⟩:=yiV hlt
   obtain ⟨c0,c1,c2,c3⟩:=yiU (HS.out.blks _ (.head _)) hx
   obtain ⟨hx1,hx2,hx3⟩:=ygI hx
   have hlen':T'.pt.list.length<1000000:=by
    rw [HP.out]
    have:=z6R (v:=v) HI.out.inv j
    omega
   have HS1:=Lib.hid (HS.out.keep ((Below.refl _ _).alloc (Nat.le_refl _) (.cells #[.int .u64 (hiN x.W:Nat),.int .u64 (loN x.W:Nat),.int .i64 (x.n:Nat),.string ⟨x.s.toArray⟩] 254)))
   have HPU:=Lib.hid (zoT g T' (hiN x.W) (loN x.W) x.n v _ HS1.out.mv.trie (zfW hx3) (zgD _) hx1 (by rw [zbS];exact hx2) hlen')
   rw [zbS] at HPU
   have hjl:(j:Int)<27:=by omega
   have hj2:decide ((j:Int)+1<1000)=true:=by simp;omega
   clear hlen' hx1 hx2 hx3
   go_wp2_with fail
   refine HPU.out.mono ?_
   rintro e x2 ⟨T2,rfl,hm,hp⟩
   have HS2:=Lib.hid (HS1.out.moved hm)
   have HP2:Hid (T2.pt=zlZ v (j+1) T.pt):=by rw [zlQ hx,←HP.out];exact hp
   clear hm hp HPU HS1 c0 c1 c2 c3
   go_wp2
   go_roundw
   case rel=>exact ⟨j+1,T2,by omega,by go_num,by go_num,HS2,HP2⟩
   case measure=>simp [intOf];omega
  ·have hj':j=27:=by omega
   subst hj'
   go_wp2
   go_ret
   exact ⟨T',rfl,HS.out.mv,by rw [HP.out,zvX]⟩
end

section
open Go.RowKit
theorem n9_a:yeA (zxP fun W n=>zfP W n (AZ.four 2130706433).wd)= .tuple #[.string ⟨#[108,111,111,112,98,97,99,107]⟩,.bool true]:=by
 unfold zxP
 rw [z0F,show T9L.find? (fun r=>zfP r.W r.n (AZ.four 2130706433).wd)=some ⟨281472812449792,104,[108,111,111,112,98,97,99,107]⟩ from by decide+kernel]
 rfl
theorem n9_b:yeA (zxP fun W n=>zfP W n (AZ.four 134744072).wd)= .tuple #[.string ⟨#[]⟩,.bool false]:=by
 unfold zxP
 rw [z0F,show T9L.find? (fun r=>zfP r.W r.n (AZ.four 134744072).wd)=none from by decide+kernel]
 rfl
theorem z5E (w:World) (hbru:BruTab w) (hmax:MaxVar w):
  Calls Tryz.prog 254 #[] w fun e w'=>e= .returned (.bool true)∧Below w.heap.size w w':=by
 have HT:=Lib.hid hbru
 have HX:=Lib.hid hmax
 clear hbru hmax
 go_enter Tryz.func254,Tryz.ntmps254
 go_wp2_with fail
 refine (zzA _ HT.out HX.out).mono ?_
 rintro e w1 ⟨rfl,hb1⟩
 go_wp2
 go_ret
 exact ⟨rfl,hb1⟩
theorem zyK (w:World) (hbru:BruTab w) (hmax:MaxVar w):
  Calls Tryz.prog 242 #[] w fun e w'=>e= .returned (.bool true)∧Below w.heap.size w w':=by
 have HT:=Lib.hid hbru
 have HX:=Lib.hid hmax
 have HO1:Hid (∀W,Calls Tryz.prog 154 #[.int .u8 127,.int .u8 0,.int .u8 0,.int .u8 1] W fun e w'=>e= .returned (.int .u32 2130706433)∧W=w'):=fun W=>znK 127 0 0 1 W (by decide) (by decide) (by decide) (by decide)
 have HO2:Hid (∀W,Calls Tryz.prog 154 #[.int .u8 8,.int .u8 8,.int .u8 8,.int .u8 8] W fun e w'=>e= .returned (.int .u32 134744072)∧W=w'):=fun W=>znK 8 8 8 8 W (by decide) (by decide) (by decide) (by decide)
 have HN1:Hid (∀W,MaxVar W→Calls Tryz.prog 253 #[.iface 117 (.int .u32 2130706433)] W fun e w'=>e= .returned (.tuple #[.string ⟨#[108,111,111,112,98,97,99,107]⟩,.bool true])∧Below W.heap.size W w'):=fun W hW=>by
  have:=zxQ (.four 2130706433) W hW ⟨by decide,by decide⟩;rw [n9_a] at this;exact this
 have HN2:Hid (∀W,MaxVar W→Calls Tryz.prog 253 #[.iface 117 (.int .u32 134744072)] W fun e w'=>e= .returned (.tuple #[.string ⟨#[]⟩,.bool false])∧Below W.heap.size W w'):=fun W hW=>by
  have:=zxQ (.four 134744072) W hW ⟨by decide,by decide⟩;rw [n9_b] at this;exact this
 clear hbru hmax
 go_enter Tryz.func242,Tryz.ntmps242
 go_wp2_with fail
 refine (HO1.out _).mono ?_
 rintro e x1 ⟨rfl,rfl⟩
 go_wp2_with fail
 refine (HN1.out _ HX.out).mono ?_
 rintro e x2 ⟨rfl,hb2⟩
 go_wp2_with fail
 refine (HO2.out _).mono ?_
 rintro e x3 ⟨rfl,rfl⟩
 go_wp2_with fail
 refine (HN2.out _ (zaB HX.out hb2)).mono ?_
 rintro e x4 ⟨rfl,hb4⟩
 have hb5:=zaA hb2 hb4
 clear hb2 hb4
 go_wp2_with fail
 refine (z5E _ (zaL HT.out hb5) (zaB HX.out hb5)).mono ?_
 rintro e x5 ⟨rfl,hb6⟩
 have hb7:=zaA hb5 hb6
 go_wp2
 go_ret
 exact ⟨rfl,hb7⟩
theorem z3G (w:World) (hbru:BruTab w) (hmax:MaxVar w):
  Calls Tryz.prog 228 #[] w fun e w'=>e= .returned (.bool true)∧Below w.heap.size w w':=by
 have HT:=Lib.hid hbru
 have HX:=Lib.hid hmax
 clear hbru hmax
 go_enter Tryz.func228,Tryz.ntmps228
 go_wp2_with fail
 refine (zyK _ HT.out HX.out).mono ?_
 rintro e w1 ⟨rfl,hb1⟩
 go_wp2
 go_ret
 exact ⟨rfl,hb1⟩
end

end Go.Proofs.YthacmlahnpdeeaaGreatDoor
