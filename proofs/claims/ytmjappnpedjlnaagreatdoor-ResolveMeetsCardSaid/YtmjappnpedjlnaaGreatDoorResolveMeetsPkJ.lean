/-
  What the law ResolveMeets leans on, and its walk (10 of 46).
-/
import Derived.RegionTactic
import Derived.Test.YtmjappnpedjlnaaGreatDoorResolveMeetsPkG
import Derived.Test.YtmjappnpedjlnaaGreatDoorResolveMeetsPkI
import Derived.Test.YtmjappnpedjlnaaGreatDoorResolveMeetsPkF
namespace Go.Proofs.YtmjappnpedjlnaaGreatDoor
set_option maxRecDepth 100000
set_option maxHeartbeats 16000000
abbrev yoZ := @Lib.hid
abbrev ypA := @Nat.le_refl
abbrev ypB := @Go.RowKit.Below.refl
section
open Go.RowKit
theorem yaZ (hi lo n:Nat) (w:World) (h1:hi<18446744073709551616) (hn:n<64):
  Calls Tryz.prog 302 #[.agg #[.int .u64 (hi:Nat),.int .u64 (lo:Nat),.int .i64 (n:Nat)],.int .i64 0] w fun e w'=>e= .returned (.agg #[.int .u64 ((hi:Nat)),.int .u64 (lo:Nat),.int .i64 ((n:Int)+1)])∧Below w.heap.size w w':=by
 have hor:=or_zero hi h1
 go_enter Tryz.func302,Tryz.ntmps302
 go_wp2
 go_region
 go_wp2
 refine bodyPost_ret (v:= .agg #[.int .u64 ((hi:Nat)),.int .u64 (lo:Nat),.int .i64 ((n:Int)+1)]) (by simp [results,Tryz.results302,go_sem]) rfl ⟨rfl,?_⟩
 exact (((ypB _ _).alloc (ypA _) _).alloc (by simp) _).drew
theorem ycB (hi lo n:Nat) (w:World) (h1:hi<18446744073709551616) (h2:lo<18446744073709551616) (hn:n<64) (hr:rt (zaR hi lo) n):
  Calls Tryz.prog 302 #[.agg #[.int .u64 (hi:Nat),.int .u64 (lo:Nat),.int .i64 (n:Nat)],.int .i64 1] w fun e w'=>e= .returned (.agg #[.int .u64 ((hi:Int)+2^(63 - n)),.int .u64 (lo:Nat),.int .i64 ((n:Int)+1)])∧Below w.heap.size w w':=by
 have hbd:=ynU h1 hn (rt_hi h2 hn hr)
 have hor:=z9Z (63 - n) hbd (by rw [show (63 - n)+1=64 - n from by omega];exact rt_hi h2 hn hr)
 have hwr:IntKind.u64.wrap ((2:Int)^(63 - n))=(2:Int)^(63 - n):=by
  rw [show ((2:Int)^(63 - n))=((2^(63 - n):Nat):Int) from by simp]
  exact z0X _ (Nat.lt_of_le_of_lt (Nat.le_add_left _ _) hbd)
 go_enter Tryz.func302,Tryz.ntmps302
 go_wp2
 go_region
 go_wp2
 refine bodyPost_ret (v:= .agg #[.int .u64 ((hi:Int)+2^(63 - n)),.int .u64 (lo:Nat),.int .i64 ((n:Int)+1)]) (by simp [results,Tryz.results302,go_sem]) rfl ⟨rfl,?_⟩
 exact (((ypB _ _).alloc (ypA _) _).alloc (by simp) _).drew
theorem ycP (hi lo n:Nat) (w:World) (h2:lo<18446744073709551616) (hn:64≤n) (hn2:n<128):
  Calls Tryz.prog 302 #[.agg #[.int .u64 (hi:Nat),.int .u64 (lo:Nat),.int .i64 (n:Nat)],.int .i64 0] w fun e w'=>e= .returned (.agg #[.int .u64 (hi:Nat),.int .u64 ((lo:Nat)),.int .i64 ((n:Int)+1)])∧Below w.heap.size w w':=by
 have hor:=or_zero lo h2
 go_enter Tryz.func302,Tryz.ntmps302
 go_wp2
 go_region
 go_wp2
 refine bodyPost_ret (v:= .agg #[.int .u64 (hi:Nat),.int .u64 ((lo:Nat)),.int .i64 ((n:Int)+1)]) (by simp [results,Tryz.results302,go_sem]) rfl ⟨rfl,?_⟩
 exact (((ypB _ _).alloc (ypA _) _).alloc (by simp) _).drew
theorem z8C (hi lo n:Nat) (w:World) (h2:lo<18446744073709551616) (hn:64≤n) (hn2:n<128) (hr:rt (zaR hi lo) n):
  Calls Tryz.prog 302 #[.agg #[.int .u64 (hi:Nat),.int .u64 (lo:Nat),.int .i64 (n:Nat)],.int .i64 1] w fun e w'=>e= .returned (.agg #[.int .u64 (hi:Nat),.int .u64 ((lo:Int)+2^(127 - n)),.int .i64 ((n:Int)+1)])∧Below w.heap.size w w':=by
 have hbd:=z6F h2 hn hn2 (ylV hn (by omega) hr)
 have hor:=z9Z (127 - n) hbd (by rw [show (127 - n)+1=128 - n from by omega];exact ylV hn (by omega) hr)
 have hwr:IntKind.u64.wrap ((2:Int)^(127 - n))=(2:Int)^(127 - n):=by
  rw [show ((2:Int)^(127 - n))=((2^(127 - n):Nat):Int) from by simp]
  exact z0X _ (Nat.lt_of_le_of_lt (Nat.le_add_left _ _) hbd)
 go_enter Tryz.func302,Tryz.ntmps302
 go_wp2
 go_region
 go_wp2
 refine bodyPost_ret (v:= .agg #[.int .u64 (hi:Nat),.int .u64 ((lo:Int)+2^(127 - n)),.int .i64 ((n:Int)+1)]) (by simp [results,Tryz.results302,go_sem]) rfl ⟨rfl,?_⟩
 exact (((ypB _ _).alloc (ypA _) _).alloc (by simp) _).drew
theorem ydE (P i:Nat) (w:World) (hP:P<2^128) (hi:i<128):
  Calls Tryz.prog 302 #[pfW (ofW P i) (i:Nat),.int .i64 (bitW P i:Nat)] w fun e w'=>e= .returned (pfW (ofW P (i+1)) ((i+1:Nat):Int))∧Below w.heap.size w w':=by
 have b1:=hiN_lt (ofW_lt (n:=i) hP)
 have b2:=loN_lt (ofW P i)
 have hs:=zlN (ofW P i)
 have hr:rt (zaR (hiN (ofW P i)) (loN (ofW P i))) i:=by rw [hs];exact ynC P i
 have hsu:=yjQ P i hi
 have key: ∀x y:Nat,y<18446744073709551616→zaR x y=ofW P (i+1)→pfW (ofW P (i+1)) ((i+1:Nat):Int)= .agg #[.int .u64 (x:Nat),.int .u64 (y:Nat),.int .i64 ((i:Int)+1)]:=fun x y hy e=>by
  rw [←e,yfL hy];rfl
 show Calls Tryz.prog 302 #[.agg #[.int .u64 (hiN (ofW P i):Nat),.int .u64 (loN (ofW P i):Nat),.int .i64 (i:Nat)],.int .i64 (bitW P i:Nat)] w _
 rcases yiR P i with hb|hb
 ·rw [hb] at hsu ⊢
  rw [key (hiN (ofW P i)) (loN (ofW P i)) b2 (by rw [hs,hsu];simp)]
  by_cases h:i<64
  ·exact yaZ _ _ i w b1 h
  ·exact ycP _ _ i w b2 (by omega) hi
 ·rw [hb] at hsu ⊢
  rw [Nat.one_mul] at hsu
  by_cases h:i<64
  ·have e1:(2:Nat)^(127 - i)=2^(63 - i)*2^64:=by rw [←Nat.pow_add];congr 1;omega
   rw [key (hiN (ofW P i)+2^(63 - i)) (loN (ofW P i)) b2 (by rw [hsu,e1,yhI,hs])]
   have:=ycB _ _ i w b1 b2 h hr
   rw [show ((hiN (ofW P i)+2^(63 - i):Nat):Int)=(hiN (ofW P i):Int)+2^(63 - i) from by simp]
   exact this
  ·have hl:=z6F b2 (by omega) hi (ylV (by omega) (by omega) hr)
   rw [key (hiN (ofW P i)) (loN (ofW P i)+2^(127 - i)) hl (by rw [hsu,yjH,hs])]
   have:=z8C _ _ i w b2 (by omega) hi hr
   rw [show ((loN (ofW P i)+2^(127 - i):Nat):Int)=(loN (ofW P i):Int)+2^(127 - i) from by simp]
   exact this
theorem zqF {W n P k i:Nat} (h:ziS W P i (min n k - i)=zkY W n P k) (he:i=min n k∨bitW W i≠bitW P i):zkY W n P k=i:=by
 rw [←h]
 rcases he with e|e
 ·rw [e,Nat.sub_self];rfl
 ·cases f:min n k - i with
  |zero=>rfl
  |succ f=>show (if bitW W i=bitW P i then _ else i)=i;rw [if_neg e]
theorem zxE {W n P k i:Nat} (hi:i<min n k) (h:ziS W P i (min n k - i)=zkY W n P k) (he:bitW W i=bitW P i):ziS W P (i+1) (min n k - (i+1))=zkY W n P k:=by
 rw [←h,show min n k - i=(min n k - (i+1))+1 from by omega]
 show _=if bitW W i=bitW P i then _ else i
 rw [if_pos he]
theorem ygJ {w:World} {b:Nat} {x y z x' y' z':Value} {t:TypeId} (h:w.heap[b]? =some (.cells #[x,y,z] t)):
  (((w.setCell ⟨b,0,none⟩ x').setCell ⟨b,1,none⟩ y').setCell ⟨b,2,none⟩ z').heap[b]? =some (.cells #[x',y',z'] t):=by
 have h1:=zaJ h 0 x'
 have h2:=zaJ h1 1 y'
 have h3:=zaJ h2 2 z'
 exact h3
theorem z4S {w:World} {b b':Nat} (hb:b≠b') (x' y' z':Value):(((w.setCell ⟨b',0,none⟩ x').setCell ⟨b',1,none⟩ y').setCell ⟨b',2,none⟩ z').heap[b]? =w.heap[b]? :=by
 rw [zbV hb,zbV hb,zbV hb]
theorem Blks.set3 {L:List (Nat×Array Value×TypeId)} {w:World} {b':Nat} (h:Blks L w) (hb: ∀e∈L,e.1≠b') (x' y' z':Value):Blks L (((w.setCell ⟨b',0,none⟩ x').setCell ⟨b',1,none⟩ y').setCell ⟨b',2,none⟩ z'):=fun e he=>by
 rw [z4S (hb e he)];exact h e he
theorem Below.set3 {a w:World} (h:Below a.heap.size a w) {b:Nat} (hb:a.heap.size≤b) (x y z:Value):Below a.heap.size a (((w.setCell ⟨b,0,none⟩ x).setCell ⟨b,1,none⟩ y).setCell ⟨b,2,none⟩ z):=
 ((h.setCell (p:=⟨b,0,none⟩) hb x).setCell (p:=⟨b,1,none⟩) hb y).setCell (p:=⟨b,2,none⟩) hb z
theorem z5D (hi lo n ph pl k:Nat) (w:World) (h1:hi<18446744073709551616) (h2:lo<18446744073709551616) (h3:ph<18446744073709551616) (h4:pl<18446744073709551616) (hn:n≤128) (hk:k≤128):
  Calls Tryz.prog 295 #[.agg #[.int .u64 (hi:Nat),.int .u64 (lo:Nat),.int .i64 (n:Nat)],.agg #[.int .u64 (ph:Nat),.int .u64 (pl:Nat),.int .i64 (k:Nat)]] w
   fun e w'=>e= .returned (pfW (ofW (zaR ph pl) (zkY (zaR hi lo) n (zaR ph pl) k)) (zkY (zaR hi lo) n (zaR ph pl) k:Nat))∧Below w.heap.size w w':=by
 obtain ⟨W,hW⟩: ∃W,zaR hi lo=W:=⟨_,rfl⟩
 obtain ⟨P,hP⟩: ∃P,zaR ph pl=P:=⟨_,rfl⟩
 have hPl:P<2^128:=hP▸ykW h3 h4
 have HBW:Hid (∀(i:Nat) V,i<128→Calls Tryz.prog 294 #[.agg #[.int .u64 (hi:Nat),.int .u64 (lo:Nat),.int .i64 (n:Nat)],.int .i64 (i:Nat)] V fun e w'=>e= .returned (.int .i64 (bitW W i:Nat))∧Below V.heap.size V w'):=fun i V h=>by
  have:=ykE hi lo n i V h1 h2 h;rwa [hW] at this
 have HBP:Hid (∀(i:Nat) V,i<128→Calls Tryz.prog 294 #[.agg #[.int .u64 (ph:Nat),.int .u64 (pl:Nat),.int .i64 (k:Nat)],.int .i64 (i:Nat)] V fun e w'=>e= .returned (.int .i64 (bitW P i:Nat))∧Below V.heap.size V w'):=fun i V h=>by
  have:=ykE ph pl k i V h3 h4 h;rwa [hP] at this
 have HLG:Hid (∀(i:Nat) V,i<128→Calls Tryz.prog 302 #[.agg #[.int .u64 (hiN (ofW P i):Nat),.int .u64 (loN (ofW P i):Nat),.int .i64 (i:Nat)],.int .i64 (bitW P i:Nat)] V fun e w'=>e= .returned (.agg #[.int .u64 (hiN (ofW P (i+1)):Nat),.int .u64 (loN (ofW P (i+1)):Nat),.int .i64 ((i+1:Nat):Int)])∧Below V.heap.size V w'):=fun i V h=>ydE P i V hPl h
 have HZ:Hid (hiN (ofW P 0)=0∧loN (ofW P 0)=0):=by
  have e:ofW P 0=0:=by show qt P 0*_=0;rw [qt_lt hPl,Nat.zero_mul]
  exact ⟨by rw [e];rfl,by rw [e];rfl⟩
 rw [hW,hP]
 clear hW hP
 obtain ⟨L,hL⟩: ∃L,min n k=L:=⟨_,rfl⟩
 have HL:=yoZ hL
 have hmin:min (n:Int) (k:Int)=(L:Nat):=by omega
 have hL8:L≤128:=by omega
 clear hL
 go_enter Tryz.func295,Tryz.ntmps295
 go_wp2
 go_loopw [13] (fun x wr=> ∃i:Nat,i≤L∧x= .int .i64 i∧Hid (Blks [(w.heap.size+1+1,#[.int .u64 0,.int .u64 0,.int .i64 0],245),(w.heap.size+1,#[.int .u64 (ph:Nat),.int .u64 (pl:Nat),.int .i64 (k:Nat)],245),(w.heap.size,#[.int .u64 (hi:Nat),.int .u64 (lo:Nat),.int .i64 (n:Nat)],245)] wr)∧Hid (wr.heap[w.heap.size+1+1+1]? =some (.cells #[.int .u64 (hiN (ofW P i):Nat),.int .u64 (loN (ofW P i):Nat),.int .i64 (i:Nat)] 245))∧Below w.heap.size w wr∧Hid (ziS W P i (min n k - i)=zkY W n P k)) (fun x _=>L - (intOf x).toNat)
 case atStart=>
  refine ⟨0,by omega,rfl,?_,?_,?_,rfl⟩
  ·have h:=(((Blks.empty w).new #[.int .u64 (hi:Nat),.int .u64 (lo:Nat),.int .i64 (n:Nat)] 245).new #[.int .u64 (ph:Nat),.int .u64 (pl:Nat),.int .i64 (k:Nat)] 245).new #[.int .u64 0,.int .u64 0,.int .i64 0] 245
   simp only [World.size_alloc] at h
   exact h.keep ((ypB _ _).alloc (ypA _) _)
  ·show _=_
   rw [HZ.out.1,HZ.out.2]
   have h:=(((((Blks.empty w).new #[.int .u64 (hi:Nat),.int .u64 (lo:Nat),.int .i64 (n:Nat)] 245).new #[.int .u64 (ph:Nat),.int .u64 (pl:Nat),.int .i64 (k:Nat)] 245).new #[.int .u64 0,.int .u64 0,.int .i64 0] 245).new #[.int .u64 0,.int .u64 0,.int .i64 0] 245) _ (.head _)
   simp only [World.size_alloc] at h
   exact h
  ·exact ((((ypB _ _).alloc (ypA _) _).alloc (by simp) _).alloc (by simp;omega) _).alloc (by simp;omega) _
 case round=>
  obtain ⟨i,hi2,rfl,HB,HR,hc,HC⟩:=hrel
  by_cases hlt:i<L
  ·have hi8:i<128:=by omega
   by_cases he:bitW W i=bitW P i
   ·have HS:=yoZ (zxE (by rw [HL.out];exact hlt) HC.out he)
    have q1:=yoZ (fun V=>HBW.out i V hi8)
    rw [he] at q1
    have q2:=yoZ (fun V=>HBP.out i V hi8)
    have q3:=yoZ (fun V=>HLG.out i V hi8)
    clear he
    obtain ⟨la,a0,a1,a2⟩:=HB.out.r3 (b:=w.heap.size) (by repeat first|exact .head _|apply List.Mem.tail)
    obtain ⟨lb,b0,b1,b2⟩:=HB.out.r3 (b:=w.heap.size+1) (by repeat first|exact .head _|apply List.Mem.tail)
    obtain ⟨⟨r0,r1,r2⟩,f0,f1,f2⟩:=row3 HR.out
    go_wp2_with fail
    refine (q1.out _).mono ?_
    rintro e y1 ⟨rfl,hy1⟩
    have HB1:=yoZ (HB.out.keep hy1)
    have HR1:Hid (y1.heap[w.heap.size+1+1+1]? =_):=(hy1.block _ (zaM HR.out)).trans HR.out
    have hc1:=zeH hc hy1
    clear la a0 a1 a2 lb b0 b1 b2 r0 r1 r2 f0 f1 f2
    obtain ⟨la1,a01,a11,a21⟩:=HB1.out.r3 (b:=w.heap.size) (by repeat first|exact .head _|apply List.Mem.tail)
    obtain ⟨lb1,b01,b11,b21⟩:=HB1.out.r3 (b:=w.heap.size+1) (by repeat first|exact .head _|apply List.Mem.tail)
    obtain ⟨⟨r01,r11,r21⟩,f01,f11,f21⟩:=row3 HR1.out
    go_wp2_with fail
    refine (q2.out _).mono ?_
    rintro e y2 ⟨rfl,hy2⟩
    have HB2:=yoZ (HB1.out.keep hy2)
    have HR2:Hid (y2.heap[w.heap.size+1+1+1]? =_):=(hy2.block _ (zaM HR1.out)).trans HR1.out
    have hc2:=zeH hc1 hy2
    clear la1 a01 a11 a21 lb1 b01 b11 b21 r01 r11 r21 f01 f11 f21
    obtain ⟨la2,a02,a12,a22⟩:=HB2.out.r3 (b:=w.heap.size) (by repeat first|exact .head _|apply List.Mem.tail)
    obtain ⟨lb2,b02,b12,b22⟩:=HB2.out.r3 (b:=w.heap.size+1) (by repeat first|exact .head _|apply List.Mem.tail)
    obtain ⟨⟨r02,r12,r22⟩,f02,f12,f22⟩:=row3 HR2.out
    go_wp2_with fail
    refine (q3.out _).mono ?_
    rintro e y3 ⟨rfl,hy3⟩
    have HB3:=yoZ (HB2.out.keep hy3)
    have HR3:Hid (y3.heap[w.heap.size+1+1+1]? =_):=(hy3.block _ (zaM HR2.out)).trans HR2.out
    have hc3:=zeH hc2 hy3
    clear la2 a02 a12 a22 lb2 b02 b12 b22 r02 r12 r22 f02 f12 f22
    obtain ⟨la3,a03,a13,a23⟩:=HB3.out.r3 (b:=w.heap.size) (by repeat first|exact .head _|apply List.Mem.tail)
    obtain ⟨lb3,b03,b13,b23⟩:=HB3.out.r3 (b:=w.heap.size+1) (by repeat first|exact .head _|apply List.Mem.tail)
    obtain ⟨⟨r03,r13,r23⟩,f03,f13,f23⟩:=row3 HR3.out
    go_wp2
    go_roundw
    case rel=>exact ⟨i+1,by omega,by go_num,HB3.out.set3 (fun e he=>by simp at he;rcases he with rfl|rfl|rfl<;>simp<;>omega) _ _ _,ygJ HR3.out,Below.set3 hc3 (by omega) _ _ _,HS.out⟩
    case measure=>simp [intOf];omega
   ·have HE:=yoZ (zqF HC.out (.inr he))
    have q1:=yoZ (fun V=>HBW.out i V hi8)
    have q2:=yoZ (fun V=>HBP.out i V hi8)
    have t1:((bitW W i:Int) !=(bitW P i:Int))=true:=by
     have:(bitW W i:Int)≠(bitW P i:Int):=by omega
     simp [this]
    clear he
    obtain ⟨la,a0,a1,a2⟩:=HB.out.r3 (b:=w.heap.size) (by repeat first|exact .head _|apply List.Mem.tail)
    obtain ⟨lb,b0,b1,b2⟩:=HB.out.r3 (b:=w.heap.size+1) (by repeat first|exact .head _|apply List.Mem.tail)
    obtain ⟨⟨r0,r1,r2⟩,f0,f1,f2⟩:=row3 HR.out
    go_wp2_with fail
    refine (q1.out _).mono ?_
    rintro e y1 ⟨rfl,hy1⟩
    have HB1:=yoZ (HB.out.keep hy1)
    have HR1:Hid (y1.heap[w.heap.size+1+1+1]? =_):=(hy1.block _ (zaM HR.out)).trans HR.out
    have hc1:=zeH hc hy1
    clear la a0 a1 a2 lb b0 b1 b2 r0 r1 r2 f0 f1 f2
    obtain ⟨la1,a01,a11,a21⟩:=HB1.out.r3 (b:=w.heap.size) (by repeat first|exact .head _|apply List.Mem.tail)
    obtain ⟨lb1,b01,b11,b21⟩:=HB1.out.r3 (b:=w.heap.size+1) (by repeat first|exact .head _|apply List.Mem.tail)
    obtain ⟨⟨r01,r11,r21⟩,f01,f11,f21⟩:=row3 HR1.out
    go_wp2_with fail
    refine (q2.out _).mono ?_
    rintro e y2 ⟨rfl,hy2⟩
    have HB2:=yoZ (HB1.out.keep hy2)
    have HR2:Hid (y2.heap[w.heap.size+1+1+1]? =_):=(hy2.block _ (zaM HR1.out)).trans HR1.out
    have hc2:=zeH hc1 hy2
    clear la1 a01 a11 a21 lb1 b01 b11 b21 r01 r11 r21 f01 f11 f21
    obtain ⟨la2,a02,a12,a22⟩:=HB2.out.r3 (b:=w.heap.size) (by repeat first|exact .head _|apply List.Mem.tail)
    obtain ⟨lb2,b02,b12,b22⟩:=HB2.out.r3 (b:=w.heap.size+1) (by repeat first|exact .head _|apply List.Mem.tail)
    obtain ⟨⟨r02,r12,r22⟩,f02,f12,f22⟩:=row3 HR2.out
    obtain ⟨lz,z0,z1,z2⟩:=HB2.out.r3 (b:=w.heap.size+1+1) (by repeat first|exact .head _|apply List.Mem.tail)
    obtain ⟨_,g0,g1,g2⟩:=row3 (HB2.out _ (List.Mem.head _))
    go_wp2
    refine bodyPost_ret (v:= .agg #[.int .u64 (hiN (ofW P i):Nat),.int .u64 (loN (ofW P i):Nat),.int .i64 (i:Nat)]) (by simp [results,Tryz.results295,go_sem,z0,z1,z2]) rfl ⟨?_,?_⟩
    ·rw [HE.out];rfl
    ·exact Below.set3 hc2 (by omega) _ _ _
  ·have e3:i=L:=by omega
   have HE:=yoZ (zqF HC.out (.inl (by rw [HL.out];exact e3)))
   subst e3
   obtain ⟨la,a0,a1,a2⟩:=HB.out.r3 (b:=w.heap.size) (by repeat first|exact .head _|apply List.Mem.tail)
   obtain ⟨lb,b0,b1,b2⟩:=HB.out.r3 (b:=w.heap.size+1) (by repeat first|exact .head _|apply List.Mem.tail)
   obtain ⟨⟨r0,r1,r2⟩,f0,f1,f2⟩:=row3 HR.out
   obtain ⟨lz,z0,z1,z2⟩:=HB.out.r3 (b:=w.heap.size+1+1) (by repeat first|exact .head _|apply List.Mem.tail)
   obtain ⟨_,g0,g1,g2⟩:=row3 (HB.out _ (List.Mem.head _))
   go_wp2
   refine bodyPost_ret (v:= .agg #[.int .u64 (hiN (ofW P i):Nat),.int .u64 (loN (ofW P i):Nat),.int .i64 (i:Nat)]) (by simp [results,Tryz.results295,go_sem,z0,z1,z2]) rfl ⟨?_,?_⟩
   ·rw [HE.out];rfl
   ·exact Below.set3 hc (by omega) _ _ _
end
end Go.Proofs.YtmjappnpedjlnaaGreatDoor
