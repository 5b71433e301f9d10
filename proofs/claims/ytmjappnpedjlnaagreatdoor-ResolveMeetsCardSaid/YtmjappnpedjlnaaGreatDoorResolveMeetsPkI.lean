/-
  What the law ResolveMeets leans on, and its walk (9 of 46).
-/
import Derived.Lib.ItoaLen
import Derived.Test.YtmjappnpedjlnaaGreatDoorResolveMeetsPkH
namespace Go.Proofs.YtmjappnpedjlnaaGreatDoor
set_option maxRecDepth 100000
set_option maxHeartbeats 16000000
section
open Go.RowKit
theorem ydX (n:Int) (w:World) (h0: -9223372036854775808≤n) (h1:n≤9223372036854775807) (htab:PowTab w):
  Calls Tryz.prog 87 #[.int .i64 n] w (zdT w (Lib.itoa n)):=by
 refine (Tryz.strconv_Itoa n h0 h1 w htab).mono ?_
 rintro e w' ⟨rfl,k,os,rfl⟩
 exact ⟨rfl,Lib.below_grow _ _ (Nat.le_refl _) _ _⟩
def Blks (L:List (Nat×Array Value×TypeId)) (W:World):Prop:= ∀e∈L,W.heap[e.1]? =some (.cells e.2.1 e.2.2)
theorem Blks.empty (W:World):Blks [] W:=fun e he=>by cases he
theorem Blks.keep {L:List (Nat×Array Value×TypeId)} {x y:World} (h:Blks L x) (hb:Below x.heap.size x y):Blks L y:=fun e he=>(hb.block e.1 (zaM (h e he))).trans (h e he)
theorem Blks.new {L:List (Nat×Array Value×TypeId)} {x:World} (h:Blks L x) (c:Array Value) (t:TypeId):Blks ((x.heap.size,c,t)::L) (x.alloc (.cells c t)):=fun e he=>by
 rcases List.mem_cons.1 he with g|g
 ·rw [g];exact Go.Deep.blk_alloc_new _ _
 ·exact h.keep ((Below.refl _ _).alloc (Nat.le_refl _) _) e g
theorem Blks.lt {L:List (Nat×Array Value×TypeId)} {x:World} (h:Blks L x) {b:Nat} {c:Array Value} {t:TypeId} (hm:(b,c,t)∈L):b<x.heap.size:=zaM (h _ hm)
theorem Blks.r3 {L:List (Nat×Array Value×TypeId)} {W:World} (h:Blks L W) {b:Nat} {x y z:Value} {t:TypeId} (hm:(b,#[x,y,z],t)∈L):
  b<W.heap.size∧W.cell? ⟨b,0,none⟩=some x∧W.cell? ⟨b,1,none⟩=some y∧W.cell? ⟨b,2,none⟩=some z:=⟨h.lt hm,(row3 (h _ hm)).1⟩
theorem yjQ (P i:Nat) (h:i<128):ofW P (i+1)=ofW P i+bitW P i*2^(127 - i):=by
 show qt P (i+1)*2^(128 - (i+1))=qt P i*2^(128 - i)+_
 rw [ymO P i h,show 128 - (i+1)=127 - i from by omega,show 128 - i=(127 - i)+1 from by omega,Nat.pow_succ,Nat.add_mul,Nat.mul_comm 2 (qt P i),Nat.mul_assoc,Nat.mul_comm 2]
theorem rt_hi {hi lo n:Nat} (h2:lo<18446744073709551616) (hn:n<64) (h:rt (zaR hi lo) n):hi % 2^(64 - n)=0:=by
 have e:=ykZ h
 have e2:(2:Nat)^(128 - n)=2^(64 - n)*18446744073709551616:=by rw [show 18446744073709551616=2^64 from by decide,←Nat.pow_add];congr 1;omega
 have e3:hi=qt (zaR hi lo) n*2^(64 - n):=by
  have q:=ziQ (hi:=hi) h2
  rw [e,e2,←Nat.mul_assoc] at q
  unfold hiN at q
  rw [Nat.mul_div_cancel _ (by decide)] at q
  exact q.symm
 rw [e3];exact Nat.mul_mod_left _ _
theorem ylV {hi lo n:Nat} (hn:64≤n) (hn2:n≤128) (h:rt (zaR hi lo) n):lo % 2^(128 - n)=0:=by
 have e:(18446744073709551616:Nat)=2^(128 - n)*2^(n - 64):=by rw [←Nat.pow_add,show 128 - n+(n - 64)=64 from by omega]
 have d:2^(128 - n)∣zaR hi lo:=Nat.dvd_of_mod_eq_zero h
 have d2:2^(128 - n)∣hi*2^64:=by
  rw [show (2:Nat)^64=18446744073709551616 from by decide,e]
  exact ⟨hi*2^(n - 64),by ac_rfl⟩
 have d3:2^(128 - n)∣zaR hi lo - hi*2^64:=Nat.dvd_sub d d2
 rw [show zaR hi lo - hi*2^64=lo from by unfold zaR;omega] at d3
 exact Nat.mod_eq_zero_of_dvd d3
theorem z1Z {x d:Nat} (hx:x % (2*d)=0) (N:Nat) (hN:N % (2*d)=0) (h:x<N):x+d<N:=by
 obtain ⟨a,rfl⟩:=Nat.dvd_of_mod_eq_zero hx
 obtain ⟨b,rfl⟩:=Nat.dvd_of_mod_eq_zero hN
 have:a<b:=Nat.lt_of_mul_lt_mul_left h
 have:2*d*(a+1)≤2*d*b:=Nat.mul_le_mul_left _ this
 rw [Nat.mul_add,Nat.mul_one] at this
 omega
theorem zhB {a n:Nat} (h:n<a):2^(a - n)=2*2^(a - 1 - n):=by rw [show a - n=(a - 1 - n)+1 from by omega,Nat.pow_succ,Nat.mul_comm]
theorem z9Q (a b:Nat) (h:b≤a):2^a % 2^b=0:=Nat.mod_eq_zero_of_dvd (Nat.pow_dvd_pow 2 h)
theorem ynU {hi n:Nat} (h1:hi<18446744073709551616) (hn:n<64) (h:hi % 2^(64 - n)=0):hi+2^(63 - n)<18446744073709551616:=by
 rw [zhB hn] at h
 exact z1Z h _ (by rw [←zhB hn,show 18446744073709551616=2^64 from by decide];exact z9Q _ _ (by omega)) h1
theorem z6F {lo n:Nat} (h1:lo<18446744073709551616) (hn:64≤n) (hn2:n<128) (h:lo % 2^(128 - n)=0):lo+2^(127 - n)<18446744073709551616:=by
 rw [zhB hn2] at h
 exact z1Z h _ (by rw [←zhB hn2,show 18446744073709551616=2^64 from by decide];exact z9Q _ _ (by omega)) h1
theorem z9Z {x:Nat} (s:Nat) (h1:x+2^s<18446744073709551616) (h:x % 2^(s+1)=0):bits .or .u64 (x:Int) ((2:Int)^s)=(x:Int)+(2:Int)^s:=by
 have hp:((2:Int)^s)=((2^s:Nat):Int):=by simp
 have hb:2^s<2^(s+1):=Nat.pow_lt_pow_right (by decide) (by omega)
 have hm:((x:Int) % 2^(s+1))=0:=by
  have:=congrArg (Nat.cast (R:=Int)) h
  simpa using this
 have hb2:((2^s:Nat):Int)<2^(s+1):=by
  have:(((2^s:Nat):Int))<((2^(s+1):Nat):Int):=by omega
  simpa using this
 rw [hp]
 exact yjD (s+1) (x:Int) ((2^s:Nat):Int) (by omega) hm (by omega) (by omega) hb2 (by omega)
theorem z0X (m:Nat) (h:m<18446744073709551616):IntKind.u64.wrap (m:Int)=(m:Int):=by rw [IntKind.wrap_u64];omega
theorem or_zero (x:Nat) (h:x<18446744073709551616):bits .or .u64 (x:Int) 0=(x:Int):=by
 rw [show (0:Int)=((0:Nat):Int) from rfl,u64_or_nat x 0 h (by decide),Nat.or_zero]
theorem yhI (x y a:Nat):zaR (x+a) y=zaR x y+a*2^64:=by unfold zaR;rw [Nat.add_mul,Nat.add_right_comm]
theorem yjH (x y a:Nat):zaR x (y+a)=zaR x y+a:=by unfold zaR;rw [Nat.add_assoc]
end
end Go.Proofs.YtmjappnpedjlnaaGreatDoor
