/-
  What the law PinNone leans on, and its walk (9 of 12).
-/
import Derived.Lib.ItoaLen
import Derived.Test.YtpmaemedpcgjaaaGreatDoorPinNonePkH
namespace Go.Proofs.YtpmaemedpcgjaaaGreatDoor
set_option maxRecDepth 100000
set_option maxHeartbeats 16000000
section
open Go.RowKit
def Blks (L:List (Nat×Array Value×TypeId)) (W:World):Prop:= ∀e∈L,W.heap[e.1]? =some (.cells e.2.1 e.2.2)
theorem Blks.empty (W:World):Blks [] W:=fun e a=>by cases a
theorem Blks.keep {L:List (Nat×Array Value×TypeId)} {x y:World} (h:Blks L x) (b:Below x.heap.size x y):Blks L y:=fun e a=>(b.block e.1 (zaO (h e a))).trans (h e a)
theorem Blks.new {L:List (Nat×Array Value×TypeId)} {x:World} (h:Blks L x) (c:Array Value) (t:TypeId):Blks ((x.heap.size,c,t)::L) (x.alloc (.cells c t)):=fun e a=>by
 rcases List.mem_cons.1 a with g|g
 ·rw [g];exact Go.Deep.blk_alloc_new _ _
 ·exact h.keep ((Below.refl _ _).alloc (Nat.le_refl _) _) e g
theorem Blks.lt {L:List (Nat×Array Value×TypeId)} {x:World} (h:Blks L x) {b:Nat} {c:Array Value} {t:TypeId} (a:(b,c,t)∈L):b<x.heap.size:=zaO (h _ a)
theorem Blks.r3 {L:List (Nat×Array Value×TypeId)} {W:World} (h:Blks L W) {b:Nat} {x y z:Value} {t:TypeId} (a:(b,#[x,y,z],t)∈L):
  b<W.heap.size∧W.cell? ⟨b,0,none⟩=some x∧W.cell? ⟨b,1,none⟩=some y∧W.cell? ⟨b,2,none⟩=some z:=⟨h.lt a,(row3 (h _ a)).1⟩
theorem zhK (P i:Nat) (h:i<128):ofW P (i+1)=ofW P i+bitW P i*2^(127 - i):=by
 show qt P (i+1)*2^(128 - (i+1))=qt P i*2^(128 - i)+_
 rw [zhY P i h,show 128 - (i+1)=127 - i from by omega,show 128 - i=(127 - i)+1 from by omega,Nat.pow_succ,Nat.add_mul,Nat.mul_comm 2 (qt P i),Nat.mul_assoc,Nat.mul_comm 2]
theorem rt_hi {hi a n:Nat} (c:a<18446744073709551616) (f:n<64) (h:rt (zaD hi a) n):hi % 2^(64 - n)=0:=by
 have e:=zhW h
 have b:(2:Nat)^(128 - n)=2^(64 - n)*18446744073709551616:=by rw [show 18446744073709551616=2^64 from by decide,←Nat.pow_add];congr 1;omega
 have d:hi=qt (zaD hi a) n*2^(64 - n):=by
  have q:=zaP (hi:=hi) c
  rw [e,b,←Nat.mul_assoc] at q
  unfold hiN at q
  rw [Nat.mul_div_cancel _ (by decide)] at q
  exact q.symm
 rw [d];exact Nat.mul_mod_left _ _
theorem ziE {hi a n:Nat} (g:64≤n) (c:n≤128) (h:rt (zaD hi a) n):a % 2^(128 - n)=0:=by
 have e:(18446744073709551616:Nat)=2^(128 - n)*2^(n - 64):=by rw [←Nat.pow_add,show 128 - n+(n - 64)=64 from by omega]
 have d:2^(128 - n)∣zaD hi a:=Nat.dvd_of_mod_eq_zero h
 have f:2^(128 - n)∣hi*2^64:=by
  rw [show (2:Nat)^64=18446744073709551616 from by decide,e]
  exact ⟨hi*2^(n - 64),by ac_rfl⟩
 have b:2^(128 - n)∣zaD hi a - hi*2^64:=Nat.dvd_sub d f
 rw [show zaD hi a - hi*2^64=a from by unfold zaD;omega] at b
 exact Nat.mod_eq_zero_of_dvd b
theorem zdD {x d:Nat} (c:x % (2*d)=0) (N:Nat) (e:N % (2*d)=0) (h:x<N):x+d<N:=by
 obtain ⟨a,rfl⟩:=Nat.dvd_of_mod_eq_zero c
 obtain ⟨b,rfl⟩:=Nat.dvd_of_mod_eq_zero e
 have:a<b:=Nat.lt_of_mul_lt_mul_left h
 have:2*d*(a+1)≤2*d*b:=Nat.mul_le_mul_left _ this
 rw [Nat.mul_add,Nat.mul_one] at this
 omega
theorem zaM {a n:Nat} (h:n<a):2^(a - n)=2*2^(a - 1 - n):=by rw [show a - n=(a - 1 - n)+1 from by omega,Nat.pow_succ,Nat.mul_comm]
theorem zfJ (a b:Nat) (h:b≤a):2^a % 2^b=0:=Nat.mod_eq_zero_of_dvd (Nat.pow_dvd_pow 2 h)
theorem zhX {hi n:Nat} (b:hi<18446744073709551616) (a:n<64) (h:hi % 2^(64 - n)=0):hi+2^(63 - n)<18446744073709551616:=by
 rw [zaM a] at h
 exact zdD h _ (by rw [←zaM a,show 18446744073709551616=2^64 from by decide];exact zfJ _ _ (by omega)) b
theorem zgN {b n:Nat} (c:b<18446744073709551616) (d:64≤n) (a:n<128) (h:b % 2^(128 - n)=0):b+2^(127 - n)<18446744073709551616:=by
 rw [zaM a] at h
 exact zdD h _ (by rw [←zaM a,show 18446744073709551616=2^64 from by decide];exact zfJ _ _ (by omega)) c
theorem zeQ {x:Nat} (s:Nat) (e:x+2^s<18446744073709551616) (h:x % 2^(s+1)=0):bits .or .u64 (x:Int) ((2:Int)^s)=(x:Int)+(2:Int)^s:=by
 have c:((2:Int)^s)=((2^s:Nat):Int):=by simp
 have d:2^s<2^(s+1):=Nat.pow_lt_pow_right (by decide) (by omega)
 have b:((x:Int) % 2^(s+1))=0:=by
  have:=congrArg (Nat.cast (R:=Int)) h
  simpa using this
 have a:((2^s:Nat):Int)<2^(s+1):=by
  have:(((2^s:Nat):Int))<((2^(s+1):Nat):Int):=by omega
  simpa using this
 rw [c]
 exact zhA (s+1) (x:Int) ((2^s:Nat):Int) (by omega) b (by omega) (by omega) a (by omega)
theorem zdM (m:Nat) (h:m<18446744073709551616):IntKind.u64.wrap (m:Int)=(m:Int):=by rw [IntKind.wrap_u64];omega
theorem or_zero (x:Nat) (h:x<18446744073709551616):bits .or .u64 (x:Int) 0=(x:Int):=by
 rw [show (0:Int)=((0:Nat):Int) from rfl,u64_or_nat x 0 h (by decide),Nat.or_zero]
theorem zgX (x y a:Nat):zaD (x+a) y=zaD x y+a*2^64:=by unfold zaD;rw [Nat.add_mul,Nat.add_right_comm]
theorem zhB (x y a:Nat):zaD x (y+a)=zaD x y+a:=by unfold zaD;rw [Nat.add_assoc]
end
end Go.Proofs.YtpmaemedpcgjaaaGreatDoor
