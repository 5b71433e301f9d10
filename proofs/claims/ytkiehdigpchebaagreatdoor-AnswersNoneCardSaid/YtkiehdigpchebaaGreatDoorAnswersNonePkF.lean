/-
  What the law AnswersNone leans on, and its walk (6 of 12).
-/
import Derived.Test.YtkiehdigpchebaaGreatDoorChecked
import Derived.WalkKit
import Derived.WalkLawsBesides
import Derived.BigQuiet
import Derived.Deep.QuietTactic
import Derived.Deep.RegionHeld3
import Derived.Deep.DeepCutAuto
import Derived.Lib.Hide
import Derived.Lib.OthersKept
namespace Go.Proofs.YtkiehdigpchebaaGreatDoor
set_option maxRecDepth 100000
set_option maxHeartbeats 16000000
theorem tkF {P : Program} {f : Region.Mode} {d : Array Oper} {Q : Exit → Act → World → Prop} {S : World → Prop} (i : Nat) (s : Option Nat) {g : Op} {j : TypeId} {e : String} {k : _} {l : _} {v : Value} {fuel : Nat} {b : Array Bool} {a : Act} {w : World} (hi : d[i]? = some ⟨s, g, j, e, k, l⟩)
 (r : YieldsIf P d S ⟨s, g, j, e, k, l⟩ v a) (o : S w)
 (h : wpAnyH P f d Q S fuel (b.setIfInBounds i true) (a.put s v) w)
 (n : Region.noSelect d = true := by kernel_rfl) (m : Region.free f d b i = true := by kernel_rfl) (q : (Region.ready f d b).contains i = true := by kernel_rfl)
 (p : ∀ c a w, Q (.panic c) (a.put s v) w → Q (.panic c) a w := by exact fun _ _ _ h => h) : wpAnyH P f d Q S (fuel + 1) b a w :=
 wpAnyH_take hi n m q p r o h
theorem tkFa {b : Type _} (l : List b) (i : Nat) (a : b) : l.toArray.setIfInBounds i a = (l.set i a).toArray := List.setIfInBounds_toArray ..
theorem tkFb {a : Type _} (x y : a) (l : List a) : (x :: l).set 0 y = y :: l := rfl
theorem tkFc {a : Type _} (x y : a) (l : List a) (n : Nat) : (x :: l).set (n + 1) y = x :: l.set n y := rfl
abbrev ziC := @Nat.le_refl
abbrev ziD := @decide_eq_false
abbrev ziE := @decide_eq_true
abbrev ziF := @Go.RowKit.Below.refl
section
open Go.RowKit
def zaD (hi a:Nat):Nat:=hi*2^64+a
def bitW (W i:Nat):Nat:=W/2^(127 - i) % 2
def ofW (W n:Nat):Nat:=W/2^(128 - n)*2^(128 - n)
def rightW (W n:Nat):Prop:=n≤128∧W % 2^(128 - n)=0
theorem zgU {hi a:Nat} (l:a<2^64):zaD hi a/2^64=hi:=by unfold zaD;omega
theorem bit_hi {hi a:Nat} (l:a<2^64) (i:Nat) (h:i<64):hi/2^(63 - i) % 2=bitW (zaD hi a) i:=by
 unfold bitW
 rw [show 127 - i=64+(63 - i) from by omega,Nat.pow_add,←Nat.div_div_eq_div_mul,zgU l]
theorem bit_lo {hi a:Nat} (i:Nat) (h:64≤i) (b:i<128):a/2^(127 - i) % 2=bitW (zaD hi a) i:=by
 unfold bitW zaD
 have e:hi*2^64=2^(127 - i)*(hi*2^(i - 64)*2):=by
  rw [show (2:Nat)^64=2^(127 - i)*(2^(i - 64)*2) from by rw [←Nat.pow_succ,←Nat.pow_add];congr 1;omega]
  rw [Nat.mul_left_comm,Nat.mul_assoc]
 rw [e,Nat.add_comm,Nat.add_mul_div_left _ _ (Nat.pow_pos (by decide)),Nat.add_mul_mod_self_right]
theorem zgY (W i:Nat):bitW W i=0∨bitW W i=1:=by unfold bitW;omega
theorem zhC (X i:Nat) (h:i<128):X/2^(128 - (i+1))=2*(X/2^(128 - i))+bitW X i:=by
 unfold bitW
 rw [show 128 - (i+1)=127 - i from by omega,show 128 - i=(127 - i)+1 from by omega,Nat.pow_succ,←Nat.div_div_eq_div_mul]
 omega
theorem zhQ (W n:Nat):ofW W n/2^(128 - n)=W/2^(128 - n):=Nat.mul_div_cancel _ (Nat.pow_pos (by decide))
theorem ofW_le (W n:Nat):ofW W n≤W:=Nat.div_mul_le_self _ _
theorem zgZ {W n:Nat} (h:rightW W n):ofW W n=W:=by
 unfold ofW
 have:=Nat.div_add_mod W (2^(128 - n))
 rw [h.2,Nat.add_zero,Nat.mul_comm] at this
 exact this
def qt (X n:Nat):Nat:=X/2^(128 - n)
def zaF (W:Nat) (n:Int):Bool:=decide (0≤n∧n≤128∧W % 2^(128 - n.toNat)=0)
def zaI (P:Nat) (n:Int) (Q:Nat) (m:Int):Bool:=zaF P n&&(zaF Q m&&(decide (n≤m)&&decide (qt P n.toNat=qt Q n.toNat)))
theorem zhP (X n:Nat) (h:n<128):qt X (n+1)=2*qt X n+bitW X n:=zhC X n h
theorem qt_lt {X:Nat} (h:X<2^128):qt X 0=0:=Nat.div_eq_of_lt h
def rt (W n:Nat):Prop:=W % 2^(128 - n)=0
theorem zhY {W n:Nat} (h:rt W n):W=qt W n*2^(128 - n):=by
 unfold rt at h;unfold qt
 have:=Nat.div_add_mod W (2^(128 - n))
 rw [h,Nat.add_zero,Nat.mul_comm] at this
 exact this.symm
theorem zhX {W P n:Nat} (h:rt W n) (a:rt P n) (e:qt W n=qt P n):W=P:=by rw [zhY h,zhY a,e]
theorem zbC {W n:Nat}:zaF W n=true↔n≤128∧rt W n:=by
 unfold zaF rt;rw [decide_eq_true_iff]
 constructor
 ·rintro ⟨_,b,a⟩;exact ⟨by omega,by simpa using a⟩
 ·rintro ⟨b,a⟩;exact ⟨by omega,by omega,by simpa using a⟩
theorem zhU (X n:Nat):rt (ofW X n) n:=Nat.mul_mod_left _ _
theorem qt_of (X n:Nat):qt (ofW X n) n=qt X n:=zhQ X n
def zaP (W P:Nat):Nat→Nat→Nat
 |i,0=>i
 |i,f+1=>if bitW W i=bitW P i then zaP W P (i+1) f else i
def zaS (W n P k:Nat):Nat:=zaP W P 0 (min n k)
def pfV (hi a:Nat) (n:Int):Value:= .agg #[.int .u64 (hi:Int),.int .u64 (a:Int),.int .i64 n]
def hiN (W:Nat):Nat:=W/18446744073709551616
def loN (W:Nat):Nat:=W % 18446744073709551616
def pfW (W:Nat) (n:Int):Value:=pfV (hiN W) (loN W) n
theorem zaW (W:Nat):zaD (hiN W) (loN W)=W:=by unfold zaD hiN loN;omega
theorem hiN_lt {W:Nat} (h:W<2^128):hiN W<18446744073709551616:=by unfold hiN;omega
theorem loN_lt (W:Nat):loN W<18446744073709551616:=by unfold loN;omega
theorem zaQ {hi a:Nat} (l:a<18446744073709551616):hiN (zaD hi a)=hi:=by unfold zaD hiN;omega
theorem zaU {hi a:Nat} (l:a<18446744073709551616):loN (zaD hi a)=a:=by unfold zaD loN;omega
theorem zhS {hi a:Nat} (h:hi<18446744073709551616) (l:a<18446744073709551616):zaD hi a<2^128:=by unfold zaD;omega
theorem zgR {hi a:Nat} (l:a<18446744073709551616) (n:Int):pfW (zaD hi a) n=pfV hi a n:=by unfold pfW;rw [zaQ l,zaU l]
theorem zcN {W P:Nat} (b:hiN W=hiN P) (a:loN W=loN P):W=P:=by rw [←zaW W,←zaW P,b,a]
def zbA (k:Nat):Nat:=2^64 - 2^(64 - k)
theorem zbR {k:Nat} (h:k≤64):2^k*2^(64 - k)=18446744073709551616:=by rw [←Nat.pow_add,show k+(64 - k)=64 from by omega]
theorem zhK (k:Nat):zbA k<18446744073709551616:=by
 have:0<2^(64 - k):=Nat.pow_pos (by decide)
 unfold zbA;omega
theorem zhD {k:Nat} (h:k≤64):18446744073709551615/2^k=2^(64 - k) - 1:=by
 have e:=zbR h
 have d:0<2^k:=Nat.pow_pos (by decide)
 have f:0<2^(64 - k):=Nat.pow_pos (by decide)
 generalize 2^k=a at*
 generalize 2^(64 - k)=b at*
 obtain ⟨c,rfl⟩: ∃c,b=c+1:=⟨b - 1,by omega⟩
 rw [Nat.mul_add,Nat.mul_one] at e
 rw [show 18446744073709551615=a*c+(a - 1) from by omega,Nat.mul_add_div d,Nat.div_eq_of_lt (by omega)]
 omega
theorem xor64u (n:Nat) (c:n≤18446744073709551615):bits .xor .u64 IntKind.u64.max (n:Int)=((18446744073709551615 - n:Nat):Int):=by
 have b:n<2^64:=by omega
 have a:BitVec.ofInt 64 18446744073709551615=BitVec.allOnes 64:=by decide
 show IntKind.u64.wrap (((BitVec.ofInt 64 18446744073709551615)^^^(BitVec.ofInt 64 (n:Int))).toNat:Int)=_
 rw [a,BitVec.allOnes_xor,BitVec.toNat_not,BitVec.ofInt_natCast,BitVec.toNat_ofNat,Nat.mod_eq_of_lt b,IntKind.wrap_u64]
 omega
theorem zgQ {k:Nat} (h:k≤64):bits .xor .u64 IntKind.u64.max ((18446744073709551615:Int)/2^k)=(zbA k:Int):=by
 have e:((18446744073709551615:Int)/2^k)=((18446744073709551615/2^k:Nat):Int):=by simp
 have b:0<2^(64 - k):=Nat.pow_pos (by decide)
 have a:2^(64 - k)≤2^64:=Nat.pow_le_pow_right (by decide) (by omega)
 rw [e,zhD h,xor64u _ (by omega)]
 unfold zbA
 congr 1;omega
theorem zdH (x k:Nat) (a:x<18446744073709551616):bits .and .u64 (x:Int) (zbA k:Int)=((x/2^(64 - k)*2^(64 - k):Nat):Int):=by
 rw [u64_and_nat x (zbA k) a (zhK k)]
 congr 1
 have b:zbA k=(2^(64 - (64 - k)) - 1)*2^(64 - k):=by
  have:=zbR (k:=64 - (64 - k)) (by omega)
  rw [show 64 - (64 - (64 - k))=64 - k from by omega] at this
  rw [Nat.sub_mul,this,Nat.one_mul];rfl
 apply Nat.eq_of_testBit_eq
 intro j
 rw [Nat.testBit_and,b,Nat.testBit_mul_two_pow,Nat.testBit_mul_two_pow,Nat.testBit_two_pow_sub_one,Nat.testBit_div_two_pow]
 by_cases h:64 - k≤j
 ·rw [show j - (64 - k)+(64 - k)=j from by omega]
  by_cases c:j<64
  ·simp [h,show j - (64 - k)<64 - (64 - k) from by omega]
  ·have:x.testBit j=false:=Nat.testBit_lt_two_pow (Nat.lt_of_lt_of_le a (by rw [show 18446744073709551616=2^64 from by decide];exact Nat.pow_le_pow_right (by decide) (by omega)))
   simp [this]
 ·simp [h]
theorem zhB {hi a:Nat} (l:a<18446744073709551616) {n:Nat} (g:n≤128):
  hiN (ofW (zaD hi a) n)=hi/2^(64 - n)*2^(64 - n)∧loN (ofW (zaD hi a) n)=a/2^(64 - (n - 64))*2^(64 - (n - 64)):=by
 unfold ofW
 rcases Nat.lt_or_ge 64 n with h|h
 ·have e:(18446744073709551616:Nat)=2^(128 - n)*2^(n - 64):=by rw [←Nat.pow_add,show 128 - n+(n - 64)=64 from by omega]
  rw [show 64 - n=0 from by omega,show 64 - (n - 64)=128 - n from by omega]
  have b:0<2^(128 - n):=Nat.pow_pos (by decide)
  have c:zaD hi a/2^(128 - n)*2^(128 - n)=hi*18446744073709551616+a/2^(128 - n)*2^(128 - n):=by
   have q:zaD hi a=2^(128 - n)*(2^(n - 64)*hi)+a:=by
    unfold zaD
    rw [show (2:Nat)^64=18446744073709551616 from by decide,e]
    congr 1
    ac_rfl
   rw [q,Nat.mul_add_div b,Nat.add_mul,e]
   congr 1
   ac_rfl
  have d:a/2^(128 - n)*2^(128 - n)≤a:=Nat.div_mul_le_self _ _
  rw [c]
  unfold hiN loN
  simp only [Nat.pow_zero,Nat.div_one,Nat.mul_one]
  constructor<;>omega
 ·have e:(2:Nat)^(128 - n)=18446744073709551616*2^(64 - n):=by rw [show 18446744073709551616=2^64 from by decide,←Nat.pow_add];congr 1;omega
  have f:zaD hi a/(18446744073709551616*2^(64 - n))=hi/2^(64 - n):=by
   rw [←Nat.div_div_eq_div_mul];congr 1;unfold zaD;omega
  rw [e,f,show n - 64=0 from by omega,Nat.mul_left_comm]
  unfold hiN loN
  constructor
  ·rw [Nat.mul_div_cancel_left _ (by decide)]
  ·rw [Nat.mul_mod_right,Nat.div_eq_of_lt (show a<2^(64 - 0) from l),Nat.zero_mul]
theorem retV {a b:Value} (h:a=b):Ending.returned a= .returned b:=by rw [h]
theorem zdG (n:Int) (w:World) (g: -9223372036854775808≤n) (f:n≤9223372036854775807):
  Calls Tryz.prog 148 #[.int .i64 n] w fun e w'=>e= .returned (.int .u64 (zbA n.toNat:Nat))∧w=w':=by
 by_cases a:n<0
 ·go_enter Tryz.func148,Tryz.ntmps148
  go_wp2
  all_goals go_ret
  all_goals exact ⟨retV (by rw [show n.toNat=0 from by omega];rfl),rfl⟩
 ·by_cases b:64<n
  ·go_enter Tryz.func148,Tryz.ntmps148
   go_wp2
   all_goals go_ret
   all_goals exact ⟨retV (by unfold zbA;rw [show 64 - n.toNat=0 from by omega];rfl),rfl⟩
  ·obtain ⟨k,rfl⟩:=Int.eq_ofNat_of_zero_le (show 0≤n by omega)
   have d:k≤64:=by omega
   have c:=Lib.hid (zgQ d)
   clear a b g f
   go_enter Tryz.func148,Tryz.ntmps148
   go_wp2
   all_goals go_ret
   all_goals exact ⟨retV (show Value.int .u64 _=_ by rw [c.out]),rfl⟩
theorem zbB (hi a n:Nat) (w:World) (l:hi<18446744073709551616) (f:a<18446744073709551616) (i:n≤128):
  Calls Tryz.prog 108 #[.int .u64 hi,.int .u64 a,.int .i64 n] w fun e w'=>e= .returned (pfW (ofW (zaD hi a) n) n)∧Below w.heap.size w w':=by
 obtain ⟨b,c⟩:=zhB (hi:=hi) f i
 have m:Hid (pfW (ofW (zaD hi a) n) n= .agg #[.int .u64 ((hi/2^(64 - n)*2^(64 - n):Nat):Int),.int .u64 ((a/2^(64 - (n - 64))*2^(64 - (n - 64)):Nat):Int),.int .i64 n]):=by
  show pfV _ _ _=_
  rw [b,c];rfl
 have d:((n:Int) - 64).toNat=n - 64:=by omega
 have k:=Lib.hid d
 have g:=Lib.hid (zdH hi n l)
 have h:=Lib.hid (zdH a (n - 64) f)
 clear b c d
 go_enter Tryz.func108,Tryz.ntmps108
 go_wp2_with fail
 refine (zdG _ _ (by omega) (by omega)).mono ?_
 rintro e j ⟨rfl,rfl⟩
 rw [Int.toNat_natCast]
 go_wp2_with fail
 refine (zdG _ _ (by omega) (by omega)).mono ?_
 rintro e j ⟨rfl,rfl⟩
 rw [k.out]
 go_wp2
 refine bodyPost_ret (v:= .agg #[.int .u64 (bits .and .u64 (hi:Int) (zbA n:Nat)),.int .u64 (bits .and .u64 (a:Int) (zbA (n - 64):Nat)),.int .i64 n]) (by simp [results,Tryz.results108,go_sem]) rfl ⟨?_,?_⟩
 ·rw [m.out,g.out,h.out]
 ·exact ((ziF _ _).alloc (ziC _) _)
theorem zbE (u v:Array Value): ∀(p q:Operand) (W:World),(eqGuard .eql 151 p q (.agg u) (.agg v)).run Tryz.prog W= .ok () W:=by
 intro p q W;kernel_rfl
theorem eqPf (a b c e d f:Int): ∀W:World,(binOp .eql 151 (.agg #[.int .u64 a,.int .u64 b,.int .i64 c]) (.agg #[.int .u64 e,.int .u64 d,.int .i64 f])).run Tryz.prog W= .ok (.bool (a==e&&(b==d&&c==f))) W:=by
 intro W
 have g:(Op.equal 151 (.agg #[.int .u64 a,.int .u64 b,.int .i64 c]) (.agg #[.int .u64 e,.int .u64 d,.int .i64 f])).run Tryz.prog W= .ok (a==e&&(b==d&&c==f)) W:=by
  show (Op.equalIn 10000 151 _ _).run Tryz.prog W=_
  rw [run_equalIn_struct W 9999 151 _ _ (by kernel_rfl) (by kernel_rfl)]
  simp [Program.fieldsOf,Tryz.underlying151,Op.eqFields,go_sem,part,Tryz.sizeOf70,Tryz.isAgg70,Tryz.underlying70,Tryz.sizeOf3,Tryz.isAgg3,Tryz.underlying3]
  by_cases j:a=e<;>by_cases i:b=d<;>by_cases h:c=f<;>simp [j,i,h]
 show ((Op.equal _ _ _>>=fun b=>pure (Value.bool b)):Sem Value).run _ _=_
 rw [Sem.run_bind,g];rfl
theorem zhJ (w:World) (a b c:Value) (t:TypeId): ∀W,Below (w.heap.size+1) (w.alloc (.cells #[a,b,c] t)) W→W.cell? ⟨w.heap.size,0,none⟩=some a∧W.cell? ⟨w.heap.size,1,none⟩=some b∧W.cell? ⟨w.heap.size,2,none⟩=some c:=fun W h=>by
 refine ⟨?_,?_,?_⟩
 all_goals
  rw [h.cell (p:=⟨w.heap.size,_,none⟩) (by show w.heap.size<_;omega)]
  simp [go_sem]
theorem zaR {w W:World} {o:Obj} (h:Below (w.heap.size+1) (w.alloc o) W):Below w.heap.size w W:=
 ((ziF _ _).alloc (ziC _) o).trans (h.mono (Nat.le_succ _))
theorem zbW {x:World} {n:Nat}:Below n x x.drew:=(ziF _ _).drew
theorem zhM {x:World} {n k:Nat}:Below n x (x.drewN k):=⟨rfl,rfl,rfl,ziC _,fun _ _=>rfl⟩
theorem zaK {x W:World} {n:Nat} (a:n≤x.heap.size) (h:Below x.drew.heap.size x.drew W):Below n x W:=(ziF _ _).drew.trans (h.mono a)
theorem zaM {x y W:World} {n:Nat} (a:n≤x.heap.size) (h:Below n x y) (b:Below y.heap.size y W):Below n x W:=h.trans (b.mono (Nat.le_trans a h.size))
theorem zgV (hi c n:Nat) (w:World) (q:hi<18446744073709551616) (g:c<18446744073709551616) (j:n≤128):
  Calls Tryz.prog 83 #[.agg #[.int .u64 hi,.int .u64 c,.int .i64 n]] w fun e w'=>e= .returned (.bool (zaF (zaD hi c) n))∧Below w.heap.size w w':=by
 obtain ⟨m,h⟩: ∃x,hiN (ofW (zaD hi c) n)=x:=⟨_,rfl⟩
 obtain ⟨l,i⟩: ∃x,loN (ofW (zaD hi c) n)=x:=⟨_,rfl⟩
 have p:Hid (∀W,Calls Tryz.prog 108 #[.int .u64 hi,.int .u64 c,.int .i64 n] W fun e w'=>e= .returned (.agg #[.int .u64 m,.int .u64 l,.int .i64 n])∧Below W.heap.size W w'):=fun W=>by
  have:=zbB hi c n W q g j
  unfold pfW at this
  rw [h,i] at this
  exact this
 have o:((m:Int)==hi&&((l:Int)==c&&(n:Int)==n))=zaF (zaD hi c) n:=by
  rw [Bool.eq_iff_iff,zbC]
  simp only [Bool.and_eq_true,beq_iff_eq,and_true]
  constructor
  ·rintro ⟨a,b⟩
   refine ⟨j,?_⟩
   have:ofW (zaD hi c) n=zaD hi c:=zcN (by rw [h,zaQ g];omega) (by rw [i,zaU g];omega)
   rw [←this];exact zhU _ _
  ·rintro ⟨_,b⟩
   have:ofW (zaD hi c) n=zaD hi c:=zgZ ⟨j,b⟩
   rw [this,zaQ g] at h
   rw [this,zaU g] at i
   omega
 have k:=eqPf m l n hi c n
 rw [o] at k
 have v:=zbE
 have f:=Lib.hid (zhJ w (.int .u64 hi) (.int .u64 c) (.int .i64 n) 151)
 have r:decide ((0:Int)≤n)=true:=ziE (by omega)
 have s:decide ((n:Int)≤128)=true:=ziE (by omega)
 clear h i o
 generalize zaF (zaD hi c) n=b at*
 go_enter Tryz.func83,Tryz.ntmps83
 go_wp2
 go_region_held3 (fun W=>W.cell? ⟨w.heap.size,0,none⟩=some (.int .u64 hi)∧W.cell? ⟨w.heap.size,1,none⟩=some (.int .u64 c)∧W.cell? ⟨w.heap.size,2,none⟩=some (.int .i64 n))
  (first|exact f.out _ zbW|exact f.out _ (zaK (by simp) d))
  (first
   |(go_simp;go_at_call 108;((with_reducible refine (p.out _).mono ?_);rintro e t ⟨rfl,d⟩)))
 go_wp2
 go_ret
 exact ⟨rfl,zaR (zaK (by simp) d)⟩
theorem zfK (hi c:Nat) (n:Int) (w:World) (a:n<0∨128<n):
  Calls Tryz.prog 83 #[.agg #[.int .u64 hi,.int .u64 c,.int .i64 n]] w fun e w'=>e= .returned (.bool false)∧Below w.heap.size w w':=by
 by_cases d:n<0
 ·have b:decide ((0:Int)≤n)=false:=ziD (by omega)
  clear a
  go_enter Tryz.func83,Tryz.ntmps83
  go_wp2
  go_quiet (fail)
  go_wp2
  go_ret
  exact ⟨rfl,zaR zhM⟩
 ·have b:decide ((0:Int)≤n)=true:=ziE (by omega)
  have f:decide (n≤128)=false:=ziD (by omega)
  clear a
  go_enter Tryz.func83,Tryz.ntmps83
  go_wp2
  go_quiet (fail)
  go_wp2
  go_ret
  exact ⟨rfl,zaR zhM⟩
theorem zcI {W:Nat} {n:Int} (h:n<0∨128<n):zaF W n=false:=by unfold zaF;rw [decide_eq_false_iff_not];omega
theorem zdP {W:Nat} {n:Int} (h:zaF W n=true):0≤n∧n≤128:=by unfold zaF at h;rw [decide_eq_true_iff] at h;omega
theorem zaG (hi a:Nat) (n:Int) (w:World) (b:hi<18446744073709551616) (c:a<18446744073709551616):
  Calls Tryz.prog 83 #[.agg #[.int .u64 hi,.int .u64 a,.int .i64 n]] w fun e w'=>e= .returned (.bool (zaF (zaD hi a) n))∧Below w.heap.size w w':=by
 by_cases h:n<0∨128<n
 ·rw [zcI h];exact zfK hi a n w h
 ·obtain ⟨k,rfl⟩:=Int.eq_ofNat_of_zero_le (show 0≤n by omega)
  exact zgV hi a k w b c (by omega)
theorem zaV (w:World) (a b c e d f:Value) (t:TypeId): ∀W,Below (w.heap.size+2) ((w.alloc (.cells #[a,b,c] t)).alloc (.cells #[e,d,f] t)) W→
  (W.cell? ⟨w.heap.size,0,none⟩=some a∧W.cell? ⟨w.heap.size,1,none⟩=some b∧W.cell? ⟨w.heap.size,2,none⟩=some c)∧W.cell? ⟨w.heap.size+1,0,none⟩=some e∧W.cell? ⟨w.heap.size+1,1,none⟩=some d∧W.cell? ⟨w.heap.size+1,2,none⟩=some f:=fun W h=>by
 refine ⟨⟨?_,?_,?_⟩,?_,?_,?_⟩
 ·rw [h.cell (p:=⟨w.heap.size,_,none⟩) (by show w.heap.size<_;omega)];simp [go_sem]
 ·rw [h.cell (p:=⟨w.heap.size,_,none⟩) (by show w.heap.size<_;omega)];simp [go_sem]
 ·rw [h.cell (p:=⟨w.heap.size,_,none⟩) (by show w.heap.size<_;omega)];simp [go_sem]
 ·rw [h.cell (p:=⟨w.heap.size+1,_,none⟩) (by show w.heap.size+1<_;omega)];simp [go_sem]
 ·rw [h.cell (p:=⟨w.heap.size+1,_,none⟩) (by show w.heap.size+1<_;omega)];simp [go_sem]
 ·rw [h.cell (p:=⟨w.heap.size+1,_,none⟩) (by show w.heap.size+1<_;omega)];simp [go_sem]
theorem zaJ {w W:World} {o a:Obj} (h:Below (w.heap.size+2) ((w.alloc o).alloc a) W):Below w.heap.size w W:=
 (((ziF _ _).alloc (ziC _) o).alloc (by simp) a).trans (h.mono (by omega))
theorem zhI (hi f d c:Nat) (n m:Int) (w:World) (p:hi<18446744073709551616) (k:f<18446744073709551616) (_:d<18446744073709551616) (_:c<18446744073709551616) (l:zaF (zaD hi f) n=false):
  Calls Tryz.prog 110 #[.agg #[.int .u64 hi,.int .u64 f,.int .i64 n],.agg #[.int .u64 d,.int .u64 c,.int .i64 m]] w fun e w'=>e= .returned (.bool false)∧Below w.heap.size w w':=by
 have i:=Lib.hid (zaV w (.int .u64 hi) (.int .u64 f) (.int .i64 n) (.int .u64 d) (.int .u64 c) (.int .i64 m) 151)
 have j:Hid (∀W,Calls Tryz.prog 83 #[.agg #[.int .u64 hi,.int .u64 f,.int .i64 n]] W fun e w'=>e= .returned (.bool false)∧Below W.heap.size W w'):=fun W=>by
  have:=zaG hi f n W p k;rwa [l] at this
 clear l p k
 go_enter Tryz.func110,Tryz.ntmps110
 go_wp2
 refine wp_region_held_drew (S:=fun W=>(W.cell? ⟨w.heap.size,0,none⟩=some (.int .u64 hi)∧W.cell? ⟨w.heap.size,1,none⟩=some (.int .u64 f)∧W.cell? ⟨w.heap.size,2,none⟩=some (.int .i64 n))∧W.cell? ⟨w.heap.size+1,0,none⟩=some (.int .u64 d)∧W.cell? ⟨w.heap.size+1,1,none⟩=some (.int .u64 c)∧W.cell? ⟨w.heap.size+1,2,none⟩=some (.int .i64 m)) (by kernel_rfl) ?_ (fun g=> ?_)
 ·exact i.out _ zbW
 refine tkF 0 (some 5) (v:= ?_) rfl (.inl ⟨by rfl,?_⟩) g ?_;rotate_left;·intro w b;(try dsimp only at b);go_simp;try with_reducible rfl
 try simp only [Act.put,tkFa,tkFb,tkFc]
 refine wpAnyH_ready (rs:=[1]) (by kernel_rfl) (by simp) ?_
 refine AllReadyH.cons (o:=⟨some 6,_,_,_,_,_⟩) rfl (fun K q=> ?_) AllReadyH.nil
 go_simp
 go_at_call 83
 refine (j.out _).mono ?_
 rintro e r ⟨rfl,h⟩
 (try go_wp2_with fail)
 refine q.out _ _ ?_ (fun a=> ?_)
 ·exact i.out _ (zaK (by simp) h)
 clear q K
 try simp only [Act.put,tkFa,tkFb,tkFc]
 refine tkF 2 (some 7) (v:= ?_) rfl (.inl ⟨by rfl,?_⟩) a ?_;rotate_left;·intro w b;(try dsimp only at b);go_simp;try with_reducible rfl
 try simp only [Act.put,tkFa,tkFb,tkFc]
 refine tkF 3 (some 8) (v:=undef) rfl (.inr ⟨by rfl,rfl⟩) a ?_
 try simp only [Act.put,tkFa,tkFb,tkFc]
 refine tkF 4 (some 9) (v:=undef) rfl (.inr ⟨by rfl,rfl⟩) a ?_
 try simp only [Act.put,tkFa,tkFb,tkFc]
 refine tkF 5 (some 10) (v:= ?_) rfl (.inl ⟨by rfl,?_⟩) a ?_;rotate_left;·intro w b;(try dsimp only at b);go_simp;try with_reducible rfl
 try simp only [Act.put,tkFa,tkFb,tkFc]
 refine tkF 6 (some 11) (v:= ?_) rfl (.inl ⟨by rfl,?_⟩) a ?_;rotate_left;·intro w b;(try dsimp only at b);go_simp;try with_reducible rfl
 try simp only [Act.put,tkFa,tkFb,tkFc]
 refine tkF 7 (some 12) (v:=undef) rfl (.inr ⟨by rfl,rfl⟩) a ?_
 try simp only [Act.put,tkFa,tkFb,tkFc]
 refine tkF 8 (some 13) (v:=undef) rfl (.inr ⟨by rfl,rfl⟩) a ?_
 try simp only [Act.put,tkFa,tkFb,tkFc]
 refine tkF 9 (some 14) (v:=undef) rfl (.inr ⟨by rfl,rfl⟩) a ?_
 try simp only [Act.put,tkFa,tkFb,tkFc]
 refine tkF 10 (some 15) (v:=undef) rfl (.inr ⟨by rfl,rfl⟩) a ?_
 try simp only [Act.put,tkFa,tkFb,tkFc]
 refine tkF 11 (some 16) (v:=undef) rfl (.inr ⟨by rfl,rfl⟩) a ?_
 try simp only [Act.put,tkFa,tkFb,tkFc]
 refine tkF 12 (some 17) (v:= ?_) rfl (.inl ⟨by rfl,?_⟩) a ?_;rotate_left;·intro w b;(try dsimp only at b);go_simp;try with_reducible rfl
 try simp only [Act.put,tkFa,tkFb,tkFc]
 refine tkF 13 (some 18) (v:= ?_) rfl (.inl ⟨by rfl,?_⟩) a ?_;rotate_left;·intro w b;(try dsimp only at b);go_simp;try with_reducible rfl
 try simp only [Act.put,tkFa,tkFb,tkFc]
 refine tkF 14 (some 19) (v:=undef) rfl (.inr ⟨by rfl,rfl⟩) a ?_
 try simp only [Act.put,tkFa,tkFb,tkFc]
 refine tkF 15 (some 20) (v:=undef) rfl (.inr ⟨by rfl,rfl⟩) a ?_
 try simp only [Act.put,tkFa,tkFb,tkFc]
 refine tkF 16 (some 21) (v:=undef) rfl (.inr ⟨by rfl,rfl⟩) a ?_
 try simp only [Act.put,tkFa,tkFb,tkFc]
 refine tkF 17 (some 22) (v:=undef) rfl (.inr ⟨by rfl,rfl⟩) a ?_
 try simp only [Act.put,tkFa,tkFb,tkFc]
 refine tkF 18 (some 23) (v:=undef) rfl (.inr ⟨by rfl,rfl⟩) a ?_
 try simp only [Act.put,tkFa,tkFb,tkFc]
 refine tkF 19 (some 24) (v:=undef) rfl (.inr ⟨by rfl,rfl⟩) a ?_
 try simp only [Act.put,tkFa,tkFb,tkFc]
 refine tkF 20 (some 25) (v:=undef) rfl (.inr ⟨by rfl,rfl⟩) a ?_
 try simp only [Act.put,tkFa,tkFb,tkFc]
 refine tkF 21 (some 26) (v:=undef) rfl (.inr ⟨by rfl,rfl⟩) a ?_
 try simp only [Act.put,tkFa,tkFb,tkFc]
 refine tkF 22 (some 27) (v:=undef) rfl (.inr ⟨by rfl,rfl⟩) a ?_
 try simp only [Act.put,tkFa,tkFb,tkFc]
 refine tkF 23 (some 28) (v:= ?_) rfl (.inl ⟨by rfl,?_⟩) a ?_;rotate_left;·intro w b;(try dsimp only at b);go_simp;try with_reducible rfl
 try simp only [Act.put,tkFa,tkFb,tkFc]
 refine tkF 24 (some 4) (v:= ?_) rfl (.inl ⟨by rfl,?_⟩) a ?_;rotate_left;·intro w b;(try dsimp only at b);go_simp;try with_reducible rfl
 try simp only [Act.put,tkFa,tkFb,tkFc]
 refine wpAnyH_done (by kernel_rfl) ?_ _
 go_wp2
 go_ret
 exact ⟨by first|rfl|(simp;done)|kernel_rfl|(simp [Act.put];done),zaJ (zaK (by simp) h)⟩
theorem zgW (hi h d c:Nat) (n m:Int) (w:World) (z:hi<18446744073709551616) (s:h<18446744073709551616) (x:d<18446744073709551616) (t:c<18446744073709551616) (y:zaF (zaD hi h) n=true) (r:zaF (zaD d c) m=false):
  Calls Tryz.prog 110 #[.agg #[.int .u64 hi,.int .u64 h,.int .i64 n],.agg #[.int .u64 d,.int .u64 c,.int .i64 m]] w fun e w'=>e= .returned (.bool false)∧Below w.heap.size w w':=by
 have j:=Lib.hid (zaV w (.int .u64 hi) (.int .u64 h) (.int .i64 n) (.int .u64 d) (.int .u64 c) (.int .i64 m) 151)
 have q:Hid (∀W,Calls Tryz.prog 83 #[.agg #[.int .u64 hi,.int .u64 h,.int .i64 n]] W fun e w'=>e= .returned (.bool true)∧Below W.heap.size W w'):=fun W=>by
  have:=zaG hi h n W z s;rwa [y] at this
 have p:Hid (∀W,Calls Tryz.prog 83 #[.agg #[.int .u64 d,.int .u64 c,.int .i64 m]] W fun e w'=>e= .returned (.bool false)∧Below W.heap.size W w'):=fun W=>by
  have:=zaG d c m W x t;rwa [r] at this
 clear y r z s x t
 go_enter Tryz.func110,Tryz.ntmps110
 go_wp2
 refine wp_region_held_drew (S:=fun W=>(W.cell? ⟨w.heap.size,0,none⟩=some (.int .u64 hi)∧W.cell? ⟨w.heap.size,1,none⟩=some (.int .u64 h)∧W.cell? ⟨w.heap.size,2,none⟩=some (.int .i64 n))∧W.cell? ⟨w.heap.size+1,0,none⟩=some (.int .u64 d)∧W.cell? ⟨w.heap.size+1,1,none⟩=some (.int .u64 c)∧W.cell? ⟨w.heap.size+1,2,none⟩=some (.int .i64 m)) (by kernel_rfl) ?_ (fun i=> ?_)
 ·exact j.out _ zbW
 refine tkF 0 (some 5) (v:= ?_) rfl (.inl ⟨by rfl,?_⟩) i ?_;rotate_left;·intro w b;(try dsimp only at b);go_simp;try with_reducible rfl
 try simp only [Act.put,tkFa,tkFb,tkFc]
 refine wpAnyH_ready (rs:=[1]) (by kernel_rfl) (by simp) ?_
 refine AllReadyH.cons (o:=⟨some 6,_,_,_,_,_⟩) rfl (fun K l=> ?_) AllReadyH.nil
 go_simp
 go_at_call 83
 refine (q.out _).mono ?_
 rintro e B ⟨rfl,g⟩
 (try go_wp2_with fail)
 refine l.out _ _ ?_ (fun f=> ?_)
 ·exact j.out _ (zaK (by simp) g)
 clear l K
 try simp only [Act.put,tkFa,tkFb,tkFc]
 refine tkF 2 (some 7) (v:= ?_) rfl (.inl ⟨by rfl,?_⟩) f ?_;rotate_left;·intro w b;(try dsimp only at b);go_simp;try with_reducible rfl
 try simp only [Act.put,tkFa,tkFb,tkFc]
 refine tkF 3 (some 8) (v:= ?_) rfl (.inl ⟨by rfl,?_⟩) f ?_;rotate_left;·intro w b;(try dsimp only at b);go_simp;try with_reducible rfl
 try simp only [Act.put,tkFa,tkFb,tkFc]
 refine wpAnyH_ready (rs:=[4]) (by kernel_rfl) (by simp) ?_
 refine AllReadyH.cons (o:=⟨some 9,_,_,_,_,_⟩) rfl (fun K l=> ?_) AllReadyH.nil
 go_simp
 go_at_call 83
 refine (p.out _).mono ?_
 rintro e A ⟨rfl,k⟩
 (try go_wp2_with fail)
 refine l.out _ _ ?_ (fun a=> ?_)
 ·exact j.out _ (zaM (by simp) (zaK (by simp) g) k)
 clear l K
 try simp only [Act.put,tkFa,tkFb,tkFc]
 refine tkF 5 (some 10) (v:= ?_) rfl (.inl ⟨by rfl,?_⟩) a ?_;rotate_left;·intro w b;(try dsimp only at b);go_simp;try with_reducible rfl
 try simp only [Act.put,tkFa,tkFb,tkFc]
 refine tkF 6 (some 11) (v:= ?_) rfl (.inl ⟨by rfl,?_⟩) a ?_;rotate_left;·intro w b;(try dsimp only at b);go_simp;try with_reducible rfl
 try simp only [Act.put,tkFa,tkFb,tkFc]
 refine tkF 7 (some 12) (v:=undef) rfl (.inr ⟨by rfl,rfl⟩) a ?_
 try simp only [Act.put,tkFa,tkFb,tkFc]
 refine tkF 8 (some 13) (v:=undef) rfl (.inr ⟨by rfl,rfl⟩) a ?_
 try simp only [Act.put,tkFa,tkFb,tkFc]
 refine tkF 9 (some 14) (v:=undef) rfl (.inr ⟨by rfl,rfl⟩) a ?_
 try simp only [Act.put,tkFa,tkFb,tkFc]
 refine tkF 10 (some 15) (v:=undef) rfl (.inr ⟨by rfl,rfl⟩) a ?_
 try simp only [Act.put,tkFa,tkFb,tkFc]
 refine tkF 11 (some 16) (v:=undef) rfl (.inr ⟨by rfl,rfl⟩) a ?_
 try simp only [Act.put,tkFa,tkFb,tkFc]
 refine tkF 12 (some 17) (v:= ?_) rfl (.inl ⟨by rfl,?_⟩) a ?_;rotate_left;·intro w b;(try dsimp only at b);go_simp;try with_reducible rfl
 try simp only [Act.put,tkFa,tkFb,tkFc]
 refine tkF 13 (some 18) (v:= ?_) rfl (.inl ⟨by rfl,?_⟩) a ?_;rotate_left;·intro w b;(try dsimp only at b);go_simp;try with_reducible rfl
 try simp only [Act.put,tkFa,tkFb,tkFc]
 refine tkF 14 (some 19) (v:=undef) rfl (.inr ⟨by rfl,rfl⟩) a ?_
 try simp only [Act.put,tkFa,tkFb,tkFc]
 refine tkF 15 (some 20) (v:=undef) rfl (.inr ⟨by rfl,rfl⟩) a ?_
 try simp only [Act.put,tkFa,tkFb,tkFc]
 refine tkF 16 (some 21) (v:=undef) rfl (.inr ⟨by rfl,rfl⟩) a ?_
 try simp only [Act.put,tkFa,tkFb,tkFc]
 refine tkF 17 (some 22) (v:=undef) rfl (.inr ⟨by rfl,rfl⟩) a ?_
 try simp only [Act.put,tkFa,tkFb,tkFc]
 refine tkF 18 (some 23) (v:=undef) rfl (.inr ⟨by rfl,rfl⟩) a ?_
 try simp only [Act.put,tkFa,tkFb,tkFc]
 refine tkF 19 (some 24) (v:=undef) rfl (.inr ⟨by rfl,rfl⟩) a ?_
 try simp only [Act.put,tkFa,tkFb,tkFc]
 refine tkF 20 (some 25) (v:=undef) rfl (.inr ⟨by rfl,rfl⟩) a ?_
 try simp only [Act.put,tkFa,tkFb,tkFc]
 refine tkF 21 (some 26) (v:=undef) rfl (.inr ⟨by rfl,rfl⟩) a ?_
 try simp only [Act.put,tkFa,tkFb,tkFc]
 refine tkF 22 (some 27) (v:=undef) rfl (.inr ⟨by rfl,rfl⟩) a ?_
 try simp only [Act.put,tkFa,tkFb,tkFc]
 refine tkF 23 (some 28) (v:= ?_) rfl (.inl ⟨by rfl,?_⟩) a ?_;rotate_left;·intro w b;(try dsimp only at b);go_simp;try with_reducible rfl
 try simp only [Act.put,tkFa,tkFb,tkFc]
 refine tkF 24 (some 4) (v:= ?_) rfl (.inl ⟨by rfl,?_⟩) a ?_;rotate_left;·intro w b;(try dsimp only at b);go_simp;try with_reducible rfl
 try simp only [Act.put,tkFa,tkFb,tkFc]
 refine wpAnyH_done (by kernel_rfl) ?_ _
 go_wp2
 go_ret
 exact ⟨by first|rfl|(simp;done)|kernel_rfl|(simp [Act.put];done),zaJ (zaM (by simp) (zaK (by simp) g) k)⟩
theorem zgS (hi h d c:Nat) (n m:Int) (w:World) (z:hi<18446744073709551616) (s:h<18446744073709551616) (x:d<18446744073709551616) (t:c<18446744073709551616) (y:zaF (zaD hi h) n=true) (r:zaF (zaD d c) m=true) (A:m<n):
  Calls Tryz.prog 110 #[.agg #[.int .u64 hi,.int .u64 h,.int .i64 n],.agg #[.int .u64 d,.int .u64 c,.int .i64 m]] w fun e w'=>e= .returned (.bool false)∧Below w.heap.size w w':=by
 have j:=Lib.hid (zaV w (.int .u64 hi) (.int .u64 h) (.int .i64 n) (.int .u64 d) (.int .u64 c) (.int .i64 m) 151)
 have q:Hid (∀W,Calls Tryz.prog 83 #[.agg #[.int .u64 hi,.int .u64 h,.int .i64 n]] W fun e w'=>e= .returned (.bool true)∧Below W.heap.size W w'):=fun W=>by
  have:=zaG hi h n W z s;rwa [y] at this
 have p:Hid (∀W,Calls Tryz.prog 83 #[.agg #[.int .u64 d,.int .u64 c,.int .i64 m]] W fun e w'=>e= .returned (.bool true)∧Below W.heap.size W w'):=fun W=>by
  have:=zaG d c m W x t;rwa [r] at this
 have D:decide (n≤m)=false:=ziD (by omega)
 clear y r z s x t A
 go_enter Tryz.func110,Tryz.ntmps110
 go_wp2
 refine wp_region_held_drew (S:=fun W=>(W.cell? ⟨w.heap.size,0,none⟩=some (.int .u64 hi)∧W.cell? ⟨w.heap.size,1,none⟩=some (.int .u64 h)∧W.cell? ⟨w.heap.size,2,none⟩=some (.int .i64 n))∧W.cell? ⟨w.heap.size+1,0,none⟩=some (.int .u64 d)∧W.cell? ⟨w.heap.size+1,1,none⟩=some (.int .u64 c)∧W.cell? ⟨w.heap.size+1,2,none⟩=some (.int .i64 m)) (by kernel_rfl) ?_ (fun i=> ?_)
 ·exact j.out _ zbW
 refine tkF 0 (some 5) (v:= ?_) rfl (.inl ⟨by rfl,?_⟩) i ?_;rotate_left;·intro w b;(try dsimp only at b);go_simp;try with_reducible rfl
 try simp only [Act.put,tkFa,tkFb,tkFc]
 refine wpAnyH_ready (rs:=[1]) (by kernel_rfl) (by simp) ?_
 refine AllReadyH.cons (o:=⟨some 6,_,_,_,_,_⟩) rfl (fun K l=> ?_) AllReadyH.nil
 go_simp
 go_at_call 83
 refine (q.out _).mono ?_
 rintro e C ⟨rfl,g⟩
 (try go_wp2_with fail)
 refine l.out _ _ ?_ (fun f=> ?_)
 ·exact j.out _ (zaK (by simp) g)
 clear l K
 try simp only [Act.put,tkFa,tkFb,tkFc]
 refine tkF 2 (some 7) (v:= ?_) rfl (.inl ⟨by rfl,?_⟩) f ?_;rotate_left;·intro w b;(try dsimp only at b);go_simp;try with_reducible rfl
 try simp only [Act.put,tkFa,tkFb,tkFc]
 refine tkF 3 (some 8) (v:= ?_) rfl (.inl ⟨by rfl,?_⟩) f ?_;rotate_left;·intro w b;(try dsimp only at b);go_simp;try with_reducible rfl
 try simp only [Act.put,tkFa,tkFb,tkFc]
 refine wpAnyH_ready (rs:=[4]) (by kernel_rfl) (by simp) ?_
 refine AllReadyH.cons (o:=⟨some 9,_,_,_,_,_⟩) rfl (fun K l=> ?_) AllReadyH.nil
 go_simp
 go_at_call 83
 refine (p.out _).mono ?_
 rintro e B ⟨rfl,k⟩
 (try go_wp2_with fail)
 refine l.out _ _ ?_ (fun a=> ?_)
 ·exact j.out _ (zaM (by simp) (zaK (by simp) g) k)
 clear l K
 try simp only [Act.put,tkFa,tkFb,tkFc]
 refine tkF 5 (some 10) (v:= ?_) rfl (.inl ⟨by rfl,?_⟩) a ?_;rotate_left;·intro w b;(try dsimp only at b);go_simp;try with_reducible rfl
 try simp only [Act.put,tkFa,tkFb,tkFc]
 refine tkF 6 (some 11) (v:= ?_) rfl (.inl ⟨by rfl,?_⟩) a ?_;rotate_left;·intro w b;(try dsimp only at b);go_simp;try with_reducible rfl
 try simp only [Act.put,tkFa,tkFb,tkFc]
 refine tkF 7 (some 12) (v:= ?_) rfl (.inl ⟨by rfl,?_⟩) a ?_;rotate_left;·intro w b;(try dsimp only at b);go_simp;try with_reducible rfl
 try simp only [Act.put,tkFa,tkFb,tkFc]
 refine tkF 8 (some 13) (v:= ?_) rfl (.inl ⟨by rfl,?_⟩) a ?_;rotate_left;·intro w b;(try dsimp only at b);go_simp;try with_reducible rfl
 try simp only [Act.put,tkFa,tkFb,tkFc]
 refine tkF 9 (some 14) (v:= ?_) rfl (.inl ⟨by rfl,?_⟩) a ?_;rotate_left;·intro w b;(try dsimp only at b);go_simp;try with_reducible rfl
 try simp only [Act.put,tkFa,tkFb,tkFc]
 refine tkF 10 (some 15) (v:= ?_) rfl (.inl ⟨by rfl,?_⟩) a ?_;rotate_left;·intro w b;(try dsimp only at b);go_simp;try with_reducible rfl
 try simp only [Act.put,tkFa,tkFb,tkFc]
 refine tkF 11 (some 16) (v:= ?_) rfl (.inl ⟨by rfl,?_⟩) a ?_;rotate_left;·intro w b;(try dsimp only at b);go_simp;try with_reducible rfl
 try simp only [Act.put,tkFa,tkFb,tkFc]
 refine tkF 12 (some 17) (v:= ?_) rfl (.inl ⟨by rfl,?_⟩) a ?_;rotate_left;·intro w b;(try dsimp only at b);go_simp;try with_reducible rfl
 try simp only [Act.put,tkFa,tkFb,tkFc]
 refine tkF 13 (some 18) (v:= ?_) rfl (.inl ⟨by rfl,?_⟩) a ?_;rotate_left;·intro w b;(try dsimp only at b);go_simp;try with_reducible rfl
 try simp only [Act.put,tkFa,tkFb,tkFc]
 refine tkF 14 (some 19) (v:=undef) rfl (.inr ⟨by rfl,rfl⟩) a ?_
 try simp only [Act.put,tkFa,tkFb,tkFc]
 refine tkF 15 (some 20) (v:=undef) rfl (.inr ⟨by rfl,rfl⟩) a ?_
 try simp only [Act.put,tkFa,tkFb,tkFc]
 refine tkF 16 (some 21) (v:=undef) rfl (.inr ⟨by rfl,rfl⟩) a ?_
 try simp only [Act.put,tkFa,tkFb,tkFc]
 refine tkF 17 (some 22) (v:=undef) rfl (.inr ⟨by rfl,rfl⟩) a ?_
 try simp only [Act.put,tkFa,tkFb,tkFc]
 refine tkF 18 (some 23) (v:=undef) rfl (.inr ⟨by rfl,rfl⟩) a ?_
 try simp only [Act.put,tkFa,tkFb,tkFc]
 refine tkF 19 (some 24) (v:=undef) rfl (.inr ⟨by rfl,rfl⟩) a ?_
 try simp only [Act.put,tkFa,tkFb,tkFc]
 refine tkF 20 (some 25) (v:=undef) rfl (.inr ⟨by rfl,rfl⟩) a ?_
 try simp only [Act.put,tkFa,tkFb,tkFc]
 refine tkF 21 (some 26) (v:=undef) rfl (.inr ⟨by rfl,rfl⟩) a ?_
 try simp only [Act.put,tkFa,tkFb,tkFc]
 refine tkF 22 (some 27) (v:=undef) rfl (.inr ⟨by rfl,rfl⟩) a ?_
 try simp only [Act.put,tkFa,tkFb,tkFc]
 refine tkF 23 (some 28) (v:= ?_) rfl (.inl ⟨by rfl,?_⟩) a ?_;rotate_left;·intro w b;(try dsimp only at b);go_simp;try with_reducible rfl
 try simp only [Act.put,tkFa,tkFb,tkFc]
 refine tkF 24 (some 4) (v:= ?_) rfl (.inl ⟨by rfl,?_⟩) a ?_;rotate_left;·intro w b;(try dsimp only at b);go_simp;try with_reducible rfl
 try simp only [Act.put,tkFa,tkFb,tkFc]
 refine wpAnyH_done (by kernel_rfl) ?_ _
 go_wp2
 go_ret
 exact ⟨by first|rfl|(simp;done)|kernel_rfl|(simp [Act.put];done),zaJ (zaM (by simp) (zaK (by simp) g) k)⟩
theorem zhE (hi f d c:Nat) (n m:Int) (w:World) (D:hi<18446744073709551616) (k:f<18446744073709551616) (y:d<18446744073709551616) (v:c<18446744073709551616) (o:zaF (zaD hi f) n=true) (s:zaF (zaD d c) m=true) (C:n≤m):
  Calls Tryz.prog 110 #[.agg #[.int .u64 hi,.int .u64 f,.int .i64 n],.agg #[.int .u64 d,.int .u64 c,.int .i64 m]] w fun e w'=>e= .returned (.bool (zaI (zaD hi f) n (zaD d c) m))∧Below w.heap.size w w':=by
 have h:=Lib.hid (zaV w (.int .u64 hi) (.int .u64 f) (.int .i64 n) (.int .u64 d) (.int .u64 c) (.int .i64 m) 151)
 have A:Hid (∀W,Calls Tryz.prog 83 #[.agg #[.int .u64 hi,.int .u64 f,.int .i64 n]] W fun e w'=>e= .returned (.bool true)∧Below W.heap.size W w'):=fun W=>by
  have:=zaG hi f n W D k;rwa [o] at this
 have z:Hid (∀W,Calls Tryz.prog 83 #[.agg #[.int .u64 d,.int .u64 c,.int .i64 m]] W fun e w'=>e= .returned (.bool true)∧Below W.heap.size W w'):=fun W=>by
  have:=zaG d c m W y v;rwa [s] at this
 obtain ⟨B,q⟩: ∃x,hiN (ofW (zaD d c) n.toNat)=x:=⟨_,rfl⟩
 obtain ⟨t,p⟩: ∃x,loN (ofW (zaD d c) n.toNat)=x:=⟨_,rfl⟩
 have G:=zdP o
 have j:(n.toNat:Int)=n:=by omega
 have F:Hid (∀W,Calls Tryz.prog 108 #[.int .u64 d,.int .u64 c,.int .i64 n] W fun e w'=>e= .returned (.agg #[.int .u64 B,.int .u64 t,.int .i64 n])∧Below W.heap.size W w'):=fun W=>by
  have:=zbB d c n.toNat W y v (by omega)
  unfold pfW at this
  rw [q,p,j] at this
  exact this
 have E:((B:Int)==hi&&((t:Int)==f&&n==n))=zaI (zaD hi f) n (zaD d c) m:=by
  unfold zaI
  have r3:rt (zaD hi f) n.toNat:=by have:=o;rw [←j,zbC] at this;exact this.2
  rw [o,s,ziE C,Bool.true_and,Bool.true_and,Bool.true_and,Bool.eq_iff_iff,decide_eq_true_iff]
  simp only [Bool.and_eq_true,beq_iff_eq,and_true]
  constructor
  ·rintro ⟨a,b⟩
   have:ofW (zaD d c) n.toNat=zaD hi f:=zcN (by rw [q,zaQ k];omega) (by rw [p,zaU k];omega)
   rw [←this];exact qt_of _ _
  ·intro b
   have:ofW (zaD d c) n.toNat=zaD hi f:=zhX (zhU _ _) r3 ((qt_of _ _).trans b.symm)
   rw [this,zaQ k] at q
   rw [this,zaU k] at p
   omega
 have r:=eqPf B t n hi f n
 rw [E] at r
 have L:=zbE
 have K:decide (n≤m)=true:=ziE (by omega)
 clear o s D k y v C E q p j G
 generalize zaI (zaD hi f) n (zaD d c) m=b at*
 go_enter Tryz.func110,Tryz.ntmps110
 go_wp2
 go_region_held3 (fun W=>(W.cell? ⟨w.heap.size,0,none⟩=some (.int .u64 hi)∧W.cell? ⟨w.heap.size,1,none⟩=some (.int .u64 f)∧W.cell? ⟨w.heap.size,2,none⟩=some (.int .i64 n))∧W.cell? ⟨w.heap.size+1,0,none⟩=some (.int .u64 d)∧W.cell? ⟨w.heap.size+1,1,none⟩=some (.int .u64 c)∧W.cell? ⟨w.heap.size+1,2,none⟩=some (.int .i64 m))
  (first|exact h.out _ (zbW)|exact h.out _ (zaK (by simp) g)|exact h.out _ (zaM (by simp) (zaK (by simp) g) i)|exact h.out _ (zaM (by simp) (zaM (by simp) (zaK (by simp) g) i) l))
  (first
   |(go_simp;go_at_call 83;((with_reducible refine (A.out _).mono ?_);rintro e I ⟨rfl,g⟩))
   |(go_simp;go_at_call 83;((with_reducible refine (z.out _).mono ?_);rintro e H ⟨rfl,i⟩))
   |(go_simp;go_at_call 108;((with_reducible refine (F.out _).mono ?_);rintro e J ⟨rfl,l⟩))
)
 go_wp2
 go_ret
 exact ⟨by first|rfl|(simp;done)|kernel_rfl|(simp [Act.put];done),zaJ (zaM (by simp) (zaM (by simp) (zaK (by simp) g) i) l)⟩
theorem zdS (hi c b a:Nat) (n m:Int) (w:World) (h:hi<18446744073709551616) (i:c<18446744073709551616) (g:b<18446744073709551616) (j:a<18446744073709551616):
  Calls Tryz.prog 110 #[.agg #[.int .u64 hi,.int .u64 c,.int .i64 n],.agg #[.int .u64 b,.int .u64 a,.int .i64 m]] w fun e w'=>e= .returned (.bool (zaI (zaD hi c) n (zaD b a) m))∧Below w.heap.size w w':=by
 cases d:zaF (zaD hi c) n with
 |false=>
  rw [show zaI (zaD hi c) n (zaD b a) m=false from by unfold zaI;rw [d];rfl]
  exact zhI hi c b a n m w h i g j d
 |true=>
  cases f:zaF (zaD b a) m with
  |false=>
   rw [show zaI (zaD hi c) n (zaD b a) m=false from by unfold zaI;rw [d,f];rfl]
   exact zgW hi c b a n m w h i g j d f
  |true=>
   by_cases k:n≤m
   ·exact zhE hi c b a n m w h i g j d f k
   ·rw [show zaI (zaD hi c) n (zaD b a) m=false from by unfold zaI;rw [d,f,ziD k];rfl]
    exact zgS hi c b a n m w h i g j d f (by omega)
theorem zhF (x:Nat) (h:x<18446744073709551616):bits .and .u64 (x:Int) 1=((x % 2:Nat):Int):=by
 rw [show (1:Int)=((1:Nat):Int) from rfl,u64_and_nat x 1 h (by decide),Nat.and_one_is_mod]
theorem zfI (x j:Nat) (h:x<18446744073709551616):wrap64 (bits .and .u64 ((x:Int)/2^j) 1)=((x/2^j % 2:Nat):Int):=by
 have e:((x:Int)/2^j)=((x/2^j:Nat):Int):=by simp
 rw [e,zhF _ (Nat.lt_of_le_of_lt (Nat.div_le_self _ _) h)]
 have:x/2^j % 2<2:=Nat.mod_lt _ (by decide)
 unfold wrap64;omega
theorem zhN (hi a:Nat) (n:Int) (k:Nat) (w:World) (h:hi<18446744073709551616) (c:a<18446744073709551616) (f:k<128):
  Calls Tryz.prog 111 #[.agg #[.int .u64 hi,.int .u64 a,.int .i64 n],.int .i64 k] w fun e w'=>e= .returned (.int .i64 (bitW (zaD hi a) k:Nat))∧Below w.heap.size w w':=by
 by_cases d:k<64
 ·have b:Hid (wrap64 (bits .and .u64 ((hi:Int)/2^(63 - k)) 1)=(bitW (zaD hi a) k:Nat)):=by
   show _=_
   rw [zfI _ _ h,bit_hi (show a<2^64 from c) k d]
  go_enter Tryz.func111,Tryz.ntmps111
  go_wp2
  all_goals go_ret
  all_goals exact ⟨retV (show Value.int .i64 _=_ by rw [b.out]),(ziF _ _).alloc (ziC _) _⟩
 ·have g:64≤k:=by omega
  have b:Hid (wrap64 (bits .and .u64 ((a:Int)/2^(127 - k)) 1)=(bitW (zaD hi a) k:Nat)):=by
   show _=_
   rw [zfI _ _ c,bit_lo (hi:=hi) k g f]
  clear d
  go_enter Tryz.func111,Tryz.ntmps111
  go_wp2
  all_goals go_ret
  all_goals exact ⟨retV (show Value.int .i64 _=_ by rw [b.out]),(ziF _ _).alloc (ziC _) _⟩
end
end Go.Proofs.YtkiehdigpchebaaGreatDoor
