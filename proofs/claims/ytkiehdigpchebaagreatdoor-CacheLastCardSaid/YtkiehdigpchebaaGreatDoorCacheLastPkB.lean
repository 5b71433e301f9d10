/-
  What the law CacheLast leans on, and its walk (2 of 21).
-/
import Derived.Test.YtkiehdigpchebaaGreatDoorChecked
import Derived.WalkKit
import Derived.WalkLawsBesides
import Derived.BigQuiet
import Derived.Deep.QuietTactic
import Derived.Deep.RegionHeld3
import Derived.Deep.DeepCutAuto
import Derived.Lib.Hide
import Derived.Lib.OthersKept
namespace Go.Proofs.YtkiehdigpchebaaGreatDoor
set_option maxRecDepth 100000
set_option maxHeartbeats 16000000
theorem tkB {P : Program} {o : Region.Mode} {g : Array Oper} {Q : Exit → Act → World → Prop} {S : World → Prop} (i : Nat) (s : Option Nat) {p : Op} {y : TypeId} {j : String} {z : _} {q : _} {v : Value} {fuel : Nat} {f : Array Bool} {a : Act} {w : World} (hi : g[i]? = some ⟨s, p, y, j, z, q⟩)
 (I : YieldsIf P g S ⟨s, p, y, j, z, q⟩ v a) (G : S w)
 (h : wpAnyH P o g Q S fuel (f.setIfInBounds i true) (a.put s v) w)
 (H : Region.noSelect g = true := by kernel_rfl) (D : Region.free o g f i = true := by kernel_rfl) (E : (Region.ready o g f).contains i = true := by kernel_rfl)
 (C : ∀ c a w, Q (.panic c) (a.put s v) w → Q (.panic c) a w := by exact fun _ _ _ h => h) : wpAnyH P o g Q S (fuel + 1) f a w :=
 wpAnyH_take hi H D E C I G h
theorem tkBa {α : Type _} (l : List α) (i : Nat) (a : α) : l.toArray.setIfInBounds i a = (l.set i a).toArray := List.setIfInBounds_toArray ..
theorem tkBb {α : Type _} (x y : α) (l : List α) : (x :: l).set 0 y = y :: l := rfl
theorem tkBc {α : Type _} (x y : α) (l : List α) (n : Nat) : (x :: l).set (n + 1) y = x :: l.set n y := rfl
abbrev znC := @Nat.le_refl
abbrev znD := @decide_eq_false
abbrev znE := @decide_eq_true
abbrev znF := @Go.RowKit.Below.refl
section
open Go.RowKit
def zaD (hi lo:Nat):Nat:=hi*2^64+lo
def bitW (W i:Nat):Nat:=W/2^(127 - i) % 2
def ofW (W n:Nat):Nat:=W/2^(128 - n)*2^(128 - n)
def rightW (W n:Nat):Prop:=n≤128∧W % 2^(128 - n)=0
theorem zlS {hi lo:Nat} (l:lo<2^64):zaD hi lo/2^64=hi:=by unfold zaD;omega
theorem bit_hi {hi lo:Nat} (l:lo<2^64) (i:Nat) (h:i<64):hi/2^(63 - i) % 2=bitW (zaD hi lo) i:=by
 unfold bitW
 rw [show 127 - i=64+(63 - i) from by omega,Nat.pow_add,←Nat.div_div_eq_div_mul,zlS l]
theorem bit_lo {hi lo:Nat} (i:Nat) (h:64≤i) (a:i<128):lo/2^(127 - i) % 2=bitW (zaD hi lo) i:=by
 unfold bitW zaD
 have e:hi*2^64=2^(127 - i)*(hi*2^(i - 64)*2):=by
  rw [show (2:Nat)^64=2^(127 - i)*(2^(i - 64)*2) from by rw [←Nat.pow_succ,←Nat.pow_add];congr 1;omega]
  rw [Nat.mul_left_comm,Nat.mul_assoc]
 rw [e,Nat.add_comm,Nat.add_mul_div_left _ _ (Nat.pow_pos (by decide)),Nat.add_mul_mod_self_right]
theorem zkY (W i:Nat):bitW W i=0∨bitW W i=1:=by unfold bitW;omega
theorem zlX (X i:Nat) (h:i<128):X/2^(128 - (i+1))=2*(X/2^(128 - i))+bitW X i:=by
 unfold bitW
 rw [show 128 - (i+1)=127 - i from by omega,show 128 - i=(127 - i)+1 from by omega,Nat.pow_succ,←Nat.div_div_eq_div_mul]
 omega
theorem zmS (W n:Nat):ofW W n/2^(128 - n)=W/2^(128 - n):=Nat.mul_div_cancel _ (Nat.pow_pos (by decide))
theorem ofW_le (W n:Nat):ofW W n≤W:=Nat.div_mul_le_self _ _
theorem zlJ {W n:Nat} (h:rightW W n):ofW W n=W:=by
 unfold ofW
 have:=Nat.div_add_mod W (2^(128 - n))
 rw [h.2,Nat.add_zero,Nat.mul_comm] at this
 exact this
def qt (X n:Nat):Nat:=X/2^(128 - n)
def zaI (W:Nat) (n:Int):Bool:=decide (0≤n∧n≤128∧W % 2^(128 - n.toNat)=0)
def zaT (P:Nat) (n:Int) (Q:Nat) (m:Int):Bool:=zaI P n&&(zaI Q m&&(decide (n≤m)&&decide (qt P n.toNat=qt Q n.toNat)))
theorem zmT (X n:Nat) (h:n<128):qt X (n+1)=2*qt X n+bitW X n:=zlX X n h
theorem qt_lt {X:Nat} (h:X<2^128):qt X 0=0:=Nat.div_eq_of_lt h
def rt (W n:Nat):Prop:=W % 2^(128 - n)=0
theorem zmZ {W n:Nat} (h:rt W n):W=qt W n*2^(128 - n):=by
 unfold rt at h;unfold qt
 have:=Nat.div_add_mod W (2^(128 - n))
 rw [h,Nat.add_zero,Nat.mul_comm] at this
 exact this.symm
theorem zmN {W P n:Nat} (h:rt W n) (a:rt P n) (e:qt W n=qt P n):W=P:=by rw [zmZ h,zmZ a,e]
theorem zcH {W n:Nat}:zaI W n=true↔n≤128∧rt W n:=by
 unfold zaI rt;rw [decide_eq_true_iff]
 constructor
 ·rintro ⟨_,f,a⟩;exact ⟨by omega,by simpa using a⟩
 ·rintro ⟨f,a⟩;exact ⟨by omega,by omega,by simpa using a⟩
theorem zmL (X n:Nat):rt (ofW X n) n:=Nat.mul_mod_left _ _
theorem qt_of (X n:Nat):qt (ofW X n) n=qt X n:=zmS X n
def zbK (W P:Nat):Nat→Nat→Nat
 |i,0=>i
 |i,f+1=>if bitW W i=bitW P i then zbK W P (i+1) f else i
def zbZ (W n P k:Nat):Nat:=zbK W P 0 (min n k)
def pfV (hi lo:Nat) (n:Int):Value:= .agg #[.int .u64 (hi:Int),.int .u64 (lo:Int),.int .i64 n]
def hiN (W:Nat):Nat:=W/18446744073709551616
def loN (W:Nat):Nat:=W % 18446744073709551616
def pfW (W:Nat) (n:Int):Value:=pfV (hiN W) (loN W) n
theorem zcC (W:Nat):zaD (hiN W) (loN W)=W:=by unfold zaD hiN loN;omega
theorem hiN_lt {W:Nat} (h:W<2^128):hiN W<18446744073709551616:=by unfold hiN;omega
theorem loN_lt (W:Nat):loN W<18446744073709551616:=by unfold loN;omega
theorem zbJ {hi lo:Nat} (l:lo<18446744073709551616):hiN (zaD hi lo)=hi:=by unfold zaD hiN;omega
theorem zbU {hi lo:Nat} (l:lo<18446744073709551616):loN (zaD hi lo)=lo:=by unfold zaD loN;omega
theorem zmK {hi lo:Nat} (h:hi<18446744073709551616) (l:lo<18446744073709551616):zaD hi lo<2^128:=by unfold zaD;omega
theorem zlN {hi lo:Nat} (l:lo<18446744073709551616) (n:Int):pfW (zaD hi lo) n=pfV hi lo n:=by unfold pfW;rw [zbJ l,zbU l]
theorem zfS {W P:Nat} (f:hiN W=hiN P) (a:loN W=loN P):W=P:=by rw [←zcC W,←zcC P,f,a]
def zcQ (k:Nat):Nat:=2^64 - 2^(64 - k)
theorem zdY {k:Nat} (h:k≤64):2^k*2^(64 - k)=18446744073709551616:=by rw [←Nat.pow_add,show k+(64 - k)=64 from by omega]
theorem zlO (k:Nat):zcQ k<18446744073709551616:=by
 have:0<2^(64 - k):=Nat.pow_pos (by decide)
 unfold zcQ;omega
theorem zlY {k:Nat} (h:k≤64):18446744073709551615/2^k=2^(64 - k) - 1:=by
 have e:=zdY h
 have f:0<2^k:=Nat.pow_pos (by decide)
 have g:0<2^(64 - k):=Nat.pow_pos (by decide)
 generalize 2^k=a at*
 generalize 2^(64 - k)=b at*
 obtain ⟨c,rfl⟩: ∃c,b=c+1:=⟨b - 1,by omega⟩
 rw [Nat.mul_add,Nat.mul_one] at e
 rw [show 18446744073709551615=a*c+(a - 1) from by omega,Nat.mul_add_div f,Nat.div_eq_of_lt (by omega)]
 omega
theorem xor64u (n:Nat) (g:n≤18446744073709551615):bits .xor .u64 IntKind.u64.max (n:Int)=((18446744073709551615 - n:Nat):Int):=by
 have a:n<2^64:=by omega
 have f:BitVec.ofInt 64 18446744073709551615=BitVec.allOnes 64:=by decide
 show IntKind.u64.wrap (((BitVec.ofInt 64 18446744073709551615)^^^(BitVec.ofInt 64 (n:Int))).toNat:Int)=_
 rw [f,BitVec.allOnes_xor,BitVec.toNat_not,BitVec.ofInt_natCast,BitVec.toNat_ofNat,Nat.mod_eq_of_lt a,IntKind.wrap_u64]
 omega
theorem zlZ {k:Nat} (h:k≤64):bits .xor .u64 IntKind.u64.max ((18446744073709551615:Int)/2^k)=(zcQ k:Int):=by
 have e:((18446744073709551615:Int)/2^k)=((18446744073709551615/2^k:Nat):Int):=by simp
 have a:0<2^(64 - k):=Nat.pow_pos (by decide)
 have f:2^(64 - k)≤2^64:=Nat.pow_le_pow_right (by decide) (by omega)
 rw [e,zlY h,xor64u _ (by omega)]
 unfold zcQ
 congr 1;omega
theorem zgR (x k:Nat) (a:x<18446744073709551616):bits .and .u64 (x:Int) (zcQ k:Int)=((x/2^(64 - k)*2^(64 - k):Nat):Int):=by
 rw [u64_and_nat x (zcQ k) a (zlO k)]
 congr 1
 have f:zcQ k=(2^(64 - (64 - k)) - 1)*2^(64 - k):=by
  have:=zdY (k:=64 - (64 - k)) (by omega)
  rw [show 64 - (64 - (64 - k))=64 - k from by omega] at this
  rw [Nat.sub_mul,this,Nat.one_mul];rfl
 apply Nat.eq_of_testBit_eq
 intro j
 rw [Nat.testBit_and,f,Nat.testBit_mul_two_pow,Nat.testBit_mul_two_pow,Nat.testBit_two_pow_sub_one,Nat.testBit_div_two_pow]
 by_cases h:64 - k≤j
 ·rw [show j - (64 - k)+(64 - k)=j from by omega]
  by_cases g:j<64
  ·simp [h,show j - (64 - k)<64 - (64 - k) from by omega]
  ·have:x.testBit j=false:=Nat.testBit_lt_two_pow (Nat.lt_of_lt_of_le a (by rw [show 18446744073709551616=2^64 from by decide];exact Nat.pow_le_pow_right (by decide) (by omega)))
   simp [this]
 ·simp [h]
theorem zkX {hi lo:Nat} (l:lo<18446744073709551616) {n:Nat} (j:n≤128):
  hiN (ofW (zaD hi lo) n)=hi/2^(64 - n)*2^(64 - n)∧loN (ofW (zaD hi lo) n)=lo/2^(64 - (n - 64))*2^(64 - (n - 64)):=by
 unfold ofW
 rcases Nat.lt_or_ge 64 n with h|h
 ·have e:(18446744073709551616:Nat)=2^(128 - n)*2^(n - 64):=by rw [←Nat.pow_add,show 128 - n+(n - 64)=64 from by omega]
  rw [show 64 - n=0 from by omega,show 64 - (n - 64)=128 - n from by omega]
  have i:0<2^(128 - n):=Nat.pow_pos (by decide)
  have g:zaD hi lo/2^(128 - n)*2^(128 - n)=hi*18446744073709551616+lo/2^(128 - n)*2^(128 - n):=by
   have q:zaD hi lo=2^(128 - n)*(2^(n - 64)*hi)+lo:=by
    unfold zaD
    rw [show (2:Nat)^64=18446744073709551616 from by decide,e]
    congr 1
    ac_rfl
   rw [q,Nat.mul_add_div i,Nat.add_mul,e]
   congr 1
   ac_rfl
  have f:lo/2^(128 - n)*2^(128 - n)≤lo:=Nat.div_mul_le_self _ _
  rw [g]
  unfold hiN loN
  simp only [Nat.pow_zero,Nat.div_one,Nat.mul_one]
  constructor<;>omega
 ·have e:(2:Nat)^(128 - n)=18446744073709551616*2^(64 - n):=by rw [show 18446744073709551616=2^64 from by decide,←Nat.pow_add];congr 1;omega
  have a:zaD hi lo/(18446744073709551616*2^(64 - n))=hi/2^(64 - n):=by
   rw [←Nat.div_div_eq_div_mul];congr 1;unfold zaD;omega
  rw [e,a,show n - 64=0 from by omega,Nat.mul_left_comm]
  unfold hiN loN
  constructor
  ·rw [Nat.mul_div_cancel_left _ (by decide)]
  ·rw [Nat.mul_mod_right,Nat.div_eq_of_lt (show lo<2^(64 - 0) from l),Nat.zero_mul]
theorem retV {a b:Value} (h:a=b):Ending.returned a= .returned b:=by rw [h]
theorem zgH (n:Int) (w:World) (i: -9223372036854775808≤n) (j:n≤9223372036854775807):
  Calls Tryz.prog 148 #[.int .i64 n] w fun e w'=>e= .returned (.int .u64 (zcQ n.toNat:Nat))∧w=w':=by
 by_cases a:n<0
 ·go_enter Tryz.func148,Tryz.ntmps148
  go_wp2
  all_goals go_ret
  all_goals exact ⟨retV (by rw [show n.toNat=0 from by omega];rfl),rfl⟩
 ·by_cases b:64<n
  ·go_enter Tryz.func148,Tryz.ntmps148
   go_wp2
   all_goals go_ret
   all_goals exact ⟨retV (by unfold zcQ;rw [show 64 - n.toNat=0 from by omega];rfl),rfl⟩
  ·obtain ⟨k,rfl⟩:=Int.eq_ofNat_of_zero_le (show 0≤n by omega)
   have g:k≤64:=by omega
   have f:=Lib.hid (zlZ g)
   clear a b i j
   go_enter Tryz.func148,Tryz.ntmps148
   go_wp2
   all_goals go_ret
   all_goals exact ⟨retV (show Value.int .u64 _=_ by rw [f.out]),rfl⟩
theorem zcS (hi lo n:Nat) (w:World) (C:hi<18446744073709551616) (g:lo<18446744073709551616) (j:n≤128):
  Calls Tryz.prog 108 #[.int .u64 hi,.int .u64 lo,.int .i64 n] w fun e w'=>e= .returned (pfW (ofW (zaD hi lo) n) n)∧Below w.heap.size w w':=by
 obtain ⟨a,i⟩:=zkX (hi:=hi) g j
 have o:Hid (pfW (ofW (zaD hi lo) n) n= .agg #[.int .u64 ((hi/2^(64 - n)*2^(64 - n):Nat):Int),.int .u64 ((lo/2^(64 - (n - 64))*2^(64 - (n - 64)):Nat):Int),.int .i64 n]):=by
  show pfV _ _ _=_
  rw [a,i];rfl
 have f:((n:Int) - 64).toNat=n - 64:=by omega
 have p:=Lib.hid f
 have q:=Lib.hid (zgR hi n C)
 have z:=Lib.hid (zgR lo (n - 64) g)
 clear a i f
 go_enter Tryz.func108,Tryz.ntmps108
 go_wp2_with fail
 refine (zgH _ _ (by omega) (by omega)).mono ?_
 rintro e y ⟨rfl,rfl⟩
 rw [Int.toNat_natCast]
 go_wp2_with fail
 refine (zgH _ _ (by omega) (by omega)).mono ?_
 rintro e y ⟨rfl,rfl⟩
 rw [p.out]
 go_wp2
 refine bodyPost_ret (v:= .agg #[.int .u64 (bits .and .u64 (hi:Int) (zcQ n:Nat)),.int .u64 (bits .and .u64 (lo:Int) (zcQ (n - 64):Nat)),.int .i64 n]) (by simp [results,Tryz.results108,go_sem]) rfl ⟨?_,?_⟩
 ·rw [o.out,q.out,z.out]
 ·exact ((znF _ _).alloc (znC _) _)
theorem zcT (u v:Array Value): ∀(p q:Operand) (W:World),(eqGuard .eql 151 p q (.agg u) (.agg v)).run Tryz.prog W= .ok () W:=by
 intro p q W;kernel_rfl
theorem eqPf (a b c f i g:Int): ∀W:World,(binOp .eql 151 (.agg #[.int .u64 a,.int .u64 b,.int .i64 c]) (.agg #[.int .u64 f,.int .u64 i,.int .i64 g])).run Tryz.prog W= .ok (.bool (a==f&&(b==i&&c==g))) W:=by
 intro W
 have j:(Op.equal 151 (.agg #[.int .u64 a,.int .u64 b,.int .i64 c]) (.agg #[.int .u64 f,.int .u64 i,.int .i64 g])).run Tryz.prog W= .ok (a==f&&(b==i&&c==g)) W:=by
  show (Op.equalIn 10000 151 _ _).run Tryz.prog W=_
  rw [run_equalIn_struct W 9999 151 _ _ (by kernel_rfl) (by kernel_rfl)]
  simp [Program.fieldsOf,Tryz.underlying151,Op.eqFields,go_sem,part,Tryz.sizeOf70,Tryz.isAgg70,Tryz.underlying70,Tryz.sizeOf3,Tryz.isAgg3,Tryz.underlying3]
  by_cases p:a=f<;>by_cases o:b=i<;>by_cases q:c=g<;>simp [p,o,q]
 show ((Op.equal _ _ _>>=fun b=>pure (Value.bool b)):Sem Value).run _ _=_
 rw [Sem.run_bind,j];rfl
theorem zlQ (w:World) (a b c:Value) (t:TypeId): ∀W,Below (w.heap.size+1) (w.alloc (.cells #[a,b,c] t)) W→W.cell? ⟨w.heap.size,0,none⟩=some a∧W.cell? ⟨w.heap.size,1,none⟩=some b∧W.cell? ⟨w.heap.size,2,none⟩=some c:=fun W h=>by
 refine ⟨?_,?_,?_⟩
 all_goals
  rw [h.cell (p:=⟨w.heap.size,_,none⟩) (by show w.heap.size<_;omega)]
  simp [go_sem]
theorem zbT {w W:World} {o:Obj} (h:Below (w.heap.size+1) (w.alloc o) W):Below w.heap.size w W:=
 ((znF _ _).alloc (znC _) o).trans (h.mono (Nat.le_succ _))
theorem zeF {x:World} {n:Nat}:Below n x x.drew:=(znF _ _).drew
theorem zmH {x:World} {n k:Nat}:Below n x (x.drewN k):=⟨rfl,rfl,rfl,znC _,fun _ _=>rfl⟩
theorem zaY {x W:World} {n:Nat} (a:n≤x.heap.size) (h:Below x.drew.heap.size x.drew W):Below n x W:=(znF _ _).drew.trans (h.mono a)
theorem zbF {x y W:World} {n:Nat} (f:n≤x.heap.size) (h:Below n x y) (a:Below y.heap.size y W):Below n x W:=h.trans (a.mono (Nat.le_trans f h.size))
theorem zlL (hi lo n:Nat) (w:World) (E:hi<18446744073709551616) (g:lo<18446744073709551616) (p:n≤128):
  Calls Tryz.prog 83 #[.agg #[.int .u64 hi,.int .u64 lo,.int .i64 n]] w fun e w'=>e= .returned (.bool (zaI (zaD hi lo) n))∧Below w.heap.size w w':=by
 obtain ⟨q,o⟩: ∃x,hiN (ofW (zaD hi lo) n)=x:=⟨_,rfl⟩
 obtain ⟨z,j⟩: ∃x,loN (ofW (zaD hi lo) n)=x:=⟨_,rfl⟩
 have D:Hid (∀W,Calls Tryz.prog 108 #[.int .u64 hi,.int .u64 lo,.int .i64 n] W fun e w'=>e= .returned (.agg #[.int .u64 q,.int .u64 z,.int .i64 n])∧Below W.heap.size W w'):=fun W=>by
  have:=zcS hi lo n W E g p
  unfold pfW at this
  rw [o,j] at this
  exact this
 have C:((q:Int)==hi&&((z:Int)==lo&&(n:Int)==n))=zaI (zaD hi lo) n:=by
  rw [Bool.eq_iff_iff,zcH]
  simp only [Bool.and_eq_true,beq_iff_eq,and_true]
  constructor
  ·rintro ⟨a,b⟩
   refine ⟨p,?_⟩
   have:ofW (zaD hi lo) n=zaD hi lo:=zfS (by rw [o,zbJ g];omega) (by rw [j,zbU g];omega)
   rw [←this];exact zmL _ _
  ·rintro ⟨_,b⟩
   have:ofW (zaD hi lo) n=zaD hi lo:=zlJ ⟨p,b⟩
   rw [this,zbJ g] at o
   rw [this,zbU g] at j
   omega
 have y:=eqPf q z n hi lo n
 rw [C] at y
 have J:=zcT
 have f:=Lib.hid (zlQ w (.int .u64 hi) (.int .u64 lo) (.int .i64 n) 151)
 have I:decide ((0:Int)≤n)=true:=znE (by omega)
 have H:decide ((n:Int)≤128)=true:=znE (by omega)
 clear o j C
 generalize zaI (zaD hi lo) n=b at*
 go_enter Tryz.func83,Tryz.ntmps83
 go_wp2
 go_region_held3 (fun W=>W.cell? ⟨w.heap.size,0,none⟩=some (.int .u64 hi)∧W.cell? ⟨w.heap.size,1,none⟩=some (.int .u64 lo)∧W.cell? ⟨w.heap.size,2,none⟩=some (.int .i64 n))
  (first|exact f.out _ zeF|exact f.out _ (zaY (by simp) i))
  (first
   |(go_simp;go_at_call 108;((with_reducible refine (D.out _).mono ?_);rintro e G ⟨rfl,i⟩)))
 go_wp2
 go_ret
 exact ⟨rfl,zbT (zaY (by simp) i)⟩
theorem zjT (hi lo:Nat) (n:Int) (w:World) (a:n<0∨128<n):
  Calls Tryz.prog 83 #[.agg #[.int .u64 hi,.int .u64 lo,.int .i64 n]] w fun e w'=>e= .returned (.bool false)∧Below w.heap.size w w':=by
 by_cases i:n<0
 ·have f:decide ((0:Int)≤n)=false:=znD (by omega)
  clear a
  go_enter Tryz.func83,Tryz.ntmps83
  go_wp2
  go_quiet (fail)
  go_wp2
  go_ret
  exact ⟨rfl,zbT zmH⟩
 ·have f:decide ((0:Int)≤n)=true:=znE (by omega)
  have g:decide (n≤128)=false:=znD (by omega)
  clear a
  go_enter Tryz.func83,Tryz.ntmps83
  go_wp2
  go_quiet (fail)
  go_wp2
  go_ret
  exact ⟨rfl,zbT zmH⟩
theorem zeW {W:Nat} {n:Int} (h:n<0∨128<n):zaI W n=false:=by unfold zaI;rw [decide_eq_false_iff_not];omega
theorem zgV {W:Nat} {n:Int} (h:zaI W n=true):0≤n∧n≤128:=by unfold zaI at h;rw [decide_eq_true_iff] at h;omega
theorem zaR (hi lo:Nat) (n:Int) (w:World) (f:hi<18446744073709551616) (a:lo<18446744073709551616):
  Calls Tryz.prog 83 #[.agg #[.int .u64 hi,.int .u64 lo,.int .i64 n]] w fun e w'=>e= .returned (.bool (zaI (zaD hi lo) n))∧Below w.heap.size w w':=by
 by_cases h:n<0∨128<n
 ·rw [zeW h];exact zjT hi lo n w h
 ·obtain ⟨k,rfl⟩:=Int.eq_ofNat_of_zero_le (show 0≤n by omega)
  exact zlL hi lo k w f a (by omega)
theorem zbW (w:World) (a b c f i g:Value) (t:TypeId): ∀W,Below (w.heap.size+2) ((w.alloc (.cells #[a,b,c] t)).alloc (.cells #[f,i,g] t)) W→
  (W.cell? ⟨w.heap.size,0,none⟩=some a∧W.cell? ⟨w.heap.size,1,none⟩=some b∧W.cell? ⟨w.heap.size,2,none⟩=some c)∧W.cell? ⟨w.heap.size+1,0,none⟩=some f∧W.cell? ⟨w.heap.size+1,1,none⟩=some i∧W.cell? ⟨w.heap.size+1,2,none⟩=some g:=fun W h=>by
 refine ⟨⟨?_,?_,?_⟩,?_,?_,?_⟩
 ·rw [h.cell (p:=⟨w.heap.size,_,none⟩) (by show w.heap.size<_;omega)];simp [go_sem]
 ·rw [h.cell (p:=⟨w.heap.size,_,none⟩) (by show w.heap.size<_;omega)];simp [go_sem]
 ·rw [h.cell (p:=⟨w.heap.size,_,none⟩) (by show w.heap.size<_;omega)];simp [go_sem]
 ·rw [h.cell (p:=⟨w.heap.size+1,_,none⟩) (by show w.heap.size+1<_;omega)];simp [go_sem]
 ·rw [h.cell (p:=⟨w.heap.size+1,_,none⟩) (by show w.heap.size+1<_;omega)];simp [go_sem]
 ·rw [h.cell (p:=⟨w.heap.size+1,_,none⟩) (by show w.heap.size+1<_;omega)];simp [go_sem]
theorem zaX {w W:World} {o a:Obj} (h:Below (w.heap.size+2) ((w.alloc o).alloc a) W):Below w.heap.size w W:=
 (((znF _ _).alloc (znC _) o).alloc (by simp) a).trans (h.mono (by omega))
theorem zlR (hi lo g i:Nat) (n m:Int) (w:World) (E:hi<18446744073709551616) (C:lo<18446744073709551616) (_:g<18446744073709551616) (_:i<18446744073709551616) (z:zaI (zaD hi lo) n=false):
  Calls Tryz.prog 110 #[.agg #[.int .u64 hi,.int .u64 lo,.int .i64 n],.agg #[.int .u64 g,.int .u64 i,.int .i64 m]] w fun e w'=>e= .returned (.bool false)∧Below w.heap.size w w':=by
 have p:=Lib.hid (zbW w (.int .u64 hi) (.int .u64 lo) (.int .i64 n) (.int .u64 g) (.int .u64 i) (.int .i64 m) 151)
 have y:Hid (∀W,Calls Tryz.prog 83 #[.agg #[.int .u64 hi,.int .u64 lo,.int .i64 n]] W fun e w'=>e= .returned (.bool false)∧Below W.heap.size W w'):=fun W=>by
  have:=zaR hi lo n W E C;rwa [z] at this
 clear z E C
 go_enter Tryz.func110,Tryz.ntmps110
 go_wp2
 refine wp_region_held_drew (S:=fun W=>(W.cell? ⟨w.heap.size,0,none⟩=some (.int .u64 hi)∧W.cell? ⟨w.heap.size,1,none⟩=some (.int .u64 lo)∧W.cell? ⟨w.heap.size,2,none⟩=some (.int .i64 n))∧W.cell? ⟨w.heap.size+1,0,none⟩=some (.int .u64 g)∧W.cell? ⟨w.heap.size+1,1,none⟩=some (.int .u64 i)∧W.cell? ⟨w.heap.size+1,2,none⟩=some (.int .i64 m)) (by kernel_rfl) ?_ (fun j=> ?_)
 ·exact p.out _ zeF
 refine tkB 0 (some 5) (v:= ?_) rfl (.inl ⟨by rfl,?_⟩) j ?_;rotate_left;·intro w f;(try dsimp only at f);go_simp;try with_reducible rfl
 try simp only [Act.put,tkBa,tkBb,tkBc]
 refine wpAnyH_ready (rs:=[1]) (by kernel_rfl) (by simp) ?_
 refine AllReadyH.cons (o:=⟨some 6,_,_,_,_,_⟩) rfl (fun K D=> ?_) AllReadyH.nil
 go_simp
 go_at_call 83
 refine (y.out _).mono ?_
 rintro e G ⟨rfl,q⟩
 (try go_wp2_with fail)
 refine D.out _ _ ?_ (fun a=> ?_)
 ·exact p.out _ (zaY (by simp) q)
 clear D K
 try simp only [Act.put,tkBa,tkBb,tkBc]
 refine tkB 2 (some 7) (v:= ?_) rfl (.inl ⟨by rfl,?_⟩) a ?_;rotate_left;·intro w f;(try dsimp only at f);go_simp;try with_reducible rfl
 try simp only [Act.put,tkBa,tkBb,tkBc]
 refine tkB 3 (some 8) (v:=undef) rfl (.inr ⟨by rfl,rfl⟩) a ?_
 try simp only [Act.put,tkBa,tkBb,tkBc]
 refine tkB 4 (some 9) (v:=undef) rfl (.inr ⟨by rfl,rfl⟩) a ?_
 try simp only [Act.put,tkBa,tkBb,tkBc]
 refine tkB 5 (some 10) (v:= ?_) rfl (.inl ⟨by rfl,?_⟩) a ?_;rotate_left;·intro w f;(try dsimp only at f);go_simp;try with_reducible rfl
 try simp only [Act.put,tkBa,tkBb,tkBc]
 refine tkB 6 (some 11) (v:= ?_) rfl (.inl ⟨by rfl,?_⟩) a ?_;rotate_left;·intro w f;(try dsimp only at f);go_simp;try with_reducible rfl
 try simp only [Act.put,tkBa,tkBb,tkBc]
 refine tkB 7 (some 12) (v:=undef) rfl (.inr ⟨by rfl,rfl⟩) a ?_
 try simp only [Act.put,tkBa,tkBb,tkBc]
 refine tkB 8 (some 13) (v:=undef) rfl (.inr ⟨by rfl,rfl⟩) a ?_
 try simp only [Act.put,tkBa,tkBb,tkBc]
 refine tkB 9 (some 14) (v:=undef) rfl (.inr ⟨by rfl,rfl⟩) a ?_
 try simp only [Act.put,tkBa,tkBb,tkBc]
 refine tkB 10 (some 15) (v:=undef) rfl (.inr ⟨by rfl,rfl⟩) a ?_
 try simp only [Act.put,tkBa,tkBb,tkBc]
 refine tkB 11 (some 16) (v:=undef) rfl (.inr ⟨by rfl,rfl⟩) a ?_
 try simp only [Act.put,tkBa,tkBb,tkBc]
 refine tkB 12 (some 17) (v:= ?_) rfl (.inl ⟨by rfl,?_⟩) a ?_;rotate_left;·intro w f;(try dsimp only at f);go_simp;try with_reducible rfl
 try simp only [Act.put,tkBa,tkBb,tkBc]
 refine tkB 13 (some 18) (v:= ?_) rfl (.inl ⟨by rfl,?_⟩) a ?_;rotate_left;·intro w f;(try dsimp only at f);go_simp;try with_reducible rfl
 try simp only [Act.put,tkBa,tkBb,tkBc]
 refine tkB 14 (some 19) (v:=undef) rfl (.inr ⟨by rfl,rfl⟩) a ?_
 try simp only [Act.put,tkBa,tkBb,tkBc]
 refine tkB 15 (some 20) (v:=undef) rfl (.inr ⟨by rfl,rfl⟩) a ?_
 try simp only [Act.put,tkBa,tkBb,tkBc]
 refine tkB 16 (some 21) (v:=undef) rfl (.inr ⟨by rfl,rfl⟩) a ?_
 try simp only [Act.put,tkBa,tkBb,tkBc]
 refine tkB 17 (some 22) (v:=undef) rfl (.inr ⟨by rfl,rfl⟩) a ?_
 try simp only [Act.put,tkBa,tkBb,tkBc]
 refine tkB 18 (some 23) (v:=undef) rfl (.inr ⟨by rfl,rfl⟩) a ?_
 try simp only [Act.put,tkBa,tkBb,tkBc]
 refine tkB 19 (some 24) (v:=undef) rfl (.inr ⟨by rfl,rfl⟩) a ?_
 try simp only [Act.put,tkBa,tkBb,tkBc]
 refine tkB 20 (some 25) (v:=undef) rfl (.inr ⟨by rfl,rfl⟩) a ?_
 try simp only [Act.put,tkBa,tkBb,tkBc]
 refine tkB 21 (some 26) (v:=undef) rfl (.inr ⟨by rfl,rfl⟩) a ?_
 try simp only [Act.put,tkBa,tkBb,tkBc]
 refine tkB 22 (some 27) (v:=undef) rfl (.inr ⟨by rfl,rfl⟩) a ?_
 try simp only [Act.put,tkBa,tkBb,tkBc]
 refine tkB 23 (some 28) (v:= ?_) rfl (.inl ⟨by rfl,?_⟩) a ?_;rotate_left;·intro w f;(try dsimp only at f);go_simp;try with_reducible rfl
 try simp only [Act.put,tkBa,tkBb,tkBc]
 refine tkB 24 (some 4) (v:= ?_) rfl (.inl ⟨by rfl,?_⟩) a ?_;rotate_left;·intro w f;(try dsimp only at f);go_simp;try with_reducible rfl
 try simp only [Act.put,tkBa,tkBb,tkBc]
 refine wpAnyH_done (by kernel_rfl) ?_ _
 go_wp2
 go_ret
 exact ⟨by first|rfl|(simp;done)|kernel_rfl|(simp [Act.put];done),zaX (zaY (by simp) q)⟩
theorem zlB (hi lo g i:Nat) (n m:Int) (w:World) (O:hi<18446744073709551616) (H:lo<18446744073709551616) (N:g<18446744073709551616) (I:i<18446744073709551616) (G:zaI (zaD hi lo) n=true) (J:zaI (zaD g i) m=false):
  Calls Tryz.prog 110 #[.agg #[.int .u64 hi,.int .u64 lo,.int .i64 n],.agg #[.int .u64 g,.int .u64 i,.int .i64 m]] w fun e w'=>e= .returned (.bool false)∧Below w.heap.size w w':=by
 have p:=Lib.hid (zbW w (.int .u64 hi) (.int .u64 lo) (.int .i64 n) (.int .u64 g) (.int .u64 i) (.int .i64 m) 151)
 have E:Hid (∀W,Calls Tryz.prog 83 #[.agg #[.int .u64 hi,.int .u64 lo,.int .i64 n]] W fun e w'=>e= .returned (.bool true)∧Below W.heap.size W w'):=fun W=>by
  have:=zaR hi lo n W O H;rwa [G] at this
 have D:Hid (∀W,Calls Tryz.prog 83 #[.agg #[.int .u64 g,.int .u64 i,.int .i64 m]] W fun e w'=>e= .returned (.bool false)∧Below W.heap.size W w'):=fun W=>by
  have:=zaR g i m W N I;rwa [J] at this
 clear G J O H N I
 go_enter Tryz.func110,Tryz.ntmps110
 go_wp2
 refine wp_region_held_drew (S:=fun W=>(W.cell? ⟨w.heap.size,0,none⟩=some (.int .u64 hi)∧W.cell? ⟨w.heap.size,1,none⟩=some (.int .u64 lo)∧W.cell? ⟨w.heap.size,2,none⟩=some (.int .i64 n))∧W.cell? ⟨w.heap.size+1,0,none⟩=some (.int .u64 g)∧W.cell? ⟨w.heap.size+1,1,none⟩=some (.int .u64 i)∧W.cell? ⟨w.heap.size+1,2,none⟩=some (.int .i64 m)) (by kernel_rfl) ?_ (fun q=> ?_)
 ·exact p.out _ zeF
 refine tkB 0 (some 5) (v:= ?_) rfl (.inl ⟨by rfl,?_⟩) q ?_;rotate_left;·intro w f;(try dsimp only at f);go_simp;try with_reducible rfl
 try simp only [Act.put,tkBa,tkBb,tkBc]
 refine wpAnyH_ready (rs:=[1]) (by kernel_rfl) (by simp) ?_
 refine AllReadyH.cons (o:=⟨some 6,_,_,_,_,_⟩) rfl (fun K C=> ?_) AllReadyH.nil
 go_simp
 go_at_call 83
 refine (E.out _).mono ?_
 rintro e Q ⟨rfl,y⟩
 (try go_wp2_with fail)
 refine C.out _ _ ?_ (fun j=> ?_)
 ·exact p.out _ (zaY (by simp) y)
 clear C K
 try simp only [Act.put,tkBa,tkBb,tkBc]
 refine tkB 2 (some 7) (v:= ?_) rfl (.inl ⟨by rfl,?_⟩) j ?_;rotate_left;·intro w f;(try dsimp only at f);go_simp;try with_reducible rfl
 try simp only [Act.put,tkBa,tkBb,tkBc]
 refine tkB 3 (some 8) (v:= ?_) rfl (.inl ⟨by rfl,?_⟩) j ?_;rotate_left;·intro w f;(try dsimp only at f);go_simp;try with_reducible rfl
 try simp only [Act.put,tkBa,tkBb,tkBc]
 refine wpAnyH_ready (rs:=[4]) (by kernel_rfl) (by simp) ?_
 refine AllReadyH.cons (o:=⟨some 9,_,_,_,_,_⟩) rfl (fun K C=> ?_) AllReadyH.nil
 go_simp
 go_at_call 83
 refine (D.out _).mono ?_
 rintro e P ⟨rfl,z⟩
 (try go_wp2_with fail)
 refine C.out _ _ ?_ (fun a=> ?_)
 ·exact p.out _ (zbF (by simp) (zaY (by simp) y) z)
 clear C K
 try simp only [Act.put,tkBa,tkBb,tkBc]
 refine tkB 5 (some 10) (v:= ?_) rfl (.inl ⟨by rfl,?_⟩) a ?_;rotate_left;·intro w f;(try dsimp only at f);go_simp;try with_reducible rfl
 try simp only [Act.put,tkBa,tkBb,tkBc]
 refine tkB 6 (some 11) (v:= ?_) rfl (.inl ⟨by rfl,?_⟩) a ?_;rotate_left;·intro w f;(try dsimp only at f);go_simp;try with_reducible rfl
 try simp only [Act.put,tkBa,tkBb,tkBc]
 refine tkB 7 (some 12) (v:=undef) rfl (.inr ⟨by rfl,rfl⟩) a ?_
 try simp only [Act.put,tkBa,tkBb,tkBc]
 refine tkB 8 (some 13) (v:=undef) rfl (.inr ⟨by rfl,rfl⟩) a ?_
 try simp only [Act.put,tkBa,tkBb,tkBc]
 refine tkB 9 (some 14) (v:=undef) rfl (.inr ⟨by rfl,rfl⟩) a ?_
 try simp only [Act.put,tkBa,tkBb,tkBc]
 refine tkB 10 (some 15) (v:=undef) rfl (.inr ⟨by rfl,rfl⟩) a ?_
 try simp only [Act.put,tkBa,tkBb,tkBc]
 refine tkB 11 (some 16) (v:=undef) rfl (.inr ⟨by rfl,rfl⟩) a ?_
 try simp only [Act.put,tkBa,tkBb,tkBc]
 refine tkB 12 (some 17) (v:= ?_) rfl (.inl ⟨by rfl,?_⟩) a ?_;rotate_left;·intro w f;(try dsimp only at f);go_simp;try with_reducible rfl
 try simp only [Act.put,tkBa,tkBb,tkBc]
 refine tkB 13 (some 18) (v:= ?_) rfl (.inl ⟨by rfl,?_⟩) a ?_;rotate_left;·intro w f;(try dsimp only at f);go_simp;try with_reducible rfl
 try simp only [Act.put,tkBa,tkBb,tkBc]
 refine tkB 14 (some 19) (v:=undef) rfl (.inr ⟨by rfl,rfl⟩) a ?_
 try simp only [Act.put,tkBa,tkBb,tkBc]
 refine tkB 15 (some 20) (v:=undef) rfl (.inr ⟨by rfl,rfl⟩) a ?_
 try simp only [Act.put,tkBa,tkBb,tkBc]
 refine tkB 16 (some 21) (v:=undef) rfl (.inr ⟨by rfl,rfl⟩) a ?_
 try simp only [Act.put,tkBa,tkBb,tkBc]
 refine tkB 17 (some 22) (v:=undef) rfl (.inr ⟨by rfl,rfl⟩) a ?_
 try simp only [Act.put,tkBa,tkBb,tkBc]
 refine tkB 18 (some 23) (v:=undef) rfl (.inr ⟨by rfl,rfl⟩) a ?_
 try simp only [Act.put,tkBa,tkBb,tkBc]
 refine tkB 19 (some 24) (v:=undef) rfl (.inr ⟨by rfl,rfl⟩) a ?_
 try simp only [Act.put,tkBa,tkBb,tkBc]
 refine tkB 20 (some 25) (v:=undef) rfl (.inr ⟨by rfl,rfl⟩) a ?_
 try simp only [Act.put,tkBa,tkBb,tkBc]
 refine tkB 21 (some 26) (v:=undef) rfl (.inr ⟨by rfl,rfl⟩) a ?_
 try simp only [Act.put,tkBa,tkBb,tkBc]
 refine tkB 22 (some 27) (v:=undef) rfl (.inr ⟨by rfl,rfl⟩) a ?_
 try simp only [Act.put,tkBa,tkBb,tkBc]
 refine tkB 23 (some 28) (v:= ?_) rfl (.inl ⟨by rfl,?_⟩) a ?_;rotate_left;·intro w f;(try dsimp only at f);go_simp;try with_reducible rfl
 try simp only [Act.put,tkBa,tkBb,tkBc]
 refine tkB 24 (some 4) (v:= ?_) rfl (.inl ⟨by rfl,?_⟩) a ?_;rotate_left;·intro w f;(try dsimp only at f);go_simp;try with_reducible rfl
 try simp only [Act.put,tkBa,tkBb,tkBc]
 refine wpAnyH_done (by kernel_rfl) ?_ _
 go_wp2
 go_ret
 exact ⟨by first|rfl|(simp;done)|kernel_rfl|(simp [Act.put];done),zaX (zbF (by simp) (zaY (by simp) y) z)⟩
theorem zlF (hi lo g i:Nat) (n m:Int) (w:World) (O:hi<18446744073709551616) (H:lo<18446744073709551616) (N:g<18446744073709551616) (I:i<18446744073709551616) (G:zaI (zaD hi lo) n=true) (J:zaI (zaD g i) m=true) (P:m<n):
  Calls Tryz.prog 110 #[.agg #[.int .u64 hi,.int .u64 lo,.int .i64 n],.agg #[.int .u64 g,.int .u64 i,.int .i64 m]] w fun e w'=>e= .returned (.bool false)∧Below w.heap.size w w':=by
 have p:=Lib.hid (zbW w (.int .u64 hi) (.int .u64 lo) (.int .i64 n) (.int .u64 g) (.int .u64 i) (.int .i64 m) 151)
 have E:Hid (∀W,Calls Tryz.prog 83 #[.agg #[.int .u64 hi,.int .u64 lo,.int .i64 n]] W fun e w'=>e= .returned (.bool true)∧Below W.heap.size W w'):=fun W=>by
  have:=zaR hi lo n W O H;rwa [G] at this
 have D:Hid (∀W,Calls Tryz.prog 83 #[.agg #[.int .u64 g,.int .u64 i,.int .i64 m]] W fun e w'=>e= .returned (.bool true)∧Below W.heap.size W w'):=fun W=>by
  have:=zaR g i m W N I;rwa [J] at this
 have U:decide (n≤m)=false:=znD (by omega)
 clear G J O H N I P
 go_enter Tryz.func110,Tryz.ntmps110
 go_wp2
 refine wp_region_held_drew (S:=fun W=>(W.cell? ⟨w.heap.size,0,none⟩=some (.int .u64 hi)∧W.cell? ⟨w.heap.size,1,none⟩=some (.int .u64 lo)∧W.cell? ⟨w.heap.size,2,none⟩=some (.int .i64 n))∧W.cell? ⟨w.heap.size+1,0,none⟩=some (.int .u64 g)∧W.cell? ⟨w.heap.size+1,1,none⟩=some (.int .u64 i)∧W.cell? ⟨w.heap.size+1,2,none⟩=some (.int .i64 m)) (by kernel_rfl) ?_ (fun q=> ?_)
 ·exact p.out _ zeF
 refine tkB 0 (some 5) (v:= ?_) rfl (.inl ⟨by rfl,?_⟩) q ?_;rotate_left;·intro w f;(try dsimp only at f);go_simp;try with_reducible rfl
 try simp only [Act.put,tkBa,tkBb,tkBc]
 refine wpAnyH_ready (rs:=[1]) (by kernel_rfl) (by simp) ?_
 refine AllReadyH.cons (o:=⟨some 6,_,_,_,_,_⟩) rfl (fun K C=> ?_) AllReadyH.nil
 go_simp
 go_at_call 83
 refine (E.out _).mono ?_
 rintro e R ⟨rfl,y⟩
 (try go_wp2_with fail)
 refine C.out _ _ ?_ (fun j=> ?_)
 ·exact p.out _ (zaY (by simp) y)
 clear C K
 try simp only [Act.put,tkBa,tkBb,tkBc]
 refine tkB 2 (some 7) (v:= ?_) rfl (.inl ⟨by rfl,?_⟩) j ?_;rotate_left;·intro w f;(try dsimp only at f);go_simp;try with_reducible rfl
 try simp only [Act.put,tkBa,tkBb,tkBc]
 refine tkB 3 (some 8) (v:= ?_) rfl (.inl ⟨by rfl,?_⟩) j ?_;rotate_left;·intro w f;(try dsimp only at f);go_simp;try with_reducible rfl
 try simp only [Act.put,tkBa,tkBb,tkBc]
 refine wpAnyH_ready (rs:=[4]) (by kernel_rfl) (by simp) ?_
 refine AllReadyH.cons (o:=⟨some 9,_,_,_,_,_⟩) rfl (fun K C=> ?_) AllReadyH.nil
 go_simp
 go_at_call 83
 refine (D.out _).mono ?_
 rintro e Q ⟨rfl,z⟩
 (try go_wp2_with fail)
 refine C.out _ _ ?_ (fun a=> ?_)
 ·exact p.out _ (zbF (by simp) (zaY (by simp) y) z)
 clear C K
 try simp only [Act.put,tkBa,tkBb,tkBc]
 refine tkB 5 (some 10) (v:= ?_) rfl (.inl ⟨by rfl,?_⟩) a ?_;rotate_left;·intro w f;(try dsimp only at f);go_simp;try with_reducible rfl
 try simp only [Act.put,tkBa,tkBb,tkBc]
 refine tkB 6 (some 11) (v:= ?_) rfl (.inl ⟨by rfl,?_⟩) a ?_;rotate_left;·intro w f;(try dsimp only at f);go_simp;try with_reducible rfl
 try simp only [Act.put,tkBa,tkBb,tkBc]
 refine tkB 7 (some 12) (v:= ?_) rfl (.inl ⟨by rfl,?_⟩) a ?_;rotate_left;·intro w f;(try dsimp only at f);go_simp;try with_reducible rfl
 try simp only [Act.put,tkBa,tkBb,tkBc]
 refine tkB 8 (some 13) (v:= ?_) rfl (.inl ⟨by rfl,?_⟩) a ?_;rotate_left;·intro w f;(try dsimp only at f);go_simp;try with_reducible rfl
 try simp only [Act.put,tkBa,tkBb,tkBc]
 refine tkB 9 (some 14) (v:= ?_) rfl (.inl ⟨by rfl,?_⟩) a ?_;rotate_left;·intro w f;(try dsimp only at f);go_simp;try with_reducible rfl
 try simp only [Act.put,tkBa,tkBb,tkBc]
 refine tkB 10 (some 15) (v:= ?_) rfl (.inl ⟨by rfl,?_⟩) a ?_;rotate_left;·intro w f;(try dsimp only at f);go_simp;try with_reducible rfl
 try simp only [Act.put,tkBa,tkBb,tkBc]
 refine tkB 11 (some 16) (v:= ?_) rfl (.inl ⟨by rfl,?_⟩) a ?_;rotate_left;·intro w f;(try dsimp only at f);go_simp;try with_reducible rfl
 try simp only [Act.put,tkBa,tkBb,tkBc]
 refine tkB 12 (some 17) (v:= ?_) rfl (.inl ⟨by rfl,?_⟩) a ?_;rotate_left;·intro w f;(try dsimp only at f);go_simp;try with_reducible rfl
 try simp only [Act.put,tkBa,tkBb,tkBc]
 refine tkB 13 (some 18) (v:= ?_) rfl (.inl ⟨by rfl,?_⟩) a ?_;rotate_left;·intro w f;(try dsimp only at f);go_simp;try with_reducible rfl
 try simp only [Act.put,tkBa,tkBb,tkBc]
 refine tkB 14 (some 19) (v:=undef) rfl (.inr ⟨by rfl,rfl⟩) a ?_
 try simp only [Act.put,tkBa,tkBb,tkBc]
 refine tkB 15 (some 20) (v:=undef) rfl (.inr ⟨by rfl,rfl⟩) a ?_
 try simp only [Act.put,tkBa,tkBb,tkBc]
 refine tkB 16 (some 21) (v:=undef) rfl (.inr ⟨by rfl,rfl⟩) a ?_
 try simp only [Act.put,tkBa,tkBb,tkBc]
 refine tkB 17 (some 22) (v:=undef) rfl (.inr ⟨by rfl,rfl⟩) a ?_
 try simp only [Act.put,tkBa,tkBb,tkBc]
 refine tkB 18 (some 23) (v:=undef) rfl (.inr ⟨by rfl,rfl⟩) a ?_
 try simp only [Act.put,tkBa,tkBb,tkBc]
 refine tkB 19 (some 24) (v:=undef) rfl (.inr ⟨by rfl,rfl⟩) a ?_
 try simp only [Act.put,tkBa,tkBb,tkBc]
 refine tkB 20 (some 25) (v:=undef) rfl (.inr ⟨by rfl,rfl⟩) a ?_
 try simp only [Act.put,tkBa,tkBb,tkBc]
 refine tkB 21 (some 26) (v:=undef) rfl (.inr ⟨by rfl,rfl⟩) a ?_
 try simp only [Act.put,tkBa,tkBb,tkBc]
 refine tkB 22 (some 27) (v:=undef) rfl (.inr ⟨by rfl,rfl⟩) a ?_
 try simp only [Act.put,tkBa,tkBb,tkBc]
 refine tkB 23 (some 28) (v:= ?_) rfl (.inl ⟨by rfl,?_⟩) a ?_;rotate_left;·intro w f;(try dsimp only at f);go_simp;try with_reducible rfl
 try simp only [Act.put,tkBa,tkBb,tkBc]
 refine tkB 24 (some 4) (v:= ?_) rfl (.inl ⟨by rfl,?_⟩) a ?_;rotate_left;·intro w f;(try dsimp only at f);go_simp;try with_reducible rfl
 try simp only [Act.put,tkBa,tkBb,tkBc]
 refine wpAnyH_done (by kernel_rfl) ?_ _
 go_wp2
 go_ret
 exact ⟨by first|rfl|(simp;done)|kernel_rfl|(simp [Act.put];done),zaX (zbF (by simp) (zaY (by simp) y) z)⟩
theorem zlV (hi lo f g:Nat) (n m:Int) (w:World) (R:hi<18446744073709551616) (q:lo<18446744073709551616) (O:f<18446744073709551616) (H:g<18446744073709551616) (y:zaI (zaD hi lo) n=true) (I:zaI (zaD f g) m=true) (P:n≤m):
  Calls Tryz.prog 110 #[.agg #[.int .u64 hi,.int .u64 lo,.int .i64 n],.agg #[.int .u64 f,.int .u64 g,.int .i64 m]] w fun e w'=>e= .returned (.bool (zaT (zaD hi lo) n (zaD f g) m))∧Below w.heap.size w w':=by
 have i:=Lib.hid (zbW w (.int .u64 hi) (.int .u64 lo) (.int .i64 n) (.int .u64 f) (.int .u64 g) (.int .i64 m) 151)
 have N:Hid (∀W,Calls Tryz.prog 83 #[.agg #[.int .u64 hi,.int .u64 lo,.int .i64 n]] W fun e w'=>e= .returned (.bool true)∧Below W.heap.size W w'):=fun W=>by
  have:=zaR hi lo n W R q;rwa [y] at this
 have G:Hid (∀W,Calls Tryz.prog 83 #[.agg #[.int .u64 f,.int .u64 g,.int .i64 m]] W fun e w'=>e= .returned (.bool true)∧Below W.heap.size W w'):=fun W=>by
  have:=zaR f g m W O H;rwa [I] at this
 obtain ⟨J,D⟩: ∃x,hiN (ofW (zaD f g) n.toNat)=x:=⟨_,rfl⟩
 obtain ⟨E,C⟩: ∃x,loN (ofW (zaD f g) n.toNat)=x:=⟨_,rfl⟩
 have U:=zgV y
 have p:(n.toNat:Int)=n:=by omega
 have S:Hid (∀W,Calls Tryz.prog 108 #[.int .u64 f,.int .u64 g,.int .i64 n] W fun e w'=>e= .returned (.agg #[.int .u64 J,.int .u64 E,.int .i64 n])∧Below W.heap.size W w'):=fun W=>by
  have:=zcS f g n.toNat W O H (by omega)
  unfold pfW at this
  rw [D,C,p] at this
  exact this
 have Q:((J:Int)==hi&&((E:Int)==lo&&n==n))=zaT (zaD hi lo) n (zaD f g) m:=by
  unfold zaT
  have r3:rt (zaD hi lo) n.toNat:=by have:=y;rw [←p,zcH] at this;exact this.2
  rw [y,I,znE P,Bool.true_and,Bool.true_and,Bool.true_and,Bool.eq_iff_iff,decide_eq_true_iff]
  simp only [Bool.and_eq_true,beq_iff_eq,and_true]
  constructor
  ·rintro ⟨a,b⟩
   have:ofW (zaD f g) n.toNat=zaD hi lo:=zfS (by rw [D,zbJ q];omega) (by rw [C,zbU q];omega)
   rw [←this];exact qt_of _ _
  ·intro b
   have:ofW (zaD f g) n.toNat=zaD hi lo:=zmN (zmL _ _) r3 ((qt_of _ _).trans b.symm)
   rw [this,zbJ q] at D
   rw [this,zbU q] at C
   omega
 have K:=eqPf J E n hi lo n
 rw [Q] at K
 have Y:=zcT
 have t1:decide (n≤m)=true:=znE (by omega)
 clear y I R q O H P Q D C p U
 generalize zaT (zaD hi lo) n (zaD f g) m=b at*
 go_enter Tryz.func110,Tryz.ntmps110
 go_wp2
 go_region_held3 (fun W=>(W.cell? ⟨w.heap.size,0,none⟩=some (.int .u64 hi)∧W.cell? ⟨w.heap.size,1,none⟩=some (.int .u64 lo)∧W.cell? ⟨w.heap.size,2,none⟩=some (.int .i64 n))∧W.cell? ⟨w.heap.size+1,0,none⟩=some (.int .u64 f)∧W.cell? ⟨w.heap.size+1,1,none⟩=some (.int .u64 g)∧W.cell? ⟨w.heap.size+1,2,none⟩=some (.int .i64 m))
  (first|exact i.out _ (zeF)|exact i.out _ (zaY (by simp) j)|exact i.out _ (zbF (by simp) (zaY (by simp) j) o)|exact i.out _ (zbF (by simp) (zbF (by simp) (zaY (by simp) j) o) z))
  (first
   |(go_simp;go_at_call 83;((with_reducible refine (N.out _).mono ?_);rintro e x1 ⟨rfl,j⟩))
   |(go_simp;go_at_call 83;((with_reducible refine (G.out _).mono ?_);rintro e Z ⟨rfl,o⟩))
   |(go_simp;go_at_call 108;((with_reducible refine (S.out _).mono ?_);rintro e V ⟨rfl,z⟩))
)
 go_wp2
 go_ret
 exact ⟨by first|rfl|(simp;done)|kernel_rfl|(simp [Act.put];done),zaX (zbF (by simp) (zbF (by simp) (zaY (by simp) j) o) z)⟩
theorem zhD (hi lo f a:Nat) (n m:Int) (w:World) (q:hi<18446744073709551616) (j:lo<18446744073709551616) (o:f<18446744073709551616) (p:a<18446744073709551616):
  Calls Tryz.prog 110 #[.agg #[.int .u64 hi,.int .u64 lo,.int .i64 n],.agg #[.int .u64 f,.int .u64 a,.int .i64 m]] w fun e w'=>e= .returned (.bool (zaT (zaD hi lo) n (zaD f a) m))∧Below w.heap.size w w':=by
 cases g:zaI (zaD hi lo) n with
 |false=>
  rw [show zaT (zaD hi lo) n (zaD f a) m=false from by unfold zaT;rw [g];rfl]
  exact zlR hi lo f a n m w q j o p g
 |true=>
  cases i:zaI (zaD f a) m with
  |false=>
   rw [show zaT (zaD hi lo) n (zaD f a) m=false from by unfold zaT;rw [g,i];rfl]
   exact zlB hi lo f a n m w q j o p g i
  |true=>
   by_cases y:n≤m
   ·exact zlV hi lo f a n m w q j o p g i y
   ·rw [show zaT (zaD hi lo) n (zaD f a) m=false from by unfold zaT;rw [g,i,znD y];rfl]
    exact zlF hi lo f a n m w q j o p g i (by omega)
theorem zlG (x:Nat) (h:x<18446744073709551616):bits .and .u64 (x:Int) 1=((x % 2:Nat):Int):=by
 rw [show (1:Int)=((1:Nat):Int) from rfl,u64_and_nat x 1 h (by decide),Nat.and_one_is_mod]
theorem zjG (x j:Nat) (h:x<18446744073709551616):wrap64 (bits .and .u64 ((x:Int)/2^j) 1)=((x/2^j % 2:Nat):Int):=by
 have e:((x:Int)/2^j)=((x/2^j:Nat):Int):=by simp
 rw [e,zlG _ (Nat.lt_of_le_of_lt (Nat.div_le_self _ _) h)]
 have:x/2^j % 2<2:=Nat.mod_lt _ (by decide)
 unfold wrap64;omega
theorem zmA (hi lo:Nat) (n:Int) (k:Nat) (w:World) (j:hi<18446744073709551616) (f:lo<18446744073709551616) (i:k<128):
  Calls Tryz.prog 111 #[.agg #[.int .u64 hi,.int .u64 lo,.int .i64 n],.int .i64 k] w fun e w'=>e= .returned (.int .i64 (bitW (zaD hi lo) k:Nat))∧Below w.heap.size w w':=by
 by_cases g:k<64
 ·have a:Hid (wrap64 (bits .and .u64 ((hi:Int)/2^(63 - k)) 1)=(bitW (zaD hi lo) k:Nat)):=by
   show _=_
   rw [zjG _ _ j,bit_hi (show lo<2^64 from f) k g]
  go_enter Tryz.func111,Tryz.ntmps111
  go_wp2
  all_goals go_ret
  all_goals exact ⟨retV (show Value.int .i64 _=_ by rw [a.out]),(znF _ _).alloc (znC _) _⟩
 ·have o:64≤k:=by omega
  have a:Hid (wrap64 (bits .and .u64 ((lo:Int)/2^(127 - k)) 1)=(bitW (zaD hi lo) k:Nat)):=by
   show _=_
   rw [zjG _ _ f,bit_lo (hi:=hi) k o i]
  clear g
  go_enter Tryz.func111,Tryz.ntmps111
  go_wp2
  all_goals go_ret
  all_goals exact ⟨retV (show Value.int .i64 _=_ by rw [a.out]),(znF _ _).alloc (znC _) _⟩
end
end Go.Proofs.YtkiehdigpchebaaGreatDoor
