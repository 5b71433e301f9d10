/-
  What the law CacheSweeps leans on, and its walk (2 of 21).
-/
import Derived.Test.YteajemblhlbfpaaGreatDoorChecked
import Derived.WalkKit
import Derived.WalkLawsBesides
import Derived.BigQuiet
import Derived.Deep.QuietTactic
import Derived.Deep.RegionHeld3
import Derived.Deep.DeepCutAuto
import Derived.Lib.Hide
import Derived.Lib.OthersKept
namespace Go.Proofs.YteajemblhlbfpaaGreatDoor
set_option maxRecDepth 100000
set_option maxHeartbeats 16000000
theorem tkB {P : Program} {o : Region.Mode} {g : Array Oper} {Q : Exit → Act → World → Prop} {S : World → Prop} (i : Nat) (s : Option Nat) {y : Op} {p : TypeId} {j : String} {q : _} {z : _} {v : Value} {fuel : Nat} {f : Array Bool} {a : Act} {w : World} (hi : g[i]? = some ⟨s, y, p, j, q, z⟩)
 (A : YieldsIf P g S ⟨s, y, p, j, q, z⟩ v a) (G : S w)
 (h : wpAnyH P o g Q S fuel (f.setIfInBounds i true) (a.put s v) w)
 (B : Region.noSelect g = true := by kernel_rfl) (E : Region.free o g f i = true := by kernel_rfl) (D : (Region.ready o g f).contains i = true := by kernel_rfl)
 (C : ∀ c a w, Q (.panic c) (a.put s v) w → Q (.panic c) a w := by exact fun _ _ _ h => h) : wpAnyH P o g Q S (fuel + 1) f a w :=
 wpAnyH_take hi B E D C A G h
theorem tkBa {α : Type _} (l : List α) (i : Nat) (a : α) : l.toArray.setIfInBounds i a = (l.set i a).toArray := List.setIfInBounds_toArray ..
theorem tkBb {α : Type _} (x y : α) (l : List α) : (x :: l).set 0 y = y :: l := rfl
theorem tkBc {α : Type _} (x y : α) (l : List α) (n : Nat) : (x :: l).set (n + 1) y = x :: l.set n y := rfl
abbrev znA := @Nat.le_refl
abbrev znB := @decide_eq_false
abbrev znC := @decide_eq_true
abbrev znD := @Go.RowKit.Below.refl
section
open Go.RowKit
def zaE (hi lo:Nat):Nat:=hi*2^64+lo
def bitW (W i:Nat):Nat:=W/2^(127 - i) % 2
def ofW (W n:Nat):Nat:=W/2^(128 - n)*2^(128 - n)
def rightW (W n:Nat):Prop:=n≤128∧W % 2^(128 - n)=0
theorem zlP {hi lo:Nat} (l:lo<2^64):zaE hi lo/2^64=hi:=by unfold zaE;omega
theorem bit_hi {hi lo:Nat} (l:lo<2^64) (i:Nat) (h:i<64):hi/2^(63 - i) % 2=bitW (zaE hi lo) i:=by
 unfold bitW
 rw [show 127 - i=64+(63 - i) from by omega,Nat.pow_add,←Nat.div_div_eq_div_mul,zlP l]
theorem bit_lo {hi lo:Nat} (i:Nat) (h:64≤i) (a:i<128):lo/2^(127 - i) % 2=bitW (zaE hi lo) i:=by
 unfold bitW zaE
 have e:hi*2^64=2^(127 - i)*(hi*2^(i - 64)*2):=by
  rw [show (2:Nat)^64=2^(127 - i)*(2^(i - 64)*2) from by rw [←Nat.pow_succ,←Nat.pow_add];congr 1;omega]
  rw [Nat.mul_left_comm,Nat.mul_assoc]
 rw [e,Nat.add_comm,Nat.add_mul_div_left _ _ (Nat.pow_pos (by decide)),Nat.add_mul_mod_self_right]
theorem zlH (W i:Nat):bitW W i=0∨bitW W i=1:=by unfold bitW;omega
theorem zkW (X i:Nat) (h:i<128):X/2^(128 - (i+1))=2*(X/2^(128 - i))+bitW X i:=by
 unfold bitW
 rw [show 128 - (i+1)=127 - i from by omega,show 128 - i=(127 - i)+1 from by omega,Nat.pow_succ,←Nat.div_div_eq_div_mul]
 omega
theorem zmO (W n:Nat):ofW W n/2^(128 - n)=W/2^(128 - n):=Nat.mul_div_cancel _ (Nat.pow_pos (by decide))
theorem ofW_le (W n:Nat):ofW W n≤W:=Nat.div_mul_le_self _ _
theorem zlI {W n:Nat} (h:rightW W n):ofW W n=W:=by
 unfold ofW
 have:=Nat.div_add_mod W (2^(128 - n))
 rw [h.2,Nat.add_zero,Nat.mul_comm] at this
 exact this
def qt (X n:Nat):Nat:=X/2^(128 - n)
def zaI (W:Nat) (n:Int):Bool:=decide (0≤n∧n≤128∧W % 2^(128 - n.toNat)=0)
def zaQ (P:Nat) (n:Int) (Q:Nat) (m:Int):Bool:=zaI P n&&(zaI Q m&&(decide (n≤m)&&decide (qt P n.toNat=qt Q n.toNat)))
theorem zmX (X n:Nat) (h:n<128):qt X (n+1)=2*qt X n+bitW X n:=zkW X n h
theorem qt_lt {X:Nat} (h:X<2^128):qt X 0=0:=Nat.div_eq_of_lt h
def rt (W n:Nat):Prop:=W % 2^(128 - n)=0
theorem zmU {W n:Nat} (h:rt W n):W=qt W n*2^(128 - n):=by
 unfold rt at h;unfold qt
 have:=Nat.div_add_mod W (2^(128 - n))
 rw [h,Nat.add_zero,Nat.mul_comm] at this
 exact this.symm
theorem zmL {W P n:Nat} (h:rt W n) (a:rt P n) (e:qt W n=qt P n):W=P:=by rw [zmU h,zmU a,e]
theorem zcG {W n:Nat}:zaI W n=true↔n≤128∧rt W n:=by
 unfold zaI rt;rw [decide_eq_true_iff]
 constructor
 ·rintro ⟨_,f,a⟩;exact ⟨by omega,by simpa using a⟩
 ·rintro ⟨f,a⟩;exact ⟨by omega,by omega,by simpa using a⟩
theorem zmN (X n:Nat):rt (ofW X n) n:=Nat.mul_mod_left _ _
theorem qt_of (X n:Nat):qt (ofW X n) n=qt X n:=zmO X n
def zbJ (W P:Nat):Nat→Nat→Nat
 |i,0=>i
 |i,f+1=>if bitW W i=bitW P i then zbJ W P (i+1) f else i
def zbT (W n P k:Nat):Nat:=zbJ W P 0 (min n k)
def pfV (hi lo:Nat) (n:Int):Value:= .agg #[.int .u64 (hi:Int),.int .u64 (lo:Int),.int .i64 n]
def hiN (W:Nat):Nat:=W/18446744073709551616
def loN (W:Nat):Nat:=W % 18446744073709551616
def pfW (W:Nat) (n:Int):Value:=pfV (hiN W) (loN W) n
theorem zbX (W:Nat):zaE (hiN W) (loN W)=W:=by unfold zaE hiN loN;omega
theorem hiN_lt {W:Nat} (h:W<2^128):hiN W<18446744073709551616:=by unfold hiN;omega
theorem loN_lt (W:Nat):loN W<18446744073709551616:=by unfold loN;omega
theorem zbH {hi lo:Nat} (l:lo<18446744073709551616):hiN (zaE hi lo)=hi:=by unfold zaE hiN;omega
theorem zbO {hi lo:Nat} (l:lo<18446744073709551616):loN (zaE hi lo)=lo:=by unfold zaE loN;omega
theorem zmQ {hi lo:Nat} (h:hi<18446744073709551616) (l:lo<18446744073709551616):zaE hi lo<2^128:=by unfold zaE;omega
theorem zlS {hi lo:Nat} (l:lo<18446744073709551616) (n:Int):pfW (zaE hi lo) n=pfV hi lo n:=by unfold pfW;rw [zbH l,zbO l]
theorem zgL {W P:Nat} (a:hiN W=hiN P) (f:loN W=loN P):W=P:=by rw [←zbX W,←zbX P,a,f]
def zcD (k:Nat):Nat:=2^64 - 2^(64 - k)
theorem zeM {k:Nat} (h:k≤64):2^k*2^(64 - k)=18446744073709551616:=by rw [←Nat.pow_add,show k+(64 - k)=64 from by omega]
theorem zkX (k:Nat):zcD k<18446744073709551616:=by
 have:0<2^(64 - k):=Nat.pow_pos (by decide)
 unfold zcD;omega
theorem zlZ {k:Nat} (h:k≤64):18446744073709551615/2^k=2^(64 - k) - 1:=by
 have e:=zeM h
 have f:0<2^k:=Nat.pow_pos (by decide)
 have g:0<2^(64 - k):=Nat.pow_pos (by decide)
 generalize 2^k=a at*
 generalize 2^(64 - k)=b at*
 obtain ⟨c,rfl⟩: ∃c,b=c+1:=⟨b - 1,by omega⟩
 rw [Nat.mul_add,Nat.mul_one] at e
 rw [show 18446744073709551615=a*c+(a - 1) from by omega,Nat.mul_add_div f,Nat.div_eq_of_lt (by omega)]
 omega
theorem xor64u (n:Nat) (g:n≤18446744073709551615):bits .xor .u64 IntKind.u64.max (n:Int)=((18446744073709551615 - n:Nat):Int):=by
 have f:n<2^64:=by omega
 have a:BitVec.ofInt 64 18446744073709551615=BitVec.allOnes 64:=by decide
 show IntKind.u64.wrap (((BitVec.ofInt 64 18446744073709551615)^^^(BitVec.ofInt 64 (n:Int))).toNat:Int)=_
 rw [a,BitVec.allOnes_xor,BitVec.toNat_not,BitVec.ofInt_natCast,BitVec.toNat_ofNat,Nat.mod_eq_of_lt f,IntKind.wrap_u64]
 omega
theorem zlM {k:Nat} (h:k≤64):bits .xor .u64 IntKind.u64.max ((18446744073709551615:Int)/2^k)=(zcD k:Int):=by
 have e:((18446744073709551615:Int)/2^k)=((18446744073709551615/2^k:Nat):Int):=by simp
 have f:0<2^(64 - k):=Nat.pow_pos (by decide)
 have a:2^(64 - k)≤2^64:=Nat.pow_le_pow_right (by decide) (by omega)
 rw [e,zlZ h,xor64u _ (by omega)]
 unfold zcD
 congr 1;omega
theorem zgJ (x k:Nat) (a:x<18446744073709551616):bits .and .u64 (x:Int) (zcD k:Int)=((x/2^(64 - k)*2^(64 - k):Nat):Int):=by
 rw [u64_and_nat x (zcD k) a (zkX k)]
 congr 1
 have f:zcD k=(2^(64 - (64 - k)) - 1)*2^(64 - k):=by
  have:=zeM (k:=64 - (64 - k)) (by omega)
  rw [show 64 - (64 - (64 - k))=64 - k from by omega] at this
  rw [Nat.sub_mul,this,Nat.one_mul];rfl
 apply Nat.eq_of_testBit_eq
 intro j
 rw [Nat.testBit_and,f,Nat.testBit_mul_two_pow,Nat.testBit_mul_two_pow,Nat.testBit_two_pow_sub_one,Nat.testBit_div_two_pow]
 by_cases h:64 - k≤j
 ·rw [show j - (64 - k)+(64 - k)=j from by omega]
  by_cases g:j<64
  ·simp [h,show j - (64 - k)<64 - (64 - k) from by omega]
  ·have:x.testBit j=false:=Nat.testBit_lt_two_pow (Nat.lt_of_lt_of_le a (by rw [show 18446744073709551616=2^64 from by decide];exact Nat.pow_le_pow_right (by decide) (by omega)))
   simp [this]
 ·simp [h]
theorem zlU {hi lo:Nat} (l:lo<18446744073709551616) {n:Nat} (j:n≤128):
  hiN (ofW (zaE hi lo) n)=hi/2^(64 - n)*2^(64 - n)∧loN (ofW (zaE hi lo) n)=lo/2^(64 - (n - 64))*2^(64 - (n - 64)):=by
 unfold ofW
 rcases Nat.lt_or_ge 64 n with h|h
 ·have e:(18446744073709551616:Nat)=2^(128 - n)*2^(n - 64):=by rw [←Nat.pow_add,show 128 - n+(n - 64)=64 from by omega]
  rw [show 64 - n=0 from by omega,show 64 - (n - 64)=128 - n from by omega]
  have a:0<2^(128 - n):=Nat.pow_pos (by decide)
  have g:zaE hi lo/2^(128 - n)*2^(128 - n)=hi*18446744073709551616+lo/2^(128 - n)*2^(128 - n):=by
   have q:zaE hi lo=2^(128 - n)*(2^(n - 64)*hi)+lo:=by
    unfold zaE
    rw [show (2:Nat)^64=18446744073709551616 from by decide,e]
    congr 1
    ac_rfl
   rw [q,Nat.mul_add_div a,Nat.add_mul,e]
   congr 1
   ac_rfl
  have f:lo/2^(128 - n)*2^(128 - n)≤lo:=Nat.div_mul_le_self _ _
  rw [g]
  unfold hiN loN
  simp only [Nat.pow_zero,Nat.div_one,Nat.mul_one]
  constructor<;>omega
 ·have e:(2:Nat)^(128 - n)=18446744073709551616*2^(64 - n):=by rw [show 18446744073709551616=2^64 from by decide,←Nat.pow_add];congr 1;omega
  have i:zaE hi lo/(18446744073709551616*2^(64 - n))=hi/2^(64 - n):=by
   rw [←Nat.div_div_eq_div_mul];congr 1;unfold zaE;omega
  rw [e,i,show n - 64=0 from by omega,Nat.mul_left_comm]
  unfold hiN loN
  constructor
  ·rw [Nat.mul_div_cancel_left _ (by decide)]
  ·rw [Nat.mul_mod_right,Nat.div_eq_of_lt (show lo<2^(64 - 0) from l),Nat.zero_mul]
theorem retV {a b:Value} (h:a=b):Ending.returned a= .returned b:=by rw [h]
theorem zgH (n:Int) (w:World) (j: -9223372036854775808≤n) (g:n≤9223372036854775807):
  Calls Tryz.prog 140 #[.int .i64 n] w fun e w'=>e= .returned (.int .u64 (zcD n.toNat:Nat))∧w=w':=by
 by_cases a:n<0
 ·go_enter Tryz.func140,Tryz.ntmps140
  go_wp2
  all_goals go_ret
  all_goals exact ⟨retV (by rw [show n.toNat=0 from by omega];rfl),rfl⟩
 ·by_cases b:64<n
  ·go_enter Tryz.func140,Tryz.ntmps140
   go_wp2
   all_goals go_ret
   all_goals exact ⟨retV (by unfold zcD;rw [show 64 - n.toNat=0 from by omega];rfl),rfl⟩
  ·obtain ⟨k,rfl⟩:=Int.eq_ofNat_of_zero_le (show 0≤n by omega)
   have i:k≤64:=by omega
   have f:=Lib.hid (zlM i)
   clear a b j g
   go_enter Tryz.func140,Tryz.ntmps140
   go_wp2
   all_goals go_ret
   all_goals exact ⟨retV (show Value.int .u64 _=_ by rw [f.out]),rfl⟩
theorem zcE (hi lo n:Nat) (w:World) (o:hi<18446744073709551616) (g:lo<18446744073709551616) (p:n≤128):
  Calls Tryz.prog 100 #[.int .u64 hi,.int .u64 lo,.int .i64 n] w fun e w'=>e= .returned (pfW (ofW (zaE hi lo) n) n)∧Below w.heap.size w w':=by
 obtain ⟨i,a⟩:=zlU (hi:=hi) g p
 have z:Hid (pfW (ofW (zaE hi lo) n) n= .agg #[.int .u64 ((hi/2^(64 - n)*2^(64 - n):Nat):Int),.int .u64 ((lo/2^(64 - (n - 64))*2^(64 - (n - 64)):Nat):Int),.int .i64 n]):=by
  show pfV _ _ _=_
  rw [i,a];rfl
 have f:((n:Int) - 64).toNat=n - 64:=by omega
 have y:=Lib.hid f
 have j:=Lib.hid (zgJ hi n o)
 have q:=Lib.hid (zgJ lo (n - 64) g)
 clear i a f
 go_enter Tryz.func100,Tryz.ntmps100
 go_wp2_with fail
 refine (zgH _ _ (by omega) (by omega)).mono ?_
 rintro e A ⟨rfl,rfl⟩
 rw [Int.toNat_natCast]
 go_wp2_with fail
 refine (zgH _ _ (by omega) (by omega)).mono ?_
 rintro e A ⟨rfl,rfl⟩
 rw [y.out]
 go_wp2
 refine bodyPost_ret (v:= .agg #[.int .u64 (bits .and .u64 (hi:Int) (zcD n:Nat)),.int .u64 (bits .and .u64 (lo:Int) (zcD (n - 64):Nat)),.int .i64 n]) (by simp [results,Tryz.results100,go_sem]) rfl ⟨?_,?_⟩
 ·rw [z.out,j.out,q.out]
 ·exact ((znD _ _).alloc (znA _) _)
theorem zcP (u v:Array Value): ∀(p q:Operand) (W:World),(eqGuard .eql 125 p q (.agg u) (.agg v)).run Tryz.prog W= .ok () W:=by
 intro p q W;kernel_rfl
theorem eqPf (a b c f i g:Int): ∀W:World,(binOp .eql 125 (.agg #[.int .u64 a,.int .u64 b,.int .i64 c]) (.agg #[.int .u64 f,.int .u64 i,.int .i64 g])).run Tryz.prog W= .ok (.bool (a==f&&(b==i&&c==g))) W:=by
 intro W
 have p:(Op.equal 125 (.agg #[.int .u64 a,.int .u64 b,.int .i64 c]) (.agg #[.int .u64 f,.int .u64 i,.int .i64 g])).run Tryz.prog W= .ok (a==f&&(b==i&&c==g)) W:=by
  show (Op.equalIn 10000 125 _ _).run Tryz.prog W=_
  rw [run_equalIn_struct W 9999 125 _ _ (by kernel_rfl) (by kernel_rfl)]
  simp [Program.fieldsOf,Tryz.underlying125,Op.eqFields,go_sem,part,Tryz.sizeOf68,Tryz.isAgg68,Tryz.underlying68,Tryz.sizeOf3,Tryz.isAgg3,Tryz.underlying3]
  by_cases q:a=f<;>by_cases j:b=i<;>by_cases o:c=g<;>simp [q,j,o]
 show ((Op.equal _ _ _>>=fun b=>pure (Value.bool b)):Sem Value).run _ _=_
 rw [Sem.run_bind,p];rfl
theorem zlW (w:World) (a b c:Value) (t:TypeId): ∀W,Below (w.heap.size+1) (w.alloc (.cells #[a,b,c] t)) W→W.cell? ⟨w.heap.size,0,none⟩=some a∧W.cell? ⟨w.heap.size,1,none⟩=some b∧W.cell? ⟨w.heap.size,2,none⟩=some c:=fun W h=>by
 refine ⟨?_,?_,?_⟩
 all_goals
  rw [h.cell (p:=⟨w.heap.size,_,none⟩) (by show w.heap.size<_;omega)]
  simp [go_sem]
theorem zbM {w W:World} {o:Obj} (h:Below (w.heap.size+1) (w.alloc o) W):Below w.heap.size w W:=
 ((znD _ _).alloc (znA _) o).trans (h.mono (Nat.le_succ _))
theorem zeH {x:World} {n:Nat}:Below n x x.drew:=(znD _ _).drew
theorem zmB {x:World} {n k:Nat}:Below n x (x.drewN k):=⟨rfl,rfl,rfl,znA _,fun _ _=>rfl⟩
theorem zaT {x W:World} {n:Nat} (a:n≤x.heap.size) (h:Below x.drew.heap.size x.drew W):Below n x W:=(znD _ _).drew.trans (h.mono a)
theorem zbC {x y W:World} {n:Nat} (a:n≤x.heap.size) (h:Below n x y) (f:Below y.heap.size y W):Below n x W:=h.trans (f.mono (Nat.le_trans a h.size))
theorem zlT (hi lo n:Nat) (w:World) (B:hi<18446744073709551616) (i:lo<18446744073709551616) (p:n≤128):
  Calls Tryz.prog 75 #[.agg #[.int .u64 hi,.int .u64 lo,.int .i64 n]] w fun e w'=>e= .returned (.bool (zaI (zaE hi lo) n))∧Below w.heap.size w w':=by
 obtain ⟨y,o⟩: ∃x,hiN (ofW (zaE hi lo) n)=x:=⟨_,rfl⟩
 obtain ⟨z,j⟩: ∃x,loN (ofW (zaE hi lo) n)=x:=⟨_,rfl⟩
 have C:Hid (∀W,Calls Tryz.prog 100 #[.int .u64 hi,.int .u64 lo,.int .i64 n] W fun e w'=>e= .returned (.agg #[.int .u64 y,.int .u64 z,.int .i64 n])∧Below W.heap.size W w'):=fun W=>by
  have:=zcE hi lo n W B i p
  unfold pfW at this
  rw [o,j] at this
  exact this
 have A:((y:Int)==hi&&((z:Int)==lo&&(n:Int)==n))=zaI (zaE hi lo) n:=by
  rw [Bool.eq_iff_iff,zcG]
  simp only [Bool.and_eq_true,beq_iff_eq,and_true]
  constructor
  ·rintro ⟨a,b⟩
   refine ⟨p,?_⟩
   have:ofW (zaE hi lo) n=zaE hi lo:=zgL (by rw [o,zbH i];omega) (by rw [j,zbO i];omega)
   rw [←this];exact zmN _ _
  ·rintro ⟨_,b⟩
   have:ofW (zaE hi lo) n=zaE hi lo:=zlI ⟨p,b⟩
   rw [this,zbH i] at o
   rw [this,zbO i] at j
   omega
 have q:=eqPf y z n hi lo n
 rw [A] at q
 have D:=zcP
 have g:=Lib.hid (zlW w (.int .u64 hi) (.int .u64 lo) (.int .i64 n) 125)
 have H:decide ((0:Int)≤n)=true:=znC (by omega)
 have E:decide ((n:Int)≤128)=true:=znC (by omega)
 clear o j A
 generalize zaI (zaE hi lo) n=b at*
 go_enter Tryz.func75,Tryz.ntmps75
 go_wp2
 go_region_held3 (fun W=>W.cell? ⟨w.heap.size,0,none⟩=some (.int .u64 hi)∧W.cell? ⟨w.heap.size,1,none⟩=some (.int .u64 lo)∧W.cell? ⟨w.heap.size,2,none⟩=some (.int .i64 n))
  (first|exact g.out _ zeH|exact g.out _ (zaT (by simp) f))
  (first
   |(go_simp;go_at_call 100;((with_reducible refine (C.out _).mono ?_);rintro e G ⟨rfl,f⟩)))
 go_wp2
 go_ret
 exact ⟨rfl,zbM (zaT (by simp) f)⟩
theorem ziF (hi lo:Nat) (n:Int) (w:World) (a:n<0∨128<n):
  Calls Tryz.prog 75 #[.agg #[.int .u64 hi,.int .u64 lo,.int .i64 n]] w fun e w'=>e= .returned (.bool false)∧Below w.heap.size w w':=by
 by_cases i:n<0
 ·have f:decide ((0:Int)≤n)=false:=znB (by omega)
  clear a
  go_enter Tryz.func75,Tryz.ntmps75
  go_wp2
  go_quiet (fail)
  go_wp2
  go_ret
  exact ⟨rfl,zbM zmB⟩
 ·have f:decide ((0:Int)≤n)=true:=znC (by omega)
  have g:decide (n≤128)=false:=znB (by omega)
  clear a
  go_enter Tryz.func75,Tryz.ntmps75
  go_wp2
  go_quiet (fail)
  go_wp2
  go_ret
  exact ⟨rfl,zbM zmB⟩
theorem zfB {W:Nat} {n:Int} (h:n<0∨128<n):zaI W n=false:=by unfold zaI;rw [decide_eq_false_iff_not];omega
theorem zgP {W:Nat} {n:Int} (h:zaI W n=true):0≤n∧n≤128:=by unfold zaI at h;rw [decide_eq_true_iff] at h;omega
theorem zaN (hi lo:Nat) (n:Int) (w:World) (a:hi<18446744073709551616) (f:lo<18446744073709551616):
  Calls Tryz.prog 75 #[.agg #[.int .u64 hi,.int .u64 lo,.int .i64 n]] w fun e w'=>e= .returned (.bool (zaI (zaE hi lo) n))∧Below w.heap.size w w':=by
 by_cases h:n<0∨128<n
 ·rw [zfB h];exact ziF hi lo n w h
 ·obtain ⟨k,rfl⟩:=Int.eq_ofNat_of_zero_le (show 0≤n by omega)
  exact zlT hi lo k w a f (by omega)
theorem zbS (w:World) (a b c f i g:Value) (t:TypeId): ∀W,Below (w.heap.size+2) ((w.alloc (.cells #[a,b,c] t)).alloc (.cells #[f,i,g] t)) W→
  (W.cell? ⟨w.heap.size,0,none⟩=some a∧W.cell? ⟨w.heap.size,1,none⟩=some b∧W.cell? ⟨w.heap.size,2,none⟩=some c)∧W.cell? ⟨w.heap.size+1,0,none⟩=some f∧W.cell? ⟨w.heap.size+1,1,none⟩=some i∧W.cell? ⟨w.heap.size+1,2,none⟩=some g:=fun W h=>by
 refine ⟨⟨?_,?_,?_⟩,?_,?_,?_⟩
 ·rw [h.cell (p:=⟨w.heap.size,_,none⟩) (by show w.heap.size<_;omega)];simp [go_sem]
 ·rw [h.cell (p:=⟨w.heap.size,_,none⟩) (by show w.heap.size<_;omega)];simp [go_sem]
 ·rw [h.cell (p:=⟨w.heap.size,_,none⟩) (by show w.heap.size<_;omega)];simp [go_sem]
 ·rw [h.cell (p:=⟨w.heap.size+1,_,none⟩) (by show w.heap.size+1<_;omega)];simp [go_sem]
 ·rw [h.cell (p:=⟨w.heap.size+1,_,none⟩) (by show w.heap.size+1<_;omega)];simp [go_sem]
 ·rw [h.cell (p:=⟨w.heap.size+1,_,none⟩) (by show w.heap.size+1<_;omega)];simp [go_sem]
theorem zaU {w W:World} {o a:Obj} (h:Below (w.heap.size+2) ((w.alloc o).alloc a) W):Below w.heap.size w W:=
 (((znD _ _).alloc (znA _) o).alloc (by simp) a).trans (h.mono (by omega))
theorem zlJ (hi lo g i:Nat) (n m:Int) (w:World) (z:hi<18446744073709551616) (C:lo<18446744073709551616) (_:g<18446744073709551616) (_:i<18446744073709551616) (A:zaI (zaE hi lo) n=false):
  Calls Tryz.prog 102 #[.agg #[.int .u64 hi,.int .u64 lo,.int .i64 n],.agg #[.int .u64 g,.int .u64 i,.int .i64 m]] w fun e w'=>e= .returned (.bool false)∧Below w.heap.size w w':=by
 have q:=Lib.hid (zbS w (.int .u64 hi) (.int .u64 lo) (.int .i64 n) (.int .u64 g) (.int .u64 i) (.int .i64 m) 125)
 have y:Hid (∀W,Calls Tryz.prog 75 #[.agg #[.int .u64 hi,.int .u64 lo,.int .i64 n]] W fun e w'=>e= .returned (.bool false)∧Below W.heap.size W w'):=fun W=>by
  have:=zaN hi lo n W z C;rwa [A] at this
 clear A z C
 go_enter Tryz.func102,Tryz.ntmps102
 go_wp2
 refine wp_region_held_drew (S:=fun W=>(W.cell? ⟨w.heap.size,0,none⟩=some (.int .u64 hi)∧W.cell? ⟨w.heap.size,1,none⟩=some (.int .u64 lo)∧W.cell? ⟨w.heap.size,2,none⟩=some (.int .i64 n))∧W.cell? ⟨w.heap.size+1,0,none⟩=some (.int .u64 g)∧W.cell? ⟨w.heap.size+1,1,none⟩=some (.int .u64 i)∧W.cell? ⟨w.heap.size+1,2,none⟩=some (.int .i64 m)) (by kernel_rfl) ?_ (fun j=> ?_)
 ·exact q.out _ zeH
 refine tkB 0 (some 5) (v:= ?_) rfl (.inl ⟨by rfl,?_⟩) j ?_;rotate_left;·intro w f;(try dsimp only at f);go_simp;try with_reducible rfl
 try simp only [Act.put,tkBa,tkBb,tkBc]
 refine wpAnyH_ready (rs:=[1]) (by kernel_rfl) (by simp) ?_
 refine AllReadyH.cons (o:=⟨some 6,_,_,_,_,_⟩) rfl (fun K B=> ?_) AllReadyH.nil
 go_simp
 go_at_call 75
 refine (y.out _).mono ?_
 rintro e D ⟨rfl,p⟩
 (try go_wp2_with fail)
 refine B.out _ _ ?_ (fun a=> ?_)
 ·exact q.out _ (zaT (by simp) p)
 clear B K
 try simp only [Act.put,tkBa,tkBb,tkBc]
 refine tkB 2 (some 7) (v:= ?_) rfl (.inl ⟨by rfl,?_⟩) a ?_;rotate_left;·intro w f;(try dsimp only at f);go_simp;try with_reducible rfl
 try simp only [Act.put,tkBa,tkBb,tkBc]
 refine tkB 3 (some 8) (v:=undef) rfl (.inr ⟨by rfl,rfl⟩) a ?_
 try simp only [Act.put,tkBa,tkBb,tkBc]
 refine tkB 4 (some 9) (v:=undef) rfl (.inr ⟨by rfl,rfl⟩) a ?_
 try simp only [Act.put,tkBa,tkBb,tkBc]
 refine tkB 5 (some 10) (v:= ?_) rfl (.inl ⟨by rfl,?_⟩) a ?_;rotate_left;·intro w f;(try dsimp only at f);go_simp;try with_reducible rfl
 try simp only [Act.put,tkBa,tkBb,tkBc]
 refine tkB 6 (some 11) (v:= ?_) rfl (.inl ⟨by rfl,?_⟩) a ?_;rotate_left;·intro w f;(try dsimp only at f);go_simp;try with_reducible rfl
 try simp only [Act.put,tkBa,tkBb,tkBc]
 refine tkB 7 (some 12) (v:=undef) rfl (.inr ⟨by rfl,rfl⟩) a ?_
 try simp only [Act.put,tkBa,tkBb,tkBc]
 refine tkB 8 (some 13) (v:=undef) rfl (.inr ⟨by rfl,rfl⟩) a ?_
 try simp only [Act.put,tkBa,tkBb,tkBc]
 refine tkB 9 (some 14) (v:=undef) rfl (.inr ⟨by rfl,rfl⟩) a ?_
 try simp only [Act.put,tkBa,tkBb,tkBc]
 refine tkB 10 (some 15) (v:=undef) rfl (.inr ⟨by rfl,rfl⟩) a ?_
 try simp only [Act.put,tkBa,tkBb,tkBc]
 refine tkB 11 (some 16) (v:=undef) rfl (.inr ⟨by rfl,rfl⟩) a ?_
 try simp only [Act.put,tkBa,tkBb,tkBc]
 refine tkB 12 (some 17) (v:= ?_) rfl (.inl ⟨by rfl,?_⟩) a ?_;rotate_left;·intro w f;(try dsimp only at f);go_simp;try with_reducible rfl
 try simp only [Act.put,tkBa,tkBb,tkBc]
 refine tkB 13 (some 18) (v:= ?_) rfl (.inl ⟨by rfl,?_⟩) a ?_;rotate_left;·intro w f;(try dsimp only at f);go_simp;try with_reducible rfl
 try simp only [Act.put,tkBa,tkBb,tkBc]
 refine tkB 14 (some 19) (v:=undef) rfl (.inr ⟨by rfl,rfl⟩) a ?_
 try simp only [Act.put,tkBa,tkBb,tkBc]
 refine tkB 15 (some 20) (v:=undef) rfl (.inr ⟨by rfl,rfl⟩) a ?_
 try simp only [Act.put,tkBa,tkBb,tkBc]
 refine tkB 16 (some 21) (v:=undef) rfl (.inr ⟨by rfl,rfl⟩) a ?_
 try simp only [Act.put,tkBa,tkBb,tkBc]
 refine tkB 17 (some 22) (v:=undef) rfl (.inr ⟨by rfl,rfl⟩) a ?_
 try simp only [Act.put,tkBa,tkBb,tkBc]
 refine tkB 18 (some 23) (v:=undef) rfl (.inr ⟨by rfl,rfl⟩) a ?_
 try simp only [Act.put,tkBa,tkBb,tkBc]
 refine tkB 19 (some 24) (v:=undef) rfl (.inr ⟨by rfl,rfl⟩) a ?_
 try simp only [Act.put,tkBa,tkBb,tkBc]
 refine tkB 20 (some 25) (v:=undef) rfl (.inr ⟨by rfl,rfl⟩) a ?_
 try simp only [Act.put,tkBa,tkBb,tkBc]
 refine tkB 21 (some 26) (v:=undef) rfl (.inr ⟨by rfl,rfl⟩) a ?_
 try simp only [Act.put,tkBa,tkBb,tkBc]
 refine tkB 22 (some 27) (v:=undef) rfl (.inr ⟨by rfl,rfl⟩) a ?_
 try simp only [Act.put,tkBa,tkBb,tkBc]
 refine tkB 23 (some 28) (v:= ?_) rfl (.inl ⟨by rfl,?_⟩) a ?_;rotate_left;·intro w f;(try dsimp only at f);go_simp;try with_reducible rfl
 try simp only [Act.put,tkBa,tkBb,tkBc]
 refine tkB 24 (some 4) (v:= ?_) rfl (.inl ⟨by rfl,?_⟩) a ?_;rotate_left;·intro w f;(try dsimp only at f);go_simp;try with_reducible rfl
 try simp only [Act.put,tkBa,tkBb,tkBc]
 refine wpAnyH_done (by kernel_rfl) ?_ _
 go_wp2
 go_ret
 exact ⟨by first|rfl|(simp;done)|kernel_rfl|(simp [Act.put];done),zaU (zaT (by simp) p)⟩
theorem zlB (hi lo g i:Nat) (n m:Int) (w:World) (D:hi<18446744073709551616) (H:lo<18446744073709551616) (G:g<18446744073709551616) (J:i<18446744073709551616) (E:zaI (zaE hi lo) n=true) (I:zaI (zaE g i) m=false):
  Calls Tryz.prog 102 #[.agg #[.int .u64 hi,.int .u64 lo,.int .i64 n],.agg #[.int .u64 g,.int .u64 i,.int .i64 m]] w fun e w'=>e= .returned (.bool false)∧Below w.heap.size w w':=by
 have q:=Lib.hid (zbS w (.int .u64 hi) (.int .u64 lo) (.int .i64 n) (.int .u64 g) (.int .u64 i) (.int .i64 m) 125)
 have C:Hid (∀W,Calls Tryz.prog 75 #[.agg #[.int .u64 hi,.int .u64 lo,.int .i64 n]] W fun e w'=>e= .returned (.bool true)∧Below W.heap.size W w'):=fun W=>by
  have:=zaN hi lo n W D H;rwa [E] at this
 have B:Hid (∀W,Calls Tryz.prog 75 #[.agg #[.int .u64 g,.int .u64 i,.int .i64 m]] W fun e w'=>e= .returned (.bool false)∧Below W.heap.size W w'):=fun W=>by
  have:=zaN g i m W G J;rwa [I] at this
 clear E I D H G J
 go_enter Tryz.func102,Tryz.ntmps102
 go_wp2
 refine wp_region_held_drew (S:=fun W=>(W.cell? ⟨w.heap.size,0,none⟩=some (.int .u64 hi)∧W.cell? ⟨w.heap.size,1,none⟩=some (.int .u64 lo)∧W.cell? ⟨w.heap.size,2,none⟩=some (.int .i64 n))∧W.cell? ⟨w.heap.size+1,0,none⟩=some (.int .u64 g)∧W.cell? ⟨w.heap.size+1,1,none⟩=some (.int .u64 i)∧W.cell? ⟨w.heap.size+1,2,none⟩=some (.int .i64 m)) (by kernel_rfl) ?_ (fun y=> ?_)
 ·exact q.out _ zeH
 refine tkB 0 (some 5) (v:= ?_) rfl (.inl ⟨by rfl,?_⟩) y ?_;rotate_left;·intro w f;(try dsimp only at f);go_simp;try with_reducible rfl
 try simp only [Act.put,tkBa,tkBb,tkBc]
 refine wpAnyH_ready (rs:=[1]) (by kernel_rfl) (by simp) ?_
 refine AllReadyH.cons (o:=⟨some 6,_,_,_,_,_⟩) rfl (fun K z=> ?_) AllReadyH.nil
 go_simp
 go_at_call 75
 refine (C.out _).mono ?_
 rintro e O ⟨rfl,p⟩
 (try go_wp2_with fail)
 refine z.out _ _ ?_ (fun j=> ?_)
 ·exact q.out _ (zaT (by simp) p)
 clear z K
 try simp only [Act.put,tkBa,tkBb,tkBc]
 refine tkB 2 (some 7) (v:= ?_) rfl (.inl ⟨by rfl,?_⟩) j ?_;rotate_left;·intro w f;(try dsimp only at f);go_simp;try with_reducible rfl
 try simp only [Act.put,tkBa,tkBb,tkBc]
 refine tkB 3 (some 8) (v:= ?_) rfl (.inl ⟨by rfl,?_⟩) j ?_;rotate_left;·intro w f;(try dsimp only at f);go_simp;try with_reducible rfl
 try simp only [Act.put,tkBa,tkBb,tkBc]
 refine wpAnyH_ready (rs:=[4]) (by kernel_rfl) (by simp) ?_
 refine AllReadyH.cons (o:=⟨some 9,_,_,_,_,_⟩) rfl (fun K z=> ?_) AllReadyH.nil
 go_simp
 go_at_call 75
 refine (B.out _).mono ?_
 rintro e N ⟨rfl,A⟩
 (try go_wp2_with fail)
 refine z.out _ _ ?_ (fun a=> ?_)
 ·exact q.out _ (zbC (by simp) (zaT (by simp) p) A)
 clear z K
 try simp only [Act.put,tkBa,tkBb,tkBc]
 refine tkB 5 (some 10) (v:= ?_) rfl (.inl ⟨by rfl,?_⟩) a ?_;rotate_left;·intro w f;(try dsimp only at f);go_simp;try with_reducible rfl
 try simp only [Act.put,tkBa,tkBb,tkBc]
 refine tkB 6 (some 11) (v:= ?_) rfl (.inl ⟨by rfl,?_⟩) a ?_;rotate_left;·intro w f;(try dsimp only at f);go_simp;try with_reducible rfl
 try simp only [Act.put,tkBa,tkBb,tkBc]
 refine tkB 7 (some 12) (v:=undef) rfl (.inr ⟨by rfl,rfl⟩) a ?_
 try simp only [Act.put,tkBa,tkBb,tkBc]
 refine tkB 8 (some 13) (v:=undef) rfl (.inr ⟨by rfl,rfl⟩) a ?_
 try simp only [Act.put,tkBa,tkBb,tkBc]
 refine tkB 9 (some 14) (v:=undef) rfl (.inr ⟨by rfl,rfl⟩) a ?_
 try simp only [Act.put,tkBa,tkBb,tkBc]
 refine tkB 10 (some 15) (v:=undef) rfl (.inr ⟨by rfl,rfl⟩) a ?_
 try simp only [Act.put,tkBa,tkBb,tkBc]
 refine tkB 11 (some 16) (v:=undef) rfl (.inr ⟨by rfl,rfl⟩) a ?_
 try simp only [Act.put,tkBa,tkBb,tkBc]
 refine tkB 12 (some 17) (v:= ?_) rfl (.inl ⟨by rfl,?_⟩) a ?_;rotate_left;·intro w f;(try dsimp only at f);go_simp;try with_reducible rfl
 try simp only [Act.put,tkBa,tkBb,tkBc]
 refine tkB 13 (some 18) (v:= ?_) rfl (.inl ⟨by rfl,?_⟩) a ?_;rotate_left;·intro w f;(try dsimp only at f);go_simp;try with_reducible rfl
 try simp only [Act.put,tkBa,tkBb,tkBc]
 refine tkB 14 (some 19) (v:=undef) rfl (.inr ⟨by rfl,rfl⟩) a ?_
 try simp only [Act.put,tkBa,tkBb,tkBc]
 refine tkB 15 (some 20) (v:=undef) rfl (.inr ⟨by rfl,rfl⟩) a ?_
 try simp only [Act.put,tkBa,tkBb,tkBc]
 refine tkB 16 (some 21) (v:=undef) rfl (.inr ⟨by rfl,rfl⟩) a ?_
 try simp only [Act.put,tkBa,tkBb,tkBc]
 refine tkB 17 (some 22) (v:=undef) rfl (.inr ⟨by rfl,rfl⟩) a ?_
 try simp only [Act.put,tkBa,tkBb,tkBc]
 refine tkB 18 (some 23) (v:=undef) rfl (.inr ⟨by rfl,rfl⟩) a ?_
 try simp only [Act.put,tkBa,tkBb,tkBc]
 refine tkB 19 (some 24) (v:=undef) rfl (.inr ⟨by rfl,rfl⟩) a ?_
 try simp only [Act.put,tkBa,tkBb,tkBc]
 refine tkB 20 (some 25) (v:=undef) rfl (.inr ⟨by rfl,rfl⟩) a ?_
 try simp only [Act.put,tkBa,tkBb,tkBc]
 refine tkB 21 (some 26) (v:=undef) rfl (.inr ⟨by rfl,rfl⟩) a ?_
 try simp only [Act.put,tkBa,tkBb,tkBc]
 refine tkB 22 (some 27) (v:=undef) rfl (.inr ⟨by rfl,rfl⟩) a ?_
 try simp only [Act.put,tkBa,tkBb,tkBc]
 refine tkB 23 (some 28) (v:= ?_) rfl (.inl ⟨by rfl,?_⟩) a ?_;rotate_left;·intro w f;(try dsimp only at f);go_simp;try with_reducible rfl
 try simp only [Act.put,tkBa,tkBb,tkBc]
 refine tkB 24 (some 4) (v:= ?_) rfl (.inl ⟨by rfl,?_⟩) a ?_;rotate_left;·intro w f;(try dsimp only at f);go_simp;try with_reducible rfl
 try simp only [Act.put,tkBa,tkBb,tkBc]
 refine wpAnyH_done (by kernel_rfl) ?_ _
 go_wp2
 go_ret
 exact ⟨by first|rfl|(simp;done)|kernel_rfl|(simp [Act.put];done),zaU (zbC (by simp) (zaT (by simp) p) A)⟩
theorem zlQ (hi lo g i:Nat) (n m:Int) (w:World) (D:hi<18446744073709551616) (H:lo<18446744073709551616) (G:g<18446744073709551616) (J:i<18446744073709551616) (E:zaI (zaE hi lo) n=true) (I:zaI (zaE g i) m=true) (N:m<n):
  Calls Tryz.prog 102 #[.agg #[.int .u64 hi,.int .u64 lo,.int .i64 n],.agg #[.int .u64 g,.int .u64 i,.int .i64 m]] w fun e w'=>e= .returned (.bool false)∧Below w.heap.size w w':=by
 have q:=Lib.hid (zbS w (.int .u64 hi) (.int .u64 lo) (.int .i64 n) (.int .u64 g) (.int .u64 i) (.int .i64 m) 125)
 have C:Hid (∀W,Calls Tryz.prog 75 #[.agg #[.int .u64 hi,.int .u64 lo,.int .i64 n]] W fun e w'=>e= .returned (.bool true)∧Below W.heap.size W w'):=fun W=>by
  have:=zaN hi lo n W D H;rwa [E] at this
 have B:Hid (∀W,Calls Tryz.prog 75 #[.agg #[.int .u64 g,.int .u64 i,.int .i64 m]] W fun e w'=>e= .returned (.bool true)∧Below W.heap.size W w'):=fun W=>by
  have:=zaN g i m W G J;rwa [I] at this
 have O:decide (n≤m)=false:=znB (by omega)
 clear E I D H G J N
 go_enter Tryz.func102,Tryz.ntmps102
 go_wp2
 refine wp_region_held_drew (S:=fun W=>(W.cell? ⟨w.heap.size,0,none⟩=some (.int .u64 hi)∧W.cell? ⟨w.heap.size,1,none⟩=some (.int .u64 lo)∧W.cell? ⟨w.heap.size,2,none⟩=some (.int .i64 n))∧W.cell? ⟨w.heap.size+1,0,none⟩=some (.int .u64 g)∧W.cell? ⟨w.heap.size+1,1,none⟩=some (.int .u64 i)∧W.cell? ⟨w.heap.size+1,2,none⟩=some (.int .i64 m)) (by kernel_rfl) ?_ (fun y=> ?_)
 ·exact q.out _ zeH
 refine tkB 0 (some 5) (v:= ?_) rfl (.inl ⟨by rfl,?_⟩) y ?_;rotate_left;·intro w f;(try dsimp only at f);go_simp;try with_reducible rfl
 try simp only [Act.put,tkBa,tkBb,tkBc]
 refine wpAnyH_ready (rs:=[1]) (by kernel_rfl) (by simp) ?_
 refine AllReadyH.cons (o:=⟨some 6,_,_,_,_,_⟩) rfl (fun K z=> ?_) AllReadyH.nil
 go_simp
 go_at_call 75
 refine (C.out _).mono ?_
 rintro e Q ⟨rfl,p⟩
 (try go_wp2_with fail)
 refine z.out _ _ ?_ (fun j=> ?_)
 ·exact q.out _ (zaT (by simp) p)
 clear z K
 try simp only [Act.put,tkBa,tkBb,tkBc]
 refine tkB 2 (some 7) (v:= ?_) rfl (.inl ⟨by rfl,?_⟩) j ?_;rotate_left;·intro w f;(try dsimp only at f);go_simp;try with_reducible rfl
 try simp only [Act.put,tkBa,tkBb,tkBc]
 refine tkB 3 (some 8) (v:= ?_) rfl (.inl ⟨by rfl,?_⟩) j ?_;rotate_left;·intro w f;(try dsimp only at f);go_simp;try with_reducible rfl
 try simp only [Act.put,tkBa,tkBb,tkBc]
 refine wpAnyH_ready (rs:=[4]) (by kernel_rfl) (by simp) ?_
 refine AllReadyH.cons (o:=⟨some 9,_,_,_,_,_⟩) rfl (fun K z=> ?_) AllReadyH.nil
 go_simp
 go_at_call 75
 refine (B.out _).mono ?_
 rintro e P ⟨rfl,A⟩
 (try go_wp2_with fail)
 refine z.out _ _ ?_ (fun a=> ?_)
 ·exact q.out _ (zbC (by simp) (zaT (by simp) p) A)
 clear z K
 try simp only [Act.put,tkBa,tkBb,tkBc]
 refine tkB 5 (some 10) (v:= ?_) rfl (.inl ⟨by rfl,?_⟩) a ?_;rotate_left;·intro w f;(try dsimp only at f);go_simp;try with_reducible rfl
 try simp only [Act.put,tkBa,tkBb,tkBc]
 refine tkB 6 (some 11) (v:= ?_) rfl (.inl ⟨by rfl,?_⟩) a ?_;rotate_left;·intro w f;(try dsimp only at f);go_simp;try with_reducible rfl
 try simp only [Act.put,tkBa,tkBb,tkBc]
 refine tkB 7 (some 12) (v:= ?_) rfl (.inl ⟨by rfl,?_⟩) a ?_;rotate_left;·intro w f;(try dsimp only at f);go_simp;try with_reducible rfl
 try simp only [Act.put,tkBa,tkBb,tkBc]
 refine tkB 8 (some 13) (v:= ?_) rfl (.inl ⟨by rfl,?_⟩) a ?_;rotate_left;·intro w f;(try dsimp only at f);go_simp;try with_reducible rfl
 try simp only [Act.put,tkBa,tkBb,tkBc]
 refine tkB 9 (some 14) (v:= ?_) rfl (.inl ⟨by rfl,?_⟩) a ?_;rotate_left;·intro w f;(try dsimp only at f);go_simp;try with_reducible rfl
 try simp only [Act.put,tkBa,tkBb,tkBc]
 refine tkB 10 (some 15) (v:= ?_) rfl (.inl ⟨by rfl,?_⟩) a ?_;rotate_left;·intro w f;(try dsimp only at f);go_simp;try with_reducible rfl
 try simp only [Act.put,tkBa,tkBb,tkBc]
 refine tkB 11 (some 16) (v:= ?_) rfl (.inl ⟨by rfl,?_⟩) a ?_;rotate_left;·intro w f;(try dsimp only at f);go_simp;try with_reducible rfl
 try simp only [Act.put,tkBa,tkBb,tkBc]
 refine tkB 12 (some 17) (v:= ?_) rfl (.inl ⟨by rfl,?_⟩) a ?_;rotate_left;·intro w f;(try dsimp only at f);go_simp;try with_reducible rfl
 try simp only [Act.put,tkBa,tkBb,tkBc]
 refine tkB 13 (some 18) (v:= ?_) rfl (.inl ⟨by rfl,?_⟩) a ?_;rotate_left;·intro w f;(try dsimp only at f);go_simp;try with_reducible rfl
 try simp only [Act.put,tkBa,tkBb,tkBc]
 refine tkB 14 (some 19) (v:=undef) rfl (.inr ⟨by rfl,rfl⟩) a ?_
 try simp only [Act.put,tkBa,tkBb,tkBc]
 refine tkB 15 (some 20) (v:=undef) rfl (.inr ⟨by rfl,rfl⟩) a ?_
 try simp only [Act.put,tkBa,tkBb,tkBc]
 refine tkB 16 (some 21) (v:=undef) rfl (.inr ⟨by rfl,rfl⟩) a ?_
 try simp only [Act.put,tkBa,tkBb,tkBc]
 refine tkB 17 (some 22) (v:=undef) rfl (.inr ⟨by rfl,rfl⟩) a ?_
 try simp only [Act.put,tkBa,tkBb,tkBc]
 refine tkB 18 (some 23) (v:=undef) rfl (.inr ⟨by rfl,rfl⟩) a ?_
 try simp only [Act.put,tkBa,tkBb,tkBc]
 refine tkB 19 (some 24) (v:=undef) rfl (.inr ⟨by rfl,rfl⟩) a ?_
 try simp only [Act.put,tkBa,tkBb,tkBc]
 refine tkB 20 (some 25) (v:=undef) rfl (.inr ⟨by rfl,rfl⟩) a ?_
 try simp only [Act.put,tkBa,tkBb,tkBc]
 refine tkB 21 (some 26) (v:=undef) rfl (.inr ⟨by rfl,rfl⟩) a ?_
 try simp only [Act.put,tkBa,tkBb,tkBc]
 refine tkB 22 (some 27) (v:=undef) rfl (.inr ⟨by rfl,rfl⟩) a ?_
 try simp only [Act.put,tkBa,tkBb,tkBc]
 refine tkB 23 (some 28) (v:= ?_) rfl (.inl ⟨by rfl,?_⟩) a ?_;rotate_left;·intro w f;(try dsimp only at f);go_simp;try with_reducible rfl
 try simp only [Act.put,tkBa,tkBb,tkBc]
 refine tkB 24 (some 4) (v:= ?_) rfl (.inl ⟨by rfl,?_⟩) a ?_;rotate_left;·intro w f;(try dsimp only at f);go_simp;try with_reducible rfl
 try simp only [Act.put,tkBa,tkBb,tkBc]
 refine wpAnyH_done (by kernel_rfl) ?_ _
 go_wp2
 go_ret
 exact ⟨by first|rfl|(simp;done)|kernel_rfl|(simp [Act.put];done),zaU (zbC (by simp) (zaT (by simp) p) A)⟩
theorem zlK (hi lo f g:Nat) (n m:Int) (w:World) (P:hi<18446744073709551616) (q:lo<18446744073709551616) (E:f<18446744073709551616) (K:g<18446744073709551616) (y:zaI (zaE hi lo) n=true) (G:zaI (zaE f g) m=true) (O:n≤m):
  Calls Tryz.prog 102 #[.agg #[.int .u64 hi,.int .u64 lo,.int .i64 n],.agg #[.int .u64 f,.int .u64 g,.int .i64 m]] w fun e w'=>e= .returned (.bool (zaQ (zaE hi lo) n (zaE f g) m))∧Below w.heap.size w w':=by
 have j:=Lib.hid (zbS w (.int .u64 hi) (.int .u64 lo) (.int .i64 n) (.int .u64 f) (.int .u64 g) (.int .i64 m) 125)
 have J:Hid (∀W,Calls Tryz.prog 75 #[.agg #[.int .u64 hi,.int .u64 lo,.int .i64 n]] W fun e w'=>e= .returned (.bool true)∧Below W.heap.size W w'):=fun W=>by
  have:=zaN hi lo n W P q;rwa [y] at this
 have H:Hid (∀W,Calls Tryz.prog 75 #[.agg #[.int .u64 f,.int .u64 g,.int .i64 m]] W fun e w'=>e= .returned (.bool true)∧Below W.heap.size W w'):=fun W=>by
  have:=zaN f g m W E K;rwa [G] at this
 obtain ⟨D,B⟩: ∃x,hiN (ofW (zaE f g) n.toNat)=x:=⟨_,rfl⟩
 obtain ⟨I,A⟩: ∃x,loN (ofW (zaE f g) n.toNat)=x:=⟨_,rfl⟩
 have Q:=zgP y
 have p:(n.toNat:Int)=n:=by omega
 have R:Hid (∀W,Calls Tryz.prog 100 #[.int .u64 f,.int .u64 g,.int .i64 n] W fun e w'=>e= .returned (.agg #[.int .u64 D,.int .u64 I,.int .i64 n])∧Below W.heap.size W w'):=fun W=>by
  have:=zcE f g n.toNat W E K (by omega)
  unfold pfW at this
  rw [B,A,p] at this
  exact this
 have N:((D:Int)==hi&&((I:Int)==lo&&n==n))=zaQ (zaE hi lo) n (zaE f g) m:=by
  unfold zaQ
  have r3:rt (zaE hi lo) n.toNat:=by have:=y;rw [←p,zcG] at this;exact this.2
  rw [y,G,znC O,Bool.true_and,Bool.true_and,Bool.true_and,Bool.eq_iff_iff,decide_eq_true_iff]
  simp only [Bool.and_eq_true,beq_iff_eq,and_true]
  constructor
  ·rintro ⟨a,b⟩
   have:ofW (zaE f g) n.toNat=zaE hi lo:=zgL (by rw [B,zbH q];omega) (by rw [A,zbO q];omega)
   rw [←this];exact qt_of _ _
  ·intro b
   have:ofW (zaE f g) n.toNat=zaE hi lo:=zmL (zmN _ _) r3 ((qt_of _ _).trans b.symm)
   rw [this,zbH q] at B
   rw [this,zbO q] at A
   omega
 have C:=eqPf D I n hi lo n
 rw [N] at C
 have Y:=zcP
 have S:decide (n≤m)=true:=znC (by omega)
 clear y G P q E K O N B A p Q
 generalize zaQ (zaE hi lo) n (zaE f g) m=b at*
 go_enter Tryz.func102,Tryz.ntmps102
 go_wp2
 go_region_held3 (fun W=>(W.cell? ⟨w.heap.size,0,none⟩=some (.int .u64 hi)∧W.cell? ⟨w.heap.size,1,none⟩=some (.int .u64 lo)∧W.cell? ⟨w.heap.size,2,none⟩=some (.int .i64 n))∧W.cell? ⟨w.heap.size+1,0,none⟩=some (.int .u64 f)∧W.cell? ⟨w.heap.size+1,1,none⟩=some (.int .u64 g)∧W.cell? ⟨w.heap.size+1,2,none⟩=some (.int .i64 m))
  (first|exact j.out _ (zeH)|exact j.out _ (zaT (by simp) i)|exact j.out _ (zbC (by simp) (zaT (by simp) i) o)|exact j.out _ (zbC (by simp) (zbC (by simp) (zaT (by simp) i) o) z))
  (first
   |(go_simp;go_at_call 75;((with_reducible refine (J.out _).mono ?_);rintro e V ⟨rfl,i⟩))
   |(go_simp;go_at_call 75;((with_reducible refine (H.out _).mono ?_);rintro e U ⟨rfl,o⟩))
   |(go_simp;go_at_call 100;((with_reducible refine (R.out _).mono ?_);rintro e T ⟨rfl,z⟩))
)
 go_wp2
 go_ret
 exact ⟨by first|rfl|(simp;done)|kernel_rfl|(simp [Act.put];done),zaU (zbC (by simp) (zbC (by simp) (zaT (by simp) i) o) z)⟩
theorem zhC (hi lo a f:Nat) (n m:Int) (w:World) (j:hi<18446744073709551616) (p:lo<18446744073709551616) (o:a<18446744073709551616) (q:f<18446744073709551616):
  Calls Tryz.prog 102 #[.agg #[.int .u64 hi,.int .u64 lo,.int .i64 n],.agg #[.int .u64 a,.int .u64 f,.int .i64 m]] w fun e w'=>e= .returned (.bool (zaQ (zaE hi lo) n (zaE a f) m))∧Below w.heap.size w w':=by
 cases g:zaI (zaE hi lo) n with
 |false=>
  rw [show zaQ (zaE hi lo) n (zaE a f) m=false from by unfold zaQ;rw [g];rfl]
  exact zlJ hi lo a f n m w j p o q g
 |true=>
  cases i:zaI (zaE a f) m with
  |false=>
   rw [show zaQ (zaE hi lo) n (zaE a f) m=false from by unfold zaQ;rw [g,i];rfl]
   exact zlB hi lo a f n m w j p o q g i
  |true=>
   by_cases y:n≤m
   ·exact zlK hi lo a f n m w j p o q g i y
   ·rw [show zaQ (zaE hi lo) n (zaE a f) m=false from by unfold zaQ;rw [g,i,znB y];rfl]
    exact zlQ hi lo a f n m w j p o q g i (by omega)
theorem zlY (x:Nat) (h:x<18446744073709551616):bits .and .u64 (x:Int) 1=((x % 2:Nat):Int):=by
 rw [show (1:Int)=((1:Nat):Int) from rfl,u64_and_nat x 1 h (by decide),Nat.and_one_is_mod]
theorem zhW (x j:Nat) (h:x<18446744073709551616):wrap64 (bits .and .u64 ((x:Int)/2^j) 1)=((x/2^j % 2:Nat):Int):=by
 have e:((x:Int)/2^j)=((x/2^j:Nat):Int):=by simp
 rw [e,zlY _ (Nat.lt_of_le_of_lt (Nat.div_le_self _ _) h)]
 have:x/2^j % 2<2:=Nat.mod_lt _ (by decide)
 unfold wrap64;omega
theorem zmD (hi lo:Nat) (n:Int) (k:Nat) (w:World) (i:hi<18446744073709551616) (g:lo<18446744073709551616) (j:k<128):
  Calls Tryz.prog 103 #[.agg #[.int .u64 hi,.int .u64 lo,.int .i64 n],.int .i64 k] w fun e w'=>e= .returned (.int .i64 (bitW (zaE hi lo) k:Nat))∧Below w.heap.size w w':=by
 by_cases f:k<64
 ·have a:Hid (wrap64 (bits .and .u64 ((hi:Int)/2^(63 - k)) 1)=(bitW (zaE hi lo) k:Nat)):=by
   show _=_
   rw [zhW _ _ i,bit_hi (show lo<2^64 from g) k f]
  go_enter Tryz.func103,Tryz.ntmps103
  go_wp2
  all_goals go_ret
  all_goals exact ⟨retV (show Value.int .i64 _=_ by rw [a.out]),(znD _ _).alloc (znA _) _⟩
 ·have o:64≤k:=by omega
  have a:Hid (wrap64 (bits .and .u64 ((lo:Int)/2^(127 - k)) 1)=(bitW (zaE hi lo) k:Nat)):=by
   show _=_
   rw [zhW _ _ g,bit_lo (hi:=hi) k o j]
  clear f
  go_enter Tryz.func103,Tryz.ntmps103
  go_wp2
  all_goals go_ret
  all_goals exact ⟨retV (show Value.int .i64 _=_ by rw [a.out]),(znD _ _).alloc (znA _) _⟩
end
end Go.Proofs.YteajemblhlbfpaaGreatDoor
