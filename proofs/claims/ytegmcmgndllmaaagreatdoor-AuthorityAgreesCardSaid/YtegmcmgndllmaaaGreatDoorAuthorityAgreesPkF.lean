/-
  What the law AuthorityAgrees leans on, and its walk (6 of 43).
-/
import Derived.Test.YtegmcmgndllmaaaGreatDoorChecked
import Derived.WalkKit
import Derived.WalkLawsBesides
import Derived.BigQuiet
import Derived.Deep.QuietTactic
import Derived.Deep.RegionHeld3
import Derived.Deep.DeepCutAuto
import Derived.Lib.Hide
import Derived.Lib.OthersKept
namespace Go.Proofs.YtegmcmgndllmaaaGreatDoor
set_option maxRecDepth 100000
set_option maxHeartbeats 16000000
theorem tkF {P : Program} {g : Region.Mode} {e : Array Oper} {Q : Exit → Act → World → Prop} {S : World → Prop} (i : Nat) (s : Option Nat) {o : Op} {q : TypeId} {f : String} {m : _} {j : _} {v : Value} {fuel : Nat} {d : Array Bool} {a : Act} {w : World} (hi : e[i]? = some ⟨s, o, q, f, m, j⟩)
 (A : YieldsIf P e S ⟨s, o, q, f, m, j⟩ v a) (D : S w)
 (h : wpAnyH P g e Q S fuel (d.setIfInBounds i true) (a.put s v) w)
 (B : Region.noSelect e = true := by kernel_rfl) (C : Region.free g e d i = true := by kernel_rfl) (G : (Region.ready g e d).contains i = true := by kernel_rfl)
 (E : ∀ c a w, Q (.panic c) (a.put s v) w → Q (.panic c) a w := by exact fun _ _ _ h => h) : wpAnyH P g e Q S (fuel + 1) d a w :=
 wpAnyH_take hi B C G E A D h
theorem tkFa {d : Type _} (l : List d) (i : Nat) (a : d) : l.toArray.setIfInBounds i a = (l.set i a).toArray := List.setIfInBounds_toArray ..
theorem tkFb {d : Type _} (x y : d) (l : List d) : (x :: l).set 0 y = y :: l := rfl
theorem tkFc {d : Type _} (x y : d) (l : List d) (n : Nat) : (x :: l).set (n + 1) y = x :: l.set n y := rfl
abbrev ynR := @Nat.le_refl
abbrev ynS := @decide_eq_false
abbrev ynT := @decide_eq_true
abbrev ynU := @Go.RowKit.Below.refl
section
open Go.RowKit
def zaQ (hi lo:Nat):Nat:=hi*2^64+lo
def bitW (W i:Nat):Nat:=W/2^(127 - i) % 2
def ofW (W n:Nat):Nat:=W/2^(128 - n)*2^(128 - n)
def rightW (W n:Nat):Prop:=n≤128∧W % 2^(128 - n)=0
theorem yeA {hi lo:Nat} (l:lo<2^64):zaQ hi lo/2^64=hi:=by unfold zaQ;omega
theorem bit_hi {hi lo:Nat} (l:lo<2^64) (i:Nat) (h:i<64):hi/2^(63 - i) % 2=bitW (zaQ hi lo) i:=by
 unfold bitW
 rw [show 127 - i=64+(63 - i) from by omega,Nat.pow_add,←Nat.div_div_eq_div_mul,yeA l]
theorem bit_lo {hi lo:Nat} (i:Nat) (h:64≤i) (d:i<128):lo/2^(127 - i) % 2=bitW (zaQ hi lo) i:=by
 unfold bitW zaQ
 have e:hi*2^64=2^(127 - i)*(hi*2^(i - 64)*2):=by
  rw [show (2:Nat)^64=2^(127 - i)*(2^(i - 64)*2) from by rw [←Nat.pow_succ,←Nat.pow_add];congr 1;omega]
  rw [Nat.mul_left_comm,Nat.mul_assoc]
 rw [e,Nat.add_comm,Nat.add_mul_div_left _ _ (Nat.pow_pos (by decide)),Nat.add_mul_mod_self_right]
theorem ygJ (W i:Nat):bitW W i=0∨bitW W i=1:=by unfold bitW;omega
theorem yhS (X i:Nat) (h:i<128):X/2^(128 - (i+1))=2*(X/2^(128 - i))+bitW X i:=by
 unfold bitW
 rw [show 128 - (i+1)=127 - i from by omega,show 128 - i=(127 - i)+1 from by omega,Nat.pow_succ,←Nat.div_div_eq_div_mul]
 omega
theorem ykD (W n:Nat):ofW W n/2^(128 - n)=W/2^(128 - n):=Nat.mul_div_cancel _ (Nat.pow_pos (by decide))
theorem ofW_le (W n:Nat):ofW W n≤W:=Nat.div_mul_le_self _ _
theorem yiB {W n:Nat} (h:rightW W n):ofW W n=W:=by
 unfold ofW
 have:=Nat.div_add_mod W (2^(128 - n))
 rw [h.2,Nat.add_zero,Nat.mul_comm] at this
 exact this
def qt (X n:Nat):Nat:=X/2^(128 - n)
def zbS (W:Nat) (n:Int):Bool:=decide (0≤n∧n≤128∧W % 2^(128 - n.toNat)=0)
def zdW (P:Nat) (n:Int) (Q:Nat) (m:Int):Bool:=zbS P n&&(zbS Q m&&(decide (n≤m)&&decide (qt P n.toNat=qt Q n.toNat)))
theorem yjL (X n:Nat) (h:n<128):qt X (n+1)=2*qt X n+bitW X n:=yhS X n h
theorem qt_lt {X:Nat} (h:X<2^128):qt X 0=0:=Nat.div_eq_of_lt h
def rt (W n:Nat):Prop:=W % 2^(128 - n)=0
theorem ylF {W n:Nat} (h:rt W n):W=qt W n*2^(128 - n):=by
 unfold rt at h;unfold qt
 have:=Nat.div_add_mod W (2^(128 - n))
 rw [h,Nat.add_zero,Nat.mul_comm] at this
 exact this.symm
theorem ykM {W P n:Nat} (h:rt W n) (d:rt P n) (e:qt W n=qt P n):W=P:=by rw [ylF h,ylF d,e]
theorem znU {W n:Nat}:zbS W n=true↔n≤128∧rt W n:=by
 unfold zbS rt;rw [decide_eq_true_iff]
 constructor
 ·rintro ⟨_,e,d⟩;exact ⟨by omega,by simpa using d⟩
 ·rintro ⟨e,d⟩;exact ⟨by omega,by omega,by simpa using d⟩
theorem ykL (X n:Nat):rt (ofW X n) n:=Nat.mul_mod_left _ _
theorem qt_of (X n:Nat):qt (ofW X n) n=qt X n:=ykD X n
def ziG (W P:Nat):Nat→Nat→Nat
 |i,0=>i
 |i,f+1=>if bitW W i=bitW P i then ziG W P (i+1) f else i
def zkB (W n P k:Nat):Nat:=ziG W P 0 (min n k)
def pfV (hi lo:Nat) (n:Int):Value:= .agg #[.int .u64 (hi:Int),.int .u64 (lo:Int),.int .i64 n]
def hiN (W:Nat):Nat:=W/18446744073709551616
def loN (W:Nat):Nat:=W % 18446744073709551616
def pfW (W:Nat) (n:Int):Value:=pfV (hiN W) (loN W) n
theorem zkX (W:Nat):zaQ (hiN W) (loN W)=W:=by unfold zaQ hiN loN;omega
theorem hiN_lt {W:Nat} (h:W<2^128):hiN W<18446744073709551616:=by unfold hiN;omega
theorem loN_lt (W:Nat):loN W<18446744073709551616:=by unfold loN;omega
theorem ziB {hi lo:Nat} (l:lo<18446744073709551616):hiN (zaQ hi lo)=hi:=by unfold zaQ hiN;omega
theorem zjQ {hi lo:Nat} (l:lo<18446744073709551616):loN (zaQ hi lo)=lo:=by unfold zaQ loN;omega
theorem ykH {hi lo:Nat} (h:hi<18446744073709551616) (l:lo<18446744073709551616):zaQ hi lo<2^128:=by unfold zaQ;omega
theorem yfT {hi lo:Nat} (l:lo<18446744073709551616) (n:Int):pfW (zaQ hi lo) n=pfV hi lo n:=by unfold pfW;rw [ziB l,zjQ l]
theorem z0D {W P:Nat} (e:hiN W=hiN P) (d:loN W=loN P):W=P:=by rw [←zkX W,←zkX P,e,d]
def znT (k:Nat):Nat:=2^64 - 2^(64 - k)
theorem zvA {k:Nat} (h:k≤64):2^k*2^(64 - k)=18446744073709551616:=by rw [←Nat.pow_add,show k+(64 - k)=64 from by omega]
theorem yfG (k:Nat):znT k<18446744073709551616:=by
 have:0<2^(64 - k):=Nat.pow_pos (by decide)
 unfold znT;omega
theorem ydZ {k:Nat} (h:k≤64):18446744073709551615/2^k=2^(64 - k) - 1:=by
 have e:=zvA h
 have d:0<2^k:=Nat.pow_pos (by decide)
 have f:0<2^(64 - k):=Nat.pow_pos (by decide)
 generalize 2^k=a at*
 generalize 2^(64 - k)=b at*
 obtain ⟨c,rfl⟩: ∃c,b=c+1:=⟨b - 1,by omega⟩
 rw [Nat.mul_add,Nat.mul_one] at e
 rw [show 18446744073709551615=a*c+(a - 1) from by omega,Nat.mul_add_div d,Nat.div_eq_of_lt (by omega)]
 omega
theorem xor64u (n:Nat) (f:n≤18446744073709551615):bits .xor .u64 IntKind.u64.max (n:Int)=((18446744073709551615 - n:Nat):Int):=by
 have e:n<2^64:=by omega
 have d:BitVec.ofInt 64 18446744073709551615=BitVec.allOnes 64:=by decide
 show IntKind.u64.wrap (((BitVec.ofInt 64 18446744073709551615)^^^(BitVec.ofInt 64 (n:Int))).toNat:Int)=_
 rw [d,BitVec.allOnes_xor,BitVec.toNat_not,BitVec.ofInt_natCast,BitVec.toNat_ofNat,Nat.mod_eq_of_lt e,IntKind.wrap_u64]
 omega
theorem ygU {k:Nat} (h:k≤64):bits .xor .u64 IntKind.u64.max ((18446744073709551615:Int)/2^k)=(znT k:Int):=by
 have e:((18446744073709551615:Int)/2^k)=((18446744073709551615/2^k:Nat):Int):=by simp
 have d:0<2^(64 - k):=Nat.pow_pos (by decide)
 have f:2^(64 - k)≤2^64:=Nat.pow_le_pow_right (by decide) (by omega)
 rw [e,ydZ h,xor64u _ (by omega)]
 unfold znT
 congr 1;omega
theorem zyW (x k:Nat) (d:x<18446744073709551616):bits .and .u64 (x:Int) (znT k:Int)=((x/2^(64 - k)*2^(64 - k):Nat):Int):=by
 rw [u64_and_nat x (znT k) d (yfG k)]
 congr 1
 have e:znT k=(2^(64 - (64 - k)) - 1)*2^(64 - k):=by
  have:=zvA (k:=64 - (64 - k)) (by omega)
  rw [show 64 - (64 - (64 - k))=64 - k from by omega] at this
  rw [Nat.sub_mul,this,Nat.one_mul];rfl
 apply Nat.eq_of_testBit_eq
 intro j
 rw [Nat.testBit_and,e,Nat.testBit_mul_two_pow,Nat.testBit_mul_two_pow,Nat.testBit_two_pow_sub_one,Nat.testBit_div_two_pow]
 by_cases h:64 - k≤j
 ·rw [show j - (64 - k)+(64 - k)=j from by omega]
  by_cases f:j<64
  ·simp [h,show j - (64 - k)<64 - (64 - k) from by omega]
  ·have:x.testBit j=false:=Nat.testBit_lt_two_pow (Nat.lt_of_lt_of_le d (by rw [show 18446744073709551616=2^64 from by decide];exact Nat.pow_le_pow_right (by decide) (by omega)))
   simp [this]
 ·simp [h]
theorem yiN {hi lo:Nat} (l:lo<18446744073709551616) {n:Nat} (j:n≤128):
  hiN (ofW (zaQ hi lo) n)=hi/2^(64 - n)*2^(64 - n)∧loN (ofW (zaQ hi lo) n)=lo/2^(64 - (n - 64))*2^(64 - (n - 64)):=by
 unfold ofW
 rcases Nat.lt_or_ge 64 n with h|h
 ·have e:(18446744073709551616:Nat)=2^(128 - n)*2^(n - 64):=by rw [←Nat.pow_add,show 128 - n+(n - 64)=64 from by omega]
  rw [show 64 - n=0 from by omega,show 64 - (n - 64)=128 - n from by omega]
  have i:0<2^(128 - n):=Nat.pow_pos (by decide)
  have d:zaQ hi lo/2^(128 - n)*2^(128 - n)=hi*18446744073709551616+lo/2^(128 - n)*2^(128 - n):=by
   have q:zaQ hi lo=2^(128 - n)*(2^(n - 64)*hi)+lo:=by
    unfold zaQ
    rw [show (2:Nat)^64=18446744073709551616 from by decide,e]
    congr 1
    ac_rfl
   rw [q,Nat.mul_add_div i,Nat.add_mul,e]
   congr 1
   ac_rfl
  have g:lo/2^(128 - n)*2^(128 - n)≤lo:=Nat.div_mul_le_self _ _
  rw [d]
  unfold hiN loN
  simp only [Nat.pow_zero,Nat.div_one,Nat.mul_one]
  constructor<;>omega
 ·have e:(2:Nat)^(128 - n)=18446744073709551616*2^(64 - n):=by rw [show 18446744073709551616=2^64 from by decide,←Nat.pow_add];congr 1;omega
  have f:zaQ hi lo/(18446744073709551616*2^(64 - n))=hi/2^(64 - n):=by
   rw [←Nat.div_div_eq_div_mul];congr 1;unfold zaQ;omega
  rw [e,f,show n - 64=0 from by omega,Nat.mul_left_comm]
  unfold hiN loN
  constructor
  ·rw [Nat.mul_div_cancel_left _ (by decide)]
  ·rw [Nat.mul_mod_right,Nat.div_eq_of_lt (show lo<2^(64 - 0) from l),Nat.zero_mul]
theorem retV {a b:Value} (h:a=b):Ending.returned a= .returned b:=by rw [h]
theorem zyG (n:Int) (w:World) (i: -9223372036854775808≤n) (d:n≤9223372036854775807):
  Calls Tryz.prog 288 #[.int .i64 n] w fun e w'=>e= .returned (.int .u64 (znT n.toNat:Nat))∧w=w':=by
 by_cases a:n<0
 ·go_enter Tryz.func288,Tryz.ntmps288
  go_wp2
  all_goals go_ret
  all_goals exact ⟨retV (by rw [show n.toNat=0 from by omega];rfl),rfl⟩
 ·by_cases b:64<n
  ·go_enter Tryz.func288,Tryz.ntmps288
   go_wp2
   all_goals go_ret
   all_goals exact ⟨retV (by unfold znT;rw [show 64 - n.toNat=0 from by omega];rfl),rfl⟩
  ·obtain ⟨k,rfl⟩:=Int.eq_ofNat_of_zero_le (show 0≤n by omega)
   have f:k≤64:=by omega
   have g:=Lib.hid (ygU f)
   clear a b i d
   go_enter Tryz.func288,Tryz.ntmps288
   go_wp2
   all_goals go_ret
   all_goals exact ⟨retV (show Value.int .u64 _=_ by rw [g.out]),rfl⟩
theorem zmU (hi lo n:Nat) (w:World) (m:hi<18446744073709551616) (f:lo<18446744073709551616) (A:n≤128):
  Calls Tryz.prog 243 #[.int .u64 hi,.int .u64 lo,.int .i64 n] w fun e w'=>e= .returned (pfW (ofW (zaQ hi lo) n) n)∧Below w.heap.size w w':=by
 obtain ⟨i,d⟩:=yiN (hi:=hi) f A
 have B:Hid (pfW (ofW (zaQ hi lo) n) n= .agg #[.int .u64 ((hi/2^(64 - n)*2^(64 - n):Nat):Int),.int .u64 ((lo/2^(64 - (n - 64))*2^(64 - (n - 64)):Nat):Int),.int .i64 n]):=by
  show pfV _ _ _=_
  rw [i,d];rfl
 have g:((n:Int) - 64).toNat=n - 64:=by omega
 have C:=Lib.hid g
 have j:=Lib.hid (zyW hi n m)
 have q:=Lib.hid (zyW lo (n - 64) f)
 clear i d g
 go_enter Tryz.func243,Tryz.ntmps243
 go_wp2_with fail
 refine (zyG _ _ (by omega) (by omega)).mono ?_
 rintro e o ⟨rfl,rfl⟩
 rw [Int.toNat_natCast]
 go_wp2_with fail
 refine (zyG _ _ (by omega) (by omega)).mono ?_
 rintro e o ⟨rfl,rfl⟩
 rw [C.out]
 go_wp2
 refine bodyPost_ret (v:= .agg #[.int .u64 (bits .and .u64 (hi:Int) (znT n:Nat)),.int .u64 (bits .and .u64 (lo:Int) (znT (n - 64):Nat)),.int .i64 n]) (by simp [results,Tryz.results243,go_sem]) rfl ⟨?_,?_⟩
 ·rw [B.out,j.out,q.out]
 ·exact ((ynU _ _).alloc (ynR _) _)
theorem zpI (u v:Array Value): ∀(p q:Operand) (W:World),(eqGuard .eql 183 p q (.agg u) (.agg v)).run Tryz.prog W= .ok () W:=by
 intro p q W;kernel_rfl
theorem eqPf (a b c e d f:Int): ∀W:World,(binOp .eql 183 (.agg #[.int .u64 a,.int .u64 b,.int .i64 c]) (.agg #[.int .u64 e,.int .u64 d,.int .i64 f])).run Tryz.prog W= .ok (.bool (a==e&&(b==d&&c==f))) W:=by
 intro W
 have g:(Op.equal 183 (.agg #[.int .u64 a,.int .u64 b,.int .i64 c]) (.agg #[.int .u64 e,.int .u64 d,.int .i64 f])).run Tryz.prog W= .ok (a==e&&(b==d&&c==f)) W:=by
  show (Op.equalIn 10000 183 _ _).run Tryz.prog W=_
  rw [run_equalIn_struct W 9999 183 _ _ (by kernel_rfl) (by kernel_rfl)]
  simp [Program.fieldsOf,Tryz.underlying183,Op.eqFields,go_sem,part,Tryz.sizeOf59,Tryz.isAgg59,Tryz.underlying59,Tryz.sizeOf3,Tryz.isAgg3,Tryz.underlying3]
  by_cases m:a=e<;>by_cases i:b=d<;>by_cases j:c=f<;>simp [m,i,j]
 show ((Op.equal _ _ _>>=fun b=>pure (Value.bool b)):Sem Value).run _ _=_
 rw [Sem.run_bind,g];rfl
theorem yhP (w:World) (a b c:Value) (t:TypeId): ∀W,Below (w.heap.size+1) (w.alloc (.cells #[a,b,c] t)) W→W.cell? ⟨w.heap.size,0,none⟩=some a∧W.cell? ⟨w.heap.size,1,none⟩=some b∧W.cell? ⟨w.heap.size,2,none⟩=some c:=fun W h=>by
 refine ⟨?_,?_,?_⟩
 all_goals
  rw [h.cell (p:=⟨w.heap.size,_,none⟩) (by show w.heap.size<_;omega)]
  simp [go_sem]
theorem ziW {w W:World} {o:Obj} (h:Below (w.heap.size+1) (w.alloc o) W):Below w.heap.size w W:=
 ((ynU _ _).alloc (ynR _) o).trans (h.mono (Nat.le_succ _))
theorem zuL {x:World} {n:Nat}:Below n x x.drew:=(ynU _ _).drew
theorem yiZ {x:World} {n k:Nat}:Below n x (x.drewN k):=⟨rfl,rfl,rfl,ynR _,fun _ _=>rfl⟩
theorem zfC {x W:World} {n:Nat} (d:n≤x.heap.size) (h:Below x.drew.heap.size x.drew W):Below n x W:=(ynU _ _).drew.trans (h.mono d)
theorem zgR {x y W:World} {n:Nat} (d:n≤x.heap.size) (h:Below n x y) (e:Below y.heap.size y W):Below n x W:=h.trans (e.mono (Nat.le_trans d h.size))
theorem yfY (hi lo n:Nat) (w:World) (C:hi<18446744073709551616) (f:lo<18446744073709551616) (q:n≤128):
  Calls Tryz.prog 186 #[.agg #[.int .u64 hi,.int .u64 lo,.int .i64 n]] w fun e w'=>e= .returned (.bool (zbS (zaQ hi lo) n))∧Below w.heap.size w w':=by
 obtain ⟨A,i⟩: ∃x,hiN (ofW (zaQ hi lo) n)=x:=⟨_,rfl⟩
 obtain ⟨m,j⟩: ∃x,loN (ofW (zaQ hi lo) n)=x:=⟨_,rfl⟩
 have D:Hid (∀W,Calls Tryz.prog 243 #[.int .u64 hi,.int .u64 lo,.int .i64 n] W fun e w'=>e= .returned (.agg #[.int .u64 A,.int .u64 m,.int .i64 n])∧Below W.heap.size W w'):=fun W=>by
  have:=zmU hi lo n W C f q
  unfold pfW at this
  rw [i,j] at this
  exact this
 have B:((A:Int)==hi&&((m:Int)==lo&&(n:Int)==n))=zbS (zaQ hi lo) n:=by
  rw [Bool.eq_iff_iff,znU]
  simp only [Bool.and_eq_true,beq_iff_eq,and_true]
  constructor
  ·rintro ⟨a,b⟩
   refine ⟨q,?_⟩
   have:ofW (zaQ hi lo) n=zaQ hi lo:=z0D (by rw [i,ziB f];omega) (by rw [j,zjQ f];omega)
   rw [←this];exact ykL _ _
  ·rintro ⟨_,b⟩
   have:ofW (zaQ hi lo) n=zaQ hi lo:=yiB ⟨q,b⟩
   rw [this,ziB f] at i
   rw [this,zjQ f] at j
   omega
 have o:=eqPf A m n hi lo n
 rw [B] at o
 have E:=zpI
 have g:=Lib.hid (yhP w (.int .u64 hi) (.int .u64 lo) (.int .i64 n) 183)
 have G:decide ((0:Int)≤n)=true:=ynT (by omega)
 have I:decide ((n:Int)≤128)=true:=ynT (by omega)
 clear i j B
 generalize zbS (zaQ hi lo) n=b at*
 go_enter Tryz.func186,Tryz.ntmps186
 go_wp2
 go_region_held3 (fun W=>W.cell? ⟨w.heap.size,0,none⟩=some (.int .u64 hi)∧W.cell? ⟨w.heap.size,1,none⟩=some (.int .u64 lo)∧W.cell? ⟨w.heap.size,2,none⟩=some (.int .i64 n))
  (first|exact g.out _ zuL|exact g.out _ (zfC (by simp) d))
  (first
   |(go_simp;go_at_call 243;((with_reducible refine (D.out _).mono ?_);rintro e H ⟨rfl,d⟩)))
 go_wp2
 go_ret
 exact ⟨rfl,ziW (zfC (by simp) d)⟩
theorem z8N (hi lo:Nat) (n:Int) (w:World) (d:n<0∨128<n):
  Calls Tryz.prog 186 #[.agg #[.int .u64 hi,.int .u64 lo,.int .i64 n]] w fun e w'=>e= .returned (.bool false)∧Below w.heap.size w w':=by
 by_cases i:n<0
 ·have f:decide ((0:Int)≤n)=false:=ynS (by omega)
  clear d
  go_enter Tryz.func186,Tryz.ntmps186
  go_wp2
  go_quiet (fail)
  go_wp2
  go_ret
  exact ⟨rfl,ziW yiZ⟩
 ·have f:decide ((0:Int)≤n)=true:=ynT (by omega)
  have g:decide (n≤128)=false:=ynS (by omega)
  clear d
  go_enter Tryz.func186,Tryz.ntmps186
  go_wp2
  go_quiet (fail)
  go_wp2
  go_ret
  exact ⟨rfl,ziW yiZ⟩
theorem zxP {W:Nat} {n:Int} (h:n<0∨128<n):zbS W n=false:=by unfold zbS;rw [decide_eq_false_iff_not];omega
theorem z2J {W:Nat} {n:Int} (h:zbS W n=true):0≤n∧n≤128:=by unfold zbS at h;rw [decide_eq_true_iff] at h;omega
theorem zcY (hi lo:Nat) (n:Int) (w:World) (d:hi<18446744073709551616) (f:lo<18446744073709551616):
  Calls Tryz.prog 186 #[.agg #[.int .u64 hi,.int .u64 lo,.int .i64 n]] w fun e w'=>e= .returned (.bool (zbS (zaQ hi lo) n))∧Below w.heap.size w w':=by
 by_cases h:n<0∨128<n
 ·rw [zxP h];exact z8N hi lo n w h
 ·obtain ⟨k,rfl⟩:=Int.eq_ofNat_of_zero_le (show 0≤n by omega)
  exact yfY hi lo k w d f (by omega)
theorem zkC (w:World) (a b c e d f:Value) (t:TypeId): ∀W,Below (w.heap.size+2) ((w.alloc (.cells #[a,b,c] t)).alloc (.cells #[e,d,f] t)) W→
  (W.cell? ⟨w.heap.size,0,none⟩=some a∧W.cell? ⟨w.heap.size,1,none⟩=some b∧W.cell? ⟨w.heap.size,2,none⟩=some c)∧W.cell? ⟨w.heap.size+1,0,none⟩=some e∧W.cell? ⟨w.heap.size+1,1,none⟩=some d∧W.cell? ⟨w.heap.size+1,2,none⟩=some f:=fun W h=>by
 refine ⟨⟨?_,?_,?_⟩,?_,?_,?_⟩
 ·rw [h.cell (p:=⟨w.heap.size,_,none⟩) (by show w.heap.size<_;omega)];simp [go_sem]
 ·rw [h.cell (p:=⟨w.heap.size,_,none⟩) (by show w.heap.size<_;omega)];simp [go_sem]
 ·rw [h.cell (p:=⟨w.heap.size,_,none⟩) (by show w.heap.size<_;omega)];simp [go_sem]
 ·rw [h.cell (p:=⟨w.heap.size+1,_,none⟩) (by show w.heap.size+1<_;omega)];simp [go_sem]
 ·rw [h.cell (p:=⟨w.heap.size+1,_,none⟩) (by show w.heap.size+1<_;omega)];simp [go_sem]
 ·rw [h.cell (p:=⟨w.heap.size+1,_,none⟩) (by show w.heap.size+1<_;omega)];simp [go_sem]
theorem zeY {w W:World} {o d:Obj} (h:Below (w.heap.size+2) ((w.alloc o).alloc d) W):Below w.heap.size w W:=
 (((ynU _ _).alloc (ynR _) o).alloc (by simp) d).trans (h.mono (by omega))
theorem yhW (hi lo g i:Nat) (n m:Int) (w:World) (G:hi<18446744073709551616) (C:lo<18446744073709551616) (_:g<18446744073709551616) (_:i<18446744073709551616) (E:zbS (zaQ hi lo) n=false):
  Calls Tryz.prog 245 #[.agg #[.int .u64 hi,.int .u64 lo,.int .i64 n],.agg #[.int .u64 g,.int .u64 i,.int .i64 m]] w fun e w'=>e= .returned (.bool false)∧Below w.heap.size w w':=by
 have A:=Lib.hid (zkC w (.int .u64 hi) (.int .u64 lo) (.int .i64 n) (.int .u64 g) (.int .u64 i) (.int .i64 m) 183)
 have B:Hid (∀W,Calls Tryz.prog 186 #[.agg #[.int .u64 hi,.int .u64 lo,.int .i64 n]] W fun e w'=>e= .returned (.bool false)∧Below W.heap.size W w'):=fun W=>by
  have:=zcY hi lo n W G C;rwa [E] at this
 clear E G C
 go_enter Tryz.func245,Tryz.ntmps245
 go_wp2
 refine wp_region_held_drew (S:=fun W=>(W.cell? ⟨w.heap.size,0,none⟩=some (.int .u64 hi)∧W.cell? ⟨w.heap.size,1,none⟩=some (.int .u64 lo)∧W.cell? ⟨w.heap.size,2,none⟩=some (.int .i64 n))∧W.cell? ⟨w.heap.size+1,0,none⟩=some (.int .u64 g)∧W.cell? ⟨w.heap.size+1,1,none⟩=some (.int .u64 i)∧W.cell? ⟨w.heap.size+1,2,none⟩=some (.int .i64 m)) (by kernel_rfl) ?_ (fun j=> ?_)
 ·exact A.out _ zuL
 refine tkF 0 (some 5) (v:= ?_) rfl (.inl ⟨by rfl,?_⟩) j ?_;rotate_left;·intro w f;(try dsimp only at f);go_simp;try with_reducible rfl
 try simp only [Act.put,tkFa,tkFb,tkFc]
 refine wpAnyH_ready (rs:=[1]) (by kernel_rfl) (by simp) ?_
 refine AllReadyH.cons (o:=⟨some 6,_,_,_,_,_⟩) rfl (fun K D=> ?_) AllReadyH.nil
 go_simp
 go_at_call 186
 refine (B.out _).mono ?_
 rintro e H ⟨rfl,q⟩
 (try go_wp2_with fail)
 refine D.out _ _ ?_ (fun d=> ?_)
 ·exact A.out _ (zfC (by simp) q)
 clear D K
 try simp only [Act.put,tkFa,tkFb,tkFc]
 refine tkF 2 (some 7) (v:= ?_) rfl (.inl ⟨by rfl,?_⟩) d ?_;rotate_left;·intro w f;(try dsimp only at f);go_simp;try with_reducible rfl
 try simp only [Act.put,tkFa,tkFb,tkFc]
 refine tkF 3 (some 8) (v:=undef) rfl (.inr ⟨by rfl,rfl⟩) d ?_
 try simp only [Act.put,tkFa,tkFb,tkFc]
 refine tkF 4 (some 9) (v:=undef) rfl (.inr ⟨by rfl,rfl⟩) d ?_
 try simp only [Act.put,tkFa,tkFb,tkFc]
 refine tkF 5 (some 10) (v:= ?_) rfl (.inl ⟨by rfl,?_⟩) d ?_;rotate_left;·intro w f;(try dsimp only at f);go_simp;try with_reducible rfl
 try simp only [Act.put,tkFa,tkFb,tkFc]
 refine tkF 6 (some 11) (v:= ?_) rfl (.inl ⟨by rfl,?_⟩) d ?_;rotate_left;·intro w f;(try dsimp only at f);go_simp;try with_reducible rfl
 try simp only [Act.put,tkFa,tkFb,tkFc]
 refine tkF 7 (some 12) (v:=undef) rfl (.inr ⟨by rfl,rfl⟩) d ?_
 try simp only [Act.put,tkFa,tkFb,tkFc]
 refine tkF 8 (some 13) (v:=undef) rfl (.inr ⟨by rfl,rfl⟩) d ?_
 try simp only [Act.put,tkFa,tkFb,tkFc]
 refine tkF 9 (some 14) (v:=undef) rfl (.inr ⟨by rfl,rfl⟩) d ?_
 try simp only [Act.put,tkFa,tkFb,tkFc]
 refine tkF 10 (some 15) (v:=undef) rfl (.inr ⟨by rfl,rfl⟩) d ?_
 try simp only [Act.put,tkFa,tkFb,tkFc]
 refine tkF 11 (some 16) (v:=undef) rfl (.inr ⟨by rfl,rfl⟩) d ?_
 try simp only [Act.put,tkFa,tkFb,tkFc]
 refine tkF 12 (some 17) (v:= ?_) rfl (.inl ⟨by rfl,?_⟩) d ?_;rotate_left;·intro w f;(try dsimp only at f);go_simp;try with_reducible rfl
 try simp only [Act.put,tkFa,tkFb,tkFc]
 refine tkF 13 (some 18) (v:= ?_) rfl (.inl ⟨by rfl,?_⟩) d ?_;rotate_left;·intro w f;(try dsimp only at f);go_simp;try with_reducible rfl
 try simp only [Act.put,tkFa,tkFb,tkFc]
 refine tkF 14 (some 19) (v:=undef) rfl (.inr ⟨by rfl,rfl⟩) d ?_
 try simp only [Act.put,tkFa,tkFb,tkFc]
 refine tkF 15 (some 20) (v:=undef) rfl (.inr ⟨by rfl,rfl⟩) d ?_
 try simp only [Act.put,tkFa,tkFb,tkFc]
 refine tkF 16 (some 21) (v:=undef) rfl (.inr ⟨by rfl,rfl⟩) d ?_
 try simp only [Act.put,tkFa,tkFb,tkFc]
 refine tkF 17 (some 22) (v:=undef) rfl (.inr ⟨by rfl,rfl⟩) d ?_
 try simp only [Act.put,tkFa,tkFb,tkFc]
 refine tkF 18 (some 23) (v:=undef) rfl (.inr ⟨by rfl,rfl⟩) d ?_
 try simp only [Act.put,tkFa,tkFb,tkFc]
 refine tkF 19 (some 24) (v:=undef) rfl (.inr ⟨by rfl,rfl⟩) d ?_
 try simp only [Act.put,tkFa,tkFb,tkFc]
 refine tkF 20 (some 25) (v:=undef) rfl (.inr ⟨by rfl,rfl⟩) d ?_
 try simp only [Act.put,tkFa,tkFb,tkFc]
 refine tkF 21 (some 26) (v:=undef) rfl (.inr ⟨by rfl,rfl⟩) d ?_
 try simp only [Act.put,tkFa,tkFb,tkFc]
 refine tkF 22 (some 27) (v:=undef) rfl (.inr ⟨by rfl,rfl⟩) d ?_
 try simp only [Act.put,tkFa,tkFb,tkFc]
 refine tkF 23 (some 28) (v:= ?_) rfl (.inl ⟨by rfl,?_⟩) d ?_;rotate_left;·intro w f;(try dsimp only at f);go_simp;try with_reducible rfl
 try simp only [Act.put,tkFa,tkFb,tkFc]
 refine tkF 24 (some 4) (v:= ?_) rfl (.inl ⟨by rfl,?_⟩) d ?_;rotate_left;·intro w f;(try dsimp only at f);go_simp;try with_reducible rfl
 try simp only [Act.put,tkFa,tkFb,tkFc]
 refine wpAnyH_done (by kernel_rfl) ?_ _
 go_wp2
 go_ret
 exact ⟨by first|rfl|(simp;done)|kernel_rfl|(simp [Act.put];done),zeY (zfC (by simp) q)⟩
theorem yiJ (hi lo g i:Nat) (n m:Int) (w:World) (L:hi<18446744073709551616) (H:lo<18446744073709551616) (M:g<18446744073709551616) (N:i<18446744073709551616) (I:zbS (zaQ hi lo) n=true) (J:zbS (zaQ g i) m=false):
  Calls Tryz.prog 245 #[.agg #[.int .u64 hi,.int .u64 lo,.int .i64 n],.agg #[.int .u64 g,.int .u64 i,.int .i64 m]] w fun e w'=>e= .returned (.bool false)∧Below w.heap.size w w':=by
 have B:=Lib.hid (zkC w (.int .u64 hi) (.int .u64 lo) (.int .i64 n) (.int .u64 g) (.int .u64 i) (.int .i64 m) 183)
 have G:Hid (∀W,Calls Tryz.prog 186 #[.agg #[.int .u64 hi,.int .u64 lo,.int .i64 n]] W fun e w'=>e= .returned (.bool true)∧Below W.heap.size W w'):=fun W=>by
  have:=zcY hi lo n W L H;rwa [I] at this
 have E:Hid (∀W,Calls Tryz.prog 186 #[.agg #[.int .u64 g,.int .u64 i,.int .i64 m]] W fun e w'=>e= .returned (.bool false)∧Below W.heap.size W w'):=fun W=>by
  have:=zcY g i m W M N;rwa [J] at this
 clear I J L H M N
 go_enter Tryz.func245,Tryz.ntmps245
 go_wp2
 refine wp_region_held_drew (S:=fun W=>(W.cell? ⟨w.heap.size,0,none⟩=some (.int .u64 hi)∧W.cell? ⟨w.heap.size,1,none⟩=some (.int .u64 lo)∧W.cell? ⟨w.heap.size,2,none⟩=some (.int .i64 n))∧W.cell? ⟨w.heap.size+1,0,none⟩=some (.int .u64 g)∧W.cell? ⟨w.heap.size+1,1,none⟩=some (.int .u64 i)∧W.cell? ⟨w.heap.size+1,2,none⟩=some (.int .i64 m)) (by kernel_rfl) ?_ (fun A=> ?_)
 ·exact B.out _ zuL
 refine tkF 0 (some 5) (v:= ?_) rfl (.inl ⟨by rfl,?_⟩) A ?_;rotate_left;·intro w f;(try dsimp only at f);go_simp;try with_reducible rfl
 try simp only [Act.put,tkFa,tkFb,tkFc]
 refine wpAnyH_ready (rs:=[1]) (by kernel_rfl) (by simp) ?_
 refine AllReadyH.cons (o:=⟨some 6,_,_,_,_,_⟩) rfl (fun K D=> ?_) AllReadyH.nil
 go_simp
 go_at_call 186
 refine (G.out _).mono ?_
 rintro e Q ⟨rfl,q⟩
 (try go_wp2_with fail)
 refine D.out _ _ ?_ (fun j=> ?_)
 ·exact B.out _ (zfC (by simp) q)
 clear D K
 try simp only [Act.put,tkFa,tkFb,tkFc]
 refine tkF 2 (some 7) (v:= ?_) rfl (.inl ⟨by rfl,?_⟩) j ?_;rotate_left;·intro w f;(try dsimp only at f);go_simp;try with_reducible rfl
 try simp only [Act.put,tkFa,tkFb,tkFc]
 refine tkF 3 (some 8) (v:= ?_) rfl (.inl ⟨by rfl,?_⟩) j ?_;rotate_left;·intro w f;(try dsimp only at f);go_simp;try with_reducible rfl
 try simp only [Act.put,tkFa,tkFb,tkFc]
 refine wpAnyH_ready (rs:=[4]) (by kernel_rfl) (by simp) ?_
 refine AllReadyH.cons (o:=⟨some 9,_,_,_,_,_⟩) rfl (fun K D=> ?_) AllReadyH.nil
 go_simp
 go_at_call 186
 refine (E.out _).mono ?_
 rintro e O ⟨rfl,C⟩
 (try go_wp2_with fail)
 refine D.out _ _ ?_ (fun d=> ?_)
 ·exact B.out _ (zgR (by simp) (zfC (by simp) q) C)
 clear D K
 try simp only [Act.put,tkFa,tkFb,tkFc]
 refine tkF 5 (some 10) (v:= ?_) rfl (.inl ⟨by rfl,?_⟩) d ?_;rotate_left;·intro w f;(try dsimp only at f);go_simp;try with_reducible rfl
 try simp only [Act.put,tkFa,tkFb,tkFc]
 refine tkF 6 (some 11) (v:= ?_) rfl (.inl ⟨by rfl,?_⟩) d ?_;rotate_left;·intro w f;(try dsimp only at f);go_simp;try with_reducible rfl
 try simp only [Act.put,tkFa,tkFb,tkFc]
 refine tkF 7 (some 12) (v:=undef) rfl (.inr ⟨by rfl,rfl⟩) d ?_
 try simp only [Act.put,tkFa,tkFb,tkFc]
 refine tkF 8 (some 13) (v:=undef) rfl (.inr ⟨by rfl,rfl⟩) d ?_
 try simp only [Act.put,tkFa,tkFb,tkFc]
 refine tkF 9 (some 14) (v:=undef) rfl (.inr ⟨by rfl,rfl⟩) d ?_
 try simp only [Act.put,tkFa,tkFb,tkFc]
 refine tkF 10 (some 15) (v:=undef) rfl (.inr ⟨by rfl,rfl⟩) d ?_
 try simp only [Act.put,tkFa,tkFb,tkFc]
 refine tkF 11 (some 16) (v:=undef) rfl (.inr ⟨by rfl,rfl⟩) d ?_
 try simp only [Act.put,tkFa,tkFb,tkFc]
 refine tkF 12 (some 17) (v:= ?_) rfl (.inl ⟨by rfl,?_⟩) d ?_;rotate_left;·intro w f;(try dsimp only at f);go_simp;try with_reducible rfl
 try simp only [Act.put,tkFa,tkFb,tkFc]
 refine tkF 13 (some 18) (v:= ?_) rfl (.inl ⟨by rfl,?_⟩) d ?_;rotate_left;·intro w f;(try dsimp only at f);go_simp;try with_reducible rfl
 try simp only [Act.put,tkFa,tkFb,tkFc]
 refine tkF 14 (some 19) (v:=undef) rfl (.inr ⟨by rfl,rfl⟩) d ?_
 try simp only [Act.put,tkFa,tkFb,tkFc]
 refine tkF 15 (some 20) (v:=undef) rfl (.inr ⟨by rfl,rfl⟩) d ?_
 try simp only [Act.put,tkFa,tkFb,tkFc]
 refine tkF 16 (some 21) (v:=undef) rfl (.inr ⟨by rfl,rfl⟩) d ?_
 try simp only [Act.put,tkFa,tkFb,tkFc]
 refine tkF 17 (some 22) (v:=undef) rfl (.inr ⟨by rfl,rfl⟩) d ?_
 try simp only [Act.put,tkFa,tkFb,tkFc]
 refine tkF 18 (some 23) (v:=undef) rfl (.inr ⟨by rfl,rfl⟩) d ?_
 try simp only [Act.put,tkFa,tkFb,tkFc]
 refine tkF 19 (some 24) (v:=undef) rfl (.inr ⟨by rfl,rfl⟩) d ?_
 try simp only [Act.put,tkFa,tkFb,tkFc]
 refine tkF 20 (some 25) (v:=undef) rfl (.inr ⟨by rfl,rfl⟩) d ?_
 try simp only [Act.put,tkFa,tkFb,tkFc]
 refine tkF 21 (some 26) (v:=undef) rfl (.inr ⟨by rfl,rfl⟩) d ?_
 try simp only [Act.put,tkFa,tkFb,tkFc]
 refine tkF 22 (some 27) (v:=undef) rfl (.inr ⟨by rfl,rfl⟩) d ?_
 try simp only [Act.put,tkFa,tkFb,tkFc]
 refine tkF 23 (some 28) (v:= ?_) rfl (.inl ⟨by rfl,?_⟩) d ?_;rotate_left;·intro w f;(try dsimp only at f);go_simp;try with_reducible rfl
 try simp only [Act.put,tkFa,tkFb,tkFc]
 refine tkF 24 (some 4) (v:= ?_) rfl (.inl ⟨by rfl,?_⟩) d ?_;rotate_left;·intro w f;(try dsimp only at f);go_simp;try with_reducible rfl
 try simp only [Act.put,tkFa,tkFb,tkFc]
 refine wpAnyH_done (by kernel_rfl) ?_ _
 go_wp2
 go_ret
 exact ⟨by first|rfl|(simp;done)|kernel_rfl|(simp [Act.put];done),zeY (zgR (by simp) (zfC (by simp) q) C)⟩
theorem yhX (hi lo g i:Nat) (n m:Int) (w:World) (L:hi<18446744073709551616) (H:lo<18446744073709551616) (M:g<18446744073709551616) (N:i<18446744073709551616) (I:zbS (zaQ hi lo) n=true) (J:zbS (zaQ g i) m=true) (O:m<n):
  Calls Tryz.prog 245 #[.agg #[.int .u64 hi,.int .u64 lo,.int .i64 n],.agg #[.int .u64 g,.int .u64 i,.int .i64 m]] w fun e w'=>e= .returned (.bool false)∧Below w.heap.size w w':=by
 have B:=Lib.hid (zkC w (.int .u64 hi) (.int .u64 lo) (.int .i64 n) (.int .u64 g) (.int .u64 i) (.int .i64 m) 183)
 have G:Hid (∀W,Calls Tryz.prog 186 #[.agg #[.int .u64 hi,.int .u64 lo,.int .i64 n]] W fun e w'=>e= .returned (.bool true)∧Below W.heap.size W w'):=fun W=>by
  have:=zcY hi lo n W L H;rwa [I] at this
 have E:Hid (∀W,Calls Tryz.prog 186 #[.agg #[.int .u64 g,.int .u64 i,.int .i64 m]] W fun e w'=>e= .returned (.bool true)∧Below W.heap.size W w'):=fun W=>by
  have:=zcY g i m W M N;rwa [J] at this
 have Q:decide (n≤m)=false:=ynS (by omega)
 clear I J L H M N O
 go_enter Tryz.func245,Tryz.ntmps245
 go_wp2
 refine wp_region_held_drew (S:=fun W=>(W.cell? ⟨w.heap.size,0,none⟩=some (.int .u64 hi)∧W.cell? ⟨w.heap.size,1,none⟩=some (.int .u64 lo)∧W.cell? ⟨w.heap.size,2,none⟩=some (.int .i64 n))∧W.cell? ⟨w.heap.size+1,0,none⟩=some (.int .u64 g)∧W.cell? ⟨w.heap.size+1,1,none⟩=some (.int .u64 i)∧W.cell? ⟨w.heap.size+1,2,none⟩=some (.int .i64 m)) (by kernel_rfl) ?_ (fun A=> ?_)
 ·exact B.out _ zuL
 refine tkF 0 (some 5) (v:= ?_) rfl (.inl ⟨by rfl,?_⟩) A ?_;rotate_left;·intro w f;(try dsimp only at f);go_simp;try with_reducible rfl
 try simp only [Act.put,tkFa,tkFb,tkFc]
 refine wpAnyH_ready (rs:=[1]) (by kernel_rfl) (by simp) ?_
 refine AllReadyH.cons (o:=⟨some 6,_,_,_,_,_⟩) rfl (fun K D=> ?_) AllReadyH.nil
 go_simp
 go_at_call 186
 refine (G.out _).mono ?_
 rintro e U ⟨rfl,q⟩
 (try go_wp2_with fail)
 refine D.out _ _ ?_ (fun j=> ?_)
 ·exact B.out _ (zfC (by simp) q)
 clear D K
 try simp only [Act.put,tkFa,tkFb,tkFc]
 refine tkF 2 (some 7) (v:= ?_) rfl (.inl ⟨by rfl,?_⟩) j ?_;rotate_left;·intro w f;(try dsimp only at f);go_simp;try with_reducible rfl
 try simp only [Act.put,tkFa,tkFb,tkFc]
 refine tkF 3 (some 8) (v:= ?_) rfl (.inl ⟨by rfl,?_⟩) j ?_;rotate_left;·intro w f;(try dsimp only at f);go_simp;try with_reducible rfl
 try simp only [Act.put,tkFa,tkFb,tkFc]
 refine wpAnyH_ready (rs:=[4]) (by kernel_rfl) (by simp) ?_
 refine AllReadyH.cons (o:=⟨some 9,_,_,_,_,_⟩) rfl (fun K D=> ?_) AllReadyH.nil
 go_simp
 go_at_call 186
 refine (E.out _).mono ?_
 rintro e T ⟨rfl,C⟩
 (try go_wp2_with fail)
 refine D.out _ _ ?_ (fun d=> ?_)
 ·exact B.out _ (zgR (by simp) (zfC (by simp) q) C)
 clear D K
 try simp only [Act.put,tkFa,tkFb,tkFc]
 refine tkF 5 (some 10) (v:= ?_) rfl (.inl ⟨by rfl,?_⟩) d ?_;rotate_left;·intro w f;(try dsimp only at f);go_simp;try with_reducible rfl
 try simp only [Act.put,tkFa,tkFb,tkFc]
 refine tkF 6 (some 11) (v:= ?_) rfl (.inl ⟨by rfl,?_⟩) d ?_;rotate_left;·intro w f;(try dsimp only at f);go_simp;try with_reducible rfl
 try simp only [Act.put,tkFa,tkFb,tkFc]
 refine tkF 7 (some 12) (v:= ?_) rfl (.inl ⟨by rfl,?_⟩) d ?_;rotate_left;·intro w f;(try dsimp only at f);go_simp;try with_reducible rfl
 try simp only [Act.put,tkFa,tkFb,tkFc]
 refine tkF 8 (some 13) (v:= ?_) rfl (.inl ⟨by rfl,?_⟩) d ?_;rotate_left;·intro w f;(try dsimp only at f);go_simp;try with_reducible rfl
 try simp only [Act.put,tkFa,tkFb,tkFc]
 refine tkF 9 (some 14) (v:= ?_) rfl (.inl ⟨by rfl,?_⟩) d ?_;rotate_left;·intro w f;(try dsimp only at f);go_simp;try with_reducible rfl
 try simp only [Act.put,tkFa,tkFb,tkFc]
 refine tkF 10 (some 15) (v:= ?_) rfl (.inl ⟨by rfl,?_⟩) d ?_;rotate_left;·intro w f;(try dsimp only at f);go_simp;try with_reducible rfl
 try simp only [Act.put,tkFa,tkFb,tkFc]
 refine tkF 11 (some 16) (v:= ?_) rfl (.inl ⟨by rfl,?_⟩) d ?_;rotate_left;·intro w f;(try dsimp only at f);go_simp;try with_reducible rfl
 try simp only [Act.put,tkFa,tkFb,tkFc]
 refine tkF 12 (some 17) (v:= ?_) rfl (.inl ⟨by rfl,?_⟩) d ?_;rotate_left;·intro w f;(try dsimp only at f);go_simp;try with_reducible rfl
 try simp only [Act.put,tkFa,tkFb,tkFc]
 refine tkF 13 (some 18) (v:= ?_) rfl (.inl ⟨by rfl,?_⟩) d ?_;rotate_left;·intro w f;(try dsimp only at f);go_simp;try with_reducible rfl
 try simp only [Act.put,tkFa,tkFb,tkFc]
 refine tkF 14 (some 19) (v:=undef) rfl (.inr ⟨by rfl,rfl⟩) d ?_
 try simp only [Act.put,tkFa,tkFb,tkFc]
 refine tkF 15 (some 20) (v:=undef) rfl (.inr ⟨by rfl,rfl⟩) d ?_
 try simp only [Act.put,tkFa,tkFb,tkFc]
 refine tkF 16 (some 21) (v:=undef) rfl (.inr ⟨by rfl,rfl⟩) d ?_
 try simp only [Act.put,tkFa,tkFb,tkFc]
 refine tkF 17 (some 22) (v:=undef) rfl (.inr ⟨by rfl,rfl⟩) d ?_
 try simp only [Act.put,tkFa,tkFb,tkFc]
 refine tkF 18 (some 23) (v:=undef) rfl (.inr ⟨by rfl,rfl⟩) d ?_
 try simp only [Act.put,tkFa,tkFb,tkFc]
 refine tkF 19 (some 24) (v:=undef) rfl (.inr ⟨by rfl,rfl⟩) d ?_
 try simp only [Act.put,tkFa,tkFb,tkFc]
 refine tkF 20 (some 25) (v:=undef) rfl (.inr ⟨by rfl,rfl⟩) d ?_
 try simp only [Act.put,tkFa,tkFb,tkFc]
 refine tkF 21 (some 26) (v:=undef) rfl (.inr ⟨by rfl,rfl⟩) d ?_
 try simp only [Act.put,tkFa,tkFb,tkFc]
 refine tkF 22 (some 27) (v:=undef) rfl (.inr ⟨by rfl,rfl⟩) d ?_
 try simp only [Act.put,tkFa,tkFb,tkFc]
 refine tkF 23 (some 28) (v:= ?_) rfl (.inl ⟨by rfl,?_⟩) d ?_;rotate_left;·intro w f;(try dsimp only at f);go_simp;try with_reducible rfl
 try simp only [Act.put,tkFa,tkFb,tkFc]
 refine tkF 24 (some 4) (v:= ?_) rfl (.inl ⟨by rfl,?_⟩) d ?_;rotate_left;·intro w f;(try dsimp only at f);go_simp;try with_reducible rfl
 try simp only [Act.put,tkFa,tkFb,tkFc]
 refine wpAnyH_done (by kernel_rfl) ?_ _
 go_wp2
 go_ret
 exact ⟨by first|rfl|(simp;done)|kernel_rfl|(simp [Act.put];done),zeY (zgR (by simp) (zfC (by simp) q) C)⟩
theorem ygY (hi lo d f:Nat) (n m:Int) (w:World) (O:hi<18446744073709551616) (q:lo<18446744073709551616) (L:d<18446744073709551616) (M:f<18446744073709551616) (A:zbS (zaQ hi lo) n=true) (I:zbS (zaQ d f) m=true) (Q:n≤m):
  Calls Tryz.prog 245 #[.agg #[.int .u64 hi,.int .u64 lo,.int .i64 n],.agg #[.int .u64 d,.int .u64 f,.int .i64 m]] w fun e w'=>e= .returned (.bool (zdW (zaQ hi lo) n (zaQ d f) m))∧Below w.heap.size w w':=by
 have i:=Lib.hid (zkC w (.int .u64 hi) (.int .u64 lo) (.int .i64 n) (.int .u64 d) (.int .u64 f) (.int .i64 m) 183)
 have H:Hid (∀W,Calls Tryz.prog 186 #[.agg #[.int .u64 hi,.int .u64 lo,.int .i64 n]] W fun e w'=>e= .returned (.bool true)∧Below W.heap.size W w'):=fun W=>by
  have:=zcY hi lo n W O q;rwa [A] at this
 have E:Hid (∀W,Calls Tryz.prog 186 #[.agg #[.int .u64 d,.int .u64 f,.int .i64 m]] W fun e w'=>e= .returned (.bool true)∧Below W.heap.size W w'):=fun W=>by
  have:=zcY d f m W L M;rwa [I] at this
 obtain ⟨J,C⟩: ∃x,hiN (ofW (zaQ d f) n.toNat)=x:=⟨_,rfl⟩
 obtain ⟨K,D⟩: ∃x,loN (ofW (zaQ d f) n.toNat)=x:=⟨_,rfl⟩
 have T:=z2J A
 have o:(n.toNat:Int)=n:=by omega
 have S:Hid (∀W,Calls Tryz.prog 243 #[.int .u64 d,.int .u64 f,.int .i64 n] W fun e w'=>e= .returned (.agg #[.int .u64 J,.int .u64 K,.int .i64 n])∧Below W.heap.size W w'):=fun W=>by
  have:=zmU d f n.toNat W L M (by omega)
  unfold pfW at this
  rw [C,D,o] at this
  exact this
 have N:((J:Int)==hi&&((K:Int)==lo&&n==n))=zdW (zaQ hi lo) n (zaQ d f) m:=by
  unfold zdW
  have r3:rt (zaQ hi lo) n.toNat:=by have:=A;rw [←o,znU] at this;exact this.2
  rw [A,I,ynT Q,Bool.true_and,Bool.true_and,Bool.true_and,Bool.eq_iff_iff,decide_eq_true_iff]
  simp only [Bool.and_eq_true,beq_iff_eq,and_true]
  constructor
  ·rintro ⟨a,b⟩
   have:ofW (zaQ d f) n.toNat=zaQ hi lo:=z0D (by rw [C,ziB q];omega) (by rw [D,zjQ q];omega)
   rw [←this];exact qt_of _ _
  ·intro b
   have:ofW (zaQ d f) n.toNat=zaQ hi lo:=ykM (ykL _ _) r3 ((qt_of _ _).trans b.symm)
   rw [this,ziB q] at C
   rw [this,zjQ q] at D
   omega
 have G:=eqPf J K n hi lo n
 rw [N] at G
 have U:=zpI
 have V:decide (n≤m)=true:=ynT (by omega)
 clear A I O q L M Q N C D o T
 generalize zdW (zaQ hi lo) n (zaQ d f) m=b at*
 go_enter Tryz.func245,Tryz.ntmps245
 go_wp2
 go_region_held3 (fun W=>(W.cell? ⟨w.heap.size,0,none⟩=some (.int .u64 hi)∧W.cell? ⟨w.heap.size,1,none⟩=some (.int .u64 lo)∧W.cell? ⟨w.heap.size,2,none⟩=some (.int .i64 n))∧W.cell? ⟨w.heap.size+1,0,none⟩=some (.int .u64 d)∧W.cell? ⟨w.heap.size+1,1,none⟩=some (.int .u64 f)∧W.cell? ⟨w.heap.size+1,2,none⟩=some (.int .i64 m))
  (first|exact i.out _ (zuL)|exact i.out _ (zfC (by simp) g)|exact i.out _ (zgR (by simp) (zfC (by simp) g) j)|exact i.out _ (zgR (by simp) (zgR (by simp) (zfC (by simp) g) j) B))
  (first
   |(go_simp;go_at_call 186;((with_reducible refine (H.out _).mono ?_);rintro e Z ⟨rfl,g⟩))
   |(go_simp;go_at_call 186;((with_reducible refine (E.out _).mono ?_);rintro e X ⟨rfl,j⟩))
   |(go_simp;go_at_call 243;((with_reducible refine (S.out _).mono ?_);rintro e Y ⟨rfl,B⟩))
)
 go_wp2
 go_ret
 exact ⟨by first|rfl|(simp;done)|kernel_rfl|(simp [Act.put];done),zeY (zgR (by simp) (zgR (by simp) (zfC (by simp) g) j) B)⟩
theorem z3Q (hi lo d f:Nat) (n m:Int) (w:World) (j:hi<18446744073709551616) (o:lo<18446744073709551616) (q:d<18446744073709551616) (A:f<18446744073709551616):
  Calls Tryz.prog 245 #[.agg #[.int .u64 hi,.int .u64 lo,.int .i64 n],.agg #[.int .u64 d,.int .u64 f,.int .i64 m]] w fun e w'=>e= .returned (.bool (zdW (zaQ hi lo) n (zaQ d f) m))∧Below w.heap.size w w':=by
 cases g:zbS (zaQ hi lo) n with
 |false=>
  rw [show zdW (zaQ hi lo) n (zaQ d f) m=false from by unfold zdW;rw [g];rfl]
  exact yhW hi lo d f n m w j o q A g
 |true=>
  cases i:zbS (zaQ d f) m with
  |false=>
   rw [show zdW (zaQ hi lo) n (zaQ d f) m=false from by unfold zdW;rw [g,i];rfl]
   exact yiJ hi lo d f n m w j o q A g i
  |true=>
   by_cases B:n≤m
   ·exact ygY hi lo d f n m w j o q A g i B
   ·rw [show zdW (zaQ hi lo) n (zaQ d f) m=false from by unfold zdW;rw [g,i,ynS B];rfl]
    exact yhX hi lo d f n m w j o q A g i (by omega)
theorem yiH (x:Nat) (h:x<18446744073709551616):bits .and .u64 (x:Int) 1=((x % 2:Nat):Int):=by
 rw [show (1:Int)=((1:Nat):Int) from rfl,u64_and_nat x 1 h (by decide),Nat.and_one_is_mod]
theorem z5F (x j:Nat) (h:x<18446744073709551616):wrap64 (bits .and .u64 ((x:Int)/2^j) 1)=((x/2^j % 2:Nat):Int):=by
 have e:((x:Int)/2^j)=((x/2^j:Nat):Int):=by simp
 rw [e,yiH _ (Nat.lt_of_le_of_lt (Nat.div_le_self _ _) h)]
 have:x/2^j % 2<2:=Nat.mod_lt _ (by decide)
 unfold wrap64;omega
theorem yjA (hi lo:Nat) (n:Int) (k:Nat) (w:World) (i:hi<18446744073709551616) (g:lo<18446744073709551616) (m:k<128):
  Calls Tryz.prog 246 #[.agg #[.int .u64 hi,.int .u64 lo,.int .i64 n],.int .i64 k] w fun e w'=>e= .returned (.int .i64 (bitW (zaQ hi lo) k:Nat))∧Below w.heap.size w w':=by
 by_cases f:k<64
 ·have d:Hid (wrap64 (bits .and .u64 ((hi:Int)/2^(63 - k)) 1)=(bitW (zaQ hi lo) k:Nat)):=by
   show _=_
   rw [z5F _ _ i,bit_hi (show lo<2^64 from g) k f]
  go_enter Tryz.func246,Tryz.ntmps246
  go_wp2
  all_goals go_ret
  all_goals exact ⟨retV (show Value.int .i64 _=_ by rw [d.out]),(ynU _ _).alloc (ynR _) _⟩
 ·have j:64≤k:=by omega
  have d:Hid (wrap64 (bits .and .u64 ((lo:Int)/2^(127 - k)) 1)=(bitW (zaQ hi lo) k:Nat)):=by
   show _=_
   rw [z5F _ _ g,bit_lo (hi:=hi) k j m]
  clear f
  go_enter Tryz.func246,Tryz.ntmps246
  go_wp2
  all_goals go_ret
  all_goals exact ⟨retV (show Value.int .i64 _=_ by rw [d.out]),(ynU _ _).alloc (ynR _) _⟩
end
end Go.Proofs.YtegmcmgndllmaaaGreatDoor
