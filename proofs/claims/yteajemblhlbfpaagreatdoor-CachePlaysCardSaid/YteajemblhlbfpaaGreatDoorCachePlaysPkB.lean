/-
  What the law CachePlays leans on, and its walk (2 of 21).
-/
import Derived.Test.YteajemblhlbfpaaGreatDoorChecked
import Derived.WalkKit
import Derived.WalkLawsBesides
import Derived.BigQuiet
import Derived.Deep.QuietTactic
import Derived.Deep.RegionHeld3
import Derived.Deep.DeepCutAuto
import Derived.Lib.Hide
import Derived.Lib.OthersKept
namespace Go.Proofs.YteajemblhlbfpaaGreatDoor
set_option maxRecDepth 100000
set_option maxHeartbeats 16000000
theorem tkB {P : Program} {o : Region.Mode} {g : Array Oper} {Q : Exit → Act → World → Prop} {S : World → Prop} (i : Nat) (s : Option Nat) {A : Op} {B : TypeId} {j : String} {y : _} {p : _} {v : Value} {fuel : Nat} {f : Array Bool} {a : Act} {w : World} (hi : g[i]? = some ⟨s, A, B, j, y, p⟩)
 (I : YieldsIf P g S ⟨s, A, B, j, y, p⟩ v a) (H : S w)
 (h : wpAnyH P o g Q S fuel (f.setIfInBounds i true) (a.put s v) w)
 (C : Region.noSelect g = true := by kernel_rfl) (D : Region.free o g f i = true := by kernel_rfl) (G : (Region.ready o g f).contains i = true := by kernel_rfl)
 (E : ∀ c a w, Q (.panic c) (a.put s v) w → Q (.panic c) a w := by exact fun _ _ _ h => h) : wpAnyH P o g Q S (fuel + 1) f a w :=
 wpAnyH_take hi C D G E I H h
theorem tkBa {α : Type _} (l : List α) (i : Nat) (a : α) : l.toArray.setIfInBounds i a = (l.set i a).toArray := List.setIfInBounds_toArray ..
theorem tkBb {α : Type _} (x y : α) (l : List α) : (x :: l).set 0 y = y :: l := rfl
theorem tkBc {α : Type _} (x y : α) (l : List α) (n : Nat) : (x :: l).set (n + 1) y = x :: l.set n y := rfl
abbrev zoL := @Nat.le_refl
abbrev zoM := @decide_eq_false
abbrev zoN := @decide_eq_true
abbrev zoO := @Go.RowKit.Below.refl
section
open Go.RowKit
def zaE (hi lo:Nat):Nat:=hi*2^64+lo
def bitW (W i:Nat):Nat:=W/2^(127 - i) % 2
def ofW (W n:Nat):Nat:=W/2^(128 - n)*2^(128 - n)
def rightW (W n:Nat):Prop:=n≤128∧W % 2^(128 - n)=0
theorem zmW {hi lo:Nat} (l:lo<2^64):zaE hi lo/2^64=hi:=by unfold zaE;omega
theorem bit_hi {hi lo:Nat} (l:lo<2^64) (i:Nat) (h:i<64):hi/2^(63 - i) % 2=bitW (zaE hi lo) i:=by
 unfold bitW
 rw [show 127 - i=64+(63 - i) from by omega,Nat.pow_add,←Nat.div_div_eq_div_mul,zmW l]
theorem bit_lo {hi lo:Nat} (i:Nat) (h:64≤i) (f:i<128):lo/2^(127 - i) % 2=bitW (zaE hi lo) i:=by
 unfold bitW zaE
 have e:hi*2^64=2^(127 - i)*(hi*2^(i - 64)*2):=by
  rw [show (2:Nat)^64=2^(127 - i)*(2^(i - 64)*2) from by rw [←Nat.pow_succ,←Nat.pow_add];congr 1;omega]
  rw [Nat.mul_left_comm,Nat.mul_assoc]
 rw [e,Nat.add_comm,Nat.add_mul_div_left _ _ (Nat.pow_pos (by decide)),Nat.add_mul_mod_self_right]
theorem znG (W i:Nat):bitW W i=0∨bitW W i=1:=by unfold bitW;omega
theorem zmK (X i:Nat) (h:i<128):X/2^(128 - (i+1))=2*(X/2^(128 - i))+bitW X i:=by
 unfold bitW
 rw [show 128 - (i+1)=127 - i from by omega,show 128 - i=(127 - i)+1 from by omega,Nat.pow_succ,←Nat.div_div_eq_div_mul]
 omega
theorem znV (W n:Nat):ofW W n/2^(128 - n)=W/2^(128 - n):=Nat.mul_div_cancel _ (Nat.pow_pos (by decide))
theorem ofW_le (W n:Nat):ofW W n≤W:=Nat.div_mul_le_self _ _
theorem zmS {W n:Nat} (h:rightW W n):ofW W n=W:=by
 unfold ofW
 have:=Nat.div_add_mod W (2^(128 - n))
 rw [h.2,Nat.add_zero,Nat.mul_comm] at this
 exact this
def qt (X n:Nat):Nat:=X/2^(128 - n)
def zaK (W:Nat) (n:Int):Bool:=decide (0≤n∧n≤128∧W % 2^(128 - n.toNat)=0)
def zaW (P:Nat) (n:Int) (Q:Nat) (m:Int):Bool:=zaK P n&&(zaK Q m&&(decide (n≤m)&&decide (qt P n.toNat=qt Q n.toNat)))
theorem znS (X n:Nat) (h:n<128):qt X (n+1)=2*qt X n+bitW X n:=zmK X n h
theorem qt_lt {X:Nat} (h:X<2^128):qt X 0=0:=Nat.div_eq_of_lt h
def rt (W n:Nat):Prop:=W % 2^(128 - n)=0
theorem zoC {W n:Nat} (h:rt W n):W=qt W n*2^(128 - n):=by
 unfold rt at h;unfold qt
 have:=Nat.div_add_mod W (2^(128 - n))
 rw [h,Nat.add_zero,Nat.mul_comm] at this
 exact this.symm
theorem zoE {W P n:Nat} (h:rt W n) (f:rt P n) (e:qt W n=qt P n):W=P:=by rw [zoC h,zoC f,e]
theorem zdA {W n:Nat}:zaK W n=true↔n≤128∧rt W n:=by
 unfold zaK rt;rw [decide_eq_true_iff]
 constructor
 ·rintro ⟨_,g,f⟩;exact ⟨by omega,by simpa using f⟩
 ·rintro ⟨g,f⟩;exact ⟨by omega,by omega,by simpa using f⟩
theorem znW (X n:Nat):rt (ofW X n) n:=Nat.mul_mod_left _ _
theorem qt_of (X n:Nat):qt (ofW X n) n=qt X n:=znV X n
def zbQ (W P:Nat):Nat→Nat→Nat
 |i,0=>i
 |i,f+1=>if bitW W i=bitW P i then zbQ W P (i+1) f else i
def zcI (W n P k:Nat):Nat:=zbQ W P 0 (min n k)
def pfV (hi lo:Nat) (n:Int):Value:= .agg #[.int .u64 (hi:Int),.int .u64 (lo:Int),.int .i64 n]
def hiN (W:Nat):Nat:=W/18446744073709551616
def loN (W:Nat):Nat:=W % 18446744073709551616
def pfW (W:Nat) (n:Int):Value:=pfV (hiN W) (loN W) n
theorem zcO (W:Nat):zaE (hiN W) (loN W)=W:=by unfold zaE hiN loN;omega
theorem hiN_lt {W:Nat} (h:W<2^128):hiN W<18446744073709551616:=by unfold hiN;omega
theorem loN_lt (W:Nat):loN W<18446744073709551616:=by unfold loN;omega
theorem zbS {hi lo:Nat} (l:lo<18446744073709551616):hiN (zaE hi lo)=hi:=by unfold zaE hiN;omega
theorem zcC {hi lo:Nat} (l:lo<18446744073709551616):loN (zaE hi lo)=lo:=by unfold zaE loN;omega
theorem znR {hi lo:Nat} (h:hi<18446744073709551616) (l:lo<18446744073709551616):zaE hi lo<2^128:=by unfold zaE;omega
theorem znE {hi lo:Nat} (l:lo<18446744073709551616) (n:Int):pfW (zaE hi lo) n=pfV hi lo n:=by unfold pfW;rw [zbS l,zcC l]
theorem zgP {W P:Nat} (f:hiN W=hiN P) (g:loN W=loN P):W=P:=by rw [←zcO W,←zcO P,f,g]
def zcY (k:Nat):Nat:=2^64 - 2^(64 - k)
theorem zeX {k:Nat} (h:k≤64):2^k*2^(64 - k)=18446744073709551616:=by rw [←Nat.pow_add,show k+(64 - k)=64 from by omega]
theorem zmD (k:Nat):zcY k<18446744073709551616:=by
 have:0<2^(64 - k):=Nat.pow_pos (by decide)
 unfold zcY;omega
theorem zmA {k:Nat} (h:k≤64):18446744073709551615/2^k=2^(64 - k) - 1:=by
 have e:=zeX h
 have f:0<2^k:=Nat.pow_pos (by decide)
 have g:0<2^(64 - k):=Nat.pow_pos (by decide)
 generalize 2^k=a at*
 generalize 2^(64 - k)=b at*
 obtain ⟨c,rfl⟩: ∃c,b=c+1:=⟨b - 1,by omega⟩
 rw [Nat.mul_add,Nat.mul_one] at e
 rw [show 18446744073709551615=a*c+(a - 1) from by omega,Nat.mul_add_div f,Nat.div_eq_of_lt (by omega)]
 omega
theorem xor64u (n:Nat) (i:n≤18446744073709551615):bits .xor .u64 IntKind.u64.max (n:Int)=((18446744073709551615 - n:Nat):Int):=by
 have g:n<2^64:=by omega
 have f:BitVec.ofInt 64 18446744073709551615=BitVec.allOnes 64:=by decide
 show IntKind.u64.wrap (((BitVec.ofInt 64 18446744073709551615)^^^(BitVec.ofInt 64 (n:Int))).toNat:Int)=_
 rw [f,BitVec.allOnes_xor,BitVec.toNat_not,BitVec.ofInt_natCast,BitVec.toNat_ofNat,Nat.mod_eq_of_lt g,IntKind.wrap_u64]
 omega
theorem znA {k:Nat} (h:k≤64):bits .xor .u64 IntKind.u64.max ((18446744073709551615:Int)/2^k)=(zcY k:Int):=by
 have e:((18446744073709551615:Int)/2^k)=((18446744073709551615/2^k:Nat):Int):=by simp
 have f:0<2^(64 - k):=Nat.pow_pos (by decide)
 have g:2^(64 - k)≤2^64:=Nat.pow_le_pow_right (by decide) (by omega)
 rw [e,zmA h,xor64u _ (by omega)]
 unfold zcY
 congr 1;omega
theorem zhK (x k:Nat) (f:x<18446744073709551616):bits .and .u64 (x:Int) (zcY k:Int)=((x/2^(64 - k)*2^(64 - k):Nat):Int):=by
 rw [u64_and_nat x (zcY k) f (zmD k)]
 congr 1
 have g:zcY k=(2^(64 - (64 - k)) - 1)*2^(64 - k):=by
  have:=zeX (k:=64 - (64 - k)) (by omega)
  rw [show 64 - (64 - (64 - k))=64 - k from by omega] at this
  rw [Nat.sub_mul,this,Nat.one_mul];rfl
 apply Nat.eq_of_testBit_eq
 intro j
 rw [Nat.testBit_and,g,Nat.testBit_mul_two_pow,Nat.testBit_mul_two_pow,Nat.testBit_two_pow_sub_one,Nat.testBit_div_two_pow]
 by_cases h:64 - k≤j
 ·rw [show j - (64 - k)+(64 - k)=j from by omega]
  by_cases i:j<64
  ·simp [h,show j - (64 - k)<64 - (64 - k) from by omega]
  ·have:x.testBit j=false:=Nat.testBit_lt_two_pow (Nat.lt_of_lt_of_le f (by rw [show 18446744073709551616=2^64 from by decide];exact Nat.pow_le_pow_right (by decide) (by omega)))
   simp [this]
 ·simp [h]
theorem zmC {hi lo:Nat} (l:lo<18446744073709551616) {n:Nat} (o:n≤128):
  hiN (ofW (zaE hi lo) n)=hi/2^(64 - n)*2^(64 - n)∧loN (ofW (zaE hi lo) n)=lo/2^(64 - (n - 64))*2^(64 - (n - 64)):=by
 unfold ofW
 rcases Nat.lt_or_ge 64 n with h|h
 ·have e:(18446744073709551616:Nat)=2^(128 - n)*2^(n - 64):=by rw [←Nat.pow_add,show 128 - n+(n - 64)=64 from by omega]
  rw [show 64 - n=0 from by omega,show 64 - (n - 64)=128 - n from by omega]
  have i:0<2^(128 - n):=Nat.pow_pos (by decide)
  have f:zaE hi lo/2^(128 - n)*2^(128 - n)=hi*18446744073709551616+lo/2^(128 - n)*2^(128 - n):=by
   have q:zaE hi lo=2^(128 - n)*(2^(n - 64)*hi)+lo:=by
    unfold zaE
    rw [show (2:Nat)^64=18446744073709551616 from by decide,e]
    congr 1
    ac_rfl
   rw [q,Nat.mul_add_div i,Nat.add_mul,e]
   congr 1
   ac_rfl
  have j:lo/2^(128 - n)*2^(128 - n)≤lo:=Nat.div_mul_le_self _ _
  rw [f]
  unfold hiN loN
  simp only [Nat.pow_zero,Nat.div_one,Nat.mul_one]
  constructor<;>omega
 ·have e:(2:Nat)^(128 - n)=18446744073709551616*2^(64 - n):=by rw [show 18446744073709551616=2^64 from by decide,←Nat.pow_add];congr 1;omega
  have g:zaE hi lo/(18446744073709551616*2^(64 - n))=hi/2^(64 - n):=by
   rw [←Nat.div_div_eq_div_mul];congr 1;unfold zaE;omega
  rw [e,g,show n - 64=0 from by omega,Nat.mul_left_comm]
  unfold hiN loN
  constructor
  ·rw [Nat.mul_div_cancel_left _ (by decide)]
  ·rw [Nat.mul_mod_right,Nat.div_eq_of_lt (show lo<2^(64 - 0) from l),Nat.zero_mul]
theorem retV {a b:Value} (h:a=b):Ending.returned a= .returned b:=by rw [h]
theorem zgZ (n:Int) (w:World) (f: -9223372036854775808≤n) (i:n≤9223372036854775807):
  Calls Tryz.prog 140 #[.int .i64 n] w fun e w'=>e= .returned (.int .u64 (zcY n.toNat:Nat))∧w=w':=by
 by_cases a:n<0
 ·go_enter Tryz.func140,Tryz.ntmps140
  go_wp2
  all_goals go_ret
  all_goals exact ⟨retV (by rw [show n.toNat=0 from by omega];rfl),rfl⟩
 ·by_cases b:64<n
  ·go_enter Tryz.func140,Tryz.ntmps140
   go_wp2
   all_goals go_ret
   all_goals exact ⟨retV (by unfold zcY;rw [show 64 - n.toNat=0 from by omega];rfl),rfl⟩
  ·obtain ⟨k,rfl⟩:=Int.eq_ofNat_of_zero_le (show 0≤n by omega)
   have j:k≤64:=by omega
   have g:=Lib.hid (znA j)
   clear a b f i
   go_enter Tryz.func140,Tryz.ntmps140
   go_wp2
   all_goals go_ret
   all_goals exact ⟨retV (show Value.int .u64 _=_ by rw [g.out]),rfl⟩
theorem zdF (hi lo n:Nat) (w:World) (B:hi<18446744073709551616) (g:lo<18446744073709551616) (A:n≤128):
  Calls Tryz.prog 100 #[.int .u64 hi,.int .u64 lo,.int .i64 n] w fun e w'=>e= .returned (pfW (ofW (zaE hi lo) n) n)∧Below w.heap.size w w':=by
 obtain ⟨f,i⟩:=zmC (hi:=hi) g A
 have D:Hid (pfW (ofW (zaE hi lo) n) n= .agg #[.int .u64 ((hi/2^(64 - n)*2^(64 - n):Nat):Int),.int .u64 ((lo/2^(64 - (n - 64))*2^(64 - (n - 64)):Nat):Int),.int .i64 n]):=by
  show pfV _ _ _=_
  rw [f,i];rfl
 have j:((n:Int) - 64).toNat=n - 64:=by omega
 have y:=Lib.hid j
 have p:=Lib.hid (zhK hi n B)
 have o:=Lib.hid (zhK lo (n - 64) g)
 clear f i j
 go_enter Tryz.func100,Tryz.ntmps100
 go_wp2_with fail
 refine (zgZ _ _ (by omega) (by omega)).mono ?_
 rintro e C ⟨rfl,rfl⟩
 rw [Int.toNat_natCast]
 go_wp2_with fail
 refine (zgZ _ _ (by omega) (by omega)).mono ?_
 rintro e C ⟨rfl,rfl⟩
 rw [y.out]
 go_wp2
 refine bodyPost_ret (v:= .agg #[.int .u64 (bits .and .u64 (hi:Int) (zcY n:Nat)),.int .u64 (bits .and .u64 (lo:Int) (zcY (n - 64):Nat)),.int .i64 n]) (by simp [results,Tryz.results100,go_sem]) rfl ⟨?_,?_⟩
 ·rw [D.out,p.out,o.out]
 ·exact ((zoO _ _).alloc (zoL _) _)
theorem zdM (u v:Array Value): ∀(p q:Operand) (W:World),(eqGuard .eql 125 p q (.agg u) (.agg v)).run Tryz.prog W= .ok () W:=by
 intro p q W;kernel_rfl
theorem eqPf (a b c f i g:Int): ∀W:World,(binOp .eql 125 (.agg #[.int .u64 a,.int .u64 b,.int .i64 c]) (.agg #[.int .u64 f,.int .u64 i,.int .i64 g])).run Tryz.prog W= .ok (.bool (a==f&&(b==i&&c==g))) W:=by
 intro W
 have y:(Op.equal 125 (.agg #[.int .u64 a,.int .u64 b,.int .i64 c]) (.agg #[.int .u64 f,.int .u64 i,.int .i64 g])).run Tryz.prog W= .ok (a==f&&(b==i&&c==g)) W:=by
  show (Op.equalIn 10000 125 _ _).run Tryz.prog W=_
  rw [run_equalIn_struct W 9999 125 _ _ (by kernel_rfl) (by kernel_rfl)]
  simp [Program.fieldsOf,Tryz.underlying125,Op.eqFields,go_sem,part,Tryz.sizeOf68,Tryz.isAgg68,Tryz.underlying68,Tryz.sizeOf3,Tryz.isAgg3,Tryz.underlying3]
  by_cases p:a=f<;>by_cases j:b=i<;>by_cases o:c=g<;>simp [p,j,o]
 show ((Op.equal _ _ _>>=fun b=>pure (Value.bool b)):Sem Value).run _ _=_
 rw [Sem.run_bind,y];rfl
theorem zmN (w:World) (a b c:Value) (t:TypeId): ∀W,Below (w.heap.size+1) (w.alloc (.cells #[a,b,c] t)) W→W.cell? ⟨w.heap.size,0,none⟩=some a∧W.cell? ⟨w.heap.size,1,none⟩=some b∧W.cell? ⟨w.heap.size,2,none⟩=some c:=fun W h=>by
 refine ⟨?_,?_,?_⟩
 all_goals
  rw [h.cell (p:=⟨w.heap.size,_,none⟩) (by show w.heap.size<_;omega)]
  simp [go_sem]
theorem zbZ {w W:World} {o:Obj} (h:Below (w.heap.size+1) (w.alloc o) W):Below w.heap.size w W:=
 ((zoO _ _).alloc (zoL _) o).trans (h.mono (Nat.le_succ _))
theorem zeJ {x:World} {n:Nat}:Below n x x.drew:=(zoO _ _).drew
theorem znK {x:World} {n k:Nat}:Below n x (x.drewN k):=⟨rfl,rfl,rfl,zoL _,fun _ _=>rfl⟩
theorem zaY {x W:World} {n:Nat} (f:n≤x.heap.size) (h:Below x.drew.heap.size x.drew W):Below n x W:=(zoO _ _).drew.trans (h.mono f)
theorem zbH {x y W:World} {n:Nat} (g:n≤x.heap.size) (h:Below n x y) (f:Below y.heap.size y W):Below n x W:=h.trans (f.mono (Nat.le_trans g h.size))
theorem zmB (hi lo n:Nat) (w:World) (E:hi<18446744073709551616) (g:lo<18446744073709551616) (B:n≤128):
  Calls Tryz.prog 75 #[.agg #[.int .u64 hi,.int .u64 lo,.int .i64 n]] w fun e w'=>e= .returned (.bool (zaK (zaE hi lo) n))∧Below w.heap.size w w':=by
 obtain ⟨A,o⟩: ∃x,hiN (ofW (zaE hi lo) n)=x:=⟨_,rfl⟩
 obtain ⟨y,j⟩: ∃x,loN (ofW (zaE hi lo) n)=x:=⟨_,rfl⟩
 have D:Hid (∀W,Calls Tryz.prog 100 #[.int .u64 hi,.int .u64 lo,.int .i64 n] W fun e w'=>e= .returned (.agg #[.int .u64 A,.int .u64 y,.int .i64 n])∧Below W.heap.size W w'):=fun W=>by
  have:=zdF hi lo n W E g B
  unfold pfW at this
  rw [o,j] at this
  exact this
 have C:((A:Int)==hi&&((y:Int)==lo&&(n:Int)==n))=zaK (zaE hi lo) n:=by
  rw [Bool.eq_iff_iff,zdA]
  simp only [Bool.and_eq_true,beq_iff_eq,and_true]
  constructor
  ·rintro ⟨a,b⟩
   refine ⟨B,?_⟩
   have:ofW (zaE hi lo) n=zaE hi lo:=zgP (by rw [o,zbS g];omega) (by rw [j,zcC g];omega)
   rw [←this];exact znW _ _
  ·rintro ⟨_,b⟩
   have:ofW (zaE hi lo) n=zaE hi lo:=zmS ⟨B,b⟩
   rw [this,zbS g] at o
   rw [this,zcC g] at j
   omega
 have p:=eqPf A y n hi lo n
 rw [C] at p
 have H:=zdM
 have i:=Lib.hid (zmN w (.int .u64 hi) (.int .u64 lo) (.int .i64 n) 125)
 have G:decide ((0:Int)≤n)=true:=zoN (by omega)
 have I:decide ((n:Int)≤128)=true:=zoN (by omega)
 clear o j C
 generalize zaK (zaE hi lo) n=b at*
 go_enter Tryz.func75,Tryz.ntmps75
 go_wp2
 go_region_held3 (fun W=>W.cell? ⟨w.heap.size,0,none⟩=some (.int .u64 hi)∧W.cell? ⟨w.heap.size,1,none⟩=some (.int .u64 lo)∧W.cell? ⟨w.heap.size,2,none⟩=some (.int .i64 n))
  (first|exact i.out _ zeJ|exact i.out _ (zaY (by simp) f))
  (first
   |(go_simp;go_at_call 100;((with_reducible refine (D.out _).mono ?_);rintro e J ⟨rfl,f⟩)))
 go_wp2
 go_ret
 exact ⟨rfl,zbZ (zaY (by simp) f)⟩
theorem ziS (hi lo:Nat) (n:Int) (w:World) (f:n<0∨128<n):
  Calls Tryz.prog 75 #[.agg #[.int .u64 hi,.int .u64 lo,.int .i64 n]] w fun e w'=>e= .returned (.bool false)∧Below w.heap.size w w':=by
 by_cases j:n<0
 ·have g:decide ((0:Int)≤n)=false:=zoM (by omega)
  clear f
  go_enter Tryz.func75,Tryz.ntmps75
  go_wp2
  go_quiet (fail)
  go_wp2
  go_ret
  exact ⟨rfl,zbZ znK⟩
 ·have g:decide ((0:Int)≤n)=true:=zoN (by omega)
  have i:decide (n≤128)=false:=zoM (by omega)
  clear f
  go_enter Tryz.func75,Tryz.ntmps75
  go_wp2
  go_quiet (fail)
  go_wp2
  go_ret
  exact ⟨rfl,zbZ znK⟩
theorem zfW {W:Nat} {n:Int} (h:n<0∨128<n):zaK W n=false:=by unfold zaK;rw [decide_eq_false_iff_not];omega
theorem zhQ {W:Nat} {n:Int} (h:zaK W n=true):0≤n∧n≤128:=by unfold zaK at h;rw [decide_eq_true_iff] at h;omega
theorem zaU (hi lo:Nat) (n:Int) (w:World) (g:hi<18446744073709551616) (f:lo<18446744073709551616):
  Calls Tryz.prog 75 #[.agg #[.int .u64 hi,.int .u64 lo,.int .i64 n]] w fun e w'=>e= .returned (.bool (zaK (zaE hi lo) n))∧Below w.heap.size w w':=by
 by_cases h:n<0∨128<n
 ·rw [zfW h];exact ziS hi lo n w h
 ·obtain ⟨k,rfl⟩:=Int.eq_ofNat_of_zero_le (show 0≤n by omega)
  exact zmB hi lo k w g f (by omega)
theorem zcD (w:World) (a b c f i g:Value) (t:TypeId): ∀W,Below (w.heap.size+2) ((w.alloc (.cells #[a,b,c] t)).alloc (.cells #[f,i,g] t)) W→
  (W.cell? ⟨w.heap.size,0,none⟩=some a∧W.cell? ⟨w.heap.size,1,none⟩=some b∧W.cell? ⟨w.heap.size,2,none⟩=some c)∧W.cell? ⟨w.heap.size+1,0,none⟩=some f∧W.cell? ⟨w.heap.size+1,1,none⟩=some i∧W.cell? ⟨w.heap.size+1,2,none⟩=some g:=fun W h=>by
 refine ⟨⟨?_,?_,?_⟩,?_,?_,?_⟩
 ·rw [h.cell (p:=⟨w.heap.size,_,none⟩) (by show w.heap.size<_;omega)];simp [go_sem]
 ·rw [h.cell (p:=⟨w.heap.size,_,none⟩) (by show w.heap.size<_;omega)];simp [go_sem]
 ·rw [h.cell (p:=⟨w.heap.size,_,none⟩) (by show w.heap.size<_;omega)];simp [go_sem]
 ·rw [h.cell (p:=⟨w.heap.size+1,_,none⟩) (by show w.heap.size+1<_;omega)];simp [go_sem]
 ·rw [h.cell (p:=⟨w.heap.size+1,_,none⟩) (by show w.heap.size+1<_;omega)];simp [go_sem]
 ·rw [h.cell (p:=⟨w.heap.size+1,_,none⟩) (by show w.heap.size+1<_;omega)];simp [go_sem]
theorem zbA {w W:World} {o f:Obj} (h:Below (w.heap.size+2) ((w.alloc o).alloc f) W):Below w.heap.size w W:=
 (((zoO _ _).alloc (zoL _) o).alloc (by simp) f).trans (h.mono (by omega))
theorem zmG (hi lo j i:Nat) (n m:Int) (w:World) (E:hi<18446744073709551616) (D:lo<18446744073709551616) (_:j<18446744073709551616) (_:i<18446744073709551616) (C:zaK (zaE hi lo) n=false):
  Calls Tryz.prog 102 #[.agg #[.int .u64 hi,.int .u64 lo,.int .i64 n],.agg #[.int .u64 j,.int .u64 i,.int .i64 m]] w fun e w'=>e= .returned (.bool false)∧Below w.heap.size w w':=by
 have A:=Lib.hid (zcD w (.int .u64 hi) (.int .u64 lo) (.int .i64 n) (.int .u64 j) (.int .u64 i) (.int .i64 m) 125)
 have B:Hid (∀W,Calls Tryz.prog 75 #[.agg #[.int .u64 hi,.int .u64 lo,.int .i64 n]] W fun e w'=>e= .returned (.bool false)∧Below W.heap.size W w'):=fun W=>by
  have:=zaU hi lo n W E D;rwa [C] at this
 clear C E D
 go_enter Tryz.func102,Tryz.ntmps102
 go_wp2
 refine wp_region_held_drew (S:=fun W=>(W.cell? ⟨w.heap.size,0,none⟩=some (.int .u64 hi)∧W.cell? ⟨w.heap.size,1,none⟩=some (.int .u64 lo)∧W.cell? ⟨w.heap.size,2,none⟩=some (.int .i64 n))∧W.cell? ⟨w.heap.size+1,0,none⟩=some (.int .u64 j)∧W.cell? ⟨w.heap.size+1,1,none⟩=some (.int .u64 i)∧W.cell? ⟨w.heap.size+1,2,none⟩=some (.int .i64 m)) (by kernel_rfl) ?_ (fun p=> ?_)
 ·exact A.out _ zeJ
 refine tkB 0 (some 5) (v:= ?_) rfl (.inl ⟨by rfl,?_⟩) p ?_;rotate_left;·intro w g;(try dsimp only at g);go_simp;try with_reducible rfl
 try simp only [Act.put,tkBa,tkBb,tkBc]
 refine wpAnyH_ready (rs:=[1]) (by kernel_rfl) (by simp) ?_
 refine AllReadyH.cons (o:=⟨some 6,_,_,_,_,_⟩) rfl (fun K G=> ?_) AllReadyH.nil
 go_simp
 go_at_call 75
 refine (B.out _).mono ?_
 rintro e H ⟨rfl,y⟩
 (try go_wp2_with fail)
 refine G.out _ _ ?_ (fun f=> ?_)
 ·exact A.out _ (zaY (by simp) y)
 clear G K
 try simp only [Act.put,tkBa,tkBb,tkBc]
 refine tkB 2 (some 7) (v:= ?_) rfl (.inl ⟨by rfl,?_⟩) f ?_;rotate_left;·intro w g;(try dsimp only at g);go_simp;try with_reducible rfl
 try simp only [Act.put,tkBa,tkBb,tkBc]
 refine tkB 3 (some 8) (v:=undef) rfl (.inr ⟨by rfl,rfl⟩) f ?_
 try simp only [Act.put,tkBa,tkBb,tkBc]
 refine tkB 4 (some 9) (v:=undef) rfl (.inr ⟨by rfl,rfl⟩) f ?_
 try simp only [Act.put,tkBa,tkBb,tkBc]
 refine tkB 5 (some 10) (v:= ?_) rfl (.inl ⟨by rfl,?_⟩) f ?_;rotate_left;·intro w g;(try dsimp only at g);go_simp;try with_reducible rfl
 try simp only [Act.put,tkBa,tkBb,tkBc]
 refine tkB 6 (some 11) (v:= ?_) rfl (.inl ⟨by rfl,?_⟩) f ?_;rotate_left;·intro w g;(try dsimp only at g);go_simp;try with_reducible rfl
 try simp only [Act.put,tkBa,tkBb,tkBc]
 refine tkB 7 (some 12) (v:=undef) rfl (.inr ⟨by rfl,rfl⟩) f ?_
 try simp only [Act.put,tkBa,tkBb,tkBc]
 refine tkB 8 (some 13) (v:=undef) rfl (.inr ⟨by rfl,rfl⟩) f ?_
 try simp only [Act.put,tkBa,tkBb,tkBc]
 refine tkB 9 (some 14) (v:=undef) rfl (.inr ⟨by rfl,rfl⟩) f ?_
 try simp only [Act.put,tkBa,tkBb,tkBc]
 refine tkB 10 (some 15) (v:=undef) rfl (.inr ⟨by rfl,rfl⟩) f ?_
 try simp only [Act.put,tkBa,tkBb,tkBc]
 refine tkB 11 (some 16) (v:=undef) rfl (.inr ⟨by rfl,rfl⟩) f ?_
 try simp only [Act.put,tkBa,tkBb,tkBc]
 refine tkB 12 (some 17) (v:= ?_) rfl (.inl ⟨by rfl,?_⟩) f ?_;rotate_left;·intro w g;(try dsimp only at g);go_simp;try with_reducible rfl
 try simp only [Act.put,tkBa,tkBb,tkBc]
 refine tkB 13 (some 18) (v:= ?_) rfl (.inl ⟨by rfl,?_⟩) f ?_;rotate_left;·intro w g;(try dsimp only at g);go_simp;try with_reducible rfl
 try simp only [Act.put,tkBa,tkBb,tkBc]
 refine tkB 14 (some 19) (v:=undef) rfl (.inr ⟨by rfl,rfl⟩) f ?_
 try simp only [Act.put,tkBa,tkBb,tkBc]
 refine tkB 15 (some 20) (v:=undef) rfl (.inr ⟨by rfl,rfl⟩) f ?_
 try simp only [Act.put,tkBa,tkBb,tkBc]
 refine tkB 16 (some 21) (v:=undef) rfl (.inr ⟨by rfl,rfl⟩) f ?_
 try simp only [Act.put,tkBa,tkBb,tkBc]
 refine tkB 17 (some 22) (v:=undef) rfl (.inr ⟨by rfl,rfl⟩) f ?_
 try simp only [Act.put,tkBa,tkBb,tkBc]
 refine tkB 18 (some 23) (v:=undef) rfl (.inr ⟨by rfl,rfl⟩) f ?_
 try simp only [Act.put,tkBa,tkBb,tkBc]
 refine tkB 19 (some 24) (v:=undef) rfl (.inr ⟨by rfl,rfl⟩) f ?_
 try simp only [Act.put,tkBa,tkBb,tkBc]
 refine tkB 20 (some 25) (v:=undef) rfl (.inr ⟨by rfl,rfl⟩) f ?_
 try simp only [Act.put,tkBa,tkBb,tkBc]
 refine tkB 21 (some 26) (v:=undef) rfl (.inr ⟨by rfl,rfl⟩) f ?_
 try simp only [Act.put,tkBa,tkBb,tkBc]
 refine tkB 22 (some 27) (v:=undef) rfl (.inr ⟨by rfl,rfl⟩) f ?_
 try simp only [Act.put,tkBa,tkBb,tkBc]
 refine tkB 23 (some 28) (v:= ?_) rfl (.inl ⟨by rfl,?_⟩) f ?_;rotate_left;·intro w g;(try dsimp only at g);go_simp;try with_reducible rfl
 try simp only [Act.put,tkBa,tkBb,tkBc]
 refine tkB 24 (some 4) (v:= ?_) rfl (.inl ⟨by rfl,?_⟩) f ?_;rotate_left;·intro w g;(try dsimp only at g);go_simp;try with_reducible rfl
 try simp only [Act.put,tkBa,tkBb,tkBc]
 refine wpAnyH_done (by kernel_rfl) ?_ _
 go_wp2
 go_ret
 exact ⟨by first|rfl|(simp;done)|kernel_rfl|(simp [Act.put];done),zbA (zaY (by simp) y)⟩
theorem zmI (hi lo j i:Nat) (n m:Int) (w:World) (O:hi<18446744073709551616) (N:lo<18446744073709551616) (P:j<18446744073709551616) (J:i<18446744073709551616) (H:zaK (zaE hi lo) n=true) (I:zaK (zaE j i) m=false):
  Calls Tryz.prog 102 #[.agg #[.int .u64 hi,.int .u64 lo,.int .i64 n],.agg #[.int .u64 j,.int .u64 i,.int .i64 m]] w fun e w'=>e= .returned (.bool false)∧Below w.heap.size w w':=by
 have A:=Lib.hid (zcD w (.int .u64 hi) (.int .u64 lo) (.int .i64 n) (.int .u64 j) (.int .u64 i) (.int .i64 m) 125)
 have G:Hid (∀W,Calls Tryz.prog 75 #[.agg #[.int .u64 hi,.int .u64 lo,.int .i64 n]] W fun e w'=>e= .returned (.bool true)∧Below W.heap.size W w'):=fun W=>by
  have:=zaU hi lo n W O N;rwa [H] at this
 have E:Hid (∀W,Calls Tryz.prog 75 #[.agg #[.int .u64 j,.int .u64 i,.int .i64 m]] W fun e w'=>e= .returned (.bool false)∧Below W.heap.size W w'):=fun W=>by
  have:=zaU j i m W P J;rwa [I] at this
 clear H I O N P J
 go_enter Tryz.func102,Tryz.ntmps102
 go_wp2
 refine wp_region_held_drew (S:=fun W=>(W.cell? ⟨w.heap.size,0,none⟩=some (.int .u64 hi)∧W.cell? ⟨w.heap.size,1,none⟩=some (.int .u64 lo)∧W.cell? ⟨w.heap.size,2,none⟩=some (.int .i64 n))∧W.cell? ⟨w.heap.size+1,0,none⟩=some (.int .u64 j)∧W.cell? ⟨w.heap.size+1,1,none⟩=some (.int .u64 i)∧W.cell? ⟨w.heap.size+1,2,none⟩=some (.int .i64 m)) (by kernel_rfl) ?_ (fun B=> ?_)
 ·exact A.out _ zeJ
 refine tkB 0 (some 5) (v:= ?_) rfl (.inl ⟨by rfl,?_⟩) B ?_;rotate_left;·intro w g;(try dsimp only at g);go_simp;try with_reducible rfl
 try simp only [Act.put,tkBa,tkBb,tkBc]
 refine wpAnyH_ready (rs:=[1]) (by kernel_rfl) (by simp) ?_
 refine AllReadyH.cons (o:=⟨some 6,_,_,_,_,_⟩) rfl (fun K D=> ?_) AllReadyH.nil
 go_simp
 go_at_call 75
 refine (G.out _).mono ?_
 rintro e T ⟨rfl,y⟩
 (try go_wp2_with fail)
 refine D.out _ _ ?_ (fun p=> ?_)
 ·exact A.out _ (zaY (by simp) y)
 clear D K
 try simp only [Act.put,tkBa,tkBb,tkBc]
 refine tkB 2 (some 7) (v:= ?_) rfl (.inl ⟨by rfl,?_⟩) p ?_;rotate_left;·intro w g;(try dsimp only at g);go_simp;try with_reducible rfl
 try simp only [Act.put,tkBa,tkBb,tkBc]
 refine tkB 3 (some 8) (v:= ?_) rfl (.inl ⟨by rfl,?_⟩) p ?_;rotate_left;·intro w g;(try dsimp only at g);go_simp;try with_reducible rfl
 try simp only [Act.put,tkBa,tkBb,tkBc]
 refine wpAnyH_ready (rs:=[4]) (by kernel_rfl) (by simp) ?_
 refine AllReadyH.cons (o:=⟨some 9,_,_,_,_,_⟩) rfl (fun K D=> ?_) AllReadyH.nil
 go_simp
 go_at_call 75
 refine (E.out _).mono ?_
 rintro e R ⟨rfl,C⟩
 (try go_wp2_with fail)
 refine D.out _ _ ?_ (fun f=> ?_)
 ·exact A.out _ (zbH (by simp) (zaY (by simp) y) C)
 clear D K
 try simp only [Act.put,tkBa,tkBb,tkBc]
 refine tkB 5 (some 10) (v:= ?_) rfl (.inl ⟨by rfl,?_⟩) f ?_;rotate_left;·intro w g;(try dsimp only at g);go_simp;try with_reducible rfl
 try simp only [Act.put,tkBa,tkBb,tkBc]
 refine tkB 6 (some 11) (v:= ?_) rfl (.inl ⟨by rfl,?_⟩) f ?_;rotate_left;·intro w g;(try dsimp only at g);go_simp;try with_reducible rfl
 try simp only [Act.put,tkBa,tkBb,tkBc]
 refine tkB 7 (some 12) (v:=undef) rfl (.inr ⟨by rfl,rfl⟩) f ?_
 try simp only [Act.put,tkBa,tkBb,tkBc]
 refine tkB 8 (some 13) (v:=undef) rfl (.inr ⟨by rfl,rfl⟩) f ?_
 try simp only [Act.put,tkBa,tkBb,tkBc]
 refine tkB 9 (some 14) (v:=undef) rfl (.inr ⟨by rfl,rfl⟩) f ?_
 try simp only [Act.put,tkBa,tkBb,tkBc]
 refine tkB 10 (some 15) (v:=undef) rfl (.inr ⟨by rfl,rfl⟩) f ?_
 try simp only [Act.put,tkBa,tkBb,tkBc]
 refine tkB 11 (some 16) (v:=undef) rfl (.inr ⟨by rfl,rfl⟩) f ?_
 try simp only [Act.put,tkBa,tkBb,tkBc]
 refine tkB 12 (some 17) (v:= ?_) rfl (.inl ⟨by rfl,?_⟩) f ?_;rotate_left;·intro w g;(try dsimp only at g);go_simp;try with_reducible rfl
 try simp only [Act.put,tkBa,tkBb,tkBc]
 refine tkB 13 (some 18) (v:= ?_) rfl (.inl ⟨by rfl,?_⟩) f ?_;rotate_left;·intro w g;(try dsimp only at g);go_simp;try with_reducible rfl
 try simp only [Act.put,tkBa,tkBb,tkBc]
 refine tkB 14 (some 19) (v:=undef) rfl (.inr ⟨by rfl,rfl⟩) f ?_
 try simp only [Act.put,tkBa,tkBb,tkBc]
 refine tkB 15 (some 20) (v:=undef) rfl (.inr ⟨by rfl,rfl⟩) f ?_
 try simp only [Act.put,tkBa,tkBb,tkBc]
 refine tkB 16 (some 21) (v:=undef) rfl (.inr ⟨by rfl,rfl⟩) f ?_
 try simp only [Act.put,tkBa,tkBb,tkBc]
 refine tkB 17 (some 22) (v:=undef) rfl (.inr ⟨by rfl,rfl⟩) f ?_
 try simp only [Act.put,tkBa,tkBb,tkBc]
 refine tkB 18 (some 23) (v:=undef) rfl (.inr ⟨by rfl,rfl⟩) f ?_
 try simp only [Act.put,tkBa,tkBb,tkBc]
 refine tkB 19 (some 24) (v:=undef) rfl (.inr ⟨by rfl,rfl⟩) f ?_
 try simp only [Act.put,tkBa,tkBb,tkBc]
 refine tkB 20 (some 25) (v:=undef) rfl (.inr ⟨by rfl,rfl⟩) f ?_
 try simp only [Act.put,tkBa,tkBb,tkBc]
 refine tkB 21 (some 26) (v:=undef) rfl (.inr ⟨by rfl,rfl⟩) f ?_
 try simp only [Act.put,tkBa,tkBb,tkBc]
 refine tkB 22 (some 27) (v:=undef) rfl (.inr ⟨by rfl,rfl⟩) f ?_
 try simp only [Act.put,tkBa,tkBb,tkBc]
 refine tkB 23 (some 28) (v:= ?_) rfl (.inl ⟨by rfl,?_⟩) f ?_;rotate_left;·intro w g;(try dsimp only at g);go_simp;try with_reducible rfl
 try simp only [Act.put,tkBa,tkBb,tkBc]
 refine tkB 24 (some 4) (v:= ?_) rfl (.inl ⟨by rfl,?_⟩) f ?_;rotate_left;·intro w g;(try dsimp only at g);go_simp;try with_reducible rfl
 try simp only [Act.put,tkBa,tkBb,tkBc]
 refine wpAnyH_done (by kernel_rfl) ?_ _
 go_wp2
 go_ret
 exact ⟨by first|rfl|(simp;done)|kernel_rfl|(simp [Act.put];done),zbA (zbH (by simp) (zaY (by simp) y) C)⟩
theorem zmU (hi lo j i:Nat) (n m:Int) (w:World) (O:hi<18446744073709551616) (N:lo<18446744073709551616) (P:j<18446744073709551616) (J:i<18446744073709551616) (H:zaK (zaE hi lo) n=true) (I:zaK (zaE j i) m=true) (R:m<n):
  Calls Tryz.prog 102 #[.agg #[.int .u64 hi,.int .u64 lo,.int .i64 n],.agg #[.int .u64 j,.int .u64 i,.int .i64 m]] w fun e w'=>e= .returned (.bool false)∧Below w.heap.size w w':=by
 have A:=Lib.hid (zcD w (.int .u64 hi) (.int .u64 lo) (.int .i64 n) (.int .u64 j) (.int .u64 i) (.int .i64 m) 125)
 have G:Hid (∀W,Calls Tryz.prog 75 #[.agg #[.int .u64 hi,.int .u64 lo,.int .i64 n]] W fun e w'=>e= .returned (.bool true)∧Below W.heap.size W w'):=fun W=>by
  have:=zaU hi lo n W O N;rwa [H] at this
 have E:Hid (∀W,Calls Tryz.prog 75 #[.agg #[.int .u64 j,.int .u64 i,.int .i64 m]] W fun e w'=>e= .returned (.bool true)∧Below W.heap.size W w'):=fun W=>by
  have:=zaU j i m W P J;rwa [I] at this
 have T:decide (n≤m)=false:=zoM (by omega)
 clear H I O N P J R
 go_enter Tryz.func102,Tryz.ntmps102
 go_wp2
 refine wp_region_held_drew (S:=fun W=>(W.cell? ⟨w.heap.size,0,none⟩=some (.int .u64 hi)∧W.cell? ⟨w.heap.size,1,none⟩=some (.int .u64 lo)∧W.cell? ⟨w.heap.size,2,none⟩=some (.int .i64 n))∧W.cell? ⟨w.heap.size+1,0,none⟩=some (.int .u64 j)∧W.cell? ⟨w.heap.size+1,1,none⟩=some (.int .u64 i)∧W.cell? ⟨w.heap.size+1,2,none⟩=some (.int .i64 m)) (by kernel_rfl) ?_ (fun B=> ?_)
 ·exact A.out _ zeJ
 refine tkB 0 (some 5) (v:= ?_) rfl (.inl ⟨by rfl,?_⟩) B ?_;rotate_left;·intro w g;(try dsimp only at g);go_simp;try with_reducible rfl
 try simp only [Act.put,tkBa,tkBb,tkBc]
 refine wpAnyH_ready (rs:=[1]) (by kernel_rfl) (by simp) ?_
 refine AllReadyH.cons (o:=⟨some 6,_,_,_,_,_⟩) rfl (fun K D=> ?_) AllReadyH.nil
 go_simp
 go_at_call 75
 refine (G.out _).mono ?_
 rintro e V ⟨rfl,y⟩
 (try go_wp2_with fail)
 refine D.out _ _ ?_ (fun p=> ?_)
 ·exact A.out _ (zaY (by simp) y)
 clear D K
 try simp only [Act.put,tkBa,tkBb,tkBc]
 refine tkB 2 (some 7) (v:= ?_) rfl (.inl ⟨by rfl,?_⟩) p ?_;rotate_left;·intro w g;(try dsimp only at g);go_simp;try with_reducible rfl
 try simp only [Act.put,tkBa,tkBb,tkBc]
 refine tkB 3 (some 8) (v:= ?_) rfl (.inl ⟨by rfl,?_⟩) p ?_;rotate_left;·intro w g;(try dsimp only at g);go_simp;try with_reducible rfl
 try simp only [Act.put,tkBa,tkBb,tkBc]
 refine wpAnyH_ready (rs:=[4]) (by kernel_rfl) (by simp) ?_
 refine AllReadyH.cons (o:=⟨some 9,_,_,_,_,_⟩) rfl (fun K D=> ?_) AllReadyH.nil
 go_simp
 go_at_call 75
 refine (E.out _).mono ?_
 rintro e U ⟨rfl,C⟩
 (try go_wp2_with fail)
 refine D.out _ _ ?_ (fun f=> ?_)
 ·exact A.out _ (zbH (by simp) (zaY (by simp) y) C)
 clear D K
 try simp only [Act.put,tkBa,tkBb,tkBc]
 refine tkB 5 (some 10) (v:= ?_) rfl (.inl ⟨by rfl,?_⟩) f ?_;rotate_left;·intro w g;(try dsimp only at g);go_simp;try with_reducible rfl
 try simp only [Act.put,tkBa,tkBb,tkBc]
 refine tkB 6 (some 11) (v:= ?_) rfl (.inl ⟨by rfl,?_⟩) f ?_;rotate_left;·intro w g;(try dsimp only at g);go_simp;try with_reducible rfl
 try simp only [Act.put,tkBa,tkBb,tkBc]
 refine tkB 7 (some 12) (v:= ?_) rfl (.inl ⟨by rfl,?_⟩) f ?_;rotate_left;·intro w g;(try dsimp only at g);go_simp;try with_reducible rfl
 try simp only [Act.put,tkBa,tkBb,tkBc]
 refine tkB 8 (some 13) (v:= ?_) rfl (.inl ⟨by rfl,?_⟩) f ?_;rotate_left;·intro w g;(try dsimp only at g);go_simp;try with_reducible rfl
 try simp only [Act.put,tkBa,tkBb,tkBc]
 refine tkB 9 (some 14) (v:= ?_) rfl (.inl ⟨by rfl,?_⟩) f ?_;rotate_left;·intro w g;(try dsimp only at g);go_simp;try with_reducible rfl
 try simp only [Act.put,tkBa,tkBb,tkBc]
 refine tkB 10 (some 15) (v:= ?_) rfl (.inl ⟨by rfl,?_⟩) f ?_;rotate_left;·intro w g;(try dsimp only at g);go_simp;try with_reducible rfl
 try simp only [Act.put,tkBa,tkBb,tkBc]
 refine tkB 11 (some 16) (v:= ?_) rfl (.inl ⟨by rfl,?_⟩) f ?_;rotate_left;·intro w g;(try dsimp only at g);go_simp;try with_reducible rfl
 try simp only [Act.put,tkBa,tkBb,tkBc]
 refine tkB 12 (some 17) (v:= ?_) rfl (.inl ⟨by rfl,?_⟩) f ?_;rotate_left;·intro w g;(try dsimp only at g);go_simp;try with_reducible rfl
 try simp only [Act.put,tkBa,tkBb,tkBc]
 refine tkB 13 (some 18) (v:= ?_) rfl (.inl ⟨by rfl,?_⟩) f ?_;rotate_left;·intro w g;(try dsimp only at g);go_simp;try with_reducible rfl
 try simp only [Act.put,tkBa,tkBb,tkBc]
 refine tkB 14 (some 19) (v:=undef) rfl (.inr ⟨by rfl,rfl⟩) f ?_
 try simp only [Act.put,tkBa,tkBb,tkBc]
 refine tkB 15 (some 20) (v:=undef) rfl (.inr ⟨by rfl,rfl⟩) f ?_
 try simp only [Act.put,tkBa,tkBb,tkBc]
 refine tkB 16 (some 21) (v:=undef) rfl (.inr ⟨by rfl,rfl⟩) f ?_
 try simp only [Act.put,tkBa,tkBb,tkBc]
 refine tkB 17 (some 22) (v:=undef) rfl (.inr ⟨by rfl,rfl⟩) f ?_
 try simp only [Act.put,tkBa,tkBb,tkBc]
 refine tkB 18 (some 23) (v:=undef) rfl (.inr ⟨by rfl,rfl⟩) f ?_
 try simp only [Act.put,tkBa,tkBb,tkBc]
 refine tkB 19 (some 24) (v:=undef) rfl (.inr ⟨by rfl,rfl⟩) f ?_
 try simp only [Act.put,tkBa,tkBb,tkBc]
 refine tkB 20 (some 25) (v:=undef) rfl (.inr ⟨by rfl,rfl⟩) f ?_
 try simp only [Act.put,tkBa,tkBb,tkBc]
 refine tkB 21 (some 26) (v:=undef) rfl (.inr ⟨by rfl,rfl⟩) f ?_
 try simp only [Act.put,tkBa,tkBb,tkBc]
 refine tkB 22 (some 27) (v:=undef) rfl (.inr ⟨by rfl,rfl⟩) f ?_
 try simp only [Act.put,tkBa,tkBb,tkBc]
 refine tkB 23 (some 28) (v:= ?_) rfl (.inl ⟨by rfl,?_⟩) f ?_;rotate_left;·intro w g;(try dsimp only at g);go_simp;try with_reducible rfl
 try simp only [Act.put,tkBa,tkBb,tkBc]
 refine tkB 24 (some 4) (v:= ?_) rfl (.inl ⟨by rfl,?_⟩) f ?_;rotate_left;·intro w g;(try dsimp only at g);go_simp;try with_reducible rfl
 try simp only [Act.put,tkBa,tkBb,tkBc]
 refine wpAnyH_done (by kernel_rfl) ?_ _
 go_wp2
 go_ret
 exact ⟨by first|rfl|(simp;done)|kernel_rfl|(simp [Act.put];done),zbA (zbH (by simp) (zaY (by simp) y) C)⟩
theorem zmV (hi lo g f:Nat) (n m:Int) (w:World) (S:hi<18446744073709551616) (y:lo<18446744073709551616) (N:g<18446744073709551616) (H:f<18446744073709551616) (B:zaK (zaE hi lo) n=true) (G:zaK (zaE g f) m=true) (R:n≤m):
  Calls Tryz.prog 102 #[.agg #[.int .u64 hi,.int .u64 lo,.int .i64 n],.agg #[.int .u64 g,.int .u64 f,.int .i64 m]] w fun e w'=>e= .returned (.bool (zaW (zaE hi lo) n (zaE g f) m))∧Below w.heap.size w w':=by
 have j:=Lib.hid (zcD w (.int .u64 hi) (.int .u64 lo) (.int .i64 n) (.int .u64 g) (.int .u64 f) (.int .i64 m) 125)
 have O:Hid (∀W,Calls Tryz.prog 75 #[.agg #[.int .u64 hi,.int .u64 lo,.int .i64 n]] W fun e w'=>e= .returned (.bool true)∧Below W.heap.size W w'):=fun W=>by
  have:=zaU hi lo n W S y;rwa [B] at this
 have J:Hid (∀W,Calls Tryz.prog 75 #[.agg #[.int .u64 g,.int .u64 f,.int .i64 m]] W fun e w'=>e= .returned (.bool true)∧Below W.heap.size W w'):=fun W=>by
  have:=zaU g f m W N H;rwa [G] at this
 obtain ⟨K,D⟩: ∃x,hiN (ofW (zaE g f) n.toNat)=x:=⟨_,rfl⟩
 obtain ⟨I,C⟩: ∃x,loN (ofW (zaE g f) n.toNat)=x:=⟨_,rfl⟩
 have U:=zhQ B
 have o:(n.toNat:Int)=n:=by omega
 have T:Hid (∀W,Calls Tryz.prog 100 #[.int .u64 g,.int .u64 f,.int .i64 n] W fun e w'=>e= .returned (.agg #[.int .u64 K,.int .u64 I,.int .i64 n])∧Below W.heap.size W w'):=fun W=>by
  have:=zdF g f n.toNat W N H (by omega)
  unfold pfW at this
  rw [D,C,o] at this
  exact this
 have P:((K:Int)==hi&&((I:Int)==lo&&n==n))=zaW (zaE hi lo) n (zaE g f) m:=by
  unfold zaW
  have r3:rt (zaE hi lo) n.toNat:=by have:=B;rw [←o,zdA] at this;exact this.2
  rw [B,G,zoN R,Bool.true_and,Bool.true_and,Bool.true_and,Bool.eq_iff_iff,decide_eq_true_iff]
  simp only [Bool.and_eq_true,beq_iff_eq,and_true]
  constructor
  ·rintro ⟨a,b⟩
   have:ofW (zaE g f) n.toNat=zaE hi lo:=zgP (by rw [D,zbS y];omega) (by rw [C,zcC y];omega)
   rw [←this];exact qt_of _ _
  ·intro b
   have:ofW (zaE g f) n.toNat=zaE hi lo:=zoE (znW _ _) r3 ((qt_of _ _).trans b.symm)
   rw [this,zbS y] at D
   rw [this,zcC y] at C
   omega
 have E:=eqPf K I n hi lo n
 rw [P] at E
 have hg:=zdM
 have V:decide (n≤m)=true:=zoN (by omega)
 clear B G S y N H R P D C o U
 generalize zaW (zaE hi lo) n (zaE g f) m=b at*
 go_enter Tryz.func102,Tryz.ntmps102
 go_wp2
 go_region_held3 (fun W=>(W.cell? ⟨w.heap.size,0,none⟩=some (.int .u64 hi)∧W.cell? ⟨w.heap.size,1,none⟩=some (.int .u64 lo)∧W.cell? ⟨w.heap.size,2,none⟩=some (.int .i64 n))∧W.cell? ⟨w.heap.size+1,0,none⟩=some (.int .u64 g)∧W.cell? ⟨w.heap.size+1,1,none⟩=some (.int .u64 f)∧W.cell? ⟨w.heap.size+1,2,none⟩=some (.int .i64 m))
  (first|exact j.out _ (zeJ)|exact j.out _ (zaY (by simp) i)|exact j.out _ (zbH (by simp) (zaY (by simp) i) p)|exact j.out _ (zbH (by simp) (zbH (by simp) (zaY (by simp) i) p) A))
  (first
   |(go_simp;go_at_call 75;((with_reducible refine (O.out _).mono ?_);rintro e x1 ⟨rfl,i⟩))
   |(go_simp;go_at_call 75;((with_reducible refine (J.out _).mono ?_);rintro e Y ⟨rfl,p⟩))
   |(go_simp;go_at_call 100;((with_reducible refine (T.out _).mono ?_);rintro e Z ⟨rfl,A⟩))
)
 go_wp2
 go_ret
 exact ⟨by first|rfl|(simp;done)|kernel_rfl|(simp [Act.put];done),zbA (zbH (by simp) (zbH (by simp) (zaY (by simp) i) p) A)⟩
theorem ziA (hi lo g f:Nat) (n m:Int) (w:World) (p:hi<18446744073709551616) (o:lo<18446744073709551616) (y:g<18446744073709551616) (A:f<18446744073709551616):
  Calls Tryz.prog 102 #[.agg #[.int .u64 hi,.int .u64 lo,.int .i64 n],.agg #[.int .u64 g,.int .u64 f,.int .i64 m]] w fun e w'=>e= .returned (.bool (zaW (zaE hi lo) n (zaE g f) m))∧Below w.heap.size w w':=by
 cases i:zaK (zaE hi lo) n with
 |false=>
  rw [show zaW (zaE hi lo) n (zaE g f) m=false from by unfold zaW;rw [i];rfl]
  exact zmG hi lo g f n m w p o y A i
 |true=>
  cases j:zaK (zaE g f) m with
  |false=>
   rw [show zaW (zaE hi lo) n (zaE g f) m=false from by unfold zaW;rw [i,j];rfl]
   exact zmI hi lo g f n m w p o y A i j
  |true=>
   by_cases B:n≤m
   ·exact zmV hi lo g f n m w p o y A i j B
   ·rw [show zaW (zaE hi lo) n (zaE g f) m=false from by unfold zaW;rw [i,j,zoM B];rfl]
    exact zmU hi lo g f n m w p o y A i j (by omega)
theorem zlZ (x:Nat) (h:x<18446744073709551616):bits .and .u64 (x:Int) 1=((x % 2:Nat):Int):=by
 rw [show (1:Int)=((1:Nat):Int) from rfl,u64_and_nat x 1 h (by decide),Nat.and_one_is_mod]
theorem zlX (x j:Nat) (h:x<18446744073709551616):wrap64 (bits .and .u64 ((x:Int)/2^j) 1)=((x/2^j % 2:Nat):Int):=by
 have e:((x:Int)/2^j)=((x/2^j:Nat):Int):=by simp
 rw [e,zlZ _ (Nat.lt_of_le_of_lt (Nat.div_le_self _ _) h)]
 have:x/2^j % 2<2:=Nat.mod_lt _ (by decide)
 unfold wrap64;omega
theorem znL (hi lo:Nat) (n:Int) (k:Nat) (w:World) (o:hi<18446744073709551616) (g:lo<18446744073709551616) (p:k<128):
  Calls Tryz.prog 103 #[.agg #[.int .u64 hi,.int .u64 lo,.int .i64 n],.int .i64 k] w fun e w'=>e= .returned (.int .i64 (bitW (zaE hi lo) k:Nat))∧Below w.heap.size w w':=by
 by_cases i:k<64
 ·have f:Hid (wrap64 (bits .and .u64 ((hi:Int)/2^(63 - k)) 1)=(bitW (zaE hi lo) k:Nat)):=by
   show _=_
   rw [zlX _ _ o,bit_hi (show lo<2^64 from g) k i]
  go_enter Tryz.func103,Tryz.ntmps103
  go_wp2
  all_goals go_ret
  all_goals exact ⟨retV (show Value.int .i64 _=_ by rw [f.out]),(zoO _ _).alloc (zoL _) _⟩
 ·have j:64≤k:=by omega
  have f:Hid (wrap64 (bits .and .u64 ((lo:Int)/2^(127 - k)) 1)=(bitW (zaE hi lo) k:Nat)):=by
   show _=_
   rw [zlX _ _ g,bit_lo (hi:=hi) k j p]
  clear i
  go_enter Tryz.func103,Tryz.ntmps103
  go_wp2
  all_goals go_ret
  all_goals exact ⟨retV (show Value.int .i64 _=_ by rw [f.out]),(zoO _ _).alloc (zoL _) _⟩
end
end Go.Proofs.YteajemblhlbfpaaGreatDoor
