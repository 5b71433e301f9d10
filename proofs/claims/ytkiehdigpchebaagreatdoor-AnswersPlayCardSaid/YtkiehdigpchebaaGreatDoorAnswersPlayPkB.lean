/-
  What the law AnswersPlay leans on, and its walk (2 of 22).
-/
import Derived.Test.YtkiehdigpchebaaGreatDoorChecked
import Derived.WalkKit
import Derived.WalkLawsBesides
import Derived.BigQuiet
import Derived.Deep.QuietTactic
import Derived.Deep.RegionHeld3
import Derived.Deep.DeepCutAuto
import Derived.Lib.Hide
import Derived.Lib.OthersKept
namespace Go.Proofs.YtkiehdigpchebaaGreatDoor
set_option maxRecDepth 100000
set_option maxHeartbeats 16000000
theorem tkB {P : Program} {p : Region.Mode} {f : Array Oper} {Q : Exit → Act → World → Prop} {S : World → Prop} (i : Nat) (s : Option Nat) {C : Op} {E : TypeId} {o : String} {G : _} {y : _} {v : Value} {fuel : Nat} {d : Array Bool} {a : Act} {w : World} (hi : f[i]? = some ⟨s, C, E, o, G, y⟩)
 (I : YieldsIf P f S ⟨s, C, E, o, G, y⟩ v a) (N : S w)
 (h : wpAnyH P p f Q S fuel (d.setIfInBounds i true) (a.put s v) w)
 (H : Region.noSelect f = true := by kernel_rfl) (J : Region.free p f d i = true := by kernel_rfl) (O : (Region.ready p f d).contains i = true := by kernel_rfl)
 (K : ∀ c a w, Q (.panic c) (a.put s v) w → Q (.panic c) a w := by exact fun _ _ _ h => h) : wpAnyH P p f Q S (fuel + 1) d a w :=
 wpAnyH_take hi H J O K I N h
theorem tkBa {α : Type _} (l : List α) (i : Nat) (a : α) : l.toArray.setIfInBounds i a = (l.set i a).toArray := List.setIfInBounds_toArray ..
theorem tkBb {α : Type _} (x y : α) (l : List α) : (x :: l).set 0 y = y :: l := rfl
theorem tkBc {α : Type _} (x y : α) (l : List α) (n : Nat) : (x :: l).set (n + 1) y = x :: l.set n y := rfl
abbrev zpY := @Nat.le_refl
abbrev zpZ := @decide_eq_false
abbrev zqA := @decide_eq_true
abbrev zqB := @Go.RowKit.Below.refl
section
open Go.RowKit
def zaH (hi lo:Nat):Nat:=hi*2^64+lo
def bitW (W i:Nat):Nat:=W/2^(127 - i) % 2
def ofW (W n:Nat):Nat:=W/2^(128 - n)*2^(128 - n)
def rightW (W n:Nat):Prop:=n≤128∧W % 2^(128 - n)=0
theorem zoA {hi lo:Nat} (l:lo<2^64):zaH hi lo/2^64=hi:=by unfold zaH;omega
theorem bit_hi {hi lo:Nat} (l:lo<2^64) (i:Nat) (h:i<64):hi/2^(63 - i) % 2=bitW (zaH hi lo) i:=by
 unfold bitW
 rw [show 127 - i=64+(63 - i) from by omega,Nat.pow_add,←Nat.div_div_eq_div_mul,zoA l]
theorem bit_lo {hi lo:Nat} (i:Nat) (h:64≤i) (d:i<128):lo/2^(127 - i) % 2=bitW (zaH hi lo) i:=by
 unfold bitW zaH
 have e:hi*2^64=2^(127 - i)*(hi*2^(i - 64)*2):=by
  rw [show (2:Nat)^64=2^(127 - i)*(2^(i - 64)*2) from by rw [←Nat.pow_succ,←Nat.pow_add];congr 1;omega]
  rw [Nat.mul_left_comm,Nat.mul_assoc]
 rw [e,Nat.add_comm,Nat.add_mul_div_left _ _ (Nat.pow_pos (by decide)),Nat.add_mul_mod_self_right]
theorem znW (W i:Nat):bitW W i=0∨bitW W i=1:=by unfold bitW;omega
theorem zoP (X i:Nat) (h:i<128):X/2^(128 - (i+1))=2*(X/2^(128 - i))+bitW X i:=by
 unfold bitW
 rw [show 128 - (i+1)=127 - i from by omega,show 128 - i=(127 - i)+1 from by omega,Nat.pow_succ,←Nat.div_div_eq_div_mul]
 omega
theorem zpK (W n:Nat):ofW W n/2^(128 - n)=W/2^(128 - n):=Nat.mul_div_cancel _ (Nat.pow_pos (by decide))
theorem ofW_le (W n:Nat):ofW W n≤W:=Nat.div_mul_le_self _ _
theorem znR {W n:Nat} (h:rightW W n):ofW W n=W:=by
 unfold ofW
 have:=Nat.div_add_mod W (2^(128 - n))
 rw [h.2,Nat.add_zero,Nat.mul_comm] at this
 exact this
def qt (X n:Nat):Nat:=X/2^(128 - n)
def zaM (W:Nat) (n:Int):Bool:=decide (0≤n∧n≤128∧W % 2^(128 - n.toNat)=0)
def zaX (P:Nat) (n:Int) (Q:Nat) (m:Int):Bool:=zaM P n&&(zaM Q m&&(decide (n≤m)&&decide (qt P n.toNat=qt Q n.toNat)))
theorem zpF (X n:Nat) (h:n<128):qt X (n+1)=2*qt X n+bitW X n:=zoP X n h
theorem qt_lt {X:Nat} (h:X<2^128):qt X 0=0:=Nat.div_eq_of_lt h
def rt (W n:Nat):Prop:=W % 2^(128 - n)=0
theorem zpQ {W n:Nat} (h:rt W n):W=qt W n*2^(128 - n):=by
 unfold rt at h;unfold qt
 have:=Nat.div_add_mod W (2^(128 - n))
 rw [h,Nat.add_zero,Nat.mul_comm] at this
 exact this.symm
theorem zpE {W P n:Nat} (h:rt W n) (d:rt P n) (e:qt W n=qt P n):W=P:=by rw [zpQ h,zpQ d,e]
theorem zdJ {W n:Nat}:zaM W n=true↔n≤128∧rt W n:=by
 unfold zaM rt;rw [decide_eq_true_iff]
 constructor
 ·rintro ⟨_,f,d⟩;exact ⟨by omega,by simpa using d⟩
 ·rintro ⟨f,d⟩;exact ⟨by omega,by omega,by simpa using d⟩
theorem zpR (X n:Nat):rt (ofW X n) n:=Nat.mul_mod_left _ _
theorem qt_of (X n:Nat):qt (ofW X n) n=qt X n:=zpK X n
def zbT (W P:Nat):Nat→Nat→Nat
 |i,0=>i
 |i,f+1=>if bitW W i=bitW P i then zbT W P (i+1) f else i
def zcN (W n P k:Nat):Nat:=zbT W P 0 (min n k)
def pfV (hi lo:Nat) (n:Int):Value:= .agg #[.int .u64 (hi:Int),.int .u64 (lo:Int),.int .i64 n]
def hiN (W:Nat):Nat:=W/18446744073709551616
def loN (W:Nat):Nat:=W % 18446744073709551616
def pfW (W:Nat) (n:Int):Value:=pfV (hiN W) (loN W) n
theorem zcS (W:Nat):zaH (hiN W) (loN W)=W:=by unfold zaH hiN loN;omega
theorem hiN_lt {W:Nat} (h:W<2^128):hiN W<18446744073709551616:=by unfold hiN;omega
theorem loN_lt (W:Nat):loN W<18446744073709551616:=by unfold loN;omega
theorem zbW {hi lo:Nat} (l:lo<18446744073709551616):hiN (zaH hi lo)=hi:=by unfold zaH hiN;omega
theorem zcK {hi lo:Nat} (l:lo<18446744073709551616):loN (zaH hi lo)=lo:=by unfold zaH loN;omega
theorem zpW {hi lo:Nat} (h:hi<18446744073709551616) (l:lo<18446744073709551616):zaH hi lo<2^128:=by unfold zaH;omega
theorem znX {hi lo:Nat} (l:lo<18446744073709551616) (n:Int):pfW (zaH hi lo) n=pfV hi lo n:=by unfold pfW;rw [zbW l,zcK l]
theorem ziJ {W P:Nat} (f:hiN W=hiN P) (d:loN W=loN P):W=P:=by rw [←zcS W,←zcS P,f,d]
def zdM (k:Nat):Nat:=2^64 - 2^(64 - k)
theorem zeR {k:Nat} (h:k≤64):2^k*2^(64 - k)=18446744073709551616:=by rw [←Nat.pow_add,show k+(64 - k)=64 from by omega]
theorem zoS (k:Nat):zdM k<18446744073709551616:=by
 have:0<2^(64 - k):=Nat.pow_pos (by decide)
 unfold zdM;omega
theorem zoF {k:Nat} (h:k≤64):18446744073709551615/2^k=2^(64 - k) - 1:=by
 have e:=zeR h
 have d:0<2^k:=Nat.pow_pos (by decide)
 have f:0<2^(64 - k):=Nat.pow_pos (by decide)
 generalize 2^k=a at*
 generalize 2^(64 - k)=b at*
 obtain ⟨c,rfl⟩: ∃c,b=c+1:=⟨b - 1,by omega⟩
 rw [Nat.mul_add,Nat.mul_one] at e
 rw [show 18446744073709551615=a*c+(a - 1) from by omega,Nat.mul_add_div d,Nat.div_eq_of_lt (by omega)]
 omega
theorem xor64u (n:Nat) (o:n≤18446744073709551615):bits .xor .u64 IntKind.u64.max (n:Int)=((18446744073709551615 - n:Nat):Int):=by
 have d:n<2^64:=by omega
 have f:BitVec.ofInt 64 18446744073709551615=BitVec.allOnes 64:=by decide
 show IntKind.u64.wrap (((BitVec.ofInt 64 18446744073709551615)^^^(BitVec.ofInt 64 (n:Int))).toNat:Int)=_
 rw [f,BitVec.allOnes_xor,BitVec.toNat_not,BitVec.ofInt_natCast,BitVec.toNat_ofNat,Nat.mod_eq_of_lt d,IntKind.wrap_u64]
 omega
theorem zoV {k:Nat} (h:k≤64):bits .xor .u64 IntKind.u64.max ((18446744073709551615:Int)/2^k)=(zdM k:Int):=by
 have e:((18446744073709551615:Int)/2^k)=((18446744073709551615/2^k:Nat):Int):=by simp
 have d:0<2^(64 - k):=Nat.pow_pos (by decide)
 have f:2^(64 - k)≤2^64:=Nat.pow_le_pow_right (by decide) (by omega)
 rw [e,zoF h,xor64u _ (by omega)]
 unfold zdM
 congr 1;omega
theorem zhJ (x k:Nat) (d:x<18446744073709551616):bits .and .u64 (x:Int) (zdM k:Int)=((x/2^(64 - k)*2^(64 - k):Nat):Int):=by
 rw [u64_and_nat x (zdM k) d (zoS k)]
 congr 1
 have f:zdM k=(2^(64 - (64 - k)) - 1)*2^(64 - k):=by
  have:=zeR (k:=64 - (64 - k)) (by omega)
  rw [show 64 - (64 - (64 - k))=64 - k from by omega] at this
  rw [Nat.sub_mul,this,Nat.one_mul];rfl
 apply Nat.eq_of_testBit_eq
 intro j
 rw [Nat.testBit_and,f,Nat.testBit_mul_two_pow,Nat.testBit_mul_two_pow,Nat.testBit_two_pow_sub_one,Nat.testBit_div_two_pow]
 by_cases h:64 - k≤j
 ·rw [show j - (64 - k)+(64 - k)=j from by omega]
  by_cases o:j<64
  ·simp [h,show j - (64 - k)<64 - (64 - k) from by omega]
  ·have:x.testBit j=false:=Nat.testBit_lt_two_pow (Nat.lt_of_lt_of_le d (by rw [show 18446744073709551616=2^64 from by decide];exact Nat.pow_le_pow_right (by decide) (by omega)))
   simp [this]
 ·simp [h]
theorem zoL {hi lo:Nat} (l:lo<18446744073709551616) {n:Nat} (y:n≤128):
  hiN (ofW (zaH hi lo) n)=hi/2^(64 - n)*2^(64 - n)∧loN (ofW (zaH hi lo) n)=lo/2^(64 - (n - 64))*2^(64 - (n - 64)):=by
 unfold ofW
 rcases Nat.lt_or_ge 64 n with h|h
 ·have e:(18446744073709551616:Nat)=2^(128 - n)*2^(n - 64):=by rw [←Nat.pow_add,show 128 - n+(n - 64)=64 from by omega]
  rw [show 64 - n=0 from by omega,show 64 - (n - 64)=128 - n from by omega]
  have d:0<2^(128 - n):=Nat.pow_pos (by decide)
  have f:zaH hi lo/2^(128 - n)*2^(128 - n)=hi*18446744073709551616+lo/2^(128 - n)*2^(128 - n):=by
   have q:zaH hi lo=2^(128 - n)*(2^(n - 64)*hi)+lo:=by
    unfold zaH
    rw [show (2:Nat)^64=18446744073709551616 from by decide,e]
    congr 1
    ac_rfl
   rw [q,Nat.mul_add_div d,Nat.add_mul,e]
   congr 1
   ac_rfl
  have p:lo/2^(128 - n)*2^(128 - n)≤lo:=Nat.div_mul_le_self _ _
  rw [f]
  unfold hiN loN
  simp only [Nat.pow_zero,Nat.div_one,Nat.mul_one]
  constructor<;>omega
 ·have e:(2:Nat)^(128 - n)=18446744073709551616*2^(64 - n):=by rw [show 18446744073709551616=2^64 from by decide,←Nat.pow_add];congr 1;omega
  have o:zaH hi lo/(18446744073709551616*2^(64 - n))=hi/2^(64 - n):=by
   rw [←Nat.div_div_eq_div_mul];congr 1;unfold zaH;omega
  rw [e,o,show n - 64=0 from by omega,Nat.mul_left_comm]
  unfold hiN loN
  constructor
  ·rw [Nat.mul_div_cancel_left _ (by decide)]
  ·rw [Nat.mul_mod_right,Nat.div_eq_of_lt (show lo<2^(64 - 0) from l),Nat.zero_mul]
theorem retV {a b:Value} (h:a=b):Ending.returned a= .returned b:=by rw [h]
theorem ziI (n:Int) (w:World) (o: -9223372036854775808≤n) (f:n≤9223372036854775807):
  Calls Tryz.prog 148 #[.int .i64 n] w fun e w'=>e= .returned (.int .u64 (zdM n.toNat:Nat))∧w=w':=by
 by_cases a:n<0
 ·go_enter Tryz.func148,Tryz.ntmps148
  go_wp2
  all_goals go_ret
  all_goals exact ⟨retV (by rw [show n.toNat=0 from by omega];rfl),rfl⟩
 ·by_cases b:64<n
  ·go_enter Tryz.func148,Tryz.ntmps148
   go_wp2
   all_goals go_ret
   all_goals exact ⟨retV (by unfold zdM;rw [show 64 - n.toNat=0 from by omega];rfl),rfl⟩
  ·obtain ⟨k,rfl⟩:=Int.eq_ofNat_of_zero_le (show 0≤n by omega)
   have p:k≤64:=by omega
   have d:=Lib.hid (zoV p)
   clear a b o f
   go_enter Tryz.func148,Tryz.ntmps148
   go_wp2
   all_goals go_ret
   all_goals exact ⟨retV (show Value.int .u64 _=_ by rw [d.out]),rfl⟩
theorem zdL (hi lo n:Nat) (w:World) (I:hi<18446744073709551616) (o:lo<18446744073709551616) (C:n≤128):
  Calls Tryz.prog 108 #[.int .u64 hi,.int .u64 lo,.int .i64 n] w fun e w'=>e= .returned (pfW (ofW (zaH hi lo) n) n)∧Below w.heap.size w w':=by
 obtain ⟨p,d⟩:=zoL (hi:=hi) o C
 have H:Hid (pfW (ofW (zaH hi lo) n) n= .agg #[.int .u64 ((hi/2^(64 - n)*2^(64 - n):Nat):Int),.int .u64 ((lo/2^(64 - (n - 64))*2^(64 - (n - 64)):Nat):Int),.int .i64 n]):=by
  show pfV _ _ _=_
  rw [p,d];rfl
 have f:((n:Int) - 64).toNat=n - 64:=by omega
 have G:=Lib.hid f
 have J:=Lib.hid (zhJ hi n I)
 have E:=Lib.hid (zhJ lo (n - 64) o)
 clear p d f
 go_enter Tryz.func108,Tryz.ntmps108
 go_wp2_with fail
 refine (ziI _ _ (by omega) (by omega)).mono ?_
 rintro e y ⟨rfl,rfl⟩
 rw [Int.toNat_natCast]
 go_wp2_with fail
 refine (ziI _ _ (by omega) (by omega)).mono ?_
 rintro e y ⟨rfl,rfl⟩
 rw [G.out]
 go_wp2
 refine bodyPost_ret (v:= .agg #[.int .u64 (bits .and .u64 (hi:Int) (zdM n:Nat)),.int .u64 (bits .and .u64 (lo:Int) (zdM (n - 64):Nat)),.int .i64 n]) (by simp [results,Tryz.results108,go_sem]) rfl ⟨?_,?_⟩
 ·rw [H.out,J.out,E.out]
 ·exact ((zqB _ _).alloc (zpY _) _)
theorem zdT (u v:Array Value): ∀(p q:Operand) (W:World),(eqGuard .eql 151 p q (.agg u) (.agg v)).run Tryz.prog W= .ok () W:=by
 intro p q W;kernel_rfl
theorem eqPf (a b c f o d:Int): ∀W:World,(binOp .eql 151 (.agg #[.int .u64 a,.int .u64 b,.int .i64 c]) (.agg #[.int .u64 f,.int .u64 o,.int .i64 d])).run Tryz.prog W= .ok (.bool (a==f&&(b==o&&c==d))) W:=by
 intro W
 have p:(Op.equal 151 (.agg #[.int .u64 a,.int .u64 b,.int .i64 c]) (.agg #[.int .u64 f,.int .u64 o,.int .i64 d])).run Tryz.prog W= .ok (a==f&&(b==o&&c==d)) W:=by
  show (Op.equalIn 10000 151 _ _).run Tryz.prog W=_
  rw [run_equalIn_struct W 9999 151 _ _ (by kernel_rfl) (by kernel_rfl)]
  simp [Program.fieldsOf,Tryz.underlying151,Op.eqFields,go_sem,part,Tryz.sizeOf70,Tryz.isAgg70,Tryz.underlying70,Tryz.sizeOf3,Tryz.isAgg3,Tryz.underlying3]
  by_cases C:a=f<;>by_cases E:b=o<;>by_cases y:c=d<;>simp [C,E,y]
 show ((Op.equal _ _ _>>=fun b=>pure (Value.bool b)):Sem Value).run _ _=_
 rw [Sem.run_bind,p];rfl
theorem zoE (w:World) (a b c:Value) (t:TypeId): ∀W,Below (w.heap.size+1) (w.alloc (.cells #[a,b,c] t)) W→W.cell? ⟨w.heap.size,0,none⟩=some a∧W.cell? ⟨w.heap.size,1,none⟩=some b∧W.cell? ⟨w.heap.size,2,none⟩=some c:=fun W h=>by
 refine ⟨?_,?_,?_⟩
 all_goals
  rw [h.cell (p:=⟨w.heap.size,_,none⟩) (by show w.heap.size<_;omega)]
  simp [go_sem]
theorem zcC {w W:World} {o:Obj} (h:Below (w.heap.size+1) (w.alloc o) W):Below w.heap.size w W:=
 ((zqB _ _).alloc (zpY _) o).trans (h.mono (Nat.le_succ _))
theorem zgC {x:World} {n:Nat}:Below n x x.drew:=(zqB _ _).drew
theorem zoY {x:World} {n k:Nat}:Below n x (x.drewN k):=⟨rfl,rfl,rfl,zpY _,fun _ _=>rfl⟩
theorem zbE {x W:World} {n:Nat} (d:n≤x.heap.size) (h:Below x.drew.heap.size x.drew W):Below n x W:=(zqB _ _).drew.trans (h.mono d)
theorem zbK {x y W:World} {n:Nat} (d:n≤x.heap.size) (h:Below n x y) (f:Below y.heap.size y W):Below n x W:=h.trans (f.mono (Nat.le_trans d h.size))
theorem zoR (hi lo n:Nat) (w:World) (K:hi<18446744073709551616) (f:lo<18446744073709551616) (C:n≤128):
  Calls Tryz.prog 83 #[.agg #[.int .u64 hi,.int .u64 lo,.int .i64 n]] w fun e w'=>e= .returned (.bool (zaM (zaH hi lo) n))∧Below w.heap.size w w':=by
 obtain ⟨E,p⟩: ∃x,hiN (ofW (zaH hi lo) n)=x:=⟨_,rfl⟩
 obtain ⟨G,y⟩: ∃x,loN (ofW (zaH hi lo) n)=x:=⟨_,rfl⟩
 have J:Hid (∀W,Calls Tryz.prog 108 #[.int .u64 hi,.int .u64 lo,.int .i64 n] W fun e w'=>e= .returned (.agg #[.int .u64 E,.int .u64 G,.int .i64 n])∧Below W.heap.size W w'):=fun W=>by
  have:=zdL hi lo n W K f C
  unfold pfW at this
  rw [p,y] at this
  exact this
 have I:((E:Int)==hi&&((G:Int)==lo&&(n:Int)==n))=zaM (zaH hi lo) n:=by
  rw [Bool.eq_iff_iff,zdJ]
  simp only [Bool.and_eq_true,beq_iff_eq,and_true]
  constructor
  ·rintro ⟨a,b⟩
   refine ⟨C,?_⟩
   have:ofW (zaH hi lo) n=zaH hi lo:=ziJ (by rw [p,zbW f];omega) (by rw [y,zcK f];omega)
   rw [←this];exact zpR _ _
  ·rintro ⟨_,b⟩
   have:ofW (zaH hi lo) n=zaH hi lo:=znR ⟨C,b⟩
   rw [this,zbW f] at p
   rw [this,zcK f] at y
   omega
 have H:=eqPf E G n hi lo n
 rw [I] at H
 have R:=zdT
 have o:=Lib.hid (zoE w (.int .u64 hi) (.int .u64 lo) (.int .i64 n) 151)
 have S:decide ((0:Int)≤n)=true:=zqA (by omega)
 have O:decide ((n:Int)≤128)=true:=zqA (by omega)
 clear p y I
 generalize zaM (zaH hi lo) n=b at*
 go_enter Tryz.func83,Tryz.ntmps83
 go_wp2
 go_region_held3 (fun W=>W.cell? ⟨w.heap.size,0,none⟩=some (.int .u64 hi)∧W.cell? ⟨w.heap.size,1,none⟩=some (.int .u64 lo)∧W.cell? ⟨w.heap.size,2,none⟩=some (.int .i64 n))
  (first|exact o.out _ zgC|exact o.out _ (zbE (by simp) d))
  (first
   |(go_simp;go_at_call 108;((with_reducible refine (J.out _).mono ?_);rintro e N ⟨rfl,d⟩)))
 go_wp2
 go_ret
 exact ⟨rfl,zcC (zbE (by simp) d)⟩
theorem zlM (hi lo:Nat) (n:Int) (w:World) (d:n<0∨128<n):
  Calls Tryz.prog 83 #[.agg #[.int .u64 hi,.int .u64 lo,.int .i64 n]] w fun e w'=>e= .returned (.bool false)∧Below w.heap.size w w':=by
 by_cases p:n<0
 ·have f:decide ((0:Int)≤n)=false:=zpZ (by omega)
  clear d
  go_enter Tryz.func83,Tryz.ntmps83
  go_wp2
  go_quiet (fail)
  go_wp2
  go_ret
  exact ⟨rfl,zcC zoY⟩
 ·have f:decide ((0:Int)≤n)=true:=zqA (by omega)
  have o:decide (n≤128)=false:=zpZ (by omega)
  clear d
  go_enter Tryz.func83,Tryz.ntmps83
  go_wp2
  go_quiet (fail)
  go_wp2
  go_ret
  exact ⟨rfl,zcC zoY⟩
theorem zgT {W:Nat} {n:Int} (h:n<0∨128<n):zaM W n=false:=by unfold zaM;rw [decide_eq_false_iff_not];omega
theorem ziY {W:Nat} {n:Int} (h:zaM W n=true):0≤n∧n≤128:=by unfold zaM at h;rw [decide_eq_true_iff] at h;omega
theorem zaS (hi lo:Nat) (n:Int) (w:World) (f:hi<18446744073709551616) (d:lo<18446744073709551616):
  Calls Tryz.prog 83 #[.agg #[.int .u64 hi,.int .u64 lo,.int .i64 n]] w fun e w'=>e= .returned (.bool (zaM (zaH hi lo) n))∧Below w.heap.size w w':=by
 by_cases h:n<0∨128<n
 ·rw [zgT h];exact zlM hi lo n w h
 ·obtain ⟨k,rfl⟩:=Int.eq_ofNat_of_zero_le (show 0≤n by omega)
  exact zoR hi lo k w f d (by omega)
theorem zcG (w:World) (a b c f o d:Value) (t:TypeId): ∀W,Below (w.heap.size+2) ((w.alloc (.cells #[a,b,c] t)).alloc (.cells #[f,o,d] t)) W→
  (W.cell? ⟨w.heap.size,0,none⟩=some a∧W.cell? ⟨w.heap.size,1,none⟩=some b∧W.cell? ⟨w.heap.size,2,none⟩=some c)∧W.cell? ⟨w.heap.size+1,0,none⟩=some f∧W.cell? ⟨w.heap.size+1,1,none⟩=some o∧W.cell? ⟨w.heap.size+1,2,none⟩=some d:=fun W h=>by
 refine ⟨⟨?_,?_,?_⟩,?_,?_,?_⟩
 ·rw [h.cell (p:=⟨w.heap.size,_,none⟩) (by show w.heap.size<_;omega)];simp [go_sem]
 ·rw [h.cell (p:=⟨w.heap.size,_,none⟩) (by show w.heap.size<_;omega)];simp [go_sem]
 ·rw [h.cell (p:=⟨w.heap.size,_,none⟩) (by show w.heap.size<_;omega)];simp [go_sem]
 ·rw [h.cell (p:=⟨w.heap.size+1,_,none⟩) (by show w.heap.size+1<_;omega)];simp [go_sem]
 ·rw [h.cell (p:=⟨w.heap.size+1,_,none⟩) (by show w.heap.size+1<_;omega)];simp [go_sem]
 ·rw [h.cell (p:=⟨w.heap.size+1,_,none⟩) (by show w.heap.size+1<_;omega)];simp [go_sem]
theorem zbD {w W:World} {o d:Obj} (h:Below (w.heap.size+2) ((w.alloc o).alloc d) W):Below w.heap.size w W:=
 (((zqB _ _).alloc (zpY _) o).alloc (by simp) d).trans (h.mono (by omega))
theorem zoO (hi lo y p:Nat) (n m:Int) (w:World) (O:hi<18446744073709551616) (N:lo<18446744073709551616) (_:y<18446744073709551616) (_:p<18446744073709551616) (J:zaM (zaH hi lo) n=false):
  Calls Tryz.prog 110 #[.agg #[.int .u64 hi,.int .u64 lo,.int .i64 n],.agg #[.int .u64 y,.int .u64 p,.int .i64 m]] w fun e w'=>e= .returned (.bool false)∧Below w.heap.size w w':=by
 have G:=Lib.hid (zcG w (.int .u64 hi) (.int .u64 lo) (.int .i64 n) (.int .u64 y) (.int .u64 p) (.int .i64 m) 151)
 have H:Hid (∀W,Calls Tryz.prog 83 #[.agg #[.int .u64 hi,.int .u64 lo,.int .i64 n]] W fun e w'=>e= .returned (.bool false)∧Below W.heap.size W w'):=fun W=>by
  have:=zaS hi lo n W O N;rwa [J] at this
 clear J O N
 go_enter Tryz.func110,Tryz.ntmps110
 go_wp2
 refine wp_region_held_drew (S:=fun W=>(W.cell? ⟨w.heap.size,0,none⟩=some (.int .u64 hi)∧W.cell? ⟨w.heap.size,1,none⟩=some (.int .u64 lo)∧W.cell? ⟨w.heap.size,2,none⟩=some (.int .i64 n))∧W.cell? ⟨w.heap.size+1,0,none⟩=some (.int .u64 y)∧W.cell? ⟨w.heap.size+1,1,none⟩=some (.int .u64 p)∧W.cell? ⟨w.heap.size+1,2,none⟩=some (.int .i64 m)) (by kernel_rfl) ?_ (fun C=> ?_)
 ·exact G.out _ zgC
 refine tkB 0 (some 5) (v:= ?_) rfl (.inl ⟨by rfl,?_⟩) C ?_;rotate_left;·intro w f;(try dsimp only at f);go_simp;try with_reducible rfl
 try simp only [Act.put,tkBa,tkBb,tkBc]
 refine wpAnyH_ready (rs:=[1]) (by kernel_rfl) (by simp) ?_
 refine AllReadyH.cons (o:=⟨some 6,_,_,_,_,_⟩) rfl (fun K I=> ?_) AllReadyH.nil
 go_simp
 go_at_call 83
 refine (H.out _).mono ?_
 rintro e R ⟨rfl,E⟩
 (try go_wp2_with fail)
 refine I.out _ _ ?_ (fun d=> ?_)
 ·exact G.out _ (zbE (by simp) E)
 clear I K
 try simp only [Act.put,tkBa,tkBb,tkBc]
 refine tkB 2 (some 7) (v:= ?_) rfl (.inl ⟨by rfl,?_⟩) d ?_;rotate_left;·intro w f;(try dsimp only at f);go_simp;try with_reducible rfl
 try simp only [Act.put,tkBa,tkBb,tkBc]
 refine tkB 3 (some 8) (v:=undef) rfl (.inr ⟨by rfl,rfl⟩) d ?_
 try simp only [Act.put,tkBa,tkBb,tkBc]
 refine tkB 4 (some 9) (v:=undef) rfl (.inr ⟨by rfl,rfl⟩) d ?_
 try simp only [Act.put,tkBa,tkBb,tkBc]
 refine tkB 5 (some 10) (v:= ?_) rfl (.inl ⟨by rfl,?_⟩) d ?_;rotate_left;·intro w f;(try dsimp only at f);go_simp;try with_reducible rfl
 try simp only [Act.put,tkBa,tkBb,tkBc]
 refine tkB 6 (some 11) (v:= ?_) rfl (.inl ⟨by rfl,?_⟩) d ?_;rotate_left;·intro w f;(try dsimp only at f);go_simp;try with_reducible rfl
 try simp only [Act.put,tkBa,tkBb,tkBc]
 refine tkB 7 (some 12) (v:=undef) rfl (.inr ⟨by rfl,rfl⟩) d ?_
 try simp only [Act.put,tkBa,tkBb,tkBc]
 refine tkB 8 (some 13) (v:=undef) rfl (.inr ⟨by rfl,rfl⟩) d ?_
 try simp only [Act.put,tkBa,tkBb,tkBc]
 refine tkB 9 (some 14) (v:=undef) rfl (.inr ⟨by rfl,rfl⟩) d ?_
 try simp only [Act.put,tkBa,tkBb,tkBc]
 refine tkB 10 (some 15) (v:=undef) rfl (.inr ⟨by rfl,rfl⟩) d ?_
 try simp only [Act.put,tkBa,tkBb,tkBc]
 refine tkB 11 (some 16) (v:=undef) rfl (.inr ⟨by rfl,rfl⟩) d ?_
 try simp only [Act.put,tkBa,tkBb,tkBc]
 refine tkB 12 (some 17) (v:= ?_) rfl (.inl ⟨by rfl,?_⟩) d ?_;rotate_left;·intro w f;(try dsimp only at f);go_simp;try with_reducible rfl
 try simp only [Act.put,tkBa,tkBb,tkBc]
 refine tkB 13 (some 18) (v:= ?_) rfl (.inl ⟨by rfl,?_⟩) d ?_;rotate_left;·intro w f;(try dsimp only at f);go_simp;try with_reducible rfl
 try simp only [Act.put,tkBa,tkBb,tkBc]
 refine tkB 14 (some 19) (v:=undef) rfl (.inr ⟨by rfl,rfl⟩) d ?_
 try simp only [Act.put,tkBa,tkBb,tkBc]
 refine tkB 15 (some 20) (v:=undef) rfl (.inr ⟨by rfl,rfl⟩) d ?_
 try simp only [Act.put,tkBa,tkBb,tkBc]
 refine tkB 16 (some 21) (v:=undef) rfl (.inr ⟨by rfl,rfl⟩) d ?_
 try simp only [Act.put,tkBa,tkBb,tkBc]
 refine tkB 17 (some 22) (v:=undef) rfl (.inr ⟨by rfl,rfl⟩) d ?_
 try simp only [Act.put,tkBa,tkBb,tkBc]
 refine tkB 18 (some 23) (v:=undef) rfl (.inr ⟨by rfl,rfl⟩) d ?_
 try simp only [Act.put,tkBa,tkBb,tkBc]
 refine tkB 19 (some 24) (v:=undef) rfl (.inr ⟨by rfl,rfl⟩) d ?_
 try simp only [Act.put,tkBa,tkBb,tkBc]
 refine tkB 20 (some 25) (v:=undef) rfl (.inr ⟨by rfl,rfl⟩) d ?_
 try simp only [Act.put,tkBa,tkBb,tkBc]
 refine tkB 21 (some 26) (v:=undef) rfl (.inr ⟨by rfl,rfl⟩) d ?_
 try simp only [Act.put,tkBa,tkBb,tkBc]
 refine tkB 22 (some 27) (v:=undef) rfl (.inr ⟨by rfl,rfl⟩) d ?_
 try simp only [Act.put,tkBa,tkBb,tkBc]
 refine tkB 23 (some 28) (v:= ?_) rfl (.inl ⟨by rfl,?_⟩) d ?_;rotate_left;·intro w f;(try dsimp only at f);go_simp;try with_reducible rfl
 try simp only [Act.put,tkBa,tkBb,tkBc]
 refine tkB 24 (some 4) (v:= ?_) rfl (.inl ⟨by rfl,?_⟩) d ?_;rotate_left;·intro w f;(try dsimp only at f);go_simp;try with_reducible rfl
 try simp only [Act.put,tkBa,tkBb,tkBc]
 refine wpAnyH_done (by kernel_rfl) ?_ _
 go_wp2
 go_ret
 exact ⟨by first|rfl|(simp;done)|kernel_rfl|(simp [Act.put];done),zbD (zbE (by simp) E)⟩
theorem znP (hi lo y p:Nat) (n m:Int) (w:World) (h1:hi<18446744073709551616) (Z:lo<18446744073709551616) (U:y<18446744073709551616) (V:p<18446744073709551616) (Y:zaM (zaH hi lo) n=true) (R:zaM (zaH y p) m=false):
  Calls Tryz.prog 110 #[.agg #[.int .u64 hi,.int .u64 lo,.int .i64 n],.agg #[.int .u64 y,.int .u64 p,.int .i64 m]] w fun e w'=>e= .returned (.bool false)∧Below w.heap.size w w':=by
 have G:=Lib.hid (zcG w (.int .u64 hi) (.int .u64 lo) (.int .i64 n) (.int .u64 y) (.int .u64 p) (.int .i64 m) 151)
 have O:Hid (∀W,Calls Tryz.prog 83 #[.agg #[.int .u64 hi,.int .u64 lo,.int .i64 n]] W fun e w'=>e= .returned (.bool true)∧Below W.heap.size W w'):=fun W=>by
  have:=zaS hi lo n W h1 Z;rwa [Y] at this
 have N:Hid (∀W,Calls Tryz.prog 83 #[.agg #[.int .u64 y,.int .u64 p,.int .i64 m]] W fun e w'=>e= .returned (.bool false)∧Below W.heap.size W w'):=fun W=>by
  have:=zaS y p m W U V;rwa [R] at this
 clear Y R h1 Z U V
 go_enter Tryz.func110,Tryz.ntmps110
 go_wp2
 refine wp_region_held_drew (S:=fun W=>(W.cell? ⟨w.heap.size,0,none⟩=some (.int .u64 hi)∧W.cell? ⟨w.heap.size,1,none⟩=some (.int .u64 lo)∧W.cell? ⟨w.heap.size,2,none⟩=some (.int .i64 n))∧W.cell? ⟨w.heap.size+1,0,none⟩=some (.int .u64 y)∧W.cell? ⟨w.heap.size+1,1,none⟩=some (.int .u64 p)∧W.cell? ⟨w.heap.size+1,2,none⟩=some (.int .i64 m)) (by kernel_rfl) ?_ (fun H=> ?_)
 ·exact G.out _ zgC
 refine tkB 0 (some 5) (v:= ?_) rfl (.inl ⟨by rfl,?_⟩) H ?_;rotate_left;·intro w f;(try dsimp only at f);go_simp;try with_reducible rfl
 try simp only [Act.put,tkBa,tkBb,tkBc]
 refine wpAnyH_ready (rs:=[1]) (by kernel_rfl) (by simp) ?_
 refine AllReadyH.cons (o:=⟨some 6,_,_,_,_,_⟩) rfl (fun K I=> ?_) AllReadyH.nil
 go_simp
 go_at_call 83
 refine (O.out _).mono ?_
 rintro e x1 ⟨rfl,E⟩
 (try go_wp2_with fail)
 refine I.out _ _ ?_ (fun C=> ?_)
 ·exact G.out _ (zbE (by simp) E)
 clear I K
 try simp only [Act.put,tkBa,tkBb,tkBc]
 refine tkB 2 (some 7) (v:= ?_) rfl (.inl ⟨by rfl,?_⟩) C ?_;rotate_left;·intro w f;(try dsimp only at f);go_simp;try with_reducible rfl
 try simp only [Act.put,tkBa,tkBb,tkBc]
 refine tkB 3 (some 8) (v:= ?_) rfl (.inl ⟨by rfl,?_⟩) C ?_;rotate_left;·intro w f;(try dsimp only at f);go_simp;try with_reducible rfl
 try simp only [Act.put,tkBa,tkBb,tkBc]
 refine wpAnyH_ready (rs:=[4]) (by kernel_rfl) (by simp) ?_
 refine AllReadyH.cons (o:=⟨some 9,_,_,_,_,_⟩) rfl (fun K I=> ?_) AllReadyH.nil
 go_simp
 go_at_call 83
 refine (N.out _).mono ?_
 rintro e x2 ⟨rfl,J⟩
 (try go_wp2_with fail)
 refine I.out _ _ ?_ (fun d=> ?_)
 ·exact G.out _ (zbK (by simp) (zbE (by simp) E) J)
 clear I K
 try simp only [Act.put,tkBa,tkBb,tkBc]
 refine tkB 5 (some 10) (v:= ?_) rfl (.inl ⟨by rfl,?_⟩) d ?_;rotate_left;·intro w f;(try dsimp only at f);go_simp;try with_reducible rfl
 try simp only [Act.put,tkBa,tkBb,tkBc]
 refine tkB 6 (some 11) (v:= ?_) rfl (.inl ⟨by rfl,?_⟩) d ?_;rotate_left;·intro w f;(try dsimp only at f);go_simp;try with_reducible rfl
 try simp only [Act.put,tkBa,tkBb,tkBc]
 refine tkB 7 (some 12) (v:=undef) rfl (.inr ⟨by rfl,rfl⟩) d ?_
 try simp only [Act.put,tkBa,tkBb,tkBc]
 refine tkB 8 (some 13) (v:=undef) rfl (.inr ⟨by rfl,rfl⟩) d ?_
 try simp only [Act.put,tkBa,tkBb,tkBc]
 refine tkB 9 (some 14) (v:=undef) rfl (.inr ⟨by rfl,rfl⟩) d ?_
 try simp only [Act.put,tkBa,tkBb,tkBc]
 refine tkB 10 (some 15) (v:=undef) rfl (.inr ⟨by rfl,rfl⟩) d ?_
 try simp only [Act.put,tkBa,tkBb,tkBc]
 refine tkB 11 (some 16) (v:=undef) rfl (.inr ⟨by rfl,rfl⟩) d ?_
 try simp only [Act.put,tkBa,tkBb,tkBc]
 refine tkB 12 (some 17) (v:= ?_) rfl (.inl ⟨by rfl,?_⟩) d ?_;rotate_left;·intro w f;(try dsimp only at f);go_simp;try with_reducible rfl
 try simp only [Act.put,tkBa,tkBb,tkBc]
 refine tkB 13 (some 18) (v:= ?_) rfl (.inl ⟨by rfl,?_⟩) d ?_;rotate_left;·intro w f;(try dsimp only at f);go_simp;try with_reducible rfl
 try simp only [Act.put,tkBa,tkBb,tkBc]
 refine tkB 14 (some 19) (v:=undef) rfl (.inr ⟨by rfl,rfl⟩) d ?_
 try simp only [Act.put,tkBa,tkBb,tkBc]
 refine tkB 15 (some 20) (v:=undef) rfl (.inr ⟨by rfl,rfl⟩) d ?_
 try simp only [Act.put,tkBa,tkBb,tkBc]
 refine tkB 16 (some 21) (v:=undef) rfl (.inr ⟨by rfl,rfl⟩) d ?_
 try simp only [Act.put,tkBa,tkBb,tkBc]
 refine tkB 17 (some 22) (v:=undef) rfl (.inr ⟨by rfl,rfl⟩) d ?_
 try simp only [Act.put,tkBa,tkBb,tkBc]
 refine tkB 18 (some 23) (v:=undef) rfl (.inr ⟨by rfl,rfl⟩) d ?_
 try simp only [Act.put,tkBa,tkBb,tkBc]
 refine tkB 19 (some 24) (v:=undef) rfl (.inr ⟨by rfl,rfl⟩) d ?_
 try simp only [Act.put,tkBa,tkBb,tkBc]
 refine tkB 20 (some 25) (v:=undef) rfl (.inr ⟨by rfl,rfl⟩) d ?_
 try simp only [Act.put,tkBa,tkBb,tkBc]
 refine tkB 21 (some 26) (v:=undef) rfl (.inr ⟨by rfl,rfl⟩) d ?_
 try simp only [Act.put,tkBa,tkBb,tkBc]
 refine tkB 22 (some 27) (v:=undef) rfl (.inr ⟨by rfl,rfl⟩) d ?_
 try simp only [Act.put,tkBa,tkBb,tkBc]
 refine tkB 23 (some 28) (v:= ?_) rfl (.inl ⟨by rfl,?_⟩) d ?_;rotate_left;·intro w f;(try dsimp only at f);go_simp;try with_reducible rfl
 try simp only [Act.put,tkBa,tkBb,tkBc]
 refine tkB 24 (some 4) (v:= ?_) rfl (.inl ⟨by rfl,?_⟩) d ?_;rotate_left;·intro w f;(try dsimp only at f);go_simp;try with_reducible rfl
 try simp only [Act.put,tkBa,tkBb,tkBc]
 refine wpAnyH_done (by kernel_rfl) ?_ _
 go_wp2
 go_ret
 exact ⟨by first|rfl|(simp;done)|kernel_rfl|(simp [Act.put];done),zbD (zbK (by simp) (zbE (by simp) E) J)⟩
theorem zoH (hi lo y p:Nat) (n m:Int) (w:World) (h1:hi<18446744073709551616) (Z:lo<18446744073709551616) (U:y<18446744073709551616) (V:p<18446744073709551616) (Y:zaM (zaH hi lo) n=true) (R:zaM (zaH y p) m=true) (hm:m<n):
  Calls Tryz.prog 110 #[.agg #[.int .u64 hi,.int .u64 lo,.int .i64 n],.agg #[.int .u64 y,.int .u64 p,.int .i64 m]] w fun e w'=>e= .returned (.bool false)∧Below w.heap.size w w':=by
 have G:=Lib.hid (zcG w (.int .u64 hi) (.int .u64 lo) (.int .i64 n) (.int .u64 y) (.int .u64 p) (.int .i64 m) 151)
 have O:Hid (∀W,Calls Tryz.prog 83 #[.agg #[.int .u64 hi,.int .u64 lo,.int .i64 n]] W fun e w'=>e= .returned (.bool true)∧Below W.heap.size W w'):=fun W=>by
  have:=zaS hi lo n W h1 Z;rwa [Y] at this
 have N:Hid (∀W,Calls Tryz.prog 83 #[.agg #[.int .u64 y,.int .u64 p,.int .i64 m]] W fun e w'=>e= .returned (.bool true)∧Below W.heap.size W w'):=fun W=>by
  have:=zaS y p m W U V;rwa [R] at this
 have t1:decide (n≤m)=false:=zpZ (by omega)
 clear Y R h1 Z U V hm
 go_enter Tryz.func110,Tryz.ntmps110
 go_wp2
 refine wp_region_held_drew (S:=fun W=>(W.cell? ⟨w.heap.size,0,none⟩=some (.int .u64 hi)∧W.cell? ⟨w.heap.size,1,none⟩=some (.int .u64 lo)∧W.cell? ⟨w.heap.size,2,none⟩=some (.int .i64 n))∧W.cell? ⟨w.heap.size+1,0,none⟩=some (.int .u64 y)∧W.cell? ⟨w.heap.size+1,1,none⟩=some (.int .u64 p)∧W.cell? ⟨w.heap.size+1,2,none⟩=some (.int .i64 m)) (by kernel_rfl) ?_ (fun H=> ?_)
 ·exact G.out _ zgC
 refine tkB 0 (some 5) (v:= ?_) rfl (.inl ⟨by rfl,?_⟩) H ?_;rotate_left;·intro w f;(try dsimp only at f);go_simp;try with_reducible rfl
 try simp only [Act.put,tkBa,tkBb,tkBc]
 refine wpAnyH_ready (rs:=[1]) (by kernel_rfl) (by simp) ?_
 refine AllReadyH.cons (o:=⟨some 6,_,_,_,_,_⟩) rfl (fun K I=> ?_) AllReadyH.nil
 go_simp
 go_at_call 83
 refine (O.out _).mono ?_
 rintro e x1 ⟨rfl,E⟩
 (try go_wp2_with fail)
 refine I.out _ _ ?_ (fun C=> ?_)
 ·exact G.out _ (zbE (by simp) E)
 clear I K
 try simp only [Act.put,tkBa,tkBb,tkBc]
 refine tkB 2 (some 7) (v:= ?_) rfl (.inl ⟨by rfl,?_⟩) C ?_;rotate_left;·intro w f;(try dsimp only at f);go_simp;try with_reducible rfl
 try simp only [Act.put,tkBa,tkBb,tkBc]
 refine tkB 3 (some 8) (v:= ?_) rfl (.inl ⟨by rfl,?_⟩) C ?_;rotate_left;·intro w f;(try dsimp only at f);go_simp;try with_reducible rfl
 try simp only [Act.put,tkBa,tkBb,tkBc]
 refine wpAnyH_ready (rs:=[4]) (by kernel_rfl) (by simp) ?_
 refine AllReadyH.cons (o:=⟨some 9,_,_,_,_,_⟩) rfl (fun K I=> ?_) AllReadyH.nil
 go_simp
 go_at_call 83
 refine (N.out _).mono ?_
 rintro e x2 ⟨rfl,J⟩
 (try go_wp2_with fail)
 refine I.out _ _ ?_ (fun d=> ?_)
 ·exact G.out _ (zbK (by simp) (zbE (by simp) E) J)
 clear I K
 try simp only [Act.put,tkBa,tkBb,tkBc]
 refine tkB 5 (some 10) (v:= ?_) rfl (.inl ⟨by rfl,?_⟩) d ?_;rotate_left;·intro w f;(try dsimp only at f);go_simp;try with_reducible rfl
 try simp only [Act.put,tkBa,tkBb,tkBc]
 refine tkB 6 (some 11) (v:= ?_) rfl (.inl ⟨by rfl,?_⟩) d ?_;rotate_left;·intro w f;(try dsimp only at f);go_simp;try with_reducible rfl
 try simp only [Act.put,tkBa,tkBb,tkBc]
 refine tkB 7 (some 12) (v:= ?_) rfl (.inl ⟨by rfl,?_⟩) d ?_;rotate_left;·intro w f;(try dsimp only at f);go_simp;try with_reducible rfl
 try simp only [Act.put,tkBa,tkBb,tkBc]
 refine tkB 8 (some 13) (v:= ?_) rfl (.inl ⟨by rfl,?_⟩) d ?_;rotate_left;·intro w f;(try dsimp only at f);go_simp;try with_reducible rfl
 try simp only [Act.put,tkBa,tkBb,tkBc]
 refine tkB 9 (some 14) (v:= ?_) rfl (.inl ⟨by rfl,?_⟩) d ?_;rotate_left;·intro w f;(try dsimp only at f);go_simp;try with_reducible rfl
 try simp only [Act.put,tkBa,tkBb,tkBc]
 refine tkB 10 (some 15) (v:= ?_) rfl (.inl ⟨by rfl,?_⟩) d ?_;rotate_left;·intro w f;(try dsimp only at f);go_simp;try with_reducible rfl
 try simp only [Act.put,tkBa,tkBb,tkBc]
 refine tkB 11 (some 16) (v:= ?_) rfl (.inl ⟨by rfl,?_⟩) d ?_;rotate_left;·intro w f;(try dsimp only at f);go_simp;try with_reducible rfl
 try simp only [Act.put,tkBa,tkBb,tkBc]
 refine tkB 12 (some 17) (v:= ?_) rfl (.inl ⟨by rfl,?_⟩) d ?_;rotate_left;·intro w f;(try dsimp only at f);go_simp;try with_reducible rfl
 try simp only [Act.put,tkBa,tkBb,tkBc]
 refine tkB 13 (some 18) (v:= ?_) rfl (.inl ⟨by rfl,?_⟩) d ?_;rotate_left;·intro w f;(try dsimp only at f);go_simp;try with_reducible rfl
 try simp only [Act.put,tkBa,tkBb,tkBc]
 refine tkB 14 (some 19) (v:=undef) rfl (.inr ⟨by rfl,rfl⟩) d ?_
 try simp only [Act.put,tkBa,tkBb,tkBc]
 refine tkB 15 (some 20) (v:=undef) rfl (.inr ⟨by rfl,rfl⟩) d ?_
 try simp only [Act.put,tkBa,tkBb,tkBc]
 refine tkB 16 (some 21) (v:=undef) rfl (.inr ⟨by rfl,rfl⟩) d ?_
 try simp only [Act.put,tkBa,tkBb,tkBc]
 refine tkB 17 (some 22) (v:=undef) rfl (.inr ⟨by rfl,rfl⟩) d ?_
 try simp only [Act.put,tkBa,tkBb,tkBc]
 refine tkB 18 (some 23) (v:=undef) rfl (.inr ⟨by rfl,rfl⟩) d ?_
 try simp only [Act.put,tkBa,tkBb,tkBc]
 refine tkB 19 (some 24) (v:=undef) rfl (.inr ⟨by rfl,rfl⟩) d ?_
 try simp only [Act.put,tkBa,tkBb,tkBc]
 refine tkB 20 (some 25) (v:=undef) rfl (.inr ⟨by rfl,rfl⟩) d ?_
 try simp only [Act.put,tkBa,tkBb,tkBc]
 refine tkB 21 (some 26) (v:=undef) rfl (.inr ⟨by rfl,rfl⟩) d ?_
 try simp only [Act.put,tkBa,tkBb,tkBc]
 refine tkB 22 (some 27) (v:=undef) rfl (.inr ⟨by rfl,rfl⟩) d ?_
 try simp only [Act.put,tkBa,tkBb,tkBc]
 refine tkB 23 (some 28) (v:= ?_) rfl (.inl ⟨by rfl,?_⟩) d ?_;rotate_left;·intro w f;(try dsimp only at f);go_simp;try with_reducible rfl
 try simp only [Act.put,tkBa,tkBb,tkBc]
 refine tkB 24 (some 4) (v:= ?_) rfl (.inl ⟨by rfl,?_⟩) d ?_;rotate_left;·intro w f;(try dsimp only at f);go_simp;try with_reducible rfl
 try simp only [Act.put,tkBa,tkBb,tkBc]
 refine wpAnyH_done (by kernel_rfl) ?_ _
 go_wp2
 go_ret
 exact ⟨by first|rfl|(simp;done)|kernel_rfl|(simp [Act.put];done),zbD (zbK (by simp) (zbE (by simp) E) J)⟩
theorem znZ (hi lo f d:Nat) (n m:Int) (w:World) (h1:hi<18446744073709551616) (E:lo<18446744073709551616) (N:f<18446744073709551616) (R:d<18446744073709551616) (H:zaM (zaH hi lo) n=true) (K:zaM (zaH f d) m=true) (Z:n≤m):
  Calls Tryz.prog 110 #[.agg #[.int .u64 hi,.int .u64 lo,.int .i64 n],.agg #[.int .u64 f,.int .u64 d,.int .i64 m]] w fun e w'=>e= .returned (.bool (zaX (zaH hi lo) n (zaH f d) m))∧Below w.heap.size w w':=by
 have p:=Lib.hid (zcG w (.int .u64 hi) (.int .u64 lo) (.int .i64 n) (.int .u64 f) (.int .u64 d) (.int .i64 m) 151)
 have V:Hid (∀W,Calls Tryz.prog 83 #[.agg #[.int .u64 hi,.int .u64 lo,.int .i64 n]] W fun e w'=>e= .returned (.bool true)∧Below W.heap.size W w'):=fun W=>by
  have:=zaS hi lo n W h1 E;rwa [H] at this
 have O:Hid (∀W,Calls Tryz.prog 83 #[.agg #[.int .u64 f,.int .u64 d,.int .i64 m]] W fun e w'=>e= .returned (.bool true)∧Below W.heap.size W w'):=fun W=>by
  have:=zaS f d m W N R;rwa [K] at this
 obtain ⟨U,I⟩: ∃x,hiN (ofW (zaH f d) n.toNat)=x:=⟨_,rfl⟩
 obtain ⟨S,J⟩: ∃x,loN (ofW (zaH f d) n.toNat)=x:=⟨_,rfl⟩
 have hn:=ziY H
 have y:(n.toNat:Int)=n:=by omega
 have HC:Hid (∀W,Calls Tryz.prog 108 #[.int .u64 f,.int .u64 d,.int .i64 n] W fun e w'=>e= .returned (.agg #[.int .u64 U,.int .u64 S,.int .i64 n])∧Below W.heap.size W w'):=fun W=>by
  have:=zdL f d n.toNat W N R (by omega)
  unfold pfW at this
  rw [I,J,y] at this
  exact this
 have hb:((U:Int)==hi&&((S:Int)==lo&&n==n))=zaX (zaH hi lo) n (zaH f d) m:=by
  unfold zaX
  have r3:rt (zaH hi lo) n.toNat:=by have:=H;rw [←y,zdJ] at this;exact this.2
  rw [H,K,zqA Z,Bool.true_and,Bool.true_and,Bool.true_and,Bool.eq_iff_iff,decide_eq_true_iff]
  simp only [Bool.and_eq_true,beq_iff_eq,and_true]
  constructor
  ·rintro ⟨a,b⟩
   have:ofW (zaH f d) n.toNat=zaH hi lo:=ziJ (by rw [I,zbW E];omega) (by rw [J,zcK E];omega)
   rw [←this];exact qt_of _ _
  ·intro b
   have:ofW (zaH f d) n.toNat=zaH hi lo:=zpE (zpR _ _) r3 ((qt_of _ _).trans b.symm)
   rw [this,zbW E] at I
   rw [this,zcK E] at J
   omega
 have Y:=eqPf U S n hi lo n
 rw [hb] at Y
 have hg:=zdT
 have t1:decide (n≤m)=true:=zqA (by omega)
 clear H K h1 E N R Z hb I J y hn
 generalize zaX (zaH hi lo) n (zaH f d) m=b at*
 go_enter Tryz.func110,Tryz.ntmps110
 go_wp2
 go_region_held3 (fun W=>(W.cell? ⟨w.heap.size,0,none⟩=some (.int .u64 hi)∧W.cell? ⟨w.heap.size,1,none⟩=some (.int .u64 lo)∧W.cell? ⟨w.heap.size,2,none⟩=some (.int .i64 n))∧W.cell? ⟨w.heap.size+1,0,none⟩=some (.int .u64 f)∧W.cell? ⟨w.heap.size+1,1,none⟩=some (.int .u64 d)∧W.cell? ⟨w.heap.size+1,2,none⟩=some (.int .i64 m))
  (first|exact p.out _ (zgC)|exact p.out _ (zbE (by simp) o)|exact p.out _ (zbK (by simp) (zbE (by simp) o) C)|exact p.out _ (zbK (by simp) (zbK (by simp) (zbE (by simp) o) C) G))
  (first
   |(go_simp;go_at_call 83;((with_reducible refine (V.out _).mono ?_);rintro e x1 ⟨rfl,o⟩))
   |(go_simp;go_at_call 83;((with_reducible refine (O.out _).mono ?_);rintro e x2 ⟨rfl,C⟩))
   |(go_simp;go_at_call 108;((with_reducible refine (HC.out _).mono ?_);rintro e x3 ⟨rfl,G⟩))
)
 go_wp2
 go_ret
 exact ⟨by first|rfl|(simp;done)|kernel_rfl|(simp [Act.put];done),zbD (zbK (by simp) (zbK (by simp) (zbE (by simp) o) C) G)⟩
theorem zjD (hi lo d f:Nat) (n m:Int) (w:World) (G:hi<18446744073709551616) (E:lo<18446744073709551616) (C:d<18446744073709551616) (y:f<18446744073709551616):
  Calls Tryz.prog 110 #[.agg #[.int .u64 hi,.int .u64 lo,.int .i64 n],.agg #[.int .u64 d,.int .u64 f,.int .i64 m]] w fun e w'=>e= .returned (.bool (zaX (zaH hi lo) n (zaH d f) m))∧Below w.heap.size w w':=by
 cases o:zaM (zaH hi lo) n with
 |false=>
  rw [show zaX (zaH hi lo) n (zaH d f) m=false from by unfold zaX;rw [o];rfl]
  exact zoO hi lo d f n m w G E C y o
 |true=>
  cases p:zaM (zaH d f) m with
  |false=>
   rw [show zaX (zaH hi lo) n (zaH d f) m=false from by unfold zaX;rw [o,p];rfl]
   exact znP hi lo d f n m w G E C y o p
  |true=>
   by_cases H:n≤m
   ·exact znZ hi lo d f n m w G E C y o p H
   ·rw [show zaX (zaH hi lo) n (zaH d f) m=false from by unfold zaX;rw [o,p,zpZ H];rfl]
    exact zoH hi lo d f n m w G E C y o p (by omega)
theorem znO (x:Nat) (h:x<18446744073709551616):bits .and .u64 (x:Int) 1=((x % 2:Nat):Int):=by
 rw [show (1:Int)=((1:Nat):Int) from rfl,u64_and_nat x 1 h (by decide),Nat.and_one_is_mod]
theorem zlD (x j:Nat) (h:x<18446744073709551616):wrap64 (bits .and .u64 ((x:Int)/2^j) 1)=((x/2^j % 2:Nat):Int):=by
 have e:((x:Int)/2^j)=((x/2^j:Nat):Int):=by simp
 rw [e,znO _ (Nat.lt_of_le_of_lt (Nat.div_le_self _ _) h)]
 have:x/2^j % 2<2:=Nat.mod_lt _ (by decide)
 unfold wrap64;omega
theorem zoX (hi lo:Nat) (n:Int) (k:Nat) (w:World) (y:hi<18446744073709551616) (o:lo<18446744073709551616) (C:k<128):
  Calls Tryz.prog 111 #[.agg #[.int .u64 hi,.int .u64 lo,.int .i64 n],.int .i64 k] w fun e w'=>e= .returned (.int .i64 (bitW (zaH hi lo) k:Nat))∧Below w.heap.size w w':=by
 by_cases f:k<64
 ·have d:Hid (wrap64 (bits .and .u64 ((hi:Int)/2^(63 - k)) 1)=(bitW (zaH hi lo) k:Nat)):=by
   show _=_
   rw [zlD _ _ y,bit_hi (show lo<2^64 from o) k f]
  go_enter Tryz.func111,Tryz.ntmps111
  go_wp2
  all_goals go_ret
  all_goals exact ⟨retV (show Value.int .i64 _=_ by rw [d.out]),(zqB _ _).alloc (zpY _) _⟩
 ·have p:64≤k:=by omega
  have d:Hid (wrap64 (bits .and .u64 ((lo:Int)/2^(127 - k)) 1)=(bitW (zaH hi lo) k:Nat)):=by
   show _=_
   rw [zlD _ _ o,bit_lo (hi:=hi) k p C]
  clear f
  go_enter Tryz.func111,Tryz.ntmps111
  go_wp2
  all_goals go_ret
  all_goals exact ⟨retV (show Value.int .i64 _=_ by rw [d.out]),(zqB _ _).alloc (zpY _) _⟩
end
end Go.Proofs.YtkiehdigpchebaaGreatDoor
