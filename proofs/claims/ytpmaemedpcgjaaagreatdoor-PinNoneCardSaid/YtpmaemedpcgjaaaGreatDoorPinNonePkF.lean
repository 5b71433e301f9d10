/-
  What the law PinNone leans on, and its walk (6 of 12).
-/
import Derived.Test.YtpmaemedpcgjaaaGreatDoorChecked
import Derived.WalkKit
import Derived.WalkLawsBesides
import Derived.BigQuiet
import Derived.Deep.QuietTactic
import Derived.Deep.RegionHeld3
import Derived.Deep.DeepCutAuto
import Derived.Lib.Hide
import Derived.Lib.OthersKept
namespace Go.Proofs.YtpmaemedpcgjaaaGreatDoor
set_option maxRecDepth 100000
set_option maxHeartbeats 16000000
theorem tkF {P : Program} {f : Region.Mode} {d : Array Oper} {Q : Exit → Act → World → Prop} {S : World → Prop} (i : Nat) (s : Option Nat) {j : Op} {k : TypeId} {e : String} {g : _} {l : _} {v : Value} {fuel : Nat} {b : Array Bool} {a : Act} {w : World} (hi : d[i]? = some ⟨s, j, k, e, g, l⟩)
 (o : YieldsIf P d S ⟨s, j, k, e, g, l⟩ v a) (p : S w)
 (h : wpAnyH P f d Q S fuel (b.setIfInBounds i true) (a.put s v) w)
 (q : Region.noSelect d = true := by kernel_rfl) (r : Region.free f d b i = true := by kernel_rfl) (m : (Region.ready f d b).contains i = true := by kernel_rfl)
 (n : ∀ c a w, Q (.panic c) (a.put s v) w → Q (.panic c) a w := by exact fun _ _ _ h => h) : wpAnyH P f d Q S (fuel + 1) b a w :=
 wpAnyH_take hi q r m n o p h
theorem tkFa {b : Type _} (l : List b) (i : Nat) (a : b) : l.toArray.setIfInBounds i a = (l.set i a).toArray := List.setIfInBounds_toArray ..
theorem tkFb {a : Type _} (x y : a) (l : List a) : (x :: l).set 0 y = y :: l := rfl
theorem tkFc {a : Type _} (x y : a) (l : List a) (n : Nat) : (x :: l).set (n + 1) y = x :: l.set n y := rfl
abbrev ziH := @Nat.le_refl
abbrev ziI := @decide_eq_false
abbrev ziJ := @decide_eq_true
abbrev ziK := @Go.RowKit.Below.refl
section
open Go.RowKit
def zaD (hi a:Nat):Nat:=hi*2^64+a
def bitW (W i:Nat):Nat:=W/2^(127 - i) % 2
def ofW (W n:Nat):Nat:=W/2^(128 - n)*2^(128 - n)
def rightW (W n:Nat):Prop:=n≤128∧W % 2^(128 - n)=0
theorem zhG {hi a:Nat} (l:a<2^64):zaD hi a/2^64=hi:=by unfold zaD;omega
theorem bit_hi {hi a:Nat} (l:a<2^64) (i:Nat) (h:i<64):hi/2^(63 - i) % 2=bitW (zaD hi a) i:=by
 unfold bitW
 rw [show 127 - i=64+(63 - i) from by omega,Nat.pow_add,←Nat.div_div_eq_div_mul,zhG l]
theorem bit_lo {hi a:Nat} (i:Nat) (h:64≤i) (b:i<128):a/2^(127 - i) % 2=bitW (zaD hi a) i:=by
 unfold bitW zaD
 have e:hi*2^64=2^(127 - i)*(hi*2^(i - 64)*2):=by
  rw [show (2:Nat)^64=2^(127 - i)*(2^(i - 64)*2) from by rw [←Nat.pow_succ,←Nat.pow_add];congr 1;omega]
  rw [Nat.mul_left_comm,Nat.mul_assoc]
 rw [e,Nat.add_comm,Nat.add_mul_div_left _ _ (Nat.pow_pos (by decide)),Nat.add_mul_mod_self_right]
theorem zgV (W i:Nat):bitW W i=0∨bitW W i=1:=by unfold bitW;omega
theorem zhE (X i:Nat) (h:i<128):X/2^(128 - (i+1))=2*(X/2^(128 - i))+bitW X i:=by
 unfold bitW
 rw [show 128 - (i+1)=127 - i from by omega,show 128 - i=(127 - i)+1 from by omega,Nat.pow_succ,←Nat.div_div_eq_div_mul]
 omega
theorem ziA (W n:Nat):ofW W n/2^(128 - n)=W/2^(128 - n):=Nat.mul_div_cancel _ (Nat.pow_pos (by decide))
theorem ofW_le (W n:Nat):ofW W n≤W:=Nat.div_mul_le_self _ _
theorem zgU {W n:Nat} (h:rightW W n):ofW W n=W:=by
 unfold ofW
 have:=Nat.div_add_mod W (2^(128 - n))
 rw [h.2,Nat.add_zero,Nat.mul_comm] at this
 exact this
def qt (X n:Nat):Nat:=X/2^(128 - n)
def zaF (W:Nat) (n:Int):Bool:=decide (0≤n∧n≤128∧W % 2^(128 - n.toNat)=0)
def zaI (P:Nat) (n:Int) (Q:Nat) (m:Int):Bool:=zaF P n&&(zaF Q m&&(decide (n≤m)&&decide (qt P n.toNat=qt Q n.toNat)))
theorem zhY (X n:Nat) (h:n<128):qt X (n+1)=2*qt X n+bitW X n:=zhE X n h
theorem qt_lt {X:Nat} (h:X<2^128):qt X 0=0:=Nat.div_eq_of_lt h
def rt (W n:Nat):Prop:=W % 2^(128 - n)=0
theorem zhW {W n:Nat} (h:rt W n):W=qt W n*2^(128 - n):=by
 unfold rt at h;unfold qt
 have:=Nat.div_add_mod W (2^(128 - n))
 rw [h,Nat.add_zero,Nat.mul_comm] at this
 exact this.symm
theorem ziG {W P n:Nat} (h:rt W n) (a:rt P n) (e:qt W n=qt P n):W=P:=by rw [zhW h,zhW a,e]
theorem zaY {W n:Nat}:zaF W n=true↔n≤128∧rt W n:=by
 unfold zaF rt;rw [decide_eq_true_iff]
 constructor
 ·rintro ⟨_,b,a⟩;exact ⟨by omega,by simpa using a⟩
 ·rintro ⟨b,a⟩;exact ⟨by omega,by omega,by simpa using a⟩
theorem zhV (X n:Nat):rt (ofW X n) n:=Nat.mul_mod_left _ _
theorem qt_of (X n:Nat):qt (ofW X n) n=qt X n:=ziA X n
def zaQ (W P:Nat):Nat→Nat→Nat
 |i,0=>i
 |i,f+1=>if bitW W i=bitW P i then zaQ W P (i+1) f else i
def zaV (W n P k:Nat):Nat:=zaQ W P 0 (min n k)
def pfV (hi a:Nat) (n:Int):Value:= .agg #[.int .u64 (hi:Int),.int .u64 (a:Int),.int .i64 n]
def hiN (W:Nat):Nat:=W/18446744073709551616
def loN (W:Nat):Nat:=W % 18446744073709551616
def pfW (W:Nat) (n:Int):Value:=pfV (hiN W) (loN W) n
theorem zaX (W:Nat):zaD (hiN W) (loN W)=W:=by unfold zaD hiN loN;omega
theorem hiN_lt {W:Nat} (h:W<2^128):hiN W<18446744073709551616:=by unfold hiN;omega
theorem loN_lt (W:Nat):loN W<18446744073709551616:=by unfold loN;omega
theorem zaP {hi a:Nat} (l:a<18446744073709551616):hiN (zaD hi a)=hi:=by unfold zaD hiN;omega
theorem zaT {hi a:Nat} (l:a<18446744073709551616):loN (zaD hi a)=a:=by unfold zaD loN;omega
theorem zhZ {hi a:Nat} (h:hi<18446744073709551616) (l:a<18446744073709551616):zaD hi a<2^128:=by unfold zaD;omega
theorem zhO {hi a:Nat} (l:a<18446744073709551616) (n:Int):pfW (zaD hi a) n=pfV hi a n:=by unfold pfW;rw [zaP l,zaT l]
theorem zdG {W P:Nat} (a:hiN W=hiN P) (b:loN W=loN P):W=P:=by rw [←zaX W,←zaX P,a,b]
def zbB (k:Nat):Nat:=2^64 - 2^(64 - k)
theorem zcG {k:Nat} (h:k≤64):2^k*2^(64 - k)=18446744073709551616:=by rw [←Nat.pow_add,show k+(64 - k)=64 from by omega]
theorem zhL (k:Nat):zbB k<18446744073709551616:=by
 have:0<2^(64 - k):=Nat.pow_pos (by decide)
 unfold zbB;omega
theorem zhF {k:Nat} (h:k≤64):18446744073709551615/2^k=2^(64 - k) - 1:=by
 have e:=zcG h
 have d:0<2^k:=Nat.pow_pos (by decide)
 have f:0<2^(64 - k):=Nat.pow_pos (by decide)
 generalize 2^k=a at*
 generalize 2^(64 - k)=b at*
 obtain ⟨c,rfl⟩: ∃c,b=c+1:=⟨b - 1,by omega⟩
 rw [Nat.mul_add,Nat.mul_one] at e
 rw [show 18446744073709551615=a*c+(a - 1) from by omega,Nat.mul_add_div d,Nat.div_eq_of_lt (by omega)]
 omega
theorem xor64u (n:Nat) (c:n≤18446744073709551615):bits .xor .u64 IntKind.u64.max (n:Int)=((18446744073709551615 - n:Nat):Int):=by
 have b:n<2^64:=by omega
 have a:BitVec.ofInt 64 18446744073709551615=BitVec.allOnes 64:=by decide
 show IntKind.u64.wrap (((BitVec.ofInt 64 18446744073709551615)^^^(BitVec.ofInt 64 (n:Int))).toNat:Int)=_
 rw [a,BitVec.allOnes_xor,BitVec.toNat_not,BitVec.ofInt_natCast,BitVec.toNat_ofNat,Nat.mod_eq_of_lt b,IntKind.wrap_u64]
 omega
theorem zhD {k:Nat} (h:k≤64):bits .xor .u64 IntKind.u64.max ((18446744073709551615:Int)/2^k)=(zbB k:Int):=by
 have e:((18446744073709551615:Int)/2^k)=((18446744073709551615/2^k:Nat):Int):=by simp
 have a:0<2^(64 - k):=Nat.pow_pos (by decide)
 have b:2^(64 - k)≤2^64:=Nat.pow_le_pow_right (by decide) (by omega)
 rw [e,zhF h,xor64u _ (by omega)]
 unfold zbB
 congr 1;omega
theorem zcS (x k:Nat) (a:x<18446744073709551616):bits .and .u64 (x:Int) (zbB k:Int)=((x/2^(64 - k)*2^(64 - k):Nat):Int):=by
 rw [u64_and_nat x (zbB k) a (zhL k)]
 congr 1
 have b:zbB k=(2^(64 - (64 - k)) - 1)*2^(64 - k):=by
  have:=zcG (k:=64 - (64 - k)) (by omega)
  rw [show 64 - (64 - (64 - k))=64 - k from by omega] at this
  rw [Nat.sub_mul,this,Nat.one_mul];rfl
 apply Nat.eq_of_testBit_eq
 intro j
 rw [Nat.testBit_and,b,Nat.testBit_mul_two_pow,Nat.testBit_mul_two_pow,Nat.testBit_two_pow_sub_one,Nat.testBit_div_two_pow]
 by_cases h:64 - k≤j
 ·rw [show j - (64 - k)+(64 - k)=j from by omega]
  by_cases c:j<64
  ·simp [h,show j - (64 - k)<64 - (64 - k) from by omega]
  ·have:x.testBit j=false:=Nat.testBit_lt_two_pow (Nat.lt_of_lt_of_le a (by rw [show 18446744073709551616=2^64 from by decide];exact Nat.pow_le_pow_right (by decide) (by omega)))
   simp [this]
 ·simp [h]
theorem zhH {hi a:Nat} (l:a<18446744073709551616) {n:Nat} (g:n≤128):
  hiN (ofW (zaD hi a) n)=hi/2^(64 - n)*2^(64 - n)∧loN (ofW (zaD hi a) n)=a/2^(64 - (n - 64))*2^(64 - (n - 64)):=by
 unfold ofW
 rcases Nat.lt_or_ge 64 n with h|h
 ·have e:(18446744073709551616:Nat)=2^(128 - n)*2^(n - 64):=by rw [←Nat.pow_add,show 128 - n+(n - 64)=64 from by omega]
  rw [show 64 - n=0 from by omega,show 64 - (n - 64)=128 - n from by omega]
  have c:0<2^(128 - n):=Nat.pow_pos (by decide)
  have f:zaD hi a/2^(128 - n)*2^(128 - n)=hi*18446744073709551616+a/2^(128 - n)*2^(128 - n):=by
   have q:zaD hi a=2^(128 - n)*(2^(n - 64)*hi)+a:=by
    unfold zaD
    rw [show (2:Nat)^64=18446744073709551616 from by decide,e]
    congr 1
    ac_rfl
   rw [q,Nat.mul_add_div c,Nat.add_mul,e]
   congr 1
   ac_rfl
  have d:a/2^(128 - n)*2^(128 - n)≤a:=Nat.div_mul_le_self _ _
  rw [f]
  unfold hiN loN
  simp only [Nat.pow_zero,Nat.div_one,Nat.mul_one]
  constructor<;>omega
 ·have e:(2:Nat)^(128 - n)=18446744073709551616*2^(64 - n):=by rw [show 18446744073709551616=2^64 from by decide,←Nat.pow_add];congr 1;omega
  have b:zaD hi a/(18446744073709551616*2^(64 - n))=hi/2^(64 - n):=by
   rw [←Nat.div_div_eq_div_mul];congr 1;unfold zaD;omega
  rw [e,b,show n - 64=0 from by omega,Nat.mul_left_comm]
  unfold hiN loN
  constructor
  ·rw [Nat.mul_div_cancel_left _ (by decide)]
  ·rw [Nat.mul_mod_right,Nat.div_eq_of_lt (show a<2^(64 - 0) from l),Nat.zero_mul]
theorem retV {a b:Value} (h:a=b):Ending.returned a= .returned b:=by rw [h]
theorem zdP (n:Int) (w:World) (g: -9223372036854775808≤n) (d:n≤9223372036854775807):
  Calls Tryz.prog 114 #[.int .i64 n] w fun e w'=>e= .returned (.int .u64 (zbB n.toNat:Nat))∧w=w':=by
 by_cases a:n<0
 ·go_enter Tryz.func114,Tryz.ntmps114
  go_wp2
  all_goals go_ret
  all_goals exact ⟨retV (by rw [show n.toNat=0 from by omega];rfl),rfl⟩
 ·by_cases b:64<n
  ·go_enter Tryz.func114,Tryz.ntmps114
   go_wp2
   all_goals go_ret
   all_goals exact ⟨retV (by unfold zbB;rw [show 64 - n.toNat=0 from by omega];rfl),rfl⟩
  ·obtain ⟨k,rfl⟩:=Int.eq_ofNat_of_zero_le (show 0≤n by omega)
   have f:k≤64:=by omega
   have c:=Lib.hid (zhD f)
   clear a b g d
   go_enter Tryz.func114,Tryz.ntmps114
   go_wp2
   all_goals go_ret
   all_goals exact ⟨retV (show Value.int .u64 _=_ by rw [c.out]),rfl⟩
theorem zbA (hi a n:Nat) (w:World) (g:hi<18446744073709551616) (b:a<18446744073709551616) (h:n≤128):
  Calls Tryz.prog 87 #[.int .u64 hi,.int .u64 a,.int .i64 n] w fun e w'=>e= .returned (pfW (ofW (zaD hi a) n) n)∧Below w.heap.size w w':=by
 obtain ⟨f,c⟩:=zhH (hi:=hi) b h
 have i:Hid (pfW (ofW (zaD hi a) n) n= .agg #[.int .u64 ((hi/2^(64 - n)*2^(64 - n):Nat):Int),.int .u64 ((a/2^(64 - (n - 64))*2^(64 - (n - 64)):Nat):Int),.int .i64 n]):=by
  show pfV _ _ _=_
  rw [f,c];rfl
 have d:((n:Int) - 64).toNat=n - 64:=by omega
 have m:=Lib.hid d
 have j:=Lib.hid (zcS hi n g)
 have k:=Lib.hid (zcS a (n - 64) b)
 clear f c d
 go_enter Tryz.func87,Tryz.ntmps87
 go_wp2_with fail
 refine (zdP _ _ (by omega) (by omega)).mono ?_
 rintro e l ⟨rfl,rfl⟩
 rw [Int.toNat_natCast]
 go_wp2_with fail
 refine (zdP _ _ (by omega) (by omega)).mono ?_
 rintro e l ⟨rfl,rfl⟩
 rw [m.out]
 go_wp2
 refine bodyPost_ret (v:= .agg #[.int .u64 (bits .and .u64 (hi:Int) (zbB n:Nat)),.int .u64 (bits .and .u64 (a:Int) (zbB (n - 64):Nat)),.int .i64 n]) (by simp [results,Tryz.results87,go_sem]) rfl ⟨?_,?_⟩
 ·rw [i.out,j.out,k.out]
 ·exact ((ziK _ _).alloc (ziH _) _)
theorem zbE (u v:Array Value): ∀(p q:Operand) (W:World),(eqGuard .eql 113 p q (.agg u) (.agg v)).run Tryz.prog W= .ok () W:=by
 intro p q W;kernel_rfl
theorem eqPf (a b c d e f:Int): ∀W:World,(binOp .eql 113 (.agg #[.int .u64 a,.int .u64 b,.int .i64 c]) (.agg #[.int .u64 d,.int .u64 e,.int .i64 f])).run Tryz.prog W= .ok (.bool (a==d&&(b==e&&c==f))) W:=by
 intro W
 have j:(Op.equal 113 (.agg #[.int .u64 a,.int .u64 b,.int .i64 c]) (.agg #[.int .u64 d,.int .u64 e,.int .i64 f])).run Tryz.prog W= .ok (a==d&&(b==e&&c==f)) W:=by
  show (Op.equalIn 10000 113 _ _).run Tryz.prog W=_
  rw [run_equalIn_struct W 9999 113 _ _ (by kernel_rfl) (by kernel_rfl)]
  simp [Program.fieldsOf,Tryz.underlying113,Op.eqFields,go_sem,part,Tryz.sizeOf26,Tryz.isAgg26,Tryz.underlying26,Tryz.sizeOf3,Tryz.isAgg3,Tryz.underlying3]
  by_cases g:a=d<;>by_cases h:b=e<;>by_cases i:c=f<;>simp [g,h,i]
 show ((Op.equal _ _ _>>=fun b=>pure (Value.bool b)):Sem Value).run _ _=_
 rw [Sem.run_bind,j];rfl
theorem zhI (w:World) (a b c:Value) (t:TypeId): ∀W,Below (w.heap.size+1) (w.alloc (.cells #[a,b,c] t)) W→W.cell? ⟨w.heap.size,0,none⟩=some a∧W.cell? ⟨w.heap.size,1,none⟩=some b∧W.cell? ⟨w.heap.size,2,none⟩=some c:=fun W h=>by
 refine ⟨?_,?_,?_⟩
 all_goals
  rw [h.cell (p:=⟨w.heap.size,_,none⟩) (by show w.heap.size<_;omega)]
  simp [go_sem]
theorem zaR {w W:World} {o:Obj} (h:Below (w.heap.size+1) (w.alloc o) W):Below w.heap.size w W:=
 ((ziK _ _).alloc (ziH _) o).trans (h.mono (Nat.le_succ _))
theorem zbK {x:World} {n:Nat}:Below n x x.drew:=(ziK _ _).drew
theorem zhQ {x:World} {n k:Nat}:Below n x (x.drewN k):=⟨rfl,rfl,rfl,ziH _,fun _ _=>rfl⟩
theorem zaJ {x W:World} {n:Nat} (a:n≤x.heap.size) (h:Below x.drew.heap.size x.drew W):Below n x W:=(ziK _ _).drew.trans (h.mono a)
theorem zaN {x y W:World} {n:Nat} (b:n≤x.heap.size) (h:Below n x y) (a:Below y.heap.size y W):Below n x W:=h.trans (a.mono (Nat.le_trans b h.size))
theorem zgY (hi c n:Nat) (w:World) (q:hi<18446744073709551616) (g:c<18446744073709551616) (k:n≤128):
  Calls Tryz.prog 62 #[.agg #[.int .u64 hi,.int .u64 c,.int .i64 n]] w fun e w'=>e= .returned (.bool (zaF (zaD hi c) n))∧Below w.heap.size w w':=by
 obtain ⟨l,h⟩: ∃x,hiN (ofW (zaD hi c) n)=x:=⟨_,rfl⟩
 obtain ⟨m,i⟩: ∃x,loN (ofW (zaD hi c) n)=x:=⟨_,rfl⟩
 have p:Hid (∀W,Calls Tryz.prog 87 #[.int .u64 hi,.int .u64 c,.int .i64 n] W fun e w'=>e= .returned (.agg #[.int .u64 l,.int .u64 m,.int .i64 n])∧Below W.heap.size W w'):=fun W=>by
  have:=zbA hi c n W q g k
  unfold pfW at this
  rw [h,i] at this
  exact this
 have o:((l:Int)==hi&&((m:Int)==c&&(n:Int)==n))=zaF (zaD hi c) n:=by
  rw [Bool.eq_iff_iff,zaY]
  simp only [Bool.and_eq_true,beq_iff_eq,and_true]
  constructor
  ·rintro ⟨a,b⟩
   refine ⟨k,?_⟩
   have:ofW (zaD hi c) n=zaD hi c:=zdG (by rw [h,zaP g];omega) (by rw [i,zaT g];omega)
   rw [←this];exact zhV _ _
  ·rintro ⟨_,b⟩
   have:ofW (zaD hi c) n=zaD hi c:=zgU ⟨k,b⟩
   rw [this,zaP g] at h
   rw [this,zaT g] at i
   omega
 have j:=eqPf l m n hi c n
 rw [o] at j
 have r:=zbE
 have d:=Lib.hid (zhI w (.int .u64 hi) (.int .u64 c) (.int .i64 n) 113)
 have v:decide ((0:Int)≤n)=true:=ziJ (by omega)
 have s:decide ((n:Int)≤128)=true:=ziJ (by omega)
 clear h i o
 generalize zaF (zaD hi c) n=b at*
 go_enter Tryz.func62,Tryz.ntmps62
 go_wp2
 go_region_held3 (fun W=>W.cell? ⟨w.heap.size,0,none⟩=some (.int .u64 hi)∧W.cell? ⟨w.heap.size,1,none⟩=some (.int .u64 c)∧W.cell? ⟨w.heap.size,2,none⟩=some (.int .i64 n))
  (first|exact d.out _ zbK|exact d.out _ (zaJ (by simp) f))
  (first
   |(go_simp;go_at_call 87;((with_reducible refine (p.out _).mono ?_);rintro e t ⟨rfl,f⟩)))
 go_wp2
 go_ret
 exact ⟨rfl,zaR (zaJ (by simp) f)⟩
theorem zfE (hi b:Nat) (n:Int) (w:World) (a:n<0∨128<n):
  Calls Tryz.prog 62 #[.agg #[.int .u64 hi,.int .u64 b,.int .i64 n]] w fun e w'=>e= .returned (.bool false)∧Below w.heap.size w w':=by
 by_cases f:n<0
 ·have c:decide ((0:Int)≤n)=false:=ziI (by omega)
  clear a
  go_enter Tryz.func62,Tryz.ntmps62
  go_wp2
  go_quiet (fail)
  go_wp2
  go_ret
  exact ⟨rfl,zaR zhQ⟩
 ·have c:decide ((0:Int)≤n)=true:=ziJ (by omega)
  have d:decide (n≤128)=false:=ziI (by omega)
  clear a
  go_enter Tryz.func62,Tryz.ntmps62
  go_wp2
  go_quiet (fail)
  go_wp2
  go_ret
  exact ⟨rfl,zaR zhQ⟩
theorem zcH {W:Nat} {n:Int} (h:n<0∨128<n):zaF W n=false:=by unfold zaF;rw [decide_eq_false_iff_not];omega
theorem zdS {W:Nat} {n:Int} (h:zaF W n=true):0≤n∧n≤128:=by unfold zaF at h;rw [decide_eq_true_iff] at h;omega
theorem zaG (hi a:Nat) (n:Int) (w:World) (b:hi<18446744073709551616) (c:a<18446744073709551616):
  Calls Tryz.prog 62 #[.agg #[.int .u64 hi,.int .u64 a,.int .i64 n]] w fun e w'=>e= .returned (.bool (zaF (zaD hi a) n))∧Below w.heap.size w w':=by
 by_cases h:n<0∨128<n
 ·rw [zcH h];exact zfE hi a n w h
 ·obtain ⟨k,rfl⟩:=Int.eq_ofNat_of_zero_le (show 0≤n by omega)
  exact zgY hi a k w b c (by omega)
theorem zaS (w:World) (a b c d e f:Value) (t:TypeId): ∀W,Below (w.heap.size+2) ((w.alloc (.cells #[a,b,c] t)).alloc (.cells #[d,e,f] t)) W→
  (W.cell? ⟨w.heap.size,0,none⟩=some a∧W.cell? ⟨w.heap.size,1,none⟩=some b∧W.cell? ⟨w.heap.size,2,none⟩=some c)∧W.cell? ⟨w.heap.size+1,0,none⟩=some d∧W.cell? ⟨w.heap.size+1,1,none⟩=some e∧W.cell? ⟨w.heap.size+1,2,none⟩=some f:=fun W h=>by
 refine ⟨⟨?_,?_,?_⟩,?_,?_,?_⟩
 ·rw [h.cell (p:=⟨w.heap.size,_,none⟩) (by show w.heap.size<_;omega)];simp [go_sem]
 ·rw [h.cell (p:=⟨w.heap.size,_,none⟩) (by show w.heap.size<_;omega)];simp [go_sem]
 ·rw [h.cell (p:=⟨w.heap.size,_,none⟩) (by show w.heap.size<_;omega)];simp [go_sem]
 ·rw [h.cell (p:=⟨w.heap.size+1,_,none⟩) (by show w.heap.size+1<_;omega)];simp [go_sem]
 ·rw [h.cell (p:=⟨w.heap.size+1,_,none⟩) (by show w.heap.size+1<_;omega)];simp [go_sem]
 ·rw [h.cell (p:=⟨w.heap.size+1,_,none⟩) (by show w.heap.size+1<_;omega)];simp [go_sem]
theorem zaK {w W:World} {o a:Obj} (h:Below (w.heap.size+2) ((w.alloc o).alloc a) W):Below w.heap.size w W:=
 (((ziK _ _).alloc (ziH _) o).alloc (by simp) a).trans (h.mono (by omega))
theorem zhJ (hi f c d:Nat) (n m:Int) (w:World) (p:hi<18446744073709551616) (l:f<18446744073709551616) (_:c<18446744073709551616) (_:d<18446744073709551616) (k:zaF (zaD hi f) n=false):
  Calls Tryz.prog 89 #[.agg #[.int .u64 hi,.int .u64 f,.int .i64 n],.agg #[.int .u64 c,.int .u64 d,.int .i64 m]] w fun e w'=>e= .returned (.bool false)∧Below w.heap.size w w':=by
 have i:=Lib.hid (zaS w (.int .u64 hi) (.int .u64 f) (.int .i64 n) (.int .u64 c) (.int .u64 d) (.int .i64 m) 113)
 have j:Hid (∀W,Calls Tryz.prog 62 #[.agg #[.int .u64 hi,.int .u64 f,.int .i64 n]] W fun e w'=>e= .returned (.bool false)∧Below W.heap.size W w'):=fun W=>by
  have:=zaG hi f n W p l;rwa [k] at this
 clear k p l
 go_enter Tryz.func89,Tryz.ntmps89
 go_wp2
 refine wp_region_held_drew (S:=fun W=>(W.cell? ⟨w.heap.size,0,none⟩=some (.int .u64 hi)∧W.cell? ⟨w.heap.size,1,none⟩=some (.int .u64 f)∧W.cell? ⟨w.heap.size,2,none⟩=some (.int .i64 n))∧W.cell? ⟨w.heap.size+1,0,none⟩=some (.int .u64 c)∧W.cell? ⟨w.heap.size+1,1,none⟩=some (.int .u64 d)∧W.cell? ⟨w.heap.size+1,2,none⟩=some (.int .i64 m)) (by kernel_rfl) ?_ (fun g=> ?_)
 ·exact i.out _ zbK
 refine tkF 0 (some 5) (v:= ?_) rfl (.inl ⟨by rfl,?_⟩) g ?_;rotate_left;·intro w b;(try dsimp only at b);go_simp;try with_reducible rfl
 try simp only [Act.put,tkFa,tkFb,tkFc]
 refine wpAnyH_ready (rs:=[1]) (by kernel_rfl) (by simp) ?_
 refine AllReadyH.cons (o:=⟨some 6,_,_,_,_,_⟩) rfl (fun K q=> ?_) AllReadyH.nil
 go_simp
 go_at_call 62
 refine (j.out _).mono ?_
 rintro e r ⟨rfl,h⟩
 (try go_wp2_with fail)
 refine q.out _ _ ?_ (fun a=> ?_)
 ·exact i.out _ (zaJ (by simp) h)
 clear q K
 try simp only [Act.put,tkFa,tkFb,tkFc]
 refine tkF 2 (some 7) (v:= ?_) rfl (.inl ⟨by rfl,?_⟩) a ?_;rotate_left;·intro w b;(try dsimp only at b);go_simp;try with_reducible rfl
 try simp only [Act.put,tkFa,tkFb,tkFc]
 refine tkF 3 (some 8) (v:=undef) rfl (.inr ⟨by rfl,rfl⟩) a ?_
 try simp only [Act.put,tkFa,tkFb,tkFc]
 refine tkF 4 (some 9) (v:=undef) rfl (.inr ⟨by rfl,rfl⟩) a ?_
 try simp only [Act.put,tkFa,tkFb,tkFc]
 refine tkF 5 (some 10) (v:= ?_) rfl (.inl ⟨by rfl,?_⟩) a ?_;rotate_left;·intro w b;(try dsimp only at b);go_simp;try with_reducible rfl
 try simp only [Act.put,tkFa,tkFb,tkFc]
 refine tkF 6 (some 11) (v:= ?_) rfl (.inl ⟨by rfl,?_⟩) a ?_;rotate_left;·intro w b;(try dsimp only at b);go_simp;try with_reducible rfl
 try simp only [Act.put,tkFa,tkFb,tkFc]
 refine tkF 7 (some 12) (v:=undef) rfl (.inr ⟨by rfl,rfl⟩) a ?_
 try simp only [Act.put,tkFa,tkFb,tkFc]
 refine tkF 8 (some 13) (v:=undef) rfl (.inr ⟨by rfl,rfl⟩) a ?_
 try simp only [Act.put,tkFa,tkFb,tkFc]
 refine tkF 9 (some 14) (v:=undef) rfl (.inr ⟨by rfl,rfl⟩) a ?_
 try simp only [Act.put,tkFa,tkFb,tkFc]
 refine tkF 10 (some 15) (v:=undef) rfl (.inr ⟨by rfl,rfl⟩) a ?_
 try simp only [Act.put,tkFa,tkFb,tkFc]
 refine tkF 11 (some 16) (v:=undef) rfl (.inr ⟨by rfl,rfl⟩) a ?_
 try simp only [Act.put,tkFa,tkFb,tkFc]
 refine tkF 12 (some 17) (v:= ?_) rfl (.inl ⟨by rfl,?_⟩) a ?_;rotate_left;·intro w b;(try dsimp only at b);go_simp;try with_reducible rfl
 try simp only [Act.put,tkFa,tkFb,tkFc]
 refine tkF 13 (some 18) (v:= ?_) rfl (.inl ⟨by rfl,?_⟩) a ?_;rotate_left;·intro w b;(try dsimp only at b);go_simp;try with_reducible rfl
 try simp only [Act.put,tkFa,tkFb,tkFc]
 refine tkF 14 (some 19) (v:=undef) rfl (.inr ⟨by rfl,rfl⟩) a ?_
 try simp only [Act.put,tkFa,tkFb,tkFc]
 refine tkF 15 (some 20) (v:=undef) rfl (.inr ⟨by rfl,rfl⟩) a ?_
 try simp only [Act.put,tkFa,tkFb,tkFc]
 refine tkF 16 (some 21) (v:=undef) rfl (.inr ⟨by rfl,rfl⟩) a ?_
 try simp only [Act.put,tkFa,tkFb,tkFc]
 refine tkF 17 (some 22) (v:=undef) rfl (.inr ⟨by rfl,rfl⟩) a ?_
 try simp only [Act.put,tkFa,tkFb,tkFc]
 refine tkF 18 (some 23) (v:=undef) rfl (.inr ⟨by rfl,rfl⟩) a ?_
 try simp only [Act.put,tkFa,tkFb,tkFc]
 refine tkF 19 (some 24) (v:=undef) rfl (.inr ⟨by rfl,rfl⟩) a ?_
 try simp only [Act.put,tkFa,tkFb,tkFc]
 refine tkF 20 (some 25) (v:=undef) rfl (.inr ⟨by rfl,rfl⟩) a ?_
 try simp only [Act.put,tkFa,tkFb,tkFc]
 refine tkF 21 (some 26) (v:=undef) rfl (.inr ⟨by rfl,rfl⟩) a ?_
 try simp only [Act.put,tkFa,tkFb,tkFc]
 refine tkF 22 (some 27) (v:=undef) rfl (.inr ⟨by rfl,rfl⟩) a ?_
 try simp only [Act.put,tkFa,tkFb,tkFc]
 refine tkF 23 (some 28) (v:= ?_) rfl (.inl ⟨by rfl,?_⟩) a ?_;rotate_left;·intro w b;(try dsimp only at b);go_simp;try with_reducible rfl
 try simp only [Act.put,tkFa,tkFb,tkFc]
 refine tkF 24 (some 4) (v:= ?_) rfl (.inl ⟨by rfl,?_⟩) a ?_;rotate_left;·intro w b;(try dsimp only at b);go_simp;try with_reducible rfl
 try simp only [Act.put,tkFa,tkFb,tkFc]
 refine wpAnyH_done (by kernel_rfl) ?_ _
 go_wp2
 go_ret
 exact ⟨by first|rfl|(simp;done)|kernel_rfl|(simp [Act.put];done),zaK (zaJ (by simp) h)⟩
theorem zhM (hi g c d:Nat) (n m:Int) (w:World) (y:hi<18446744073709551616) (t:g<18446744073709551616) (z:c<18446744073709551616) (x:d<18446744073709551616) (s:zaF (zaD hi g) n=true) (r:zaF (zaD c d) m=false):
  Calls Tryz.prog 89 #[.agg #[.int .u64 hi,.int .u64 g,.int .i64 n],.agg #[.int .u64 c,.int .u64 d,.int .i64 m]] w fun e w'=>e= .returned (.bool false)∧Below w.heap.size w w':=by
 have i:=Lib.hid (zaS w (.int .u64 hi) (.int .u64 g) (.int .i64 n) (.int .u64 c) (.int .u64 d) (.int .i64 m) 113)
 have q:Hid (∀W,Calls Tryz.prog 62 #[.agg #[.int .u64 hi,.int .u64 g,.int .i64 n]] W fun e w'=>e= .returned (.bool true)∧Below W.heap.size W w'):=fun W=>by
  have:=zaG hi g n W y t;rwa [s] at this
 have p:Hid (∀W,Calls Tryz.prog 62 #[.agg #[.int .u64 c,.int .u64 d,.int .i64 m]] W fun e w'=>e= .returned (.bool false)∧Below W.heap.size W w'):=fun W=>by
  have:=zaG c d m W z x;rwa [r] at this
 clear s r y t z x
 go_enter Tryz.func89,Tryz.ntmps89
 go_wp2
 refine wp_region_held_drew (S:=fun W=>(W.cell? ⟨w.heap.size,0,none⟩=some (.int .u64 hi)∧W.cell? ⟨w.heap.size,1,none⟩=some (.int .u64 g)∧W.cell? ⟨w.heap.size,2,none⟩=some (.int .i64 n))∧W.cell? ⟨w.heap.size+1,0,none⟩=some (.int .u64 c)∧W.cell? ⟨w.heap.size+1,1,none⟩=some (.int .u64 d)∧W.cell? ⟨w.heap.size+1,2,none⟩=some (.int .i64 m)) (by kernel_rfl) ?_ (fun j=> ?_)
 ·exact i.out _ zbK
 refine tkF 0 (some 5) (v:= ?_) rfl (.inl ⟨by rfl,?_⟩) j ?_;rotate_left;·intro w b;(try dsimp only at b);go_simp;try with_reducible rfl
 try simp only [Act.put,tkFa,tkFb,tkFc]
 refine wpAnyH_ready (rs:=[1]) (by kernel_rfl) (by simp) ?_
 refine AllReadyH.cons (o:=⟨some 6,_,_,_,_,_⟩) rfl (fun K l=> ?_) AllReadyH.nil
 go_simp
 go_at_call 62
 refine (q.out _).mono ?_
 rintro e A ⟨rfl,h⟩
 (try go_wp2_with fail)
 refine l.out _ _ ?_ (fun f=> ?_)
 ·exact i.out _ (zaJ (by simp) h)
 clear l K
 try simp only [Act.put,tkFa,tkFb,tkFc]
 refine tkF 2 (some 7) (v:= ?_) rfl (.inl ⟨by rfl,?_⟩) f ?_;rotate_left;·intro w b;(try dsimp only at b);go_simp;try with_reducible rfl
 try simp only [Act.put,tkFa,tkFb,tkFc]
 refine tkF 3 (some 8) (v:= ?_) rfl (.inl ⟨by rfl,?_⟩) f ?_;rotate_left;·intro w b;(try dsimp only at b);go_simp;try with_reducible rfl
 try simp only [Act.put,tkFa,tkFb,tkFc]
 refine wpAnyH_ready (rs:=[4]) (by kernel_rfl) (by simp) ?_
 refine AllReadyH.cons (o:=⟨some 9,_,_,_,_,_⟩) rfl (fun K l=> ?_) AllReadyH.nil
 go_simp
 go_at_call 62
 refine (p.out _).mono ?_
 rintro e B ⟨rfl,k⟩
 (try go_wp2_with fail)
 refine l.out _ _ ?_ (fun a=> ?_)
 ·exact i.out _ (zaN (by simp) (zaJ (by simp) h) k)
 clear l K
 try simp only [Act.put,tkFa,tkFb,tkFc]
 refine tkF 5 (some 10) (v:= ?_) rfl (.inl ⟨by rfl,?_⟩) a ?_;rotate_left;·intro w b;(try dsimp only at b);go_simp;try with_reducible rfl
 try simp only [Act.put,tkFa,tkFb,tkFc]
 refine tkF 6 (some 11) (v:= ?_) rfl (.inl ⟨by rfl,?_⟩) a ?_;rotate_left;·intro w b;(try dsimp only at b);go_simp;try with_reducible rfl
 try simp only [Act.put,tkFa,tkFb,tkFc]
 refine tkF 7 (some 12) (v:=undef) rfl (.inr ⟨by rfl,rfl⟩) a ?_
 try simp only [Act.put,tkFa,tkFb,tkFc]
 refine tkF 8 (some 13) (v:=undef) rfl (.inr ⟨by rfl,rfl⟩) a ?_
 try simp only [Act.put,tkFa,tkFb,tkFc]
 refine tkF 9 (some 14) (v:=undef) rfl (.inr ⟨by rfl,rfl⟩) a ?_
 try simp only [Act.put,tkFa,tkFb,tkFc]
 refine tkF 10 (some 15) (v:=undef) rfl (.inr ⟨by rfl,rfl⟩) a ?_
 try simp only [Act.put,tkFa,tkFb,tkFc]
 refine tkF 11 (some 16) (v:=undef) rfl (.inr ⟨by rfl,rfl⟩) a ?_
 try simp only [Act.put,tkFa,tkFb,tkFc]
 refine tkF 12 (some 17) (v:= ?_) rfl (.inl ⟨by rfl,?_⟩) a ?_;rotate_left;·intro w b;(try dsimp only at b);go_simp;try with_reducible rfl
 try simp only [Act.put,tkFa,tkFb,tkFc]
 refine tkF 13 (some 18) (v:= ?_) rfl (.inl ⟨by rfl,?_⟩) a ?_;rotate_left;·intro w b;(try dsimp only at b);go_simp;try with_reducible rfl
 try simp only [Act.put,tkFa,tkFb,tkFc]
 refine tkF 14 (some 19) (v:=undef) rfl (.inr ⟨by rfl,rfl⟩) a ?_
 try simp only [Act.put,tkFa,tkFb,tkFc]
 refine tkF 15 (some 20) (v:=undef) rfl (.inr ⟨by rfl,rfl⟩) a ?_
 try simp only [Act.put,tkFa,tkFb,tkFc]
 refine tkF 16 (some 21) (v:=undef) rfl (.inr ⟨by rfl,rfl⟩) a ?_
 try simp only [Act.put,tkFa,tkFb,tkFc]
 refine tkF 17 (some 22) (v:=undef) rfl (.inr ⟨by rfl,rfl⟩) a ?_
 try simp only [Act.put,tkFa,tkFb,tkFc]
 refine tkF 18 (some 23) (v:=undef) rfl (.inr ⟨by rfl,rfl⟩) a ?_
 try simp only [Act.put,tkFa,tkFb,tkFc]
 refine tkF 19 (some 24) (v:=undef) rfl (.inr ⟨by rfl,rfl⟩) a ?_
 try simp only [Act.put,tkFa,tkFb,tkFc]
 refine tkF 20 (some 25) (v:=undef) rfl (.inr ⟨by rfl,rfl⟩) a ?_
 try simp only [Act.put,tkFa,tkFb,tkFc]
 refine tkF 21 (some 26) (v:=undef) rfl (.inr ⟨by rfl,rfl⟩) a ?_
 try simp only [Act.put,tkFa,tkFb,tkFc]
 refine tkF 22 (some 27) (v:=undef) rfl (.inr ⟨by rfl,rfl⟩) a ?_
 try simp only [Act.put,tkFa,tkFb,tkFc]
 refine tkF 23 (some 28) (v:= ?_) rfl (.inl ⟨by rfl,?_⟩) a ?_;rotate_left;·intro w b;(try dsimp only at b);go_simp;try with_reducible rfl
 try simp only [Act.put,tkFa,tkFb,tkFc]
 refine tkF 24 (some 4) (v:= ?_) rfl (.inl ⟨by rfl,?_⟩) a ?_;rotate_left;·intro w b;(try dsimp only at b);go_simp;try with_reducible rfl
 try simp only [Act.put,tkFa,tkFb,tkFc]
 refine wpAnyH_done (by kernel_rfl) ?_ _
 go_wp2
 go_ret
 exact ⟨by first|rfl|(simp;done)|kernel_rfl|(simp [Act.put];done),zaK (zaN (by simp) (zaJ (by simp) h) k)⟩
theorem zgW (hi g c d:Nat) (n m:Int) (w:World) (y:hi<18446744073709551616) (t:g<18446744073709551616) (z:c<18446744073709551616) (x:d<18446744073709551616) (s:zaF (zaD hi g) n=true) (r:zaF (zaD c d) m=true) (A:m<n):
  Calls Tryz.prog 89 #[.agg #[.int .u64 hi,.int .u64 g,.int .i64 n],.agg #[.int .u64 c,.int .u64 d,.int .i64 m]] w fun e w'=>e= .returned (.bool false)∧Below w.heap.size w w':=by
 have i:=Lib.hid (zaS w (.int .u64 hi) (.int .u64 g) (.int .i64 n) (.int .u64 c) (.int .u64 d) (.int .i64 m) 113)
 have q:Hid (∀W,Calls Tryz.prog 62 #[.agg #[.int .u64 hi,.int .u64 g,.int .i64 n]] W fun e w'=>e= .returned (.bool true)∧Below W.heap.size W w'):=fun W=>by
  have:=zaG hi g n W y t;rwa [s] at this
 have p:Hid (∀W,Calls Tryz.prog 62 #[.agg #[.int .u64 c,.int .u64 d,.int .i64 m]] W fun e w'=>e= .returned (.bool true)∧Below W.heap.size W w'):=fun W=>by
  have:=zaG c d m W z x;rwa [r] at this
 have C:decide (n≤m)=false:=ziI (by omega)
 clear s r y t z x A
 go_enter Tryz.func89,Tryz.ntmps89
 go_wp2
 refine wp_region_held_drew (S:=fun W=>(W.cell? ⟨w.heap.size,0,none⟩=some (.int .u64 hi)∧W.cell? ⟨w.heap.size,1,none⟩=some (.int .u64 g)∧W.cell? ⟨w.heap.size,2,none⟩=some (.int .i64 n))∧W.cell? ⟨w.heap.size+1,0,none⟩=some (.int .u64 c)∧W.cell? ⟨w.heap.size+1,1,none⟩=some (.int .u64 d)∧W.cell? ⟨w.heap.size+1,2,none⟩=some (.int .i64 m)) (by kernel_rfl) ?_ (fun j=> ?_)
 ·exact i.out _ zbK
 refine tkF 0 (some 5) (v:= ?_) rfl (.inl ⟨by rfl,?_⟩) j ?_;rotate_left;·intro w b;(try dsimp only at b);go_simp;try with_reducible rfl
 try simp only [Act.put,tkFa,tkFb,tkFc]
 refine wpAnyH_ready (rs:=[1]) (by kernel_rfl) (by simp) ?_
 refine AllReadyH.cons (o:=⟨some 6,_,_,_,_,_⟩) rfl (fun K l=> ?_) AllReadyH.nil
 go_simp
 go_at_call 62
 refine (q.out _).mono ?_
 rintro e B ⟨rfl,h⟩
 (try go_wp2_with fail)
 refine l.out _ _ ?_ (fun f=> ?_)
 ·exact i.out _ (zaJ (by simp) h)
 clear l K
 try simp only [Act.put,tkFa,tkFb,tkFc]
 refine tkF 2 (some 7) (v:= ?_) rfl (.inl ⟨by rfl,?_⟩) f ?_;rotate_left;·intro w b;(try dsimp only at b);go_simp;try with_reducible rfl
 try simp only [Act.put,tkFa,tkFb,tkFc]
 refine tkF 3 (some 8) (v:= ?_) rfl (.inl ⟨by rfl,?_⟩) f ?_;rotate_left;·intro w b;(try dsimp only at b);go_simp;try with_reducible rfl
 try simp only [Act.put,tkFa,tkFb,tkFc]
 refine wpAnyH_ready (rs:=[4]) (by kernel_rfl) (by simp) ?_
 refine AllReadyH.cons (o:=⟨some 9,_,_,_,_,_⟩) rfl (fun K l=> ?_) AllReadyH.nil
 go_simp
 go_at_call 62
 refine (p.out _).mono ?_
 rintro e D ⟨rfl,k⟩
 (try go_wp2_with fail)
 refine l.out _ _ ?_ (fun a=> ?_)
 ·exact i.out _ (zaN (by simp) (zaJ (by simp) h) k)
 clear l K
 try simp only [Act.put,tkFa,tkFb,tkFc]
 refine tkF 5 (some 10) (v:= ?_) rfl (.inl ⟨by rfl,?_⟩) a ?_;rotate_left;·intro w b;(try dsimp only at b);go_simp;try with_reducible rfl
 try simp only [Act.put,tkFa,tkFb,tkFc]
 refine tkF 6 (some 11) (v:= ?_) rfl (.inl ⟨by rfl,?_⟩) a ?_;rotate_left;·intro w b;(try dsimp only at b);go_simp;try with_reducible rfl
 try simp only [Act.put,tkFa,tkFb,tkFc]
 refine tkF 7 (some 12) (v:= ?_) rfl (.inl ⟨by rfl,?_⟩) a ?_;rotate_left;·intro w b;(try dsimp only at b);go_simp;try with_reducible rfl
 try simp only [Act.put,tkFa,tkFb,tkFc]
 refine tkF 8 (some 13) (v:= ?_) rfl (.inl ⟨by rfl,?_⟩) a ?_;rotate_left;·intro w b;(try dsimp only at b);go_simp;try with_reducible rfl
 try simp only [Act.put,tkFa,tkFb,tkFc]
 refine tkF 9 (some 14) (v:= ?_) rfl (.inl ⟨by rfl,?_⟩) a ?_;rotate_left;·intro w b;(try dsimp only at b);go_simp;try with_reducible rfl
 try simp only [Act.put,tkFa,tkFb,tkFc]
 refine tkF 10 (some 15) (v:= ?_) rfl (.inl ⟨by rfl,?_⟩) a ?_;rotate_left;·intro w b;(try dsimp only at b);go_simp;try with_reducible rfl
 try simp only [Act.put,tkFa,tkFb,tkFc]
 refine tkF 11 (some 16) (v:= ?_) rfl (.inl ⟨by rfl,?_⟩) a ?_;rotate_left;·intro w b;(try dsimp only at b);go_simp;try with_reducible rfl
 try simp only [Act.put,tkFa,tkFb,tkFc]
 refine tkF 12 (some 17) (v:= ?_) rfl (.inl ⟨by rfl,?_⟩) a ?_;rotate_left;·intro w b;(try dsimp only at b);go_simp;try with_reducible rfl
 try simp only [Act.put,tkFa,tkFb,tkFc]
 refine tkF 13 (some 18) (v:= ?_) rfl (.inl ⟨by rfl,?_⟩) a ?_;rotate_left;·intro w b;(try dsimp only at b);go_simp;try with_reducible rfl
 try simp only [Act.put,tkFa,tkFb,tkFc]
 refine tkF 14 (some 19) (v:=undef) rfl (.inr ⟨by rfl,rfl⟩) a ?_
 try simp only [Act.put,tkFa,tkFb,tkFc]
 refine tkF 15 (some 20) (v:=undef) rfl (.inr ⟨by rfl,rfl⟩) a ?_
 try simp only [Act.put,tkFa,tkFb,tkFc]
 refine tkF 16 (some 21) (v:=undef) rfl (.inr ⟨by rfl,rfl⟩) a ?_
 try simp only [Act.put,tkFa,tkFb,tkFc]
 refine tkF 17 (some 22) (v:=undef) rfl (.inr ⟨by rfl,rfl⟩) a ?_
 try simp only [Act.put,tkFa,tkFb,tkFc]
 refine tkF 18 (some 23) (v:=undef) rfl (.inr ⟨by rfl,rfl⟩) a ?_
 try simp only [Act.put,tkFa,tkFb,tkFc]
 refine tkF 19 (some 24) (v:=undef) rfl (.inr ⟨by rfl,rfl⟩) a ?_
 try simp only [Act.put,tkFa,tkFb,tkFc]
 refine tkF 20 (some 25) (v:=undef) rfl (.inr ⟨by rfl,rfl⟩) a ?_
 try simp only [Act.put,tkFa,tkFb,tkFc]
 refine tkF 21 (some 26) (v:=undef) rfl (.inr ⟨by rfl,rfl⟩) a ?_
 try simp only [Act.put,tkFa,tkFb,tkFc]
 refine tkF 22 (some 27) (v:=undef) rfl (.inr ⟨by rfl,rfl⟩) a ?_
 try simp only [Act.put,tkFa,tkFb,tkFc]
 refine tkF 23 (some 28) (v:= ?_) rfl (.inl ⟨by rfl,?_⟩) a ?_;rotate_left;·intro w b;(try dsimp only at b);go_simp;try with_reducible rfl
 try simp only [Act.put,tkFa,tkFb,tkFc]
 refine tkF 24 (some 4) (v:= ?_) rfl (.inl ⟨by rfl,?_⟩) a ?_;rotate_left;·intro w b;(try dsimp only at b);go_simp;try with_reducible rfl
 try simp only [Act.put,tkFa,tkFb,tkFc]
 refine wpAnyH_done (by kernel_rfl) ?_ _
 go_wp2
 go_ret
 exact ⟨by first|rfl|(simp;done)|kernel_rfl|(simp [Act.put];done),zaK (zaN (by simp) (zaJ (by simp) h) k)⟩
theorem zgZ (hi f c d:Nat) (n m:Int) (w:World) (D:hi<18446744073709551616) (k:f<18446744073709551616) (z:c<18446744073709551616) (s:d<18446744073709551616) (l:zaF (zaD hi f) n=true) (r:zaF (zaD c d) m=true) (C:n≤m):
  Calls Tryz.prog 89 #[.agg #[.int .u64 hi,.int .u64 f,.int .i64 n],.agg #[.int .u64 c,.int .u64 d,.int .i64 m]] w fun e w'=>e= .returned (.bool (zaI (zaD hi f) n (zaD c d) m))∧Below w.heap.size w w':=by
 have h:=Lib.hid (zaS w (.int .u64 hi) (.int .u64 f) (.int .i64 n) (.int .u64 c) (.int .u64 d) (.int .i64 m) 113)
 have B:Hid (∀W,Calls Tryz.prog 62 #[.agg #[.int .u64 hi,.int .u64 f,.int .i64 n]] W fun e w'=>e= .returned (.bool true)∧Below W.heap.size W w'):=fun W=>by
  have:=zaG hi f n W D k;rwa [l] at this
 have t:Hid (∀W,Calls Tryz.prog 62 #[.agg #[.int .u64 c,.int .u64 d,.int .i64 m]] W fun e w'=>e= .returned (.bool true)∧Below W.heap.size W w'):=fun W=>by
  have:=zaG c d m W z s;rwa [r] at this
 obtain ⟨y,q⟩: ∃x,hiN (ofW (zaD c d) n.toNat)=x:=⟨_,rfl⟩
 obtain ⟨A,p⟩: ∃x,loN (ofW (zaD c d) n.toNat)=x:=⟨_,rfl⟩
 have F:=zdS l
 have i:(n.toNat:Int)=n:=by omega
 have G:Hid (∀W,Calls Tryz.prog 87 #[.int .u64 c,.int .u64 d,.int .i64 n] W fun e w'=>e= .returned (.agg #[.int .u64 y,.int .u64 A,.int .i64 n])∧Below W.heap.size W w'):=fun W=>by
  have:=zbA c d n.toNat W z s (by omega)
  unfold pfW at this
  rw [q,p,i] at this
  exact this
 have E:((y:Int)==hi&&((A:Int)==f&&n==n))=zaI (zaD hi f) n (zaD c d) m:=by
  unfold zaI
  have r3:rt (zaD hi f) n.toNat:=by have:=l;rw [←i,zaY] at this;exact this.2
  rw [l,r,ziJ C,Bool.true_and,Bool.true_and,Bool.true_and,Bool.eq_iff_iff,decide_eq_true_iff]
  simp only [Bool.and_eq_true,beq_iff_eq,and_true]
  constructor
  ·rintro ⟨a,b⟩
   have:ofW (zaD c d) n.toNat=zaD hi f:=zdG (by rw [q,zaP k];omega) (by rw [p,zaT k];omega)
   rw [←this];exact qt_of _ _
  ·intro b
   have:ofW (zaD c d) n.toNat=zaD hi f:=ziG (zhV _ _) r3 ((qt_of _ _).trans b.symm)
   rw [this,zaP k] at q
   rw [this,zaT k] at p
   omega
 have v:=eqPf y A n hi f n
 rw [E] at v
 have K:=zbE
 have I:decide (n≤m)=true:=ziJ (by omega)
 clear l r D k z s C E q p i F
 generalize zaI (zaD hi f) n (zaD c d) m=b at*
 go_enter Tryz.func89,Tryz.ntmps89
 go_wp2
 go_region_held3 (fun W=>(W.cell? ⟨w.heap.size,0,none⟩=some (.int .u64 hi)∧W.cell? ⟨w.heap.size,1,none⟩=some (.int .u64 f)∧W.cell? ⟨w.heap.size,2,none⟩=some (.int .i64 n))∧W.cell? ⟨w.heap.size+1,0,none⟩=some (.int .u64 c)∧W.cell? ⟨w.heap.size+1,1,none⟩=some (.int .u64 d)∧W.cell? ⟨w.heap.size+1,2,none⟩=some (.int .i64 m))
  (first|exact h.out _ (zbK)|exact h.out _ (zaJ (by simp) g)|exact h.out _ (zaN (by simp) (zaJ (by simp) g) j)|exact h.out _ (zaN (by simp) (zaN (by simp) (zaJ (by simp) g) j) o))
  (first
   |(go_simp;go_at_call 62;((with_reducible refine (B.out _).mono ?_);rintro e H ⟨rfl,g⟩))
   |(go_simp;go_at_call 62;((with_reducible refine (t.out _).mono ?_);rintro e J ⟨rfl,j⟩))
   |(go_simp;go_at_call 87;((with_reducible refine (G.out _).mono ?_);rintro e L ⟨rfl,o⟩))
)
 go_wp2
 go_ret
 exact ⟨by first|rfl|(simp;done)|kernel_rfl|(simp [Act.put];done),zaK (zaN (by simp) (zaN (by simp) (zaJ (by simp) g) j) o)⟩
theorem zdV (hi c b a:Nat) (n m:Int) (w:World) (h:hi<18446744073709551616) (i:c<18446744073709551616) (j:b<18446744073709551616) (g:a<18446744073709551616):
  Calls Tryz.prog 89 #[.agg #[.int .u64 hi,.int .u64 c,.int .i64 n],.agg #[.int .u64 b,.int .u64 a,.int .i64 m]] w fun e w'=>e= .returned (.bool (zaI (zaD hi c) n (zaD b a) m))∧Below w.heap.size w w':=by
 cases d:zaF (zaD hi c) n with
 |false=>
  rw [show zaI (zaD hi c) n (zaD b a) m=false from by unfold zaI;rw [d];rfl]
  exact zhJ hi c b a n m w h i j g d
 |true=>
  cases f:zaF (zaD b a) m with
  |false=>
   rw [show zaI (zaD hi c) n (zaD b a) m=false from by unfold zaI;rw [d,f];rfl]
   exact zhM hi c b a n m w h i j g d f
  |true=>
   by_cases k:n≤m
   ·exact zgZ hi c b a n m w h i j g d f k
   ·rw [show zaI (zaD hi c) n (zaD b a) m=false from by unfold zaI;rw [d,f,ziI k];rfl]
    exact zgW hi c b a n m w h i j g d f (by omega)
theorem zhN (x:Nat) (h:x<18446744073709551616):bits .and .u64 (x:Int) 1=((x % 2:Nat):Int):=by
 rw [show (1:Int)=((1:Nat):Int) from rfl,u64_and_nat x 1 h (by decide),Nat.and_one_is_mod]
theorem zgR (x j:Nat) (h:x<18446744073709551616):wrap64 (bits .and .u64 ((x:Int)/2^j) 1)=((x/2^j % 2:Nat):Int):=by
 have e:((x:Int)/2^j)=((x/2^j:Nat):Int):=by simp
 rw [e,zhN _ (Nat.lt_of_le_of_lt (Nat.div_le_self _ _) h)]
 have:x/2^j % 2<2:=Nat.mod_lt _ (by decide)
 unfold wrap64;omega
theorem zhS (hi a:Nat) (n:Int) (k:Nat) (w:World) (f:hi<18446744073709551616) (c:a<18446744073709551616) (h:k<128):
  Calls Tryz.prog 90 #[.agg #[.int .u64 hi,.int .u64 a,.int .i64 n],.int .i64 k] w fun e w'=>e= .returned (.int .i64 (bitW (zaD hi a) k:Nat))∧Below w.heap.size w w':=by
 by_cases d:k<64
 ·have b:Hid (wrap64 (bits .and .u64 ((hi:Int)/2^(63 - k)) 1)=(bitW (zaD hi a) k:Nat)):=by
   show _=_
   rw [zgR _ _ f,bit_hi (show a<2^64 from c) k d]
  go_enter Tryz.func90,Tryz.ntmps90
  go_wp2
  all_goals go_ret
  all_goals exact ⟨retV (show Value.int .i64 _=_ by rw [b.out]),(ziK _ _).alloc (ziH _) _⟩
 ·have g:64≤k:=by omega
  have b:Hid (wrap64 (bits .and .u64 ((a:Int)/2^(127 - k)) 1)=(bitW (zaD hi a) k:Nat)):=by
   show _=_
   rw [zgR _ _ c,bit_lo (hi:=hi) k g h]
  clear d
  go_enter Tryz.func90,Tryz.ntmps90
  go_wp2
  all_goals go_ret
  all_goals exact ⟨retV (show Value.int .i64 _=_ by rw [b.out]),(ziK _ _).alloc (ziH _) _⟩
end
end Go.Proofs.YtpmaemedpcgjaaaGreatDoor
