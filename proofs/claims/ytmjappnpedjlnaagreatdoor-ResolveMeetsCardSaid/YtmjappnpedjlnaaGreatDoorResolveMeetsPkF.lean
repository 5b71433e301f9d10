/-
  What the law ResolveMeets leans on, and its walk (6 of 46).
-/
import Derived.Test.YtmjappnpedjlnaaGreatDoorChecked
import Derived.WalkKit
import Derived.WalkLawsBesides
import Derived.BigQuiet
import Derived.Deep.QuietTactic
import Derived.Deep.RegionHeld3
import Derived.Deep.DeepCutAuto
import Derived.Lib.Hide
import Derived.Lib.OthersKept
namespace Go.Proofs.YtmjappnpedjlnaaGreatDoor
set_option maxRecDepth 100000
set_option maxHeartbeats 16000000
theorem tkF {P : Program} {md : Region.Mode} {ops : Array Oper} {Q : Exit → Act → World → Prop} {S : World → Prop} (i : Nat) (s : Option Nat) {op : Op} {ty : TypeId} {pos : String} {af : _} {gd : _} {v : Value} {fuel : Nat} {listed : Array Bool} {a : Act} {w : World} (hi : ops[i]? = some ⟨s, op, ty, pos, af, gd⟩)
 (hy : YieldsIf P ops S ⟨s, op, ty, pos, af, gd⟩ v a) (hS : S w)
 (h : wpAnyH P md ops Q S fuel (listed.setIfInBounds i true) (a.put s v) w)
 (hs : Region.noSelect ops = true := by kernel_rfl) (hf : Region.free md ops listed i = true := by kernel_rfl) (hr : (Region.ready md ops listed).contains i = true := by kernel_rfl)
 (hQ : ∀ c a w, Q (.panic c) (a.put s v) w → Q (.panic c) a w := by exact fun _ _ _ h => h) : wpAnyH P md ops Q S (fuel + 1) listed a w :=
 wpAnyH_take hi hs hf hr hQ hy hS h
theorem tkFa {α : Type _} (l : List α) (i : Nat) (a : α) : l.toArray.setIfInBounds i a = (l.set i a).toArray := List.setIfInBounds_toArray ..
theorem tkFb {α : Type _} (x y : α) (l : List α) : (x :: l).set 0 y = y :: l := rfl
theorem tkFc {α : Type _} (x y : α) (l : List α) (n : Nat) : (x :: l).set (n + 1) y = x :: l.set n y := rfl
abbrev yoV := @Nat.le_refl
abbrev yoW := @decide_eq_false
abbrev yoX := @decide_eq_true
abbrev yoY := @Go.RowKit.Below.refl
section
open Go.RowKit
def zaR (hi lo:Nat):Nat:=hi*2^64+lo
def bitW (W i:Nat):Nat:=W/2^(127 - i) % 2
def ofW (W n:Nat):Nat:=W/2^(128 - n)*2^(128 - n)
def rightW (W n:Nat):Prop:=n≤128∧W % 2^(128 - n)=0
theorem yhG {hi lo:Nat} (l:lo<2^64):zaR hi lo/2^64=hi:=by unfold zaR;omega
theorem bit_hi {hi lo:Nat} (l:lo<2^64) (i:Nat) (h:i<64):hi/2^(63 - i) % 2=bitW (zaR hi lo) i:=by
 unfold bitW
 rw [show 127 - i=64+(63 - i) from by omega,Nat.pow_add,←Nat.div_div_eq_div_mul,yhG l]
theorem bit_lo {hi lo:Nat} (i:Nat) (h:64≤i) (h2:i<128):lo/2^(127 - i) % 2=bitW (zaR hi lo) i:=by
 unfold bitW zaR
 have e:hi*2^64=2^(127 - i)*(hi*2^(i - 64)*2):=by
  rw [show (2:Nat)^64=2^(127 - i)*(2^(i - 64)*2) from by rw [←Nat.pow_succ,←Nat.pow_add];congr 1;omega]
  rw [Nat.mul_left_comm,Nat.mul_assoc]
 rw [e,Nat.add_comm,Nat.add_mul_div_left _ _ (Nat.pow_pos (by decide)),Nat.add_mul_mod_self_right]
theorem yiR (W i:Nat):bitW W i=0∨bitW W i=1:=by unfold bitW;omega
theorem yfN (X i:Nat) (h:i<128):X/2^(128 - (i+1))=2*(X/2^(128 - i))+bitW X i:=by
 unfold bitW
 rw [show 128 - (i+1)=127 - i from by omega,show 128 - i=(127 - i)+1 from by omega,Nat.pow_succ,←Nat.div_div_eq_div_mul]
 omega
theorem ykQ (W n:Nat):ofW W n/2^(128 - n)=W/2^(128 - n):=Nat.mul_div_cancel _ (Nat.pow_pos (by decide))
theorem ofW_le (W n:Nat):ofW W n≤W:=Nat.div_mul_le_self _ _
theorem ygS {W n:Nat} (h:rightW W n):ofW W n=W:=by
 unfold ofW
 have:=Nat.div_add_mod W (2^(128 - n))
 rw [h.2,Nat.add_zero,Nat.mul_comm] at this
 exact this
def qt (X n:Nat):Nat:=X/2^(128 - n)
def zbX (W:Nat) (n:Int):Bool:=decide (0≤n∧n≤128∧W % 2^(128 - n.toNat)=0)
def zeN (P:Nat) (n:Int) (Q:Nat) (m:Int):Bool:=zbX P n&&(zbX Q m&&(decide (n≤m)&&decide (qt P n.toNat=qt Q n.toNat)))
theorem ymO (X n:Nat) (h:n<128):qt X (n+1)=2*qt X n+bitW X n:=yfN X n h
theorem qt_lt {X:Nat} (h:X<2^128):qt X 0=0:=Nat.div_eq_of_lt h
def rt (W n:Nat):Prop:=W % 2^(128 - n)=0
theorem ykZ {W n:Nat} (h:rt W n):W=qt W n*2^(128 - n):=by
 unfold rt at h;unfold qt
 have:=Nat.div_add_mod W (2^(128 - n))
 rw [h,Nat.add_zero,Nat.mul_comm] at this
 exact this.symm
theorem ylU {W P n:Nat} (h:rt W n) (h2:rt P n) (e:qt W n=qt P n):W=P:=by rw [ykZ h,ykZ h2,e]
theorem zoB {W n:Nat}:zbX W n=true↔n≤128∧rt W n:=by
 unfold zbX rt;rw [decide_eq_true_iff]
 constructor
 ·rintro ⟨_,h2,h3⟩;exact ⟨by omega,by simpa using h3⟩
 ·rintro ⟨h2,h3⟩;exact ⟨by omega,by omega,by simpa using h3⟩
theorem ynC (X n:Nat):rt (ofW X n) n:=Nat.mul_mod_left _ _
theorem qt_of (X n:Nat):qt (ofW X n) n=qt X n:=ykQ X n
def ziS (W P:Nat):Nat→Nat→Nat
 |i,0=>i
 |i,f+1=>if bitW W i=bitW P i then ziS W P (i+1) f else i
def zkY (W n P k:Nat):Nat:=ziS W P 0 (min n k)
def pfV (hi lo:Nat) (n:Int):Value:= .agg #[.int .u64 (hi:Int),.int .u64 (lo:Int),.int .i64 n]
def hiN (W:Nat):Nat:=W/18446744073709551616
def loN (W:Nat):Nat:=W % 18446744073709551616
def pfW (W:Nat) (n:Int):Value:=pfV (hiN W) (loN W) n
theorem zlN (W:Nat):zaR (hiN W) (loN W)=W:=by unfold zaR hiN loN;omega
theorem hiN_lt {W:Nat} (h:W<2^128):hiN W<18446744073709551616:=by unfold hiN;omega
theorem loN_lt (W:Nat):loN W<18446744073709551616:=by unfold loN;omega
theorem ziQ {hi lo:Nat} (l:lo<18446744073709551616):hiN (zaR hi lo)=hi:=by unfold zaR hiN;omega
theorem zkA {hi lo:Nat} (l:lo<18446744073709551616):loN (zaR hi lo)=lo:=by unfold zaR loN;omega
theorem ykW {hi lo:Nat} (h:hi<18446744073709551616) (l:lo<18446744073709551616):zaR hi lo<2^128:=by unfold zaR;omega
theorem yfL {hi lo:Nat} (l:lo<18446744073709551616) (n:Int):pfW (zaR hi lo) n=pfV hi lo n:=by unfold pfW;rw [ziQ l,zkA l]
theorem z0U {W P:Nat} (h1:hiN W=hiN P) (h2:loN W=loN P):W=P:=by rw [←zlN W,←zlN P,h1,h2]
def zoV (k:Nat):Nat:=2^64 - 2^(64 - k)
theorem zuC {k:Nat} (h:k≤64):2^k*2^(64 - k)=18446744073709551616:=by rw [←Nat.pow_add,show k+(64 - k)=64 from by omega]
theorem yhW (k:Nat):zoV k<18446744073709551616:=by
 have:0<2^(64 - k):=Nat.pow_pos (by decide)
 unfold zoV;omega
theorem ygI {k:Nat} (h:k≤64):18446744073709551615/2^k=2^(64 - k) - 1:=by
 have e:=zuC h
 have p1:0<2^k:=Nat.pow_pos (by decide)
 have p2:0<2^(64 - k):=Nat.pow_pos (by decide)
 generalize 2^k=a at*
 generalize 2^(64 - k)=b at*
 obtain ⟨c,rfl⟩: ∃c,b=c+1:=⟨b - 1,by omega⟩
 rw [Nat.mul_add,Nat.mul_one] at e
 rw [show 18446744073709551615=a*c+(a - 1) from by omega,Nat.mul_add_div p1,Nat.div_eq_of_lt (by omega)]
 omega
theorem xor64u (n:Nat) (h1:n≤18446744073709551615):bits .xor .u64 IntKind.u64.max (n:Int)=((18446744073709551615 - n:Nat):Int):=by
 have ha:n<2^64:=by omega
 have e1:BitVec.ofInt 64 18446744073709551615=BitVec.allOnes 64:=by decide
 show IntKind.u64.wrap (((BitVec.ofInt 64 18446744073709551615)^^^(BitVec.ofInt 64 (n:Int))).toNat:Int)=_
 rw [e1,BitVec.allOnes_xor,BitVec.toNat_not,BitVec.ofInt_natCast,BitVec.toNat_ofNat,Nat.mod_eq_of_lt ha,IntKind.wrap_u64]
 omega
theorem ygR {k:Nat} (h:k≤64):bits .xor .u64 IntKind.u64.max ((18446744073709551615:Int)/2^k)=(zoV k:Int):=by
 have e:((18446744073709551615:Int)/2^k)=((18446744073709551615/2^k:Nat):Int):=by simp
 have p2:0<2^(64 - k):=Nat.pow_pos (by decide)
 have p3:2^(64 - k)≤2^64:=Nat.pow_le_pow_right (by decide) (by omega)
 rw [e,ygI h,xor64u _ (by omega)]
 unfold zoV
 congr 1;omega
theorem z2W (x k:Nat) (hx:x<18446744073709551616):bits .and .u64 (x:Int) (zoV k:Int)=((x/2^(64 - k)*2^(64 - k):Nat):Int):=by
 rw [u64_and_nat x (zoV k) hx (yhW k)]
 congr 1
 have hk:zoV k=(2^(64 - (64 - k)) - 1)*2^(64 - k):=by
  have:=zuC (k:=64 - (64 - k)) (by omega)
  rw [show 64 - (64 - (64 - k))=64 - k from by omega] at this
  rw [Nat.sub_mul,this,Nat.one_mul];rfl
 apply Nat.eq_of_testBit_eq
 intro j
 rw [Nat.testBit_and,hk,Nat.testBit_mul_two_pow,Nat.testBit_mul_two_pow,Nat.testBit_two_pow_sub_one,Nat.testBit_div_two_pow]
 by_cases h:64 - k≤j
 ·rw [show j - (64 - k)+(64 - k)=j from by omega]
  by_cases h2:j<64
  ·simp [h,show j - (64 - k)<64 - (64 - k) from by omega]
  ·have:x.testBit j=false:=Nat.testBit_lt_two_pow (Nat.lt_of_lt_of_le hx (by rw [show 18446744073709551616=2^64 from by decide];exact Nat.pow_le_pow_right (by decide) (by omega)))
   simp [this]
 ·simp [h]
theorem yiE {hi lo:Nat} (l:lo<18446744073709551616) {n:Nat} (hn:n≤128):
  hiN (ofW (zaR hi lo) n)=hi/2^(64 - n)*2^(64 - n)∧loN (ofW (zaR hi lo) n)=lo/2^(64 - (n - 64))*2^(64 - (n - 64)):=by
 unfold ofW
 rcases Nat.lt_or_ge 64 n with h|h
 ·have e:(18446744073709551616:Nat)=2^(128 - n)*2^(n - 64):=by rw [←Nat.pow_add,show 128 - n+(n - 64)=64 from by omega]
  rw [show 64 - n=0 from by omega,show 64 - (n - 64)=128 - n from by omega]
  have hd:0<2^(128 - n):=Nat.pow_pos (by decide)
  have e3:zaR hi lo/2^(128 - n)*2^(128 - n)=hi*18446744073709551616+lo/2^(128 - n)*2^(128 - n):=by
   have q:zaR hi lo=2^(128 - n)*(2^(n - 64)*hi)+lo:=by
    unfold zaR
    rw [show (2:Nat)^64=18446744073709551616 from by decide,e]
    congr 1
    ac_rfl
   rw [q,Nat.mul_add_div hd,Nat.add_mul,e]
   congr 1
   ac_rfl
  have hle:lo/2^(128 - n)*2^(128 - n)≤lo:=Nat.div_mul_le_self _ _
  rw [e3]
  unfold hiN loN
  simp only [Nat.pow_zero,Nat.div_one,Nat.mul_one]
  constructor<;>omega
 ·have e:(2:Nat)^(128 - n)=18446744073709551616*2^(64 - n):=by rw [show 18446744073709551616=2^64 from by decide,←Nat.pow_add];congr 1;omega
  have e2:zaR hi lo/(18446744073709551616*2^(64 - n))=hi/2^(64 - n):=by
   rw [←Nat.div_div_eq_div_mul];congr 1;unfold zaR;omega
  rw [e,e2,show n - 64=0 from by omega,Nat.mul_left_comm]
  unfold hiN loN
  constructor
  ·rw [Nat.mul_div_cancel_left _ (by decide)]
  ·rw [Nat.mul_mod_right,Nat.div_eq_of_lt (show lo<2^(64 - 0) from l),Nat.zero_mul]
theorem retV {a b:Value} (h:a=b):Ending.returned a= .returned b:=by rw [h]
theorem z2N (n:Int) (w:World) (h0: -9223372036854775808≤n) (h1:n≤9223372036854775807):
  Calls Tryz.prog 301 #[.int .i64 n] w fun e w'=>e= .returned (.int .u64 (zoV n.toNat:Nat))∧w=w':=by
 by_cases a:n<0
 ·go_enter Tryz.func301,Tryz.ntmps301
  go_wp2
  all_goals go_ret
  all_goals exact ⟨retV (by rw [show n.toNat=0 from by omega];rfl),rfl⟩
 ·by_cases b:64<n
  ·go_enter Tryz.func301,Tryz.ntmps301
   go_wp2
   all_goals go_ret
   all_goals exact ⟨retV (by unfold zoV;rw [show 64 - n.toNat=0 from by omega];rfl),rfl⟩
  ·obtain ⟨k,rfl⟩:=Int.eq_ofNat_of_zero_le (show 0≤n by omega)
   have hk:k≤64:=by omega
   have HV:=Lib.hid (ygR hk)
   clear a b h0 h1
   go_enter Tryz.func301,Tryz.ntmps301
   go_wp2
   all_goals go_ret
   all_goals exact ⟨retV (show Value.int .u64 _=_ by rw [HV.out]),rfl⟩
theorem znB (hi lo n:Nat) (w:World) (h1:hi<18446744073709551616) (h2:lo<18446744073709551616) (hn:n≤128):
  Calls Tryz.prog 291 #[.int .u64 hi,.int .u64 lo,.int .i64 n] w fun e w'=>e= .returned (pfW (ofW (zaR hi lo) n) n)∧Below w.heap.size w w':=by
 obtain ⟨o1,o2⟩:=yiE (hi:=hi) h2 hn
 have HP:Hid (pfW (ofW (zaR hi lo) n) n= .agg #[.int .u64 ((hi/2^(64 - n)*2^(64 - n):Nat):Int),.int .u64 ((lo/2^(64 - (n - 64))*2^(64 - (n - 64)):Nat):Int),.int .i64 n]):=by
  show pfV _ _ _=_
  rw [o1,o2];rfl
 have e3:((n:Int) - 64).toNat=n - 64:=by omega
 have H3:=Lib.hid e3
 have HA:=Lib.hid (z2W hi n h1)
 have HB:=Lib.hid (z2W lo (n - 64) h2)
 clear o1 o2 e3
 go_enter Tryz.func291,Tryz.ntmps291
 go_wp2_with fail
 refine (z2N _ _ (by omega) (by omega)).mono ?_
 rintro e x1 ⟨rfl,rfl⟩
 rw [Int.toNat_natCast]
 go_wp2_with fail
 refine (z2N _ _ (by omega) (by omega)).mono ?_
 rintro e x1 ⟨rfl,rfl⟩
 rw [H3.out]
 go_wp2
 refine bodyPost_ret (v:= .agg #[.int .u64 (bits .and .u64 (hi:Int) (zoV n:Nat)),.int .u64 (bits .and .u64 (lo:Int) (zoV (n - 64):Nat)),.int .i64 n]) (by simp [results,Tryz.results291,go_sem]) rfl ⟨?_,?_⟩
 ·rw [HP.out,HA.out,HB.out]
 ·exact ((yoY _ _).alloc (yoV _) _)
theorem zqT (u v:Array Value): ∀(p q:Operand) (W:World),(eqGuard .eql 245 p q (.agg u) (.agg v)).run Tryz.prog W= .ok () W:=by
 intro p q W;kernel_rfl
theorem eqPf (a b c a' b' c':Int): ∀W:World,(binOp .eql 245 (.agg #[.int .u64 a,.int .u64 b,.int .i64 c]) (.agg #[.int .u64 a',.int .u64 b',.int .i64 c'])).run Tryz.prog W= .ok (.bool (a==a'&&(b==b'&&c==c'))) W:=by
 intro W
 have e1:(Op.equal 245 (.agg #[.int .u64 a,.int .u64 b,.int .i64 c]) (.agg #[.int .u64 a',.int .u64 b',.int .i64 c'])).run Tryz.prog W= .ok (a==a'&&(b==b'&&c==c')) W:=by
  show (Op.equalIn 10000 245 _ _).run Tryz.prog W=_
  rw [run_equalIn_struct W 9999 245 _ _ (by kernel_rfl) (by kernel_rfl)]
  simp [Program.fieldsOf,Tryz.underlying245,Op.eqFields,go_sem,part,Tryz.sizeOf56,Tryz.isAgg56,Tryz.underlying56,Tryz.sizeOf3,Tryz.isAgg3,Tryz.underlying3]
  by_cases g1:a=a'<;>by_cases g2:b=b'<;>by_cases g3:c=c'<;>simp [g1,g2,g3]
 show ((Op.equal _ _ _>>=fun b=>pure (Value.bool b)):Sem Value).run _ _=_
 rw [Sem.run_bind,e1];rfl
theorem ygV (w:World) (a b c:Value) (t:TypeId): ∀W,Below (w.heap.size+1) (w.alloc (.cells #[a,b,c] t)) W→W.cell? ⟨w.heap.size,0,none⟩=some a∧W.cell? ⟨w.heap.size,1,none⟩=some b∧W.cell? ⟨w.heap.size,2,none⟩=some c:=fun W h=>by
 refine ⟨?_,?_,?_⟩
 all_goals
  rw [h.cell (p:=⟨w.heap.size,_,none⟩) (by show w.heap.size<_;omega)]
  simp [go_sem]
theorem zjY {w W:World} {o:Obj} (h:Below (w.heap.size+1) (w.alloc o) W):Below w.heap.size w W:=
 ((yoY _ _).alloc (yoV _) o).trans (h.mono (Nat.le_succ _))
theorem ztC {x:World} {n:Nat}:Below n x x.drew:=(yoY _ _).drew
theorem ykN {x:World} {n k:Nat}:Below n x (x.drewN k):=⟨rfl,rfl,rfl,yoV _,fun _ _=>rfl⟩
theorem zgC {x W:World} {n:Nat} (hn:n≤x.heap.size) (h:Below x.drew.heap.size x.drew W):Below n x W:=(yoY _ _).drew.trans (h.mono hn)
theorem zhK {x y W:World} {n:Nat} (hn:n≤x.heap.size) (h:Below n x y) (h2:Below y.heap.size y W):Below n x W:=h.trans (h2.mono (Nat.le_trans hn h.size))
theorem yjX (hi lo n:Nat) (w:World) (h1:hi<18446744073709551616) (h2:lo<18446744073709551616) (hn:n≤128):
  Calls Tryz.prog 280 #[.agg #[.int .u64 hi,.int .u64 lo,.int .i64 n]] w fun e w'=>e= .returned (.bool (zbX (zaR hi lo) n))∧Below w.heap.size w w':=by
 obtain ⟨h',g1⟩: ∃x,hiN (ofW (zaR hi lo) n)=x:=⟨_,rfl⟩
 obtain ⟨l',g2⟩: ∃x,loN (ofW (zaR hi lo) n)=x:=⟨_,rfl⟩
 have HC:Hid (∀W,Calls Tryz.prog 291 #[.int .u64 hi,.int .u64 lo,.int .i64 n] W fun e w'=>e= .returned (.agg #[.int .u64 h',.int .u64 l',.int .i64 n])∧Below W.heap.size W w'):=fun W=>by
  have:=znB hi lo n W h1 h2 hn
  unfold pfW at this
  rw [g1,g2] at this
  exact this
 have hb:((h':Int)==hi&&((l':Int)==lo&&(n:Int)==n))=zbX (zaR hi lo) n:=by
  rw [Bool.eq_iff_iff,zoB]
  simp only [Bool.and_eq_true,beq_iff_eq,and_true]
  constructor
  ·rintro ⟨a,b⟩
   refine ⟨hn,?_⟩
   have:ofW (zaR hi lo) n=zaR hi lo:=z0U (by rw [g1,ziQ h2];omega) (by rw [g2,zkA h2];omega)
   rw [←this];exact ynC _ _
  ·rintro ⟨_,b⟩
   have:ofW (zaR hi lo) n=zaR hi lo:=ygS ⟨hn,b⟩
   rw [this,ziQ h2] at g1
   rw [this,zkA h2] at g2
   omega
 have heq:=eqPf h' l' n hi lo n
 rw [hb] at heq
 have hg:=zqT
 have HKC:=Lib.hid (ygV w (.int .u64 hi) (.int .u64 lo) (.int .i64 n) 245)
 have t1:decide ((0:Int)≤n)=true:=yoX (by omega)
 have t2:decide ((n:Int)≤128)=true:=yoX (by omega)
 clear g1 g2 hb
 generalize zbX (zaR hi lo) n=b at*
 go_enter Tryz.func280,Tryz.ntmps280
 go_wp2
 go_region_held3 (fun W=>W.cell? ⟨w.heap.size,0,none⟩=some (.int .u64 hi)∧W.cell? ⟨w.heap.size,1,none⟩=some (.int .u64 lo)∧W.cell? ⟨w.heap.size,2,none⟩=some (.int .i64 n))
  (first|exact HKC.out _ ztC|exact HKC.out _ (zgC (by simp) hb1))
  (first
   |(go_simp;go_at_call 291;((with_reducible refine (HC.out _).mono ?_);rintro e x1 ⟨rfl,hb1⟩)))
 go_wp2
 go_ret
 exact ⟨rfl,zjY (zgC (by simp) hb1)⟩
theorem ycX (hi lo:Nat) (n:Int) (w:World) (hn:n<0∨128<n):
  Calls Tryz.prog 280 #[.agg #[.int .u64 hi,.int .u64 lo,.int .i64 n]] w fun e w'=>e= .returned (.bool false)∧Below w.heap.size w w':=by
 by_cases h0:n<0
 ·have t1:decide ((0:Int)≤n)=false:=yoW (by omega)
  clear hn
  go_enter Tryz.func280,Tryz.ntmps280
  go_wp2
  go_quiet (fail)
  go_wp2
  go_ret
  exact ⟨rfl,zjY ykN⟩
 ·have t1:decide ((0:Int)≤n)=true:=yoX (by omega)
  have t2:decide (n≤128)=false:=yoW (by omega)
  clear hn
  go_enter Tryz.func280,Tryz.ntmps280
  go_wp2
  go_quiet (fail)
  go_wp2
  go_ret
  exact ⟨rfl,zjY ykN⟩
theorem zzE {W:Nat} {n:Int} (h:n<0∨128<n):zbX W n=false:=by unfold zbX;rw [decide_eq_false_iff_not];omega
theorem z4N {W:Nat} {n:Int} (h:zbX W n=true):0≤n∧n≤128:=by unfold zbX at h;rw [decide_eq_true_iff] at h;omega
theorem zdI (hi lo:Nat) (n:Int) (w:World) (h1:hi<18446744073709551616) (h2:lo<18446744073709551616):
  Calls Tryz.prog 280 #[.agg #[.int .u64 hi,.int .u64 lo,.int .i64 n]] w fun e w'=>e= .returned (.bool (zbX (zaR hi lo) n))∧Below w.heap.size w w':=by
 by_cases h:n<0∨128<n
 ·rw [zzE h];exact ycX hi lo n w h
 ·obtain ⟨k,rfl⟩:=Int.eq_ofNat_of_zero_le (show 0≤n by omega)
  exact yjX hi lo k w h1 h2 (by omega)
theorem zkB (w:World) (a b c a' b' c':Value) (t:TypeId): ∀W,Below (w.heap.size+2) ((w.alloc (.cells #[a,b,c] t)).alloc (.cells #[a',b',c'] t)) W→
  (W.cell? ⟨w.heap.size,0,none⟩=some a∧W.cell? ⟨w.heap.size,1,none⟩=some b∧W.cell? ⟨w.heap.size,2,none⟩=some c)∧W.cell? ⟨w.heap.size+1,0,none⟩=some a'∧W.cell? ⟨w.heap.size+1,1,none⟩=some b'∧W.cell? ⟨w.heap.size+1,2,none⟩=some c':=fun W h=>by
 refine ⟨⟨?_,?_,?_⟩,?_,?_,?_⟩
 ·rw [h.cell (p:=⟨w.heap.size,_,none⟩) (by show w.heap.size<_;omega)];simp [go_sem]
 ·rw [h.cell (p:=⟨w.heap.size,_,none⟩) (by show w.heap.size<_;omega)];simp [go_sem]
 ·rw [h.cell (p:=⟨w.heap.size,_,none⟩) (by show w.heap.size<_;omega)];simp [go_sem]
 ·rw [h.cell (p:=⟨w.heap.size+1,_,none⟩) (by show w.heap.size+1<_;omega)];simp [go_sem]
 ·rw [h.cell (p:=⟨w.heap.size+1,_,none⟩) (by show w.heap.size+1<_;omega)];simp [go_sem]
 ·rw [h.cell (p:=⟨w.heap.size+1,_,none⟩) (by show w.heap.size+1<_;omega)];simp [go_sem]
theorem zfV {w W:World} {o o':Obj} (h:Below (w.heap.size+2) ((w.alloc o).alloc o') W):Below w.heap.size w W:=
 (((yoY _ _).alloc (yoV _) o).alloc (by simp) o').trans (h.mono (by omega))
theorem yjV (hi lo hi2 lo2:Nat) (n m:Int) (w:World) (h1:hi<18446744073709551616) (h2:lo<18446744073709551616) (_:hi2<18446744073709551616) (_:lo2<18446744073709551616) (r1:zbX (zaR hi lo) n=false):
  Calls Tryz.prog 293 #[.agg #[.int .u64 hi,.int .u64 lo,.int .i64 n],.agg #[.int .u64 hi2,.int .u64 lo2,.int .i64 m]] w fun e w'=>e= .returned (.bool false)∧Below w.heap.size w w':=by
 have HKC:=Lib.hid (zkB w (.int .u64 hi) (.int .u64 lo) (.int .i64 n) (.int .u64 hi2) (.int .u64 lo2) (.int .i64 m) 245)
 have HR1:Hid (∀W,Calls Tryz.prog 280 #[.agg #[.int .u64 hi,.int .u64 lo,.int .i64 n]] W fun e w'=>e= .returned (.bool false)∧Below W.heap.size W w'):=fun W=>by
  have:=zdI hi lo n W h1 h2;rwa [r1] at this
 clear r1 h1 h2
 go_enter Tryz.func293,Tryz.ntmps293
 go_wp2
 refine wp_region_held_drew (S:=fun W=>(W.cell? ⟨w.heap.size,0,none⟩=some (.int .u64 hi)∧W.cell? ⟨w.heap.size,1,none⟩=some (.int .u64 lo)∧W.cell? ⟨w.heap.size,2,none⟩=some (.int .i64 n))∧W.cell? ⟨w.heap.size+1,0,none⟩=some (.int .u64 hi2)∧W.cell? ⟨w.heap.size+1,1,none⟩=some (.int .u64 lo2)∧W.cell? ⟨w.heap.size+1,2,none⟩=some (.int .i64 m)) (by kernel_rfl) ?_ (fun hHeld=> ?_)
 ·exact HKC.out _ ztC
 refine tkF 0 (some 5) (v:= ?_) rfl (.inl ⟨by rfl,?_⟩) hHeld ?_;rotate_left;·intro w hSw;(try dsimp only at hSw);go_simp;try with_reducible rfl
 try simp only [Act.put,tkFa,tkFb,tkFc]
 refine wpAnyH_ready (rs:=[1]) (by kernel_rfl) (by simp) ?_
 refine AllReadyH.cons (o:=⟨some 6,_,_,_,_,_⟩) rfl (fun K hK=> ?_) AllReadyH.nil
 go_simp
 go_at_call 280
 refine (HR1.out _).mono ?_
 rintro e x1 ⟨rfl,hb1⟩
 (try go_wp2_with fail)
 refine hK.out _ _ ?_ (fun hHeld1=> ?_)
 ·exact HKC.out _ (zgC (by simp) hb1)
 clear hK K
 try simp only [Act.put,tkFa,tkFb,tkFc]
 refine tkF 2 (some 7) (v:= ?_) rfl (.inl ⟨by rfl,?_⟩) hHeld1 ?_;rotate_left;·intro w hSw;(try dsimp only at hSw);go_simp;try with_reducible rfl
 try simp only [Act.put,tkFa,tkFb,tkFc]
 refine tkF 3 (some 8) (v:=undef) rfl (.inr ⟨by rfl,rfl⟩) hHeld1 ?_
 try simp only [Act.put,tkFa,tkFb,tkFc]
 refine tkF 4 (some 9) (v:=undef) rfl (.inr ⟨by rfl,rfl⟩) hHeld1 ?_
 try simp only [Act.put,tkFa,tkFb,tkFc]
 refine tkF 5 (some 10) (v:= ?_) rfl (.inl ⟨by rfl,?_⟩) hHeld1 ?_;rotate_left;·intro w hSw;(try dsimp only at hSw);go_simp;try with_reducible rfl
 try simp only [Act.put,tkFa,tkFb,tkFc]
 refine tkF 6 (some 11) (v:= ?_) rfl (.inl ⟨by rfl,?_⟩) hHeld1 ?_;rotate_left;·intro w hSw;(try dsimp only at hSw);go_simp;try with_reducible rfl
 try simp only [Act.put,tkFa,tkFb,tkFc]
 refine tkF 7 (some 12) (v:=undef) rfl (.inr ⟨by rfl,rfl⟩) hHeld1 ?_
 try simp only [Act.put,tkFa,tkFb,tkFc]
 refine tkF 8 (some 13) (v:=undef) rfl (.inr ⟨by rfl,rfl⟩) hHeld1 ?_
 try simp only [Act.put,tkFa,tkFb,tkFc]
 refine tkF 9 (some 14) (v:=undef) rfl (.inr ⟨by rfl,rfl⟩) hHeld1 ?_
 try simp only [Act.put,tkFa,tkFb,tkFc]
 refine tkF 10 (some 15) (v:=undef) rfl (.inr ⟨by rfl,rfl⟩) hHeld1 ?_
 try simp only [Act.put,tkFa,tkFb,tkFc]
 refine tkF 11 (some 16) (v:=undef) rfl (.inr ⟨by rfl,rfl⟩) hHeld1 ?_
 try simp only [Act.put,tkFa,tkFb,tkFc]
 refine tkF 12 (some 17) (v:= ?_) rfl (.inl ⟨by rfl,?_⟩) hHeld1 ?_;rotate_left;·intro w hSw;(try dsimp only at hSw);go_simp;try with_reducible rfl
 try simp only [Act.put,tkFa,tkFb,tkFc]
 refine tkF 13 (some 18) (v:= ?_) rfl (.inl ⟨by rfl,?_⟩) hHeld1 ?_;rotate_left;·intro w hSw;(try dsimp only at hSw);go_simp;try with_reducible rfl
 try simp only [Act.put,tkFa,tkFb,tkFc]
 refine tkF 14 (some 19) (v:=undef) rfl (.inr ⟨by rfl,rfl⟩) hHeld1 ?_
 try simp only [Act.put,tkFa,tkFb,tkFc]
 refine tkF 15 (some 20) (v:=undef) rfl (.inr ⟨by rfl,rfl⟩) hHeld1 ?_
 try simp only [Act.put,tkFa,tkFb,tkFc]
 refine tkF 16 (some 21) (v:=undef) rfl (.inr ⟨by rfl,rfl⟩) hHeld1 ?_
 try simp only [Act.put,tkFa,tkFb,tkFc]
 refine tkF 17 (some 22) (v:=undef) rfl (.inr ⟨by rfl,rfl⟩) hHeld1 ?_
 try simp only [Act.put,tkFa,tkFb,tkFc]
 refine tkF 18 (some 23) (v:=undef) rfl (.inr ⟨by rfl,rfl⟩) hHeld1 ?_
 try simp only [Act.put,tkFa,tkFb,tkFc]
 refine tkF 19 (some 24) (v:=undef) rfl (.inr ⟨by rfl,rfl⟩) hHeld1 ?_
 try simp only [Act.put,tkFa,tkFb,tkFc]
 refine tkF 20 (some 25) (v:=undef) rfl (.inr ⟨by rfl,rfl⟩) hHeld1 ?_
 try simp only [Act.put,tkFa,tkFb,tkFc]
 refine tkF 21 (some 26) (v:=undef) rfl (.inr ⟨by rfl,rfl⟩) hHeld1 ?_
 try simp only [Act.put,tkFa,tkFb,tkFc]
 refine tkF 22 (some 27) (v:=undef) rfl (.inr ⟨by rfl,rfl⟩) hHeld1 ?_
 try simp only [Act.put,tkFa,tkFb,tkFc]
 refine tkF 23 (some 28) (v:= ?_) rfl (.inl ⟨by rfl,?_⟩) hHeld1 ?_;rotate_left;·intro w hSw;(try dsimp only at hSw);go_simp;try with_reducible rfl
 try simp only [Act.put,tkFa,tkFb,tkFc]
 refine tkF 24 (some 4) (v:= ?_) rfl (.inl ⟨by rfl,?_⟩) hHeld1 ?_;rotate_left;·intro w hSw;(try dsimp only at hSw);go_simp;try with_reducible rfl
 try simp only [Act.put,tkFa,tkFb,tkFc]
 refine wpAnyH_done (by kernel_rfl) ?_ _
 go_wp2
 go_ret
 exact ⟨by first|rfl|(simp;done)|kernel_rfl|(simp [Act.put];done),zfV (zgC (by simp) hb1)⟩
theorem yfH (hi lo hi2 lo2:Nat) (n m:Int) (w:World) (h1:hi<18446744073709551616) (h2:lo<18446744073709551616) (h3:hi2<18446744073709551616) (h4:lo2<18446744073709551616) (r1:zbX (zaR hi lo) n=true) (r2:zbX (zaR hi2 lo2) m=false):
  Calls Tryz.prog 293 #[.agg #[.int .u64 hi,.int .u64 lo,.int .i64 n],.agg #[.int .u64 hi2,.int .u64 lo2,.int .i64 m]] w fun e w'=>e= .returned (.bool false)∧Below w.heap.size w w':=by
 have HKC:=Lib.hid (zkB w (.int .u64 hi) (.int .u64 lo) (.int .i64 n) (.int .u64 hi2) (.int .u64 lo2) (.int .i64 m) 245)
 have HR1:Hid (∀W,Calls Tryz.prog 280 #[.agg #[.int .u64 hi,.int .u64 lo,.int .i64 n]] W fun e w'=>e= .returned (.bool true)∧Below W.heap.size W w'):=fun W=>by
  have:=zdI hi lo n W h1 h2;rwa [r1] at this
 have HR2:Hid (∀W,Calls Tryz.prog 280 #[.agg #[.int .u64 hi2,.int .u64 lo2,.int .i64 m]] W fun e w'=>e= .returned (.bool false)∧Below W.heap.size W w'):=fun W=>by
  have:=zdI hi2 lo2 m W h3 h4;rwa [r2] at this
 clear r1 r2 h1 h2 h3 h4
 go_enter Tryz.func293,Tryz.ntmps293
 go_wp2
 refine wp_region_held_drew (S:=fun W=>(W.cell? ⟨w.heap.size,0,none⟩=some (.int .u64 hi)∧W.cell? ⟨w.heap.size,1,none⟩=some (.int .u64 lo)∧W.cell? ⟨w.heap.size,2,none⟩=some (.int .i64 n))∧W.cell? ⟨w.heap.size+1,0,none⟩=some (.int .u64 hi2)∧W.cell? ⟨w.heap.size+1,1,none⟩=some (.int .u64 lo2)∧W.cell? ⟨w.heap.size+1,2,none⟩=some (.int .i64 m)) (by kernel_rfl) ?_ (fun hHeld=> ?_)
 ·exact HKC.out _ ztC
 refine tkF 0 (some 5) (v:= ?_) rfl (.inl ⟨by rfl,?_⟩) hHeld ?_;rotate_left;·intro w hSw;(try dsimp only at hSw);go_simp;try with_reducible rfl
 try simp only [Act.put,tkFa,tkFb,tkFc]
 refine wpAnyH_ready (rs:=[1]) (by kernel_rfl) (by simp) ?_
 refine AllReadyH.cons (o:=⟨some 6,_,_,_,_,_⟩) rfl (fun K hK=> ?_) AllReadyH.nil
 go_simp
 go_at_call 280
 refine (HR1.out _).mono ?_
 rintro e x1 ⟨rfl,hb1⟩
 (try go_wp2_with fail)
 refine hK.out _ _ ?_ (fun hHeld1=> ?_)
 ·exact HKC.out _ (zgC (by simp) hb1)
 clear hK K
 try simp only [Act.put,tkFa,tkFb,tkFc]
 refine tkF 2 (some 7) (v:= ?_) rfl (.inl ⟨by rfl,?_⟩) hHeld1 ?_;rotate_left;·intro w hSw;(try dsimp only at hSw);go_simp;try with_reducible rfl
 try simp only [Act.put,tkFa,tkFb,tkFc]
 refine tkF 3 (some 8) (v:= ?_) rfl (.inl ⟨by rfl,?_⟩) hHeld1 ?_;rotate_left;·intro w hSw;(try dsimp only at hSw);go_simp;try with_reducible rfl
 try simp only [Act.put,tkFa,tkFb,tkFc]
 refine wpAnyH_ready (rs:=[4]) (by kernel_rfl) (by simp) ?_
 refine AllReadyH.cons (o:=⟨some 9,_,_,_,_,_⟩) rfl (fun K hK=> ?_) AllReadyH.nil
 go_simp
 go_at_call 280
 refine (HR2.out _).mono ?_
 rintro e x2 ⟨rfl,hb2⟩
 (try go_wp2_with fail)
 refine hK.out _ _ ?_ (fun hHeld2=> ?_)
 ·exact HKC.out _ (zhK (by simp) (zgC (by simp) hb1) hb2)
 clear hK K
 try simp only [Act.put,tkFa,tkFb,tkFc]
 refine tkF 5 (some 10) (v:= ?_) rfl (.inl ⟨by rfl,?_⟩) hHeld2 ?_;rotate_left;·intro w hSw;(try dsimp only at hSw);go_simp;try with_reducible rfl
 try simp only [Act.put,tkFa,tkFb,tkFc]
 refine tkF 6 (some 11) (v:= ?_) rfl (.inl ⟨by rfl,?_⟩) hHeld2 ?_;rotate_left;·intro w hSw;(try dsimp only at hSw);go_simp;try with_reducible rfl
 try simp only [Act.put,tkFa,tkFb,tkFc]
 refine tkF 7 (some 12) (v:=undef) rfl (.inr ⟨by rfl,rfl⟩) hHeld2 ?_
 try simp only [Act.put,tkFa,tkFb,tkFc]
 refine tkF 8 (some 13) (v:=undef) rfl (.inr ⟨by rfl,rfl⟩) hHeld2 ?_
 try simp only [Act.put,tkFa,tkFb,tkFc]
 refine tkF 9 (some 14) (v:=undef) rfl (.inr ⟨by rfl,rfl⟩) hHeld2 ?_
 try simp only [Act.put,tkFa,tkFb,tkFc]
 refine tkF 10 (some 15) (v:=undef) rfl (.inr ⟨by rfl,rfl⟩) hHeld2 ?_
 try simp only [Act.put,tkFa,tkFb,tkFc]
 refine tkF 11 (some 16) (v:=undef) rfl (.inr ⟨by rfl,rfl⟩) hHeld2 ?_
 try simp only [Act.put,tkFa,tkFb,tkFc]
 refine tkF 12 (some 17) (v:= ?_) rfl (.inl ⟨by rfl,?_⟩) hHeld2 ?_;rotate_left;·intro w hSw;(try dsimp only at hSw);go_simp;try with_reducible rfl
 try simp only [Act.put,tkFa,tkFb,tkFc]
 refine tkF 13 (some 18) (v:= ?_) rfl (.inl ⟨by rfl,?_⟩) hHeld2 ?_;rotate_left;·intro w hSw;(try dsimp only at hSw);go_simp;try with_reducible rfl
 try simp only [Act.put,tkFa,tkFb,tkFc]
 refine tkF 14 (some 19) (v:=undef) rfl (.inr ⟨by rfl,rfl⟩) hHeld2 ?_
 try simp only [Act.put,tkFa,tkFb,tkFc]
 refine tkF 15 (some 20) (v:=undef) rfl (.inr ⟨by rfl,rfl⟩) hHeld2 ?_
 try simp only [Act.put,tkFa,tkFb,tkFc]
 refine tkF 16 (some 21) (v:=undef) rfl (.inr ⟨by rfl,rfl⟩) hHeld2 ?_
 try simp only [Act.put,tkFa,tkFb,tkFc]
 refine tkF 17 (some 22) (v:=undef) rfl (.inr ⟨by rfl,rfl⟩) hHeld2 ?_
 try simp only [Act.put,tkFa,tkFb,tkFc]
 refine tkF 18 (some 23) (v:=undef) rfl (.inr ⟨by rfl,rfl⟩) hHeld2 ?_
 try simp only [Act.put,tkFa,tkFb,tkFc]
 refine tkF 19 (some 24) (v:=undef) rfl (.inr ⟨by rfl,rfl⟩) hHeld2 ?_
 try simp only [Act.put,tkFa,tkFb,tkFc]
 refine tkF 20 (some 25) (v:=undef) rfl (.inr ⟨by rfl,rfl⟩) hHeld2 ?_
 try simp only [Act.put,tkFa,tkFb,tkFc]
 refine tkF 21 (some 26) (v:=undef) rfl (.inr ⟨by rfl,rfl⟩) hHeld2 ?_
 try simp only [Act.put,tkFa,tkFb,tkFc]
 refine tkF 22 (some 27) (v:=undef) rfl (.inr ⟨by rfl,rfl⟩) hHeld2 ?_
 try simp only [Act.put,tkFa,tkFb,tkFc]
 refine tkF 23 (some 28) (v:= ?_) rfl (.inl ⟨by rfl,?_⟩) hHeld2 ?_;rotate_left;·intro w hSw;(try dsimp only at hSw);go_simp;try with_reducible rfl
 try simp only [Act.put,tkFa,tkFb,tkFc]
 refine tkF 24 (some 4) (v:= ?_) rfl (.inl ⟨by rfl,?_⟩) hHeld2 ?_;rotate_left;·intro w hSw;(try dsimp only at hSw);go_simp;try with_reducible rfl
 try simp only [Act.put,tkFa,tkFb,tkFc]
 refine wpAnyH_done (by kernel_rfl) ?_ _
 go_wp2
 go_ret
 exact ⟨by first|rfl|(simp;done)|kernel_rfl|(simp [Act.put];done),zfV (zhK (by simp) (zgC (by simp) hb1) hb2)⟩
theorem yjK (hi lo hi2 lo2:Nat) (n m:Int) (w:World) (h1:hi<18446744073709551616) (h2:lo<18446744073709551616) (h3:hi2<18446744073709551616) (h4:lo2<18446744073709551616) (r1:zbX (zaR hi lo) n=true) (r2:zbX (zaR hi2 lo2) m=true) (hm:m<n):
  Calls Tryz.prog 293 #[.agg #[.int .u64 hi,.int .u64 lo,.int .i64 n],.agg #[.int .u64 hi2,.int .u64 lo2,.int .i64 m]] w fun e w'=>e= .returned (.bool false)∧Below w.heap.size w w':=by
 have HKC:=Lib.hid (zkB w (.int .u64 hi) (.int .u64 lo) (.int .i64 n) (.int .u64 hi2) (.int .u64 lo2) (.int .i64 m) 245)
 have HR1:Hid (∀W,Calls Tryz.prog 280 #[.agg #[.int .u64 hi,.int .u64 lo,.int .i64 n]] W fun e w'=>e= .returned (.bool true)∧Below W.heap.size W w'):=fun W=>by
  have:=zdI hi lo n W h1 h2;rwa [r1] at this
 have HR2:Hid (∀W,Calls Tryz.prog 280 #[.agg #[.int .u64 hi2,.int .u64 lo2,.int .i64 m]] W fun e w'=>e= .returned (.bool true)∧Below W.heap.size W w'):=fun W=>by
  have:=zdI hi2 lo2 m W h3 h4;rwa [r2] at this
 have t1:decide (n≤m)=false:=yoW (by omega)
 clear r1 r2 h1 h2 h3 h4 hm
 go_enter Tryz.func293,Tryz.ntmps293
 go_wp2
 refine wp_region_held_drew (S:=fun W=>(W.cell? ⟨w.heap.size,0,none⟩=some (.int .u64 hi)∧W.cell? ⟨w.heap.size,1,none⟩=some (.int .u64 lo)∧W.cell? ⟨w.heap.size,2,none⟩=some (.int .i64 n))∧W.cell? ⟨w.heap.size+1,0,none⟩=some (.int .u64 hi2)∧W.cell? ⟨w.heap.size+1,1,none⟩=some (.int .u64 lo2)∧W.cell? ⟨w.heap.size+1,2,none⟩=some (.int .i64 m)) (by kernel_rfl) ?_ (fun hHeld=> ?_)
 ·exact HKC.out _ ztC
 refine tkF 0 (some 5) (v:= ?_) rfl (.inl ⟨by rfl,?_⟩) hHeld ?_;rotate_left;·intro w hSw;(try dsimp only at hSw);go_simp;try with_reducible rfl
 try simp only [Act.put,tkFa,tkFb,tkFc]
 refine wpAnyH_ready (rs:=[1]) (by kernel_rfl) (by simp) ?_
 refine AllReadyH.cons (o:=⟨some 6,_,_,_,_,_⟩) rfl (fun K hK=> ?_) AllReadyH.nil
 go_simp
 go_at_call 280
 refine (HR1.out _).mono ?_
 rintro e x1 ⟨rfl,hb1⟩
 (try go_wp2_with fail)
 refine hK.out _ _ ?_ (fun hHeld1=> ?_)
 ·exact HKC.out _ (zgC (by simp) hb1)
 clear hK K
 try simp only [Act.put,tkFa,tkFb,tkFc]
 refine tkF 2 (some 7) (v:= ?_) rfl (.inl ⟨by rfl,?_⟩) hHeld1 ?_;rotate_left;·intro w hSw;(try dsimp only at hSw);go_simp;try with_reducible rfl
 try simp only [Act.put,tkFa,tkFb,tkFc]
 refine tkF 3 (some 8) (v:= ?_) rfl (.inl ⟨by rfl,?_⟩) hHeld1 ?_;rotate_left;·intro w hSw;(try dsimp only at hSw);go_simp;try with_reducible rfl
 try simp only [Act.put,tkFa,tkFb,tkFc]
 refine wpAnyH_ready (rs:=[4]) (by kernel_rfl) (by simp) ?_
 refine AllReadyH.cons (o:=⟨some 9,_,_,_,_,_⟩) rfl (fun K hK=> ?_) AllReadyH.nil
 go_simp
 go_at_call 280
 refine (HR2.out _).mono ?_
 rintro e x2 ⟨rfl,hb2⟩
 (try go_wp2_with fail)
 refine hK.out _ _ ?_ (fun hHeld2=> ?_)
 ·exact HKC.out _ (zhK (by simp) (zgC (by simp) hb1) hb2)
 clear hK K
 try simp only [Act.put,tkFa,tkFb,tkFc]
 refine tkF 5 (some 10) (v:= ?_) rfl (.inl ⟨by rfl,?_⟩) hHeld2 ?_;rotate_left;·intro w hSw;(try dsimp only at hSw);go_simp;try with_reducible rfl
 try simp only [Act.put,tkFa,tkFb,tkFc]
 refine tkF 6 (some 11) (v:= ?_) rfl (.inl ⟨by rfl,?_⟩) hHeld2 ?_;rotate_left;·intro w hSw;(try dsimp only at hSw);go_simp;try with_reducible rfl
 try simp only [Act.put,tkFa,tkFb,tkFc]
 refine tkF 7 (some 12) (v:= ?_) rfl (.inl ⟨by rfl,?_⟩) hHeld2 ?_;rotate_left;·intro w hSw;(try dsimp only at hSw);go_simp;try with_reducible rfl
 try simp only [Act.put,tkFa,tkFb,tkFc]
 refine tkF 8 (some 13) (v:= ?_) rfl (.inl ⟨by rfl,?_⟩) hHeld2 ?_;rotate_left;·intro w hSw;(try dsimp only at hSw);go_simp;try with_reducible rfl
 try simp only [Act.put,tkFa,tkFb,tkFc]
 refine tkF 9 (some 14) (v:= ?_) rfl (.inl ⟨by rfl,?_⟩) hHeld2 ?_;rotate_left;·intro w hSw;(try dsimp only at hSw);go_simp;try with_reducible rfl
 try simp only [Act.put,tkFa,tkFb,tkFc]
 refine tkF 10 (some 15) (v:= ?_) rfl (.inl ⟨by rfl,?_⟩) hHeld2 ?_;rotate_left;·intro w hSw;(try dsimp only at hSw);go_simp;try with_reducible rfl
 try simp only [Act.put,tkFa,tkFb,tkFc]
 refine tkF 11 (some 16) (v:= ?_) rfl (.inl ⟨by rfl,?_⟩) hHeld2 ?_;rotate_left;·intro w hSw;(try dsimp only at hSw);go_simp;try with_reducible rfl
 try simp only [Act.put,tkFa,tkFb,tkFc]
 refine tkF 12 (some 17) (v:= ?_) rfl (.inl ⟨by rfl,?_⟩) hHeld2 ?_;rotate_left;·intro w hSw;(try dsimp only at hSw);go_simp;try with_reducible rfl
 try simp only [Act.put,tkFa,tkFb,tkFc]
 refine tkF 13 (some 18) (v:= ?_) rfl (.inl ⟨by rfl,?_⟩) hHeld2 ?_;rotate_left;·intro w hSw;(try dsimp only at hSw);go_simp;try with_reducible rfl
 try simp only [Act.put,tkFa,tkFb,tkFc]
 refine tkF 14 (some 19) (v:=undef) rfl (.inr ⟨by rfl,rfl⟩) hHeld2 ?_
 try simp only [Act.put,tkFa,tkFb,tkFc]
 refine tkF 15 (some 20) (v:=undef) rfl (.inr ⟨by rfl,rfl⟩) hHeld2 ?_
 try simp only [Act.put,tkFa,tkFb,tkFc]
 refine tkF 16 (some 21) (v:=undef) rfl (.inr ⟨by rfl,rfl⟩) hHeld2 ?_
 try simp only [Act.put,tkFa,tkFb,tkFc]
 refine tkF 17 (some 22) (v:=undef) rfl (.inr ⟨by rfl,rfl⟩) hHeld2 ?_
 try simp only [Act.put,tkFa,tkFb,tkFc]
 refine tkF 18 (some 23) (v:=undef) rfl (.inr ⟨by rfl,rfl⟩) hHeld2 ?_
 try simp only [Act.put,tkFa,tkFb,tkFc]
 refine tkF 19 (some 24) (v:=undef) rfl (.inr ⟨by rfl,rfl⟩) hHeld2 ?_
 try simp only [Act.put,tkFa,tkFb,tkFc]
 refine tkF 20 (some 25) (v:=undef) rfl (.inr ⟨by rfl,rfl⟩) hHeld2 ?_
 try simp only [Act.put,tkFa,tkFb,tkFc]
 refine tkF 21 (some 26) (v:=undef) rfl (.inr ⟨by rfl,rfl⟩) hHeld2 ?_
 try simp only [Act.put,tkFa,tkFb,tkFc]
 refine tkF 22 (some 27) (v:=undef) rfl (.inr ⟨by rfl,rfl⟩) hHeld2 ?_
 try simp only [Act.put,tkFa,tkFb,tkFc]
 refine tkF 23 (some 28) (v:= ?_) rfl (.inl ⟨by rfl,?_⟩) hHeld2 ?_;rotate_left;·intro w hSw;(try dsimp only at hSw);go_simp;try with_reducible rfl
 try simp only [Act.put,tkFa,tkFb,tkFc]
 refine tkF 24 (some 4) (v:= ?_) rfl (.inl ⟨by rfl,?_⟩) hHeld2 ?_;rotate_left;·intro w hSw;(try dsimp only at hSw);go_simp;try with_reducible rfl
 try simp only [Act.put,tkFa,tkFb,tkFc]
 refine wpAnyH_done (by kernel_rfl) ?_ _
 go_wp2
 go_ret
 exact ⟨by first|rfl|(simp;done)|kernel_rfl|(simp [Act.put];done),zfV (zhK (by simp) (zgC (by simp) hb1) hb2)⟩
theorem yiH (hi lo hi2 lo2:Nat) (n m:Int) (w:World) (h1:hi<18446744073709551616) (h2:lo<18446744073709551616) (h3:hi2<18446744073709551616) (h4:lo2<18446744073709551616) (r1:zbX (zaR hi lo) n=true) (r2:zbX (zaR hi2 lo2) m=true) (hm:n≤m):
  Calls Tryz.prog 293 #[.agg #[.int .u64 hi,.int .u64 lo,.int .i64 n],.agg #[.int .u64 hi2,.int .u64 lo2,.int .i64 m]] w fun e w'=>e= .returned (.bool (zeN (zaR hi lo) n (zaR hi2 lo2) m))∧Below w.heap.size w w':=by
 have HKC:=Lib.hid (zkB w (.int .u64 hi) (.int .u64 lo) (.int .i64 n) (.int .u64 hi2) (.int .u64 lo2) (.int .i64 m) 245)
 have HR1:Hid (∀W,Calls Tryz.prog 280 #[.agg #[.int .u64 hi,.int .u64 lo,.int .i64 n]] W fun e w'=>e= .returned (.bool true)∧Below W.heap.size W w'):=fun W=>by
  have:=zdI hi lo n W h1 h2;rwa [r1] at this
 have HR2:Hid (∀W,Calls Tryz.prog 280 #[.agg #[.int .u64 hi2,.int .u64 lo2,.int .i64 m]] W fun e w'=>e= .returned (.bool true)∧Below W.heap.size W w'):=fun W=>by
  have:=zdI hi2 lo2 m W h3 h4;rwa [r2] at this
 obtain ⟨h',g1⟩: ∃x,hiN (ofW (zaR hi2 lo2) n.toNat)=x:=⟨_,rfl⟩
 obtain ⟨l',g2⟩: ∃x,loN (ofW (zaR hi2 lo2) n.toNat)=x:=⟨_,rfl⟩
 have hn:=z4N r1
 have hnn:(n.toNat:Int)=n:=by omega
 have HC:Hid (∀W,Calls Tryz.prog 291 #[.int .u64 hi2,.int .u64 lo2,.int .i64 n] W fun e w'=>e= .returned (.agg #[.int .u64 h',.int .u64 l',.int .i64 n])∧Below W.heap.size W w'):=fun W=>by
  have:=znB hi2 lo2 n.toNat W h3 h4 (by omega)
  unfold pfW at this
  rw [g1,g2,hnn] at this
  exact this
 have hb:((h':Int)==hi&&((l':Int)==lo&&n==n))=zeN (zaR hi lo) n (zaR hi2 lo2) m:=by
  unfold zeN
  have r3:rt (zaR hi lo) n.toNat:=by have:=r1;rw [←hnn,zoB] at this;exact this.2
  rw [r1,r2,yoX hm,Bool.true_and,Bool.true_and,Bool.true_and,Bool.eq_iff_iff,decide_eq_true_iff]
  simp only [Bool.and_eq_true,beq_iff_eq,and_true]
  constructor
  ·rintro ⟨a,b⟩
   have:ofW (zaR hi2 lo2) n.toNat=zaR hi lo:=z0U (by rw [g1,ziQ h2];omega) (by rw [g2,zkA h2];omega)
   rw [←this];exact qt_of _ _
  ·intro b
   have:ofW (zaR hi2 lo2) n.toNat=zaR hi lo:=ylU (ynC _ _) r3 ((qt_of _ _).trans b.symm)
   rw [this,ziQ h2] at g1
   rw [this,zkA h2] at g2
   omega
 have heq:=eqPf h' l' n hi lo n
 rw [hb] at heq
 have hg:=zqT
 have t1:decide (n≤m)=true:=yoX (by omega)
 clear r1 r2 h1 h2 h3 h4 hm hb g1 g2 hnn hn
 generalize zeN (zaR hi lo) n (zaR hi2 lo2) m=b at*
 go_enter Tryz.func293,Tryz.ntmps293
 go_wp2
 go_region_held3 (fun W=>(W.cell? ⟨w.heap.size,0,none⟩=some (.int .u64 hi)∧W.cell? ⟨w.heap.size,1,none⟩=some (.int .u64 lo)∧W.cell? ⟨w.heap.size,2,none⟩=some (.int .i64 n))∧W.cell? ⟨w.heap.size+1,0,none⟩=some (.int .u64 hi2)∧W.cell? ⟨w.heap.size+1,1,none⟩=some (.int .u64 lo2)∧W.cell? ⟨w.heap.size+1,2,none⟩=some (.int .i64 m))
  (first|exact HKC.out _ (ztC)|exact HKC.out _ (zgC (by simp) hb1)|exact HKC.out _ (zhK (by simp) (zgC (by simp) hb1) hb2)|exact HKC.out _ (zhK (by simp) (zhK (by simp) (zgC (by simp) hb1) hb2) hb3))
  (first
   |(go_simp;go_at_call 280;((with_reducible refine (HR1.out _).mono ?_);rintro e x1 ⟨rfl,hb1⟩))
   |(go_simp;go_at_call 280;((with_reducible refine (HR2.out _).mono ?_);rintro e x2 ⟨rfl,hb2⟩))
   |(go_simp;go_at_call 291;((with_reducible refine (HC.out _).mono ?_);rintro e x3 ⟨rfl,hb3⟩))
)
 go_wp2
 go_ret
 exact ⟨by first|rfl|(simp;done)|kernel_rfl|(simp [Act.put];done),zfV (zhK (by simp) (zhK (by simp) (zgC (by simp) hb1) hb2) hb3)⟩
theorem z3R (hi lo hi2 lo2:Nat) (n m:Int) (w:World) (h1:hi<18446744073709551616) (h2:lo<18446744073709551616) (h3:hi2<18446744073709551616) (h4:lo2<18446744073709551616):
  Calls Tryz.prog 293 #[.agg #[.int .u64 hi,.int .u64 lo,.int .i64 n],.agg #[.int .u64 hi2,.int .u64 lo2,.int .i64 m]] w fun e w'=>e= .returned (.bool (zeN (zaR hi lo) n (zaR hi2 lo2) m))∧Below w.heap.size w w':=by
 cases r1:zbX (zaR hi lo) n with
 |false=>
  rw [show zeN (zaR hi lo) n (zaR hi2 lo2) m=false from by unfold zeN;rw [r1];rfl]
  exact yjV hi lo hi2 lo2 n m w h1 h2 h3 h4 r1
 |true=>
  cases r2:zbX (zaR hi2 lo2) m with
  |false=>
   rw [show zeN (zaR hi lo) n (zaR hi2 lo2) m=false from by unfold zeN;rw [r1,r2];rfl]
   exact yfH hi lo hi2 lo2 n m w h1 h2 h3 h4 r1 r2
  |true=>
   by_cases hm:n≤m
   ·exact yiH hi lo hi2 lo2 n m w h1 h2 h3 h4 r1 r2 hm
   ·rw [show zeN (zaR hi lo) n (zaR hi2 lo2) m=false from by unfold zeN;rw [r1,r2,yoW hm];rfl]
    exact yjK hi lo hi2 lo2 n m w h1 h2 h3 h4 r1 r2 (by omega)
theorem yhF (x:Nat) (h:x<18446744073709551616):bits .and .u64 (x:Int) 1=((x % 2:Nat):Int):=by
 rw [show (1:Int)=((1:Nat):Int) from rfl,u64_and_nat x 1 h (by decide),Nat.and_one_is_mod]
theorem z7M (x j:Nat) (h:x<18446744073709551616):wrap64 (bits .and .u64 ((x:Int)/2^j) 1)=((x/2^j % 2:Nat):Int):=by
 have e:((x:Int)/2^j)=((x/2^j:Nat):Int):=by simp
 rw [e,yhF _ (Nat.lt_of_le_of_lt (Nat.div_le_self _ _) h)]
 have:x/2^j % 2<2:=Nat.mod_lt _ (by decide)
 unfold wrap64;omega
theorem ykE (hi lo:Nat) (n:Int) (k:Nat) (w:World) (h1:hi<18446744073709551616) (h2:lo<18446744073709551616) (hk:k<128):
  Calls Tryz.prog 294 #[.agg #[.int .u64 hi,.int .u64 lo,.int .i64 n],.int .i64 k] w fun e w'=>e= .returned (.int .i64 (bitW (zaR hi lo) k:Nat))∧Below w.heap.size w w':=by
 by_cases h5:k<64
 ·have HV:Hid (wrap64 (bits .and .u64 ((hi:Int)/2^(63 - k)) 1)=(bitW (zaR hi lo) k:Nat)):=by
   show _=_
   rw [z7M _ _ h1,bit_hi (show lo<2^64 from h2) k h5]
  go_enter Tryz.func294,Tryz.ntmps294
  go_wp2
  all_goals go_ret
  all_goals exact ⟨retV (show Value.int .i64 _=_ by rw [HV.out]),(yoY _ _).alloc (yoV _) _⟩
 ·have h6:64≤k:=by omega
  have HV:Hid (wrap64 (bits .and .u64 ((lo:Int)/2^(127 - k)) 1)=(bitW (zaR hi lo) k:Nat)):=by
   show _=_
   rw [z7M _ _ h2,bit_lo (hi:=hi) k h6 hk]
  clear h5
  go_enter Tryz.func294,Tryz.ntmps294
  go_wp2
  all_goals go_ret
  all_goals exact ⟨retV (show Value.int .i64 _=_ by rw [HV.out]),(yoY _ _).alloc (yoV _) _⟩
end
end Go.Proofs.YtmjappnpedjlnaaGreatDoor
