/-
  What the law WhatwgClean leans on, and its walk (10 of 31).
-/
import Derived.Test.YthacmlahnpdeeaaGreatDoorWhatwgCleanPkG
import Derived.Test.YthacmlahnpdeeaaGreatDoorWhatwgCleanPkI
namespace Go.Proofs.YthacmlahnpdeeaaGreatDoor
set_option maxRecDepth 100000
set_option maxHeartbeats 16000000
section
open Go.RowKit
def HZ.val:HZ→Value
 | .none=> .nilIface
 | .name l=> .iface 83 (.string ⟨l.toArray⟩)
 | .addr a=>a.val
def zxS (w:World) (x:HZ×Int) (e:Ending) (w':World):Prop:=e= .returned (.tuple #[x.1.val,.int .i64 x.2])∧Below w.heap.size w w'
theorem zeF {w w':World} {x:HZ×Int} {h:HZ} {n:Int} {v:Value} (e:x=(h,n)) (hv:v=h.val) (hb:Below w.heap.size w w'):zxS w x (.returned (.tuple #[v,.int .i64 n])) w':=by
 subst e hv;exact ⟨rfl,hb⟩
theorem z2P {r:List UInt8} (h: ¬r.getLast? =some 93∨(sixZ (Lib.trimSuffix r [93])).2=false):zkM r=(.none,6):=by
 unfold zkM
 rw [if_neg]
 rintro ⟨h1,h2⟩
 rw [zmY,if_pos h1] at h
 rcases h with h|h
 ·exact h h1
 ·rw [h2] at h;cases h
theorem zwH {r:List UInt8} {hi lo:Int} (h1:r.getLast? =some 93) (h2:sixZ (Lib.trimSuffix r [93])=((hi,lo),true)):zkM r=(.addr (.six hi lo),0):=by
 unfold zkM
 rw [zmY,if_pos h1] at h2
 rw [if_pos ⟨h1,by rw [h2]⟩,h2]
theorem zxA (r:List UInt8) (w:World) (hr:r.length≤1073741824) (hmax:MaxVar w):
  Calls Tryz.prog 96 #[.string ⟨r.toArray⟩] w (zxS w (zkM r)):=by
 have HX:=Lib.hid hmax
 clear hmax
 have hsl:=z1E r 93
 have htl:(Lib.trimSuffix r [93]).length≤r.length:=by rw [zmY];split<;>simp
 obtain ⟨t,ht⟩: ∃t,Lib.trimSuffix r [93]=t:=⟨_,rfl⟩
 obtain ⟨hi,lo,b,hz⟩: ∃hi lo b,sixZ t=((hi,lo),b):=⟨_,_,_,rfl⟩
 have HC:Hid (∀W,Calls Tryz.prog 141 #[.string ⟨r.toArray⟩,.string ⟨#[93]⟩] W fun e w'=>e= .returned (.tuple #[.string ⟨t.toArray⟩,.bool (decide (r.getLast? =some 93))])∧W=w'):=fun W=>(Tryz.strings_CutSuffix ⟨r.toArray⟩ ⟨#[93]⟩ W (by rw [zaJ];omega)).mono (fun e w' h=>⟨by rw [h.1,←ht,←hsl],h.2.symm⟩)
 rw [ht] at htl
 go_enter Tryz.func96,Tryz.ntmps96
 go_wp2_with fail
 refine (HC.out _).mono ?_
 rintro e w' ⟨rfl,rfl⟩
 go_wp2_with fail
 refine (ziR ⟨t.toArray⟩ _ (by rw [zaJ];omega) HX.out).mono ?_
 rw [zaW,hz]
 rintro e w1 ⟨rfl,hb1⟩
 clear HC
 by_cases hl:r.getLast? =some 93
 ·have hd:decide (r.getLast? =some 93)=true:=decide_eq_true hl
  cases b with
  |true=>
   have HF:=Lib.hid (zwH hl (by rw [ht];exact hz))
   clear hl hsl hz ht
   rw [hd]
   go_wp2
   go_ret2
   exact zeF HF.out rfl (hb1.alloc hb1.size _)
  |false=>
   have HF:=Lib.hid (z2P (r:=r) (.inr (by rw [ht,hz])))
   clear hl hsl hz ht
   rw [hd]
   go_wp2
   go_ret2
   exact zeF HF.out rfl (hb1.alloc hb1.size _)
 ·have hd:decide (r.getLast? =some 93)=false:=decide_eq_false hl
  have HF:=Lib.hid (z2P (r:=r) (.inl hl))
  clear hl hsl hz ht
  rw [hd]
  go_wp2
  go_ret2
  exact zeF HF.out rfl (hb1.alloc hb1.size _)
theorem ylH {c:List UInt8×Int} (h:c.2≠0):zfO c=(.none,c.2):=if_pos h
theorem zrU {n:List UInt8} (h:zhD n=false):zfO (n,0)=(.name n,0):=by unfold zfO;rw [if_neg (by simp),if_neg (by simp [h])]
theorem zsB {n:List UInt8} {x:Int} {b:Bool} (h:zhD n=true) (hx:zhP n=(x,b)):zfO (n,0)=if b=true then (.addr (.four x),0) else (.none,6):=by unfold zfO;rw [if_neg (by simp),if_pos h,hx]
theorem zdD (s:ByteArray) (w:World) (hs:s.size≤1073741824) (hmax:MaxVar w):
  Calls Tryz.prog 62 #[.string s] w (zxS w (zcR s.data.toList)):=by
 have HX:=Lib.hid hmax
 clear hmax
 obtain ⟨b,hb⟩: ∃b,Lib.hasPrefix s.data.toList [91]=b:=⟨_,rfl⟩
 obtain ⟨r,hr⟩: ∃r,Lib.trimPrefix s.data.toList [91]=r:=⟨_,rfl⟩
 have HC:Hid (∀W,Calls Tryz.prog 17 #[.string s,.string ⟨#[91]⟩] W fun e w'=>e= .returned (.tuple #[.string ⟨r.toArray⟩,.bool b])∧W=w'):=fun W=>(Tryz.strings_CutPrefix s ⟨#[91]⟩ W).mono (fun e w' h=>⟨by rw [h.1,←hr,←hb],h.2.symm⟩)
 cases b with
 |true=>
  have hrd:r=s.data.toList.drop 1:=by rw [←hr];unfold Lib.trimPrefix;rw [if_pos hb];rfl
  have hrl:r.length≤s.size:=by rw [hrd,List.length_drop,zaU];omega
  have HF:=Lib.hid ((z6Q hb).trans (by rw [hrd]:_=zkM r))
  clear hr hb hrd
  go_enter Tryz.func62,Tryz.ntmps62
  go_wp2_with fail
  refine (HC.out _).mono ?_
  rintro e w' ⟨rfl,rfl⟩
  go_wp2_with fail
  refine (zxA r _ (by omega) HX.out).mono ?_
  rw [←HF.out]
  rintro e w1 ⟨rfl,hb1⟩
  go_wp2
  go_ret2
  exact ⟨rfl,hb1⟩
 |false=>
  have HF:=Lib.hid (z8R hb)
  have hdl:=yhC s.data.toList
  rw [zaU] at hdl
  obtain ⟨d,hd⟩: ∃d,decB s.data.toList=d:=⟨_,rfl⟩
  have HD:Hid (∀W,Calls Tryz.prog 98 #[.string s] W fun e w'=>e= .returned (.string ⟨d.toArray⟩)∧Below W.heap.size W w'):=fun W=>by have:=zqK s W hs;rwa [hd] at this
  rw [hd] at HF hdl
  obtain ⟨n,er,hc⟩: ∃n er,zbR d=(n,er):=⟨_,_,rfl⟩
  have hnl:=z6H hc
  have HK:Hid (∀W,Calls Tryz.prog 97 #[.string ⟨d.toArray⟩] W fun e w'=>e= .returned (.tuple #[.string ⟨n.toArray⟩,.int .i64 er])∧Below W.heap.size W w'):=fun W=>by have:=ziN ⟨d.toArray⟩ W (by rw [zaJ];omega);rwa [zaW,hc] at this
  rw [hc] at HF
  clear hr hb hd hc
  go_enter Tryz.func62,Tryz.ntmps62
  go_wp2_with fail
  refine (HC.out _).mono ?_
  rintro e w' ⟨rfl,rfl⟩
  go_wp2_with fail
  refine (HD.out _).mono ?_
  rintro e w1 ⟨rfl,hb1⟩
  go_wp2_with fail
  refine (HK.out _).mono ?_
  rintro e w2 ⟨rfl,hb2⟩
  have hc2:=zaF hb1 hb2
  clear hb1 hb2 HD HK HC
  by_cases h0:er=0
  ·subst h0
   go_wp2_with fail
   refine (zcU _ _).mono ?_
   rintro e w' ⟨rfl,rfl⟩
   go_wp2_with fail
   refine (zsQ ⟨n.toArray⟩ _ (by rw [zaJ];omega)).mono ?_
   rw [zaW]
   rintro e w3 ⟨rfl,hb3⟩
   have hc3:=zaF hc2 hb3
   clear hc2 hb3
   cases he:zhD n with
   |false=>
    have HF2:=Lib.hid (HF.out.trans (zrU he))
    clear he
    go_wp2
    go_ret2
    exact zeF HF2.out rfl hc3
   |true=>
    obtain ⟨x,b,hx⟩: ∃x b,zhP n=(x,b):=⟨_,_,rfl⟩
    have HF2:=Lib.hid (HF.out.trans (zsB he hx))
    clear he
    go_wp2_with fail
    refine (zcU _ _).mono ?_
    rintro e w' ⟨rfl,rfl⟩
    go_wp2_with fail
    refine (ziO ⟨n.toArray⟩ _ (by rw [zaJ];omega)).mono ?_
    rw [zaW,hx]
    rintro e w4 ⟨rfl,hb4⟩
    have hc4:=zaF hc3 hb4
    clear hc3 hb4 hx
    cases b with
    |true=>
     go_wp2
     go_ret2
     exact zeF (HF2.out.trans (if_pos trivial)) rfl hc4
    |false=>
     go_wp2
     go_ret2
     exact zeF (HF2.out.trans (if_neg (by decide))) rfl hc4
  ·have HF2:=Lib.hid (HF.out.trans (ylH h0))
   have hd0:(er !=(0:Int))=true:=by rw [bne_iff_ne];exact h0
   clear h0
   go_wp2
   go_ret2
   exact zeF HF2.out rfl hc2
end

section
open Go.RowKit
theorem hsNN (v:Value) (w:World):(Instr.typeAssert (.iface 83 v) 24 83 true).run Tryz.prog w= .ok (.tuple #[v,.bool true]) w:=by kernel_rfl
theorem hsN4 (v:Value) (w:World):(Instr.typeAssert (.iface 83 v) 24 117 true).run Tryz.prog w= .ok (.tuple #[.int .u32 0,.bool false]) w:=by kernel_rfl
theorem hsN6 (v:Value) (w:World):(Instr.typeAssert (.iface 83 v) 24 120 true).run Tryz.prog w= .ok (.tuple #[.agg #[.int .u64 0,.int .u64 0],.bool false]) w:=by kernel_rfl
theorem hs4N (v:Value) (w:World):(Instr.typeAssert (.iface 117 v) 24 83 true).run Tryz.prog w= .ok (.tuple #[.string ⟨#[]⟩,.bool false]) w:=by kernel_rfl
theorem hs44 (v:Value) (w:World):(Instr.typeAssert (.iface 117 v) 24 117 true).run Tryz.prog w= .ok (.tuple #[v,.bool true]) w:=by kernel_rfl
theorem hs46 (v:Value) (w:World):(Instr.typeAssert (.iface 117 v) 24 120 true).run Tryz.prog w= .ok (.tuple #[.agg #[.int .u64 0,.int .u64 0],.bool false]) w:=by kernel_rfl
theorem hs6N (v:Value) (w:World):(Instr.typeAssert (.iface 120 v) 24 83 true).run Tryz.prog w= .ok (.tuple #[.string ⟨#[]⟩,.bool false]) w:=by kernel_rfl
theorem hs64 (v:Value) (w:World):(Instr.typeAssert (.iface 120 v) 24 117 true).run Tryz.prog w= .ok (.tuple #[.int .u32 0,.bool false]) w:=by kernel_rfl
theorem hs66 (v:Value) (w:World):(Instr.typeAssert (.iface 120 v) 24 120 true).run Tryz.prog w= .ok (.tuple #[v,.bool true]) w:=by kernel_rfl
theorem hs0N (w:World):(Instr.typeAssert .nilIface 24 83 true).run Tryz.prog w= .ok (.tuple #[.string ⟨#[]⟩,.bool false]) w:=by kernel_rfl
theorem hs04 (w:World):(Instr.typeAssert .nilIface 24 117 true).run Tryz.prog w= .ok (.tuple #[.int .u32 0,.bool false]) w:=by kernel_rfl
theorem hs06 (w:World):(Instr.typeAssert .nilIface 24 120 true).run Tryz.prog w= .ok (.tuple #[.agg #[.int .u64 0,.int .u64 0],.bool false]) w:=by kernel_rfl
/-- the address that a host is,if it is one -/
def HZ.ad:HZ→Option AZ
 | .addr a=>some a
 |_=>Option.none
def HZ.nm:HZ→List UInt8
 | .name l=>l
 |_=>[]
def HZ.isN:HZ→Bool
 | .name _=>true
 |_=>false
def kindZ:HZ→List UInt8
 | .none=>[110,111,110,101]
 | .name _=>[110,97,109,101]
 | .addr (.four _)=>[102,111,117,114]
 | .addr (.six _ _)=>[115,105,120]
theorem zmH (h:HZ) (w:World):
  Calls Tryz.prog 157 #[h.val] w fun e w'=>e= .returned (.tuple #[optV h.ad,.bool h.ad.isSome])∧Below w.heap.size w w':=by
 match h with
 | .none=>
  show Calls _ _ #[.nilIface] _ _
  have h4:=hs04
  have h6:=hs06
  go_enter Tryz.func157,Tryz.ntmps157
  go_wp2
  go_ret2
  exact ⟨rfl,Below.refl _ _⟩
 | .name l=>
  show Calls _ _ #[.iface 83 (.string ⟨l.toArray⟩)] _ _
  have h4:=hsN4
  have h6:=hsN6
  go_enter Tryz.func157,Tryz.ntmps157
  go_wp2
  go_ret2
  exact ⟨rfl,Below.refl _ _⟩
 | .addr (.four n)=>
  show Calls _ _ #[.iface 117 (.int .u32 n)] _ _
  have h4:=hs44
  go_enter Tryz.func157,Tryz.ntmps157
  go_wp2
  go_ret2
  exact ⟨rfl,Below.refl _ _⟩
 | .addr (.six hi lo)=>
  show Calls _ _ #[.iface 120 (.agg #[.int .u64 hi,.int .u64 lo])] _ _
  have h4:=hs64
  have h6:=hs66
  go_enter Tryz.func157,Tryz.ntmps157
  go_wp2
  go_ret2
  exact ⟨rfl,(Below.refl _ _).alloc (Nat.le_refl _) _⟩
theorem ziC (h:HZ) (w:World):
  Calls Tryz.prog 155 #[h.val] w fun e w'=>e= .returned (.tuple #[.string ⟨h.nm.toArray⟩,.bool h.isN])∧w=w':=by
 match h with
 | .none=>
  show Calls _ _ #[.nilIface] _ _
  have h4:=hs0N
  go_enter Tryz.func155,Tryz.ntmps155
  go_wp2
  go_ret2
  exact ⟨rfl,rfl⟩
 | .name l=>
  show Calls _ _ #[.iface 83 (.string ⟨l.toArray⟩)] _ _
  have h4:=hsNN
  go_enter Tryz.func155,Tryz.ntmps155
  go_wp2
  go_ret2
  exact ⟨rfl,rfl⟩
 | .addr (.four n)=>
  show Calls _ _ #[.iface 117 (.int .u32 n)] _ _
  have h4:=hs4N
  go_enter Tryz.func155,Tryz.ntmps155
  go_wp2
  go_ret2
  exact ⟨rfl,rfl⟩
 | .addr (.six hi lo)=>
  show Calls _ _ #[.iface 120 (.agg #[.int .u64 hi,.int .u64 lo])] _ _
  have h4:=hs6N
  go_enter Tryz.func155,Tryz.ntmps155
  go_wp2
  go_ret2
  exact ⟨rfl,rfl⟩
theorem zvJ (h:HZ) (w:World):
  Calls Tryz.prog 94 #[h.val] w fun e w'=>e= .returned (.string ⟨(kindZ h).toArray⟩)∧w=w':=by
 match h with
 | .none=>
  show Calls _ _ #[.nilIface] _ _
  have h1:=hs0N
  have h4:=hs04
  have h6:=hs06
  go_enter Tryz.func94,Tryz.ntmps94
  go_wp2
  go_ret
  exact ⟨rfl,rfl⟩
 | .name l=>
  show Calls _ _ #[.iface 83 (.string ⟨l.toArray⟩)] _ _
  have h1:=hsNN
  go_enter Tryz.func94,Tryz.ntmps94
  go_wp2
  go_ret
  exact ⟨rfl,rfl⟩
 | .addr (.four n)=>
  show Calls _ _ #[.iface 117 (.int .u32 n)] _ _
  have h1:=hs4N
  have h4:=hs44
  go_enter Tryz.func94,Tryz.ntmps94
  go_wp2
  go_ret
  exact ⟨rfl,rfl⟩
 | .addr (.six hi lo)=>
  show Calls _ _ #[.iface 120 (.agg #[.int .u64 hi,.int .u64 lo])] _ _
  have h1:=hs6N
  have h4:=hs64
  have h6:=hs66
  go_enter Tryz.func94,Tryz.ntmps94
  go_wp2
  go_ret
  exact ⟨rfl,rfl⟩
/-- may it be? -/
def yaY:HZ→Bool
 | .none=>false
 | .name l=>zrG l&& !zhD l
 | .addr _=>true
def HZ.small:HZ→Prop
 | .name l=>l.length≤1073741824
 |_=>True
theorem zsF (h:HZ) (w:World) (hs:h.small):
  Calls Tryz.prog 103 #[h.val] w (zcN w (yaY h)):=by
 match h,hs with
 | .none,_=>
  have HN:=Lib.hid (fun W=>ziC .none W)
  have HA:=Lib.hid (fun W=>zmH .none W)
  simp only [HZ.val,HZ.nm,HZ.isN,HZ.ad,optV] at HN HA ⊢
  go_enter Tryz.func103,Tryz.ntmps103
  go_wp2_with fail
  refine (HN.out _).mono ?_
  rintro e w' ⟨rfl,rfl⟩
  go_wp2_with fail
  refine (HA.out _).mono ?_
  rintro e w1 ⟨rfl,hb⟩
  go_wp2
  go_ret
  exact ⟨rfl,hb⟩
 | .addr a,_=>
  have HN:=Lib.hid (fun W=>ziC (.addr a) W)
  have HA:=Lib.hid (fun W=>zmH (.addr a) W)
  simp only [HZ.nm,HZ.isN,HZ.ad] at HN HA ⊢
  generalize (HZ.addr a).val=va at*
  generalize optV (some a)=vb at*
  go_enter Tryz.func103,Tryz.ntmps103
  go_wp2_with fail
  refine (HN.out _).mono ?_
  rintro e w' ⟨rfl,rfl⟩
  go_wp2_with fail
  refine (HA.out _).mono ?_
  rintro e w1 ⟨rfl,hb⟩
  go_wp2
  go_ret
  exact ⟨rfl,hb⟩
 | .name l,hs=>
  have hl:l.length≤1073741824:=hs
  have HN:=Lib.hid (fun W=>ziC (.name l) W)
  simp only [HZ.val,HZ.nm,HZ.isN] at HN ⊢
  have HR:=Lib.hid (fun W=>zzZ ⟨l.toArray⟩ W (by rw [zaJ];omega))
  have HE:=Lib.hid (fun W=>zsQ ⟨l.toArray⟩ W (by rw [zaJ];omega))
  have HF:=Lib.hid (show yaY (.name l)=(zrG l&& !zhD l) from rfl)
  rw [zaW] at HR HE
  go_enter Tryz.func103,Tryz.ntmps103
  go_wp2_with fail
  refine (HN.out _).mono ?_
  rintro e w' ⟨rfl,rfl⟩
  go_wp2_with fail
  refine (zcU _ _).mono ?_
  rintro e w' ⟨rfl,rfl⟩
  go_wp2_with fail
  refine (HR.out _).mono ?_
  rintro e w1 ⟨rfl,hb1⟩
  clear HN HR
  cases hr:zrG l with
  |false=>
   rw [hr] at HF
   go_wp2
   go_ret
   exact zaO HF.out hb1
  |true=>
   rw [hr] at HF
   clear hr
   go_wp2_with fail
   refine (zcU _ _).mono ?_
   rintro e w' ⟨rfl,rfl⟩
   go_wp2_with fail
   refine (HE.out _).mono ?_
   rintro e w2 ⟨rfl,hb2⟩
   go_wp2
   go_ret
   exact zaO HF.out (zaF hb1 hb2)
end

section
open Go.RowKit
def HZ.In:HZ→Prop
 | .addr a=>a.Ok
 |_=>True
theorem HZ.Ok.inn {h:HZ} (ho:h.Ok):h.In:=by
 match h,ho with
 | .name _,_=>trivial
 | .addr _,ho=>exact ho
theorem yhE (l:List UInt8):(zcR l).1.In:=by
 by_cases h:(zcR l).2=0
 ·exact (znA h).inn
 ·rw [z1H h];trivial
end

section
open Go.RowKit
theorem zgI (a b:List UInt8) (h:a.length+b.length≤1000000000): ∀W,(Op.stringOp .add ⟨a.toArray⟩ ⟨b.toArray⟩).run Tryz.prog W= .ok (.string ⟨(a++b).toArray⟩) W:=fun W=>by
 rw [run_string_add_sum W _ _ (by rw [zaJ,zaJ];omega),zkD]
theorem HZ.iface {h:HZ} (hne:h≠ .none): ∃t v,h.val= .iface t v:=by
 match h,hne with
 | .name l,_=>exact ⟨_,_,rfl⟩
 | .addr (.four n),_=>exact ⟨_,_,rfl⟩
 | .addr (.six hi lo),_=>exact ⟨_,_,rfl⟩
theorem HZ.Ok.ne {h:HZ} (ho:h.Ok):h≠ .none:=fun e=>by rw [e] at ho;exact ho
theorem zkN (h:HZ) (w:World) (ho:h.In) (hpow:PowTab w) (hbru:BruTab w):
  Calls Tryz.prog 95 #[h.val] w (zeB w (zfG h)):=by
 match h,ho with
 | .none,_=>
  show Calls _ _ #[.nilIface] _ _
  go_enter Tryz.func95,Tryz.ntmps95
  go_wp2
  go_ret
  exact ⟨rfl,Below.refl _ _⟩
 | .name l,_=>
  show Calls _ _ #[.iface 83 (.string ⟨l.toArray⟩)] _ _
  have h6:=hsN6
  have hm: ∀W:World,(method 393 83 (.string ⟨l.toArray⟩) "Text").run Tryz.prog W= .ok (100,(.string ⟨l.toArray⟩)) W:=fun _=>by kernel_rfl
  have hb:Below w.heap.size w (w.alloc (.cells #[.int .u64 0,.int .u64 0] 120)):=(Below.refl _ w).alloc (Nat.le_refl _) _
  clear hpow hbru
  go_enter Tryz.func95,Tryz.ntmps95
  go_wp2_with fail
  refine (zcU _ _).mono ?_
  rintro e w' ⟨rfl,rfl⟩
  go_wp2
  go_ret
  exact ⟨rfl,hb⟩
 | .addr (.four n),ho=>
  show Calls _ _ #[.iface 117 (.int .u32 n)] _ _
  have h6:=hs46
  have hm: ∀W:World,(method 393 117 (.int .u32 n) "Text").run Tryz.prog W= .ok (304,(.int .u32 n)) W:=fun _=>by kernel_rfl
  have hb:Below w.heap.size w (w.alloc (.cells #[.int .u64 0,.int .u64 0] 120)):=(Below.refl _ w).alloc (Nat.le_refl _) _
  have HT:=Lib.hid (z7Q n _ ho.1 ho.2 (zbB hpow hb))
  clear hpow hbru
  go_enter Tryz.func95,Tryz.ntmps95
  go_wp2_with fail
  refine HT.out.mono ?_
  rintro e w1 ⟨rfl,hb1⟩
  go_wp2
  go_ret
  exact ⟨rfl,hb.trans (hb1.mono hb.size)⟩
 | .addr (.six hi lo),ho=>
  show Calls _ _ #[.iface 120 (.agg #[.int .u64 hi,.int .u64 lo])] _ _
  have h6:=hs66
  have hb:Below w.heap.size w (w.alloc (.cells #[.int .u64 hi,.int .u64 lo] 120)):=(Below.refl _ w).alloc (Nat.le_refl _) _
  have HT:=Lib.hid (znJ hi lo _ ho.1.1 ho.1.2 ho.2.1 ho.2.2 (zaL hbru hb))
  have hl:=z7D ho.1.1 ho.1.2 ho.2.1 ho.2.2
  have HF:Hid (zfG (.addr (.six hi lo))=[91]++zfE hi lo++[93]):=rfl
  generalize zfE hi lo=tx at*
  clear hpow hbru
  have ha1: ∀W,(Op.stringOp .add ⟨#[91]⟩ ⟨tx.toArray⟩).run Tryz.prog W= .ok (.string ⟨([91]++tx).toArray⟩) W:=zgI [91] tx (by simp;omega)
  have ha2: ∀W,(Op.stringOp .add ⟨([91]++tx).toArray⟩ ⟨#[93]⟩).run Tryz.prog W= .ok (.string ⟨([91]++tx++[93]).toArray⟩) W:=zgI ([91]++tx) [93] (by simp;omega)
  generalize [91]++tx++[93]=t2 at*
  generalize [91]++tx=t1 at*
  go_enter Tryz.func95,Tryz.ntmps95
  go_wp2_with fail
  refine HT.out.mono ?_
  rintro e w1 ⟨rfl,hb1⟩
  go_wp2
  go_ret
  exact ⟨by rw [HF.out];rfl,hb.trans (hb1.mono hb.size)⟩
end

end Go.Proofs.YthacmlahnpdeeaaGreatDoor
