/-
  What the law ResolveMeets leans on, and its walk (20 of 46).
-/
import Derived.Test.YtmjappnpedjlnaaGreatDoorResolveMeetsPkQ
import Derived.Test.YtmjappnpedjlnaaGreatDoorResolveMeetsPkT
namespace Go.Proofs.YtmjappnpedjlnaaGreatDoor
set_option maxRecDepth 100000
set_option maxHeartbeats 16000000
abbrev ypF := @Lib.hid
section
open Go.RowKit
def HZ.val:HZ→Value
 | .none=> .nilIface
 | .name l=> .iface 103 (.string ⟨l.toArray⟩)
 | .addr a=>a.val
def zyT (w:World) (x:HZ×Int) (e:Ending) (w':World):Prop:=e= .returned (.tuple #[x.1.val,.int .i64 x.2])∧Below w.heap.size w w'
theorem zdZ {w w':World} {x:HZ×Int} {h:HZ} {n:Int} {v:Value} (e:x=(h,n)) (hv:v=h.val) (hb:Below w.heap.size w w'):zyT w x (.returned (.tuple #[v,.int .i64 n])) w':=by
 subst e hv;exact ⟨rfl,hb⟩
theorem z2B {r:List UInt8} (h: ¬r.getLast? =some 93∨(sixZ (Lib.trimSuffix r [93])).2=false):zlB r=(.none,6):=by
 unfold zlB
 rw [if_neg]
 rintro ⟨h1,h2⟩
 rw [zmD,if_pos h1] at h
 rcases h with h|h
 ·exact h h1
 ·rw [h2] at h;cases h
theorem z8F {r:List UInt8} {hi lo:Int} (h1:r.getLast? =some 93) (h2:sixZ (Lib.trimSuffix r [93])=((hi,lo),true)):zlB r=(.addr (.six hi lo),0):=by
 unfold zlB
 rw [zmD,if_pos h1] at h2
 rw [if_pos ⟨h1,by rw [h2]⟩,h2]
theorem zvK (r:List UInt8) (w:World) (hr:r.length≤1073741824) (hmax:MaxVar w):
  Calls Tryz.prog 125 #[.string ⟨r.toArray⟩] w (zyT w (zlB r)):=by
 have HX:=ypF hmax
 clear hmax
 have hsl:=z2O r 93
 have htl:(Lib.trimSuffix r [93]).length≤r.length:=by rw [zmD];split<;>simp
 obtain ⟨t,ht⟩: ∃t,Lib.trimSuffix r [93]=t:=⟨_,rfl⟩
 obtain ⟨hi,lo,b,hz⟩: ∃hi lo b,sixZ t=((hi,lo),b):=⟨_,_,_,rfl⟩
 have HC:Hid (∀W,Calls Tryz.prog 150 #[.string ⟨r.toArray⟩,.string ⟨#[93]⟩] W fun e w'=>e= .returned (.tuple #[.string ⟨t.toArray⟩,.bool (decide (r.getLast? =some 93))])∧W=w'):=fun W=>(Tryz.strings_CutSuffix ⟨r.toArray⟩ ⟨#[93]⟩ W (by rw [zaB];omega)).mono (fun e w' h=>⟨by rw [h.1,←ht,←hsl],h.2.symm⟩)
 rw [ht] at htl
 go_enter Tryz.func125,Tryz.ntmps125
 go_wp2_with fail
 refine (HC.out _).mono ?_
 rintro e w' ⟨rfl,rfl⟩
 go_wp2_with fail
 refine (zqA ⟨t.toArray⟩ _ (by rw [zaB];omega) HX.out).mono ?_
 rw [zaL,hz]
 rintro e w1 ⟨rfl,hb1⟩
 clear HC
 by_cases hl:r.getLast? =some 93
 ·have hd:decide (r.getLast? =some 93)=true:=decide_eq_true hl
  cases b with
  |true=>
   have HF:=ypF (z8F hl (by rw [ht];exact hz))
   clear hl hsl hz ht
   rw [hd]
   go_wp2
   go_ret2
   exact zdZ HF.out rfl (hb1.alloc hb1.size _)
  |false=>
   have HF:=ypF (z2B (r:=r) (.inr (by rw [ht,hz])))
   clear hl hsl hz ht
   rw [hd]
   go_wp2
   go_ret2
   exact zdZ HF.out rfl (hb1.alloc hb1.size _)
 ·have hd:decide (r.getLast? =some 93)=false:=decide_eq_false hl
  have HF:=ypF (z2B (r:=r) (.inl hl))
  clear hl hsl hz ht
  rw [hd]
  go_wp2
  go_ret2
  exact zdZ HF.out rfl (hb1.alloc hb1.size _)
theorem ynH {c:List UInt8×Int} (h:c.2≠0):ziW c=(.none,c.2):=if_pos h
theorem ylX {n:List UInt8} (h:ziC n=false):ziW (n,0)=(.name n,0):=by unfold ziW;rw [if_neg (by simp),if_neg (by simp [h])]
theorem ynA {n:List UInt8} {x:Int} {b:Bool} (h:ziC n=true) (hx:zlP n=(x,b)):ziW (n,0)=if b=true then (.addr (.four x),0) else (.none,6):=by unfold ziW;rw [if_neg (by simp),if_pos h,hx]
theorem zsQ (s:ByteArray) (w:World) (hs:s.size≤1073741824) (hmax:MaxVar w):
  Calls Tryz.prog 77 #[.string s] w (zyT w (zfI s.data.toList)):=by
 have HX:=ypF hmax
 clear hmax
 obtain ⟨b,hb⟩: ∃b,Lib.hasPrefix s.data.toList [91]=b:=⟨_,rfl⟩
 obtain ⟨r,hr⟩: ∃r,Lib.trimPrefix s.data.toList [91]=r:=⟨_,rfl⟩
 have HC:Hid (∀W,Calls Tryz.prog 96 #[.string s,.string ⟨#[91]⟩] W fun e w'=>e= .returned (.tuple #[.string ⟨r.toArray⟩,.bool b])∧W=w'):=fun W=>(Tryz.strings_CutPrefix s ⟨#[91]⟩ W).mono (fun e w' h=>⟨by rw [h.1,←hr,←hb],h.2.symm⟩)
 cases b with
 |true=>
  have hrd:r=s.data.toList.drop 1:=by rw [←hr];unfold Lib.trimPrefix;rw [if_pos hb];rfl
  have hrl:r.length≤s.size:=by rw [hrd,List.length_drop,zaN];omega
  have HF:=ypF ((z7P hb).trans (by rw [hrd]:_=zlB r))
  clear hr hb hrd
  go_enter Tryz.func77,Tryz.ntmps77
  go_wp2_with fail
  refine (HC.out _).mono ?_
  rintro e w' ⟨rfl,rfl⟩
  go_wp2_with fail
  refine (zvK r _ (by omega) HX.out).mono ?_
  rw [←HF.out]
  rintro e w1 ⟨rfl,hb1⟩
  go_wp2
  go_ret2
  exact ⟨rfl,hb1⟩
 |false=>
  have HF:=ypF (ydR hb)
  have hdl:=yjU s.data.toList
  rw [zaN] at hdl
  obtain ⟨d,hd⟩: ∃d,decB s.data.toList=d:=⟨_,rfl⟩
  have HD:Hid (∀W,Calls Tryz.prog 127 #[.string s] W fun e w'=>e= .returned (.string ⟨d.toArray⟩)∧Below W.heap.size W w'):=fun W=>by have:=z4D s W hs;rwa [hd] at this
  rw [hd] at HF hdl
  obtain ⟨n,er,hc⟩: ∃n er,zcT d=(n,er):=⟨_,_,rfl⟩
  have hnl:=z4Q hc
  have HK:Hid (∀W,Calls Tryz.prog 126 #[.string ⟨d.toArray⟩] W fun e w'=>e= .returned (.tuple #[.string ⟨n.toArray⟩,.int .i64 er])∧Below W.heap.size W w'):=fun W=>by have:=z7T ⟨d.toArray⟩ W (by rw [zaB];omega);rwa [zaL,hc] at this
  rw [hc] at HF
  clear hr hb hd hc
  go_enter Tryz.func77,Tryz.ntmps77
  go_wp2_with fail
  refine (HC.out _).mono ?_
  rintro e w' ⟨rfl,rfl⟩
  go_wp2_with fail
  refine (HD.out _).mono ?_
  rintro e w1 ⟨rfl,hb1⟩
  go_wp2_with fail
  refine (HK.out _).mono ?_
  rintro e w2 ⟨rfl,hb2⟩
  have hc2:=zaF hb1 hb2
  clear hb1 hb2 HD HK HC
  by_cases h0:er=0
  ·subst h0
   go_wp2_with fail
   refine (zeX _ _).mono ?_
   rintro e w' ⟨rfl,rfl⟩
   go_wp2_with fail
   refine (yhR ⟨n.toArray⟩ _ (by rw [zaB];omega)).mono ?_
   rw [zaL]
   rintro e w3 ⟨rfl,hb3⟩
   have hc3:=zaF hc2 hb3
   clear hc2 hb3
   cases he:ziC n with
   |false=>
    have HF2:=ypF (HF.out.trans (ylX he))
    clear he
    go_wp2
    go_ret2
    exact zdZ HF2.out rfl hc3
   |true=>
    obtain ⟨x,b,hx⟩: ∃x b,zlP n=(x,b):=⟨_,_,rfl⟩
    have HF2:=ypF (HF.out.trans (ynA he hx))
    clear he
    go_wp2_with fail
    refine (zeX _ _).mono ?_
    rintro e w' ⟨rfl,rfl⟩
    go_wp2_with fail
    refine (z3I ⟨n.toArray⟩ _ (by rw [zaB];omega)).mono ?_
    rw [zaL,hx]
    rintro e w4 ⟨rfl,hb4⟩
    have hc4:=zaF hc3 hb4
    clear hc3 hb4 hx
    cases b with
    |true=>
     go_wp2
     go_ret2
     exact zdZ (HF2.out.trans (if_pos trivial)) rfl hc4
    |false=>
     go_wp2
     go_ret2
     exact zdZ (HF2.out.trans (if_neg (by decide))) rfl hc4
  ·have HF2:=ypF (HF.out.trans (ynH h0))
   have hd0:(er !=(0:Int))=true:=by rw [bne_iff_ne];exact h0
   clear h0
   go_wp2
   go_ret2
   exact zdZ HF2.out rfl hc2
theorem hsN6 (v:Value) (w:World):(Instr.typeAssert (.iface 103 v) 44 144 true).run Tryz.prog w= .ok (.tuple #[.agg #[.int .u64 0,.int .u64 0],.bool false]) w:=by kernel_rfl
theorem hs46 (v:Value) (w:World):(Instr.typeAssert (.iface 134 v) 44 144 true).run Tryz.prog w= .ok (.tuple #[.agg #[.int .u64 0,.int .u64 0],.bool false]) w:=by kernel_rfl
theorem hs66 (v:Value) (w:World):(Instr.typeAssert (.iface 144 v) 44 144 true).run Tryz.prog w= .ok (.tuple #[v,.bool true]) w:=by kernel_rfl
def HZ.In:HZ→Prop
 | .addr a=>a.Ok
 |_=>True
theorem HZ.Ok.inn {h:HZ} (ho:h.Ok):h.In:=by
 match h,ho with
 | .name _,_=>trivial
 | .addr _,ho=>exact ho
theorem ziX (a b:List UInt8) (h:a.length+b.length≤1000000000): ∀W,(Op.stringOp .add ⟨a.toArray⟩ ⟨b.toArray⟩).run Tryz.prog W= .ok (.string ⟨(a++b).toArray⟩) W:=fun W=>by
 rw [run_string_add_sum W _ _ (by rw [zaB,zaB];omega),zkZ]
theorem HZ.iface {h:HZ} (hne:h≠ .none): ∃t v,h.val= .iface t v:=by
 match h,hne with
 | .name l,_=>exact ⟨_,_,rfl⟩
 | .addr (.four n),_=>exact ⟨_,_,rfl⟩
 | .addr (.six hi lo),_=>exact ⟨_,_,rfl⟩
theorem HZ.Ok.ne {h:HZ} (ho:h.Ok):h≠ .none:=fun e=>by rw [e] at ho;exact ho
theorem ztA (h:HZ) (w:World) (ho:h.In) (hpow:PowTab w) (hbru:BruTab w):
  Calls Tryz.prog 83 #[h.val] w (zdT w (zdG h)):=by
 match h,ho with
 | .none,_=>
  show Calls _ _ #[.nilIface] _ _
  go_enter Tryz.func83,Tryz.ntmps83
  go_wp2
  go_ret
  exact ⟨rfl,Below.refl _ _⟩
 | .name l,_=>
  show Calls _ _ #[.iface 103 (.string ⟨l.toArray⟩)] _ _
  have h6:=hsN6
  have hm: ∀W:World,(method 401 103 (.string ⟨l.toArray⟩) "Text").run Tryz.prog W= .ok (90,(.string ⟨l.toArray⟩)) W:=fun _=>by kernel_rfl
  have hb:Below w.heap.size w (w.alloc (.cells #[.int .u64 0,.int .u64 0] 144)):=(Below.refl _ w).alloc (Nat.le_refl _) _
  clear hpow hbru
  go_enter Tryz.func83,Tryz.ntmps83
  go_wp2_with fail
  refine (zeX _ _).mono ?_
  rintro e w' ⟨rfl,rfl⟩
  go_wp2
  go_ret
  exact ⟨rfl,hb⟩
 | .addr (.four n),ho=>
  show Calls _ _ #[.iface 134 (.int .u32 n)] _ _
  have h6:=hs46
  have hm: ∀W:World,(method 401 134 (.int .u32 n) "Text").run Tryz.prog W= .ok (336,(.int .u32 n)) W:=fun _=>by kernel_rfl
  have hb:Below w.heap.size w (w.alloc (.cells #[.int .u64 0,.int .u64 0] 144)):=(Below.refl _ w).alloc (Nat.le_refl _) _
  have HT:=ypF (ycY n _ ho.1 ho.2 (zaD hpow hb))
  clear hpow hbru
  go_enter Tryz.func83,Tryz.ntmps83
  go_wp2_with fail
  refine HT.out.mono ?_
  rintro e w1 ⟨rfl,hb1⟩
  go_wp2
  go_ret
  exact ⟨rfl,hb.trans (hb1.mono hb.size)⟩
 | .addr (.six hi lo),ho=>
  show Calls _ _ #[.iface 144 (.agg #[.int .u64 hi,.int .u64 lo])] _ _
  have h6:=hs66
  have hb:Below w.heap.size w (w.alloc (.cells #[.int .u64 hi,.int .u64 lo] 144)):=(Below.refl _ w).alloc (Nat.le_refl _) _
  have HT:=ypF (ybB hi lo _ ho.1.1 ho.1.2 ho.2.1 ho.2.2 (zaC hbru hb))
  have hl:=zwO ho.1.1 ho.1.2 ho.2.1 ho.2.2
  have HF:Hid (zdG (.addr (.six hi lo))=[91]++zfG hi lo++[93]):=rfl
  generalize zfG hi lo=tx at*
  clear hpow hbru
  have ha1: ∀W,(Op.stringOp .add ⟨#[91]⟩ ⟨tx.toArray⟩).run Tryz.prog W= .ok (.string ⟨([91]++tx).toArray⟩) W:=ziX [91] tx (by simp;omega)
  have ha2: ∀W,(Op.stringOp .add ⟨([91]++tx).toArray⟩ ⟨#[93]⟩).run Tryz.prog W= .ok (.string ⟨([91]++tx++[93]).toArray⟩) W:=ziX ([91]++tx) [93] (by simp;omega)
  generalize [91]++tx++[93]=t2 at*
  generalize [91]++tx=t1 at*
  go_enter Tryz.func83,Tryz.ntmps83
  go_wp2_with fail
  refine HT.out.mono ?_
  rintro e w1 ⟨rfl,hb1⟩
  go_wp2
  go_ret
  exact ⟨by rw [HF.out];rfl,hb.trans (hb1.mono hb.size)⟩
end
end Go.Proofs.YtmjappnpedjlnaaGreatDoor
