/-
  What the law AgreeNever leans on, and its walk (19 of 42).
-/
import Derived.Test.YtegmcmgndllmaaaGreatDoorAgreeNeverPkP
import Derived.Test.YtegmcmgndllmaaaGreatDoorAgreeNeverPkR
namespace Go.Proofs.YtegmcmgndllmaaaGreatDoor
set_option maxRecDepth 100000
set_option maxHeartbeats 16000000
abbrev ykZ := @Lib.hid
section
open Go.RowKit
def HZ.val:HZ→Value
 | .none=> .nilIface
 | .name l=> .iface 104 (.string ⟨l.toArray⟩)
 | .addr a=>a.val
def zqT (w:World) (x:HZ×Int) (e:Ending) (w':World):Prop:=e= .returned (.tuple #[x.1.val,.int .i64 x.2])∧Below w.heap.size w w'
theorem zdZ {w w':World} {x:HZ×Int} {h:HZ} {n:Int} {v:Value} (e:x=(h,n)) (d:v=h.val) (f:Below w.heap.size w w'):zqT w x (.returned (.tuple #[v,.int .i64 n])) w':=by
 subst e d;exact ⟨rfl,f⟩
theorem zzU {r:List UInt8} (h: ¬r.getLast? =some 93∨(sixZ (Lib.trimSuffix r [93])).2=false):zkI r=(.none,6):=by
 unfold zkI
 rw [if_neg]
 rintro ⟨d,f⟩
 rw [zlV,if_pos d] at h
 rcases h with h|h
 ·exact h d
 ·rw [f] at h;cases h
theorem z3O {r:List UInt8} {hi lo:Int} (f:r.getLast? =some 93) (d:sixZ (Lib.trimSuffix r [93])=((hi,lo),true)):zkI r=(.addr (.six hi lo),0):=by
 unfold zkI
 rw [zlV,if_pos f] at d
 rw [if_pos ⟨f,by rw [d]⟩,d]
theorem zuP (r:List UInt8) (w:World) (H:r.length≤1073741824) (i:MaxVar w):
  Calls Tryz.prog 103 #[.string ⟨r.toArray⟩] w (zqT w (zkI r)):=by
 have E:=ykZ i
 clear i
 have f:=zxR r 93
 have C:(Lib.trimSuffix r [93]).length≤r.length:=by rw [zlV];split<;>simp
 obtain ⟨t,j⟩: ∃t,Lib.trimSuffix r [93]=t:=⟨_,rfl⟩
 obtain ⟨hi,lo,b,o⟩: ∃hi lo b,sixZ t=((hi,lo),b):=⟨_,_,_,rfl⟩
 have D:Hid (∀W,Calls Tryz.prog 167 #[.string ⟨r.toArray⟩,.string ⟨#[93]⟩] W fun e w'=>e= .returned (.tuple #[.string ⟨t.toArray⟩,.bool (decide (r.getLast? =some 93))])∧W=w'):=fun W=>(Tryz.strings_CutSuffix ⟨r.toArray⟩ ⟨#[93]⟩ W (by rw [zaI];omega)).mono (fun e w' h=>⟨by rw [h.1,←j,←f],h.2.symm⟩)
 rw [j] at C
 go_enter Tryz.func103,Tryz.ntmps103
 go_wp2_with fail
 refine (D.out _).mono ?_
 rintro e w' ⟨rfl,rfl⟩
 go_wp2_with fail
 refine (zkN ⟨t.toArray⟩ _ (by rw [zaI];omega) E.out).mono ?_
 rw [zaQ,o]
 rintro e G ⟨rfl,d⟩
 clear D
 by_cases m:r.getLast? =some 93
 ·have B:decide (r.getLast? =some 93)=true:=decide_eq_true m
  cases b with
  |true=>
   have A:=ykZ (z3O m (by rw [j];exact o))
   clear m f o j
   rw [B]
   go_wp2
   go_ret2
   exact zdZ A.out rfl (d.alloc d.size _)
  |false=>
   have A:=ykZ (zzU (r:=r) (.inr (by rw [j,o])))
   clear m f o j
   rw [B]
   go_wp2
   go_ret2
   exact zdZ A.out rfl (d.alloc d.size _)
 ·have B:decide (r.getLast? =some 93)=false:=decide_eq_false m
  have A:=ykZ (zzU (r:=r) (.inl m))
  clear m f o j
  rw [B]
  go_wp2
  go_ret2
  exact zdZ A.out rfl (d.alloc d.size _)
theorem yjR {c:List UInt8×Int} (h:c.2≠0):ziI c=(.none,c.2):=if_pos h
theorem yhM {n:List UInt8} (h:ziZ n=false):ziI (n,0)=(.name n,0):=by unfold ziI;rw [if_neg (by simp),if_neg (by simp [h])]
theorem yiB {n:List UInt8} {x:Int} {b:Bool} (h:ziZ n=true) (d:zkX n=(x,b)):ziI (n,0)=if b=true then (.addr (.four x),0) else (.none,6):=by unfold ziI;rw [if_neg (by simp),if_pos h,d]
theorem zjM (s:ByteArray) (w:World) (hs:s.size≤1073741824) (j:MaxVar w):
  Calls Tryz.prog 45 #[.string s] w (zqT w (zdR s.data.toList)):=by
 have HX:=ykZ j
 clear j
 obtain ⟨b,C⟩: ∃b,Lib.hasPrefix s.data.toList [91]=b:=⟨_,rfl⟩
 obtain ⟨r,N⟩: ∃r,Lib.trimPrefix s.data.toList [91]=r:=⟨_,rfl⟩
 have Q:Hid (∀W,Calls Tryz.prog 92 #[.string s,.string ⟨#[91]⟩] W fun e w'=>e= .returned (.tuple #[.string ⟨r.toArray⟩,.bool b])∧W=w'):=fun W=>(Tryz.strings_CutPrefix s ⟨#[91]⟩ W).mono (fun e w' h=>⟨by rw [h.1,←N,←C],h.2.symm⟩)
 cases b with
 |true=>
  have m:r=s.data.toList.drop 1:=by rw [←N];unfold Lib.trimPrefix;rw [if_pos C];rfl
  have Y:r.length≤s.size:=by rw [m,List.length_drop,zaR];omega
  have B:=ykZ ((z6L C).trans (by rw [m]:_=zkI r))
  clear N C m
  go_enter Tryz.func45,Tryz.ntmps45
  go_wp2_with fail
  refine (Q.out _).mono ?_
  rintro e w' ⟨rfl,rfl⟩
  go_wp2_with fail
  refine (zuP r _ (by omega) HX.out).mono ?_
  rw [←B.out]
  rintro e w1 ⟨rfl,i⟩
  go_wp2
  go_ret2
  exact ⟨rfl,i⟩
 |false=>
  have B:=ykZ (yaG C)
  have J:=yeL s.data.toList
  rw [zaR] at J
  obtain ⟨d,S⟩: ∃d,decB s.data.toList=d:=⟨_,rfl⟩
  have X:Hid (∀W,Calls Tryz.prog 105 #[.string s] W fun e w'=>e= .returned (.string ⟨d.toArray⟩)∧Below W.heap.size W w'):=fun W=>by have:=z1V s W hs;rwa [S] at this
  rw [S] at B J
  obtain ⟨n,H,O⟩: ∃n H,zcR d=(n,H):=⟨_,_,rfl⟩
  have qa:=z1P O
  have V:Hid (∀W,Calls Tryz.prog 104 #[.string ⟨d.toArray⟩] W fun e w'=>e= .returned (.tuple #[.string ⟨n.toArray⟩,.int .i64 H])∧Below W.heap.size W w'):=fun W=>by have:=z4S ⟨d.toArray⟩ W (by rw [zaI];omega);rwa [zaQ,O] at this
  rw [O] at B
  clear N C S O
  go_enter Tryz.func45,Tryz.ntmps45
  go_wp2_with fail
  refine (Q.out _).mono ?_
  rintro e w' ⟨rfl,rfl⟩
  go_wp2_with fail
  refine (X.out _).mono ?_
  rintro e w1 ⟨rfl,i⟩
  go_wp2_with fail
  refine (V.out _).mono ?_
  rintro e w2 ⟨rfl,E⟩
  have A:=zaJ i E
  clear i E X V Q
  by_cases M:H=0
  ·subst M
   go_wp2_with fail
   refine (zgH _ _).mono ?_
   rintro e w' ⟨rfl,rfl⟩
   go_wp2_with fail
   refine (ydW ⟨n.toArray⟩ _ (by rw [zaI];omega)).mono ?_
   rw [zaQ]
   rintro e w3 ⟨rfl,I⟩
   have o:=zaJ A I
   clear A I
   cases K:ziZ n with
   |false=>
    have f:=ykZ (B.out.trans (yhM K))
    clear K
    go_wp2
    go_ret2
    exact zdZ f.out rfl o
   |true=>
    obtain ⟨x,b,U⟩: ∃x b,zkX n=(x,b):=⟨_,_,rfl⟩
    have f:=ykZ (B.out.trans (yiB K U))
    clear K
    go_wp2_with fail
    refine (zgH _ _).mono ?_
    rintro e w' ⟨rfl,rfl⟩
    go_wp2_with fail
    refine (z2D ⟨n.toArray⟩ _ (by rw [zaI];omega)).mono ?_
    rw [zaQ,U]
    rintro e w4 ⟨rfl,G⟩
    have D:=zaJ o G
    clear o G U
    cases b with
    |true=>
     go_wp2
     go_ret2
     exact zdZ (f.out.trans (if_pos trivial)) rfl D
    |false=>
     go_wp2
     go_ret2
     exact zdZ (f.out.trans (if_neg (by decide))) rfl D
  ·have f:=ykZ (B.out.trans (yjR M))
   have Z:(H !=(0:Int))=true:=by rw [bne_iff_ne];exact M
   clear M
   go_wp2
   go_ret2
   exact zdZ f.out rfl A
theorem ztC (a b:List UInt8) (h:a.length+b.length≤1000000000): ∀W,(Op.stringOp .add ⟨a.toArray⟩ ⟨b.toArray⟩).run Tryz.prog W= .ok (.string ⟨(a++b).toArray⟩) W:=fun W=>by
 rw [run_string_add_sum W _ _ (by rw [zaI,zaI];omega),yaW]
theorem HZ.iface {h:HZ} (d:h≠ .none): ∃t v,h.val= .iface t v:=by
 match h,d with
 | .name l,_=>exact ⟨_,_,rfl⟩
 | .addr (.four n),_=>exact ⟨_,_,rfl⟩
 | .addr (.six hi lo),_=>exact ⟨_,_,rfl⟩
theorem HZ.Ok.ne {h:HZ} (d:h.Ok):h≠ .none:=fun e=>by rw [e] at d;exact d
end
end Go.Proofs.YtegmcmgndllmaaaGreatDoor
