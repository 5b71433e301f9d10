/-
  What the law AuthorityAgrees leans on, and its walk (18 of 43).
-/
import Derived.Test.YtegmcmgndllmaaaGreatDoorAuthorityAgreesPkO
import Derived.Test.YtegmcmgndllmaaaGreatDoorAuthorityAgreesPkQ
namespace Go.Proofs.YtegmcmgndllmaaaGreatDoor
set_option maxRecDepth 100000
set_option maxHeartbeats 16000000
abbrev yoC := @Lib.hid
abbrev yoD := @Go.RowKit.Below.refl
section
open Go.RowKit
def HZ.val:HZ→Value
 | .none=> .nilIface
 | .name l=> .iface 104 (.string ⟨l.toArray⟩)
 | .addr a=>a.val
def zqN (w:World) (x:HZ×Int) (e:Ending) (w':World):Prop:=e= .returned (.tuple #[x.1.val,.int .i64 x.2])∧Below w.heap.size w w'
theorem zdN {w w':World} {x:HZ×Int} {h:HZ} {n:Int} {v:Value} (e:x=(h,n)) (d:v=h.val) (f:Below w.heap.size w w'):zqN w x (.returned (.tuple #[v,.int .i64 n])) w':=by
 subst e d;exact ⟨rfl,f⟩
theorem zyK {r:List UInt8} (h: ¬r.getLast? =some 93∨(sixZ (Lib.trimSuffix r [93])).2=false):ziM r=(.none,6):=by
 unfold ziM
 rw [if_neg]
 rintro ⟨d,e⟩
 rw [zmA,if_pos d] at h
 rcases h with h|h
 ·exact h d
 ·rw [e] at h;cases h
theorem z7B {r:List UInt8} {hi lo:Int} (e:r.getLast? =some 93) (d:sixZ (Lib.trimSuffix r [93])=((hi,lo),true)):ziM r=(.addr (.six hi lo),0):=by
 unfold ziM
 rw [zmA,if_pos e] at d
 rw [if_pos ⟨e,by rw [d]⟩,d]
theorem ztK (r:List UInt8) (w:World) (D:r.length≤1073741824) (g:MaxVar w):
  Calls Tryz.prog 103 #[.string ⟨r.toArray⟩] w (zqN w (ziM r)):=by
 have C:=yoC g
 clear g
 have f:=zyT r 93
 have A:(Lib.trimSuffix r [93]).length≤r.length:=by rw [zmA];split<;>simp
 obtain ⟨t,i⟩: ∃t,Lib.trimSuffix r [93]=t:=⟨_,rfl⟩
 obtain ⟨hi,lo,b,m⟩: ∃hi lo b,sixZ t=((hi,lo),b):=⟨_,_,_,rfl⟩
 have B:Hid (∀W,Calls Tryz.prog 167 #[.string ⟨r.toArray⟩,.string ⟨#[93]⟩] W fun e w'=>e= .returned (.tuple #[.string ⟨t.toArray⟩,.bool (decide (r.getLast? =some 93))])∧W=w'):=fun W=>(Tryz.strings_CutSuffix ⟨r.toArray⟩ ⟨#[93]⟩ W (by rw [zaF];omega)).mono (fun e w' h=>⟨by rw [h.1,←i,←f],h.2.symm⟩)
 rw [i] at A
 go_enter Tryz.func103,Tryz.ntmps103
 go_wp2_with fail
 refine (B.out _).mono ?_
 rintro e w' ⟨rfl,rfl⟩
 go_wp2_with fail
 refine (zqD ⟨t.toArray⟩ _ (by rw [zaF];omega) C.out).mono ?_
 rw [zaM,m]
 rintro e E ⟨rfl,d⟩
 clear B
 by_cases j:r.getLast? =some 93
 ·have q:decide (r.getLast? =some 93)=true:=decide_eq_true j
  cases b with
  |true=>
   have o:=yoC (z7B j (by rw [i];exact m))
   clear j f m i
   rw [q]
   go_wp2
   go_ret2
   exact zdN o.out rfl (d.alloc d.size _)
  |false=>
   have o:=yoC (zyK (r:=r) (.inr (by rw [i,m])))
   clear j f m i
   rw [q]
   go_wp2
   go_ret2
   exact zdN o.out rfl (d.alloc d.size _)
 ·have q:decide (r.getLast? =some 93)=false:=decide_eq_false j
  have o:=yoC (zyK (r:=r) (.inl j))
  clear j f m i
  rw [q]
  go_wp2
  go_ret2
  exact zdN o.out rfl (d.alloc d.size _)
theorem ylS {c:List UInt8×Int} (h:c.2≠0):zfR c=(.none,c.2):=if_pos h
theorem ymK {n:List UInt8} (h:zgN n=false):zfR (n,0)=(.name n,0):=by unfold zfR;rw [if_neg (by simp),if_neg (by simp [h])]
theorem ykX {n:List UInt8} {x:Int} {b:Bool} (h:zgN n=true) (d:ziH n=(x,b)):zfR (n,0)=if b=true then (.addr (.four x),0) else (.none,6):=by unfold zfR;rw [if_neg (by simp),if_pos h,d]
theorem zjU (s:ByteArray) (w:World) (V:s.size≤1073741824) (i:MaxVar w):
  Calls Tryz.prog 45 #[.string s] w (zqN w (zcN s.data.toList)):=by
 have U:=yoC i
 clear i
 obtain ⟨b,A⟩: ∃b,Lib.hasPrefix s.data.toList [91]=b:=⟨_,rfl⟩
 obtain ⟨r,K⟩: ∃r,Lib.trimPrefix s.data.toList [91]=r:=⟨_,rfl⟩
 have M:Hid (∀W,Calls Tryz.prog 92 #[.string s,.string ⟨#[91]⟩] W fun e w'=>e= .returned (.tuple #[.string ⟨r.toArray⟩,.bool b])∧W=w'):=fun W=>(Tryz.strings_CutPrefix s ⟨#[91]⟩ W).mono (fun e w' h=>⟨by rw [h.1,←K,←A],h.2.symm⟩)
 cases b with
 |true=>
  have o:r=s.data.toList.drop 1:=by rw [←K];unfold Lib.trimPrefix;rw [if_pos A];rfl
  have S:r.length≤s.size:=by rw [o,List.length_drop,zaN];omega
  have q:=yoC ((z9V A).trans (by rw [o]:_=ziM r))
  clear K A o
  go_enter Tryz.func45,Tryz.ntmps45
  go_wp2_with fail
  refine (M.out _).mono ?_
  rintro e w' ⟨rfl,rfl⟩
  go_wp2_with fail
  refine (ztK r _ (by omega) U.out).mono ?_
  rw [←q.out]
  rintro e T ⟨rfl,g⟩
  go_wp2
  go_ret2
  exact ⟨rfl,g⟩
 |false=>
  have q:=yoC (z7T A)
  have C:=yeI s.data.toList
  rw [zaN] at C
  obtain ⟨d,N⟩: ∃d,decB s.data.toList=d:=⟨_,rfl⟩
  have O:Hid (∀W,Calls Tryz.prog 105 #[.string s] W fun e w'=>e= .returned (.string ⟨d.toArray⟩)∧Below W.heap.size W w'):=fun W=>by have:=z3F s W V;rwa [N] at this
  rw [N] at q C
  obtain ⟨n,er,I⟩: ∃n er,zbK d=(n,er):=⟨_,_,rfl⟩
  have X:=z1A I
  have Q:Hid (∀W,Calls Tryz.prog 104 #[.string ⟨d.toArray⟩] W fun e w'=>e= .returned (.tuple #[.string ⟨n.toArray⟩,.int .i64 er])∧Below W.heap.size W w'):=fun W=>by have:=zsR ⟨d.toArray⟩ W (by rw [zaF];omega);rwa [zaM,I] at this
  rw [I] at q
  clear K A N I
  go_enter Tryz.func45,Tryz.ntmps45
  go_wp2_with fail
  refine (M.out _).mono ?_
  rintro e w' ⟨rfl,rfl⟩
  go_wp2_with fail
  refine (O.out _).mono ?_
  rintro e T ⟨rfl,g⟩
  go_wp2_with fail
  refine (Q.out _).mono ?_
  rintro e w2 ⟨rfl,D⟩
  have m:=zaG g D
  clear g D O Q M
  by_cases H:er=0
  ·subst H
   go_wp2_with fail
   refine (zcF _ _).mono ?_
   rintro e w' ⟨rfl,rfl⟩
   go_wp2_with fail
   refine (zzP ⟨n.toArray⟩ _ (by rw [zaF];omega)).mono ?_
   rw [zaM]
   rintro e Z ⟨rfl,G⟩
   have j:=zaG m G
   clear m G
   cases J:zgN n with
   |false=>
    have f:=yoC (q.out.trans (ymK J))
    clear J
    go_wp2
    go_ret2
    exact zdN f.out rfl j
   |true=>
    obtain ⟨x,b,L⟩: ∃x b,ziH n=(x,b):=⟨_,_,rfl⟩
    have f:=yoC (q.out.trans (ykX J L))
    clear J
    go_wp2_with fail
    refine (zcF _ _).mono ?_
    rintro e w' ⟨rfl,rfl⟩
    go_wp2_with fail
    refine (z4K ⟨n.toArray⟩ _ (by rw [zaF];omega)).mono ?_
    rw [zaM,L]
    rintro e w4 ⟨rfl,E⟩
    have B:=zaG j E
    clear j E L
    cases b with
    |true=>
     go_wp2
     go_ret2
     exact zdN (f.out.trans (if_pos trivial)) rfl B
    |false=>
     go_wp2
     go_ret2
     exact zdN (f.out.trans (if_neg (by decide))) rfl B
  ·have f:=yoC (q.out.trans (ylS H))
   have Y:(er !=(0:Int))=true:=by rw [bne_iff_ne];exact H
   clear H
   go_wp2
   go_ret2
   exact zdN f.out rfl m
theorem hsNN (v:Value) (w:World):(Instr.typeAssert (.iface 104 v) 24 104 true).run Tryz.prog w= .ok (.tuple #[v,.bool true]) w:=by kernel_rfl
theorem hsN4 (v:Value) (w:World):(Instr.typeAssert (.iface 104 v) 24 168 true).run Tryz.prog w= .ok (.tuple #[.int .u32 0,.bool false]) w:=by kernel_rfl
theorem hsN6 (v:Value) (w:World):(Instr.typeAssert (.iface 104 v) 24 173 true).run Tryz.prog w= .ok (.tuple #[.agg #[.int .u64 0,.int .u64 0],.bool false]) w:=by kernel_rfl
theorem hs4N (v:Value) (w:World):(Instr.typeAssert (.iface 168 v) 24 104 true).run Tryz.prog w= .ok (.tuple #[.string ⟨#[]⟩,.bool false]) w:=by kernel_rfl
theorem hs44 (v:Value) (w:World):(Instr.typeAssert (.iface 168 v) 24 168 true).run Tryz.prog w= .ok (.tuple #[v,.bool true]) w:=by kernel_rfl
theorem hs46 (v:Value) (w:World):(Instr.typeAssert (.iface 168 v) 24 173 true).run Tryz.prog w= .ok (.tuple #[.agg #[.int .u64 0,.int .u64 0],.bool false]) w:=by kernel_rfl
theorem hs6N (v:Value) (w:World):(Instr.typeAssert (.iface 173 v) 24 104 true).run Tryz.prog w= .ok (.tuple #[.string ⟨#[]⟩,.bool false]) w:=by kernel_rfl
theorem hs64 (v:Value) (w:World):(Instr.typeAssert (.iface 173 v) 24 168 true).run Tryz.prog w= .ok (.tuple #[.int .u32 0,.bool false]) w:=by kernel_rfl
theorem hs66 (v:Value) (w:World):(Instr.typeAssert (.iface 173 v) 24 173 true).run Tryz.prog w= .ok (.tuple #[v,.bool true]) w:=by kernel_rfl
theorem hs0N (w:World):(Instr.typeAssert .nilIface 24 104 true).run Tryz.prog w= .ok (.tuple #[.string ⟨#[]⟩,.bool false]) w:=by kernel_rfl
theorem hs04 (w:World):(Instr.typeAssert .nilIface 24 168 true).run Tryz.prog w= .ok (.tuple #[.int .u32 0,.bool false]) w:=by kernel_rfl
theorem hs06 (w:World):(Instr.typeAssert .nilIface 24 173 true).run Tryz.prog w= .ok (.tuple #[.agg #[.int .u64 0,.int .u64 0],.bool false]) w:=by kernel_rfl
def HZ.ad:HZ→Option AZ
 | .addr a=>some a
 |_=>Option.none
def HZ.nm:HZ→List UInt8
 | .name l=>l
 |_=>[]
def HZ.isN:HZ→Bool
 | .name _=>true
 |_=>false
def yeR:HZ→List UInt8
 | .none=>[110,111,110,101]
 | .name _=>[110,97,109,101]
 | .addr (.four _)=>[102,111,117,114]
 | .addr (.six _ _)=>[115,105,120]
theorem zlJ (h:HZ) (w:World):
  Calls Tryz.prog 56 #[h.val] w fun e w'=>e= .returned (.tuple #[optV h.ad,.bool h.ad.isSome])∧Below w.heap.size w w':=by
 match h with
 | .none=>
  show Calls _ _ #[.nilIface] _ _
  have d:=hs04
  have f:=hs06
  go_enter Tryz.func56,Tryz.ntmps56
  go_wp2
  go_ret2
  exact ⟨rfl,yoD _ _⟩
 | .name l=>
  show Calls _ _ #[.iface 104 (.string ⟨l.toArray⟩)] _ _
  have d:=hsN4
  have f:=hsN6
  go_enter Tryz.func56,Tryz.ntmps56
  go_wp2
  go_ret2
  exact ⟨rfl,yoD _ _⟩
 | .addr (.four n)=>
  show Calls _ _ #[.iface 168 (.int .u32 n)] _ _
  have d:=hs44
  go_enter Tryz.func56,Tryz.ntmps56
  go_wp2
  go_ret2
  exact ⟨rfl,yoD _ _⟩
 | .addr (.six hi lo)=>
  show Calls _ _ #[.iface 173 (.agg #[.int .u64 hi,.int .u64 lo])] _ _
  have d:=hs64
  have f:=hs66
  go_enter Tryz.func56,Tryz.ntmps56
  go_wp2
  go_ret2
  exact ⟨rfl,(yoD _ _).alloc (Nat.le_refl _) _⟩
theorem zhK (h:HZ) (w:World):
  Calls Tryz.prog 52 #[h.val] w fun e w'=>e= .returned (.tuple #[.string ⟨h.nm.toArray⟩,.bool h.isN])∧w=w':=by
 match h with
 | .none=>
  show Calls _ _ #[.nilIface] _ _
  have d:=hs0N
  go_enter Tryz.func52,Tryz.ntmps52
  go_wp2
  go_ret2
  exact ⟨rfl,rfl⟩
 | .name l=>
  show Calls _ _ #[.iface 104 (.string ⟨l.toArray⟩)] _ _
  have d:=hsNN
  go_enter Tryz.func52,Tryz.ntmps52
  go_wp2
  go_ret2
  exact ⟨rfl,rfl⟩
 | .addr (.four n)=>
  show Calls _ _ #[.iface 168 (.int .u32 n)] _ _
  have d:=hs4N
  go_enter Tryz.func52,Tryz.ntmps52
  go_wp2
  go_ret2
  exact ⟨rfl,rfl⟩
 | .addr (.six hi lo)=>
  show Calls _ _ #[.iface 173 (.agg #[.int .u64 hi,.int .u64 lo])] _ _
  have d:=hs6N
  go_enter Tryz.func52,Tryz.ntmps52
  go_wp2
  go_ret2
  exact ⟨rfl,rfl⟩
theorem zsN (h:HZ) (w:World):
  Calls Tryz.prog 109 #[h.val] w fun e w'=>e= .returned (.string ⟨(yeR h).toArray⟩)∧w=w':=by
 match h with
 | .none=>
  show Calls _ _ #[.nilIface] _ _
  have d:=hs0N
  have f:=hs04
  have g:=hs06
  go_enter Tryz.func109,Tryz.ntmps109
  go_wp2
  go_ret
  exact ⟨rfl,rfl⟩
 | .name l=>
  show Calls _ _ #[.iface 104 (.string ⟨l.toArray⟩)] _ _
  have d:=hsNN
  go_enter Tryz.func109,Tryz.ntmps109
  go_wp2
  go_ret
  exact ⟨rfl,rfl⟩
 | .addr (.four n)=>
  show Calls _ _ #[.iface 168 (.int .u32 n)] _ _
  have d:=hs4N
  have f:=hs44
  go_enter Tryz.func109,Tryz.ntmps109
  go_wp2
  go_ret
  exact ⟨rfl,rfl⟩
 | .addr (.six hi lo)=>
  show Calls _ _ #[.iface 173 (.agg #[.int .u64 hi,.int .u64 lo])] _ _
  have d:=hs6N
  have f:=hs64
  have g:=hs66
  go_enter Tryz.func109,Tryz.ntmps109
  go_wp2
  go_ret
  exact ⟨rfl,rfl⟩
def z5X:HZ→Bool
 | .none=>false
 | .name l=>zlG l&& !zgN l
 | .addr _=>true
theorem z7R {h:HZ} (d:h.Ok):z5X h=true:=by
 match h,d with
 | .name l,d=>exact Bool.and_eq_true_iff.2 ⟨(z3U l).2 d.1,by rw [d.2];rfl⟩
 | .addr a,_=>rfl
def HZ.small:HZ→Prop
 | .name l=>l.length≤1073741824
 |_=>True
theorem zrD (h:HZ) (w:World) (m:h.small):
  Calls Tryz.prog 18 #[h.val] w (zbE w (z5X h)):=by
 match h,m with
 | .none,_=>
  have d:=yoC (fun W=>zhK .none W)
  have f:=yoC (fun W=>zlJ .none W)
  simp only [HZ.val,HZ.nm,HZ.isN,HZ.ad,optV] at d f ⊢
  go_enter Tryz.func18,Tryz.ntmps18
  go_wp2_with fail
  refine (d.out _).mono ?_
  rintro e w' ⟨rfl,rfl⟩
  go_wp2_with fail
  refine (f.out _).mono ?_
  rintro e C ⟨rfl,o⟩
  go_wp2
  go_ret
  exact ⟨rfl,o⟩
 | .addr a,_=>
  have d:=yoC (fun W=>zhK (.addr a) W)
  have f:=yoC (fun W=>zlJ (.addr a) W)
  simp only [HZ.nm,HZ.isN,HZ.ad] at d f ⊢
  generalize (HZ.addr a).val=D at*
  generalize optV (some a)=E at*
  go_enter Tryz.func18,Tryz.ntmps18
  go_wp2_with fail
  refine (d.out _).mono ?_
  rintro e w' ⟨rfl,rfl⟩
  go_wp2_with fail
  refine (f.out _).mono ?_
  rintro e C ⟨rfl,o⟩
  go_wp2
  go_ret
  exact ⟨rfl,o⟩
 | .name l,m=>
  have H:l.length≤1073741824:=m
  have d:=yoC (fun W=>zhK (.name l) W)
  simp only [HZ.val,HZ.nm,HZ.isN] at d ⊢
  have A:=yoC (fun W=>zwF ⟨l.toArray⟩ W (by rw [zaF];omega))
  have B:=yoC (fun W=>zzP ⟨l.toArray⟩ W (by rw [zaF];omega))
  have i:=yoC (show z5X (.name l)=(zlG l&& !zgN l) from rfl)
  rw [zaM] at A B
  go_enter Tryz.func18,Tryz.ntmps18
  go_wp2_with fail
  refine (d.out _).mono ?_
  rintro e w' ⟨rfl,rfl⟩
  go_wp2_with fail
  refine (zcF _ _).mono ?_
  rintro e w' ⟨rfl,rfl⟩
  go_wp2_with fail
  refine (A.out _).mono ?_
  rintro e C ⟨rfl,g⟩
  clear d A
  cases q:zlG l with
  |false=>
   rw [q] at i
   go_wp2
   go_ret
   exact zaE i.out g
  |true=>
   rw [q] at i
   clear q
   go_wp2_with fail
   refine (zcF _ _).mono ?_
   rintro e w' ⟨rfl,rfl⟩
   go_wp2_with fail
   refine (B.out _).mono ?_
   rintro e G ⟨rfl,j⟩
   go_wp2
   go_ret
   exact zaE i.out (zaG g j)
def HZ.In:HZ→Prop
 | .addr a=>a.Ok
 |_=>True
theorem HZ.Ok.inn {h:HZ} (d:h.Ok):h.In:=by
 match h,d with
 | .name _,_=>trivial
 | .addr _,d=>exact d
theorem yeX (l:List UInt8):(zcN l).1.In:=by
 by_cases h:(zcN l).2=0
 ·exact (zlZ h).inn
 ·rw [zyM h];trivial
theorem zgE (a b:List UInt8) (h:a.length+b.length≤1000000000): ∀W,(Op.stringOp .add ⟨a.toArray⟩ ⟨b.toArray⟩).run Tryz.prog W= .ok (.string ⟨(a++b).toArray⟩) W:=fun W=>by
 rw [run_string_add_sum W _ _ (by rw [zaF,zaF];omega),zjO]
theorem HZ.iface {h:HZ} (d:h≠ .none): ∃t v,h.val= .iface t v:=by
 match h,d with
 | .name l,_=>exact ⟨_,_,rfl⟩
 | .addr (.four n),_=>exact ⟨_,_,rfl⟩
 | .addr (.six hi lo),_=>exact ⟨_,_,rfl⟩
theorem HZ.Ok.ne {h:HZ} (d:h.Ok):h≠ .none:=fun e=>by rw [e] at d;exact d
theorem zgD (h:HZ) (w:World) (g:h.In) (f:PowTab w) (d:BruTab w):
  Calls Tryz.prog 47 #[h.val] w (zdY w (zbD h)):=by
 match h,g with
 | .none,_=>
  show Calls _ _ #[.nilIface] _ _
  go_enter Tryz.func47,Tryz.ntmps47
  go_wp2
  go_ret
  exact ⟨rfl,yoD _ _⟩
 | .name l,_=>
  show Calls _ _ #[.iface 104 (.string ⟨l.toArray⟩)] _ _
  have o:=hsN6
  have C: ∀W:World,(method 463 104 (.string ⟨l.toArray⟩) "Text").run Tryz.prog W= .ok (54,(.string ⟨l.toArray⟩)) W:=fun _=>by kernel_rfl
  have i:Below w.heap.size w (w.alloc (.cells #[.int .u64 0,.int .u64 0] 173)):=(yoD _ w).alloc (Nat.le_refl _) _
  clear f d
  go_enter Tryz.func47,Tryz.ntmps47
  go_wp2_with fail
  refine (zcF _ _).mono ?_
  rintro e w' ⟨rfl,rfl⟩
  go_wp2
  go_ret
  exact ⟨rfl,i⟩
 | .addr (.four n),g=>
  show Calls _ _ #[.iface 168 (.int .u32 n)] _ _
  have o:=hs46
  have C: ∀W:World,(method 463 168 (.int .u32 n) "Text").run Tryz.prog W= .ok (391,(.int .u32 n)) W:=fun _=>by kernel_rfl
  have i:Below w.heap.size w (w.alloc (.cells #[.int .u64 0,.int .u64 0] 173)):=(yoD _ w).alloc (Nat.le_refl _) _
  have HT:=yoC (z7M n _ g.1 g.2 (zaC f i))
  clear f d
  go_enter Tryz.func47,Tryz.ntmps47
  go_wp2_with fail
  refine HT.out.mono ?_
  rintro e D ⟨rfl,m⟩
  go_wp2
  go_ret
  exact ⟨rfl,i.trans (m.mono i.size)⟩
 | .addr (.six hi lo),g=>
  show Calls _ _ #[.iface 173 (.agg #[.int .u64 hi,.int .u64 lo])] _ _
  have o:=hs66
  have i:Below w.heap.size w (w.alloc (.cells #[.int .u64 hi,.int .u64 lo] 173)):=(yoD _ w).alloc (Nat.le_refl _) _
  have HT:=yoC (z9U hi lo _ g.1.1 g.1.2 g.2.1 g.2.2 (zaB d i))
  have G:=zuS g.1.1 g.1.2 g.2.1 g.2.2
  have B:Hid (zbD (.addr (.six hi lo))=[91]++zdH hi lo++[93]):=rfl
  generalize zdH hi lo=j at*
  clear f d
  have A: ∀W,(Op.stringOp .add ⟨#[91]⟩ ⟨j.toArray⟩).run Tryz.prog W= .ok (.string ⟨([91]++j).toArray⟩) W:=zgE [91] j (by simp;omega)
  have q: ∀W,(Op.stringOp .add ⟨([91]++j).toArray⟩ ⟨#[93]⟩).run Tryz.prog W= .ok (.string ⟨([91]++j++[93]).toArray⟩) W:=zgE ([91]++j) [93] (by simp;omega)
  generalize [91]++j++[93]=H at*
  generalize [91]++j=E at*
  go_enter Tryz.func47,Tryz.ntmps47
  go_wp2_with fail
  refine HT.out.mono ?_
  rintro e D ⟨rfl,m⟩
  go_wp2
  go_ret
  exact ⟨by rw [B.out];rfl,i.trans (m.mono i.size)⟩
end
end Go.Proofs.YtegmcmgndllmaaaGreatDoor
