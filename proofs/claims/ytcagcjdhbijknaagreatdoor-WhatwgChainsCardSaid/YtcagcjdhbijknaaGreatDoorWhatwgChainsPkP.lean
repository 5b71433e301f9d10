/-
  What the law WhatwgChains leans on, and its walk (16 of 33).
-/
import Derived.Test.YtcagcjdhbijknaaGreatDoorWhatwgChainsPkM
import Derived.Test.YtcagcjdhbijknaaGreatDoorWhatwgChainsPkO
namespace Go.Proofs.YtcagcjdhbijknaaGreatDoor
set_option maxRecDepth 100000
set_option maxHeartbeats 16000000
abbrev yhQ := @Lib.hid
abbrev yhR := @Nat.le_refl
abbrev yhS := @decide_eq_true
abbrev yhT := @Go.RowKit.Below.refl
section
open Go.RowKit
def HZ.val:HZ→Value
 | .none=> .nilIface
 | .name l=> .iface 65 (.string ⟨l.toArray⟩)
 | .addr a=>a.val
def zxH (w:World) (x:HZ×Int) (e:Ending) (w':World):Prop:=e= .returned (.tuple #[x.1.val,.int .i64 x.2])∧Below w.heap.size w w'
theorem zfB {w w':World} {x:HZ×Int} {h:HZ} {n:Int} {v:Value} (e:x=(h,n)) (hv:v=h.val) (hb:Below w.heap.size w w'):zxH w x (.returned (.tuple #[v,.int .i64 n])) w':=by
 subst e hv;exact ⟨rfl,hb⟩
theorem znA {r:List UInt8} (h: ¬r.getLast? =some 93∨(sixZ (Lib.trimSuffix r [93])).2=false):ziJ r=(.none,6):=by
 unfold ziJ
 rw [if_neg]
 rintro ⟨h1,h2⟩
 rw [zmU,if_pos h1] at h
 rcases h with h|h
 ·exact h h1
 ·rw [h2] at h;cases h
theorem z5R {r:List UInt8} {hi lo:Int} (h1:r.getLast? =some 93) (h2:sixZ (Lib.trimSuffix r [93])=((hi,lo),true)):ziJ r=(.addr (.six hi lo),0):=by
 unfold ziJ
 rw [zmU,if_pos h1] at h2
 rw [if_pos ⟨h1,by rw [h2]⟩,h2]
theorem ztH (r:List UInt8) (w:World) (hr:r.length≤1073741824) (hmax:MaxVar w):
  Calls Tryz.prog 66 #[.string ⟨r.toArray⟩] w (zxH w (ziJ r)):=by
 have HX:=yhQ hmax
 clear hmax
 have hsl:=z0L r 93
 have htl:(Lib.trimSuffix r [93]).length≤r.length:=by rw [zmU];split<;>simp
 obtain ⟨t,ht⟩: ∃t,Lib.trimSuffix r [93]=t:=⟨_,rfl⟩
 obtain ⟨hi,lo,b,hz⟩: ∃hi lo b,sixZ t=((hi,lo),b):=⟨_,_,_,rfl⟩
 have HC:Hid (∀W,Calls Tryz.prog 106 #[.string ⟨r.toArray⟩,.string ⟨#[93]⟩] W fun e w'=>e= .returned (.tuple #[.string ⟨t.toArray⟩,.bool (decide (r.getLast? =some 93))])∧W=w'):=fun W=>(Tryz.strings_CutSuffix ⟨r.toArray⟩ ⟨#[93]⟩ W (by rw [zaA];omega)).mono (fun e w' h=>⟨by rw [h.1,←ht,←hsl],h.2.symm⟩)
 rw [ht] at htl
 go_enter Tryz.func66,Tryz.ntmps66
 go_wp2_with fail
 refine (HC.out _).mono ?_
 rintro e w' ⟨rfl,rfl⟩
 go_wp2_with fail
 refine (z2C ⟨t.toArray⟩ _ (by rw [zaA];omega) HX.out).mono ?_
 rw [zaB,hz]
 rintro e w1 ⟨rfl,hb1⟩
 clear HC
 by_cases hl:r.getLast? =some 93
 ·have hd:decide (r.getLast? =some 93)=true:=yhS hl
  cases b with
  |true=>
   have HF:=yhQ (z5R hl (by rw [ht];exact hz))
   clear hl hsl hz ht
   rw [hd]
   go_wp2
   go_ret2
   exact zfB HF.out rfl (hb1.alloc hb1.size _)
  |false=>
   have HF:=yhQ (znA (r:=r) (.inr (by rw [ht,hz])))
   clear hl hsl hz ht
   rw [hd]
   go_wp2
   go_ret2
   exact zfB HF.out rfl (hb1.alloc hb1.size _)
 ·have hd:decide (r.getLast? =some 93)=false:=decide_eq_false hl
  have HF:=yhQ (znA (r:=r) (.inl hl))
  clear hl hsl hz ht
  rw [hd]
  go_wp2
  go_ret2
  exact zfB HF.out rfl (hb1.alloc hb1.size _)
theorem z9B {c:List UInt8×Int} (h:c.2≠0):zhU c=(.none,c.2):=if_pos h
theorem z5Y {n:List UInt8} (h:zfG n=false):zhU (n,0)=(.name n,0):=by unfold zhU;rw [if_neg (by simp),if_neg (by simp [h])]
theorem z3D {n:List UInt8} {x:Int} {b:Bool} (h:zfG n=true) (hx:ziA n=(x,b)):zhU (n,0)=if b=true then (.addr (.four x),0) else (.none,6):=by unfold zhU;rw [if_neg (by simp),if_pos h,hx]
theorem zrS (s:ByteArray) (w:World) (hs:s.size≤1073741824) (hmax:MaxVar w):
  Calls Tryz.prog 34 #[.string s] w (zxH w (zeM s.data.toList)):=by
 have HX:=yhQ hmax
 clear hmax
 obtain ⟨b,hb⟩: ∃b,Lib.hasPrefix s.data.toList [91]=b:=⟨_,rfl⟩
 obtain ⟨r,hr⟩: ∃r,Lib.trimPrefix s.data.toList [91]=r:=⟨_,rfl⟩
 have HC:Hid (∀W,Calls Tryz.prog 65 #[.string s,.string ⟨#[91]⟩] W fun e w'=>e= .returned (.tuple #[.string ⟨r.toArray⟩,.bool b])∧W=w'):=fun W=>(Tryz.strings_CutPrefix s ⟨#[91]⟩ W).mono (fun e w' h=>⟨by rw [h.1,←hr,←hb],h.2.symm⟩)
 cases b with
 |true=>
  have hrd:r=s.data.toList.drop 1:=by rw [←hr];unfold Lib.trimPrefix;rw [if_pos hb];rfl
  have hrl:r.length≤s.size:=by rw [hrd,List.length_drop,zaH];omega
  have HF:=yhQ ((z9K hb).trans (by rw [hrd]:_=ziJ r))
  clear hr hb hrd
  go_enter Tryz.func34,Tryz.ntmps34
  go_wp2_with fail
  refine (HC.out _).mono ?_
  rintro e w' ⟨rfl,rfl⟩
  go_wp2_with fail
  refine (ztH r _ (by omega) HX.out).mono ?_
  rw [←HF.out]
  rintro e w1 ⟨rfl,hb1⟩
  go_wp2
  go_ret2
  exact ⟨rfl,hb1⟩
 |false=>
  have HF:=yhQ (z9T hb)
  have hdl:=zyC s.data.toList
  rw [zaH] at hdl
  obtain ⟨d,hd⟩: ∃d,decB s.data.toList=d:=⟨_,rfl⟩
  have HD:Hid (∀W,Calls Tryz.prog 68 #[.string s] W fun e w'=>e= .returned (.string ⟨d.toArray⟩)∧Below W.heap.size W w'):=fun W=>by have:=z2I s W hs;rwa [hd] at this
  rw [hd] at HF hdl
  obtain ⟨n,er,hc⟩: ∃n er,zdK d=(n,er):=⟨_,_,rfl⟩
  have hnl:=zpV hc
  have HK:Hid (∀W,Calls Tryz.prog 67 #[.string ⟨d.toArray⟩] W fun e w'=>e= .returned (.tuple #[.string ⟨n.toArray⟩,.int .i64 er])∧Below W.heap.size W w'):=fun W=>by have:=z5S ⟨d.toArray⟩ W (by rw [zaA];omega);rwa [zaB,hc] at this
  rw [hc] at HF
  clear hr hb hd hc
  go_enter Tryz.func34,Tryz.ntmps34
  go_wp2_with fail
  refine (HC.out _).mono ?_
  rintro e w' ⟨rfl,rfl⟩
  go_wp2_with fail
  refine (HD.out _).mono ?_
  rintro e w1 ⟨rfl,hb1⟩
  go_wp2_with fail
  refine (HK.out _).mono ?_
  rintro e w2 ⟨rfl,hb2⟩
  have hc2:=zaC hb1 hb2
  clear hb1 hb2 HD HK HC
  by_cases h0:er=0
  ·subst h0
   go_wp2_with fail
   refine (zgY _ _).mono ?_
   rintro e w' ⟨rfl,rfl⟩
   go_wp2_with fail
   refine (ycE ⟨n.toArray⟩ _ (by rw [zaA];omega)).mono ?_
   rw [zaB]
   rintro e w3 ⟨rfl,hb3⟩
   have hc3:=zaC hc2 hb3
   clear hc2 hb3
   cases he:zfG n with
   |false=>
    have HF2:=yhQ (HF.out.trans (z5Y he))
    clear he
    go_wp2
    go_ret2
    exact zfB HF2.out rfl hc3
   |true=>
    obtain ⟨x,b,hx⟩: ∃x b,ziA n=(x,b):=⟨_,_,rfl⟩
    have HF2:=yhQ (HF.out.trans (z3D he hx))
    clear he
    go_wp2_with fail
    refine (zgY _ _).mono ?_
    rintro e w' ⟨rfl,rfl⟩
    go_wp2_with fail
    refine (z3C ⟨n.toArray⟩ _ (by rw [zaA];omega)).mono ?_
    rw [zaB,hx]
    rintro e w4 ⟨rfl,hb4⟩
    have hc4:=zaC hc3 hb4
    clear hc3 hb4 hx
    cases b with
    |true=>
     go_wp2
     go_ret2
     exact zfB (HF2.out.trans (if_pos trivial)) rfl hc4
    |false=>
     go_wp2
     go_ret2
     exact zfB (HF2.out.trans (if_neg (by decide))) rfl hc4
  ·have HF2:=yhQ (HF.out.trans (z9B h0))
   have hd0:(er !=(0:Int))=true:=by rw [bne_iff_ne];exact h0
   clear h0
   go_wp2
   go_ret2
   exact zfB HF2.out rfl hc2
theorem hsNN (v:Value) (w:World):(Instr.typeAssert (.iface 65 v) 26 65 true).run Tryz.prog w= .ok (.tuple #[v,.bool true]) w:=by kernel_rfl
theorem hs4N (v:Value) (w:World):(Instr.typeAssert (.iface 90 v) 26 65 true).run Tryz.prog w= .ok (.tuple #[.string ⟨#[]⟩,.bool false]) w:=by kernel_rfl
theorem hs6N (v:Value) (w:World):(Instr.typeAssert (.iface 94 v) 26 65 true).run Tryz.prog w= .ok (.tuple #[.string ⟨#[]⟩,.bool false]) w:=by kernel_rfl
theorem hs0N (w:World):(Instr.typeAssert .nilIface 26 65 true).run Tryz.prog w= .ok (.tuple #[.string ⟨#[]⟩,.bool false]) w:=by kernel_rfl
def refH:HZ→Array Value
 | .none=> #[.int .i64 0,.string ⟨#[]⟩,.bool false,.int .u64 0,.int .u64 0]
 | .name l=> #[.int .i64 1,.string ⟨l.toArray⟩,.bool false,.int .u64 0,.int .u64 0]
 | .addr a=> #[.int .i64 2,.string ⟨#[]⟩,.bool (refA (some a)).1,.int .u64 (refA (some a)).2.1,.int .u64 (refA (some a)).2.2]
def zgG (w:World) (x:HZ×Int) (e:Ending) (w':World):Prop:=e= .returned (.tuple #[.agg (refH x.1),.int .i64 x.2])∧Below w.heap.size w w'
theorem zfC {w w':World} {x:HZ×Int} {h:HZ} {n:Int} {v:Array Value} (e:x=(h,n)) (hv:v=refH h) (hb:Below w.heap.size w w'):zgG w x (.returned (.tuple #[.agg v,.int .i64 n])) w':=by
 subst e hv;exact ⟨rfl,hb⟩
theorem zmE {x:World} {g:Nat} {a b c d e:Value} {t:TypeId} (h:x.heap[g]? =some (.cells #[a,b,c,d,e] t (0,0))):x.cell? ⟨g,0,none⟩=some a∧x.cell? ⟨g,1,none⟩=some b∧x.cell? ⟨g,2,none⟩=some c∧x.cell? ⟨g,3,none⟩=some d∧x.cell? ⟨g,4,none⟩=some e∧ ∀i,x.frozen? ⟨g,i,none⟩=false:=by
 refine ⟨?_,?_,?_,?_,?_,zeL h⟩<;>rw [cell_of_row x _ _ _ _ _ h]<;>rfl
theorem zeW {w x:World} {g:Nat} (h:Below w.heap.size w x) (hg:w.heap.size≤g) (a b c d e:Value):Below w.heap.size w (((((x.setCell ⟨g,0,none⟩ a).setCell ⟨g,1,none⟩ b).setCell ⟨g,2,none⟩ c).setCell ⟨g,3,none⟩ d).setCell ⟨g,4,none⟩ e):=
 ((((h.setCell (p:=⟨g,0,none⟩) hg _).setCell (p:=⟨g,1,none⟩) hg _).setCell (p:=⟨g,2,none⟩) hg _).setCell (p:=⟨g,3,none⟩) hg _).setCell (p:=⟨g,4,none⟩) hg _
theorem yfL:decB []=[]:=rfl
theorem z4D:zdK []=([],6):=by decide+kernel
theorem zmQ (w:World):
  Calls Tryz.prog 58 #[.string ⟨#[]⟩] w (zgG w (.none,6)):=by
 have HB:=yhQ (heap_alloc_new w (.cells #[.int .i64 0,.string ⟨#[]⟩,.bool false,.int .u64 0,.int .u64 0] 36))
 have hb:Below w.heap.size w (w.alloc (.cells #[.int .i64 0,.string ⟨#[]⟩,.bool false,.int .u64 0,.int .u64 0] 36)):=(yhT _ w).alloc (yhR _) _
 have hg:w.heap.size<(w.alloc (.cells #[.int .i64 0,.string ⟨#[]⟩,.bool false,.int .u64 0,.int .u64 0] 36)).heap.size:=by simp
 go_enter Tryz.func58,Tryz.ntmps58
 go_wp2_with fail
 generalize w.alloc (.cells #[.int .i64 0,.string ⟨#[]⟩,.bool false,.int .u64 0,.int .u64 0] 36)=x0 at*
 refine (zkL ⟨#[]⟩ _ (by decide)).mono ?_
 rw [show (ByteArray.mk #[]).data.toList=[] from rfl,yfL]
 rintro e x1 ⟨rfl,hb1⟩
 go_wp2_with fail
 refine (zlX ⟨#[]⟩ _ (by decide)).mono ?_
 rw [show (ByteArray.mk #[]).data.toList=[] from rfl,z4D]
 rintro e x2 ⟨rfl,hb2⟩
 have hc:=zaC hb1 hb2
 have hc2:Below w.heap.size w x2:=hb.trans (hc.mono hb.size)
 have HB2:Hid (x2.heap[w.heap.size]? =some (.cells #[.int .i64 0,.string ⟨#[]⟩,.bool false,.int .u64 0,.int .u64 0] 36 (0,0))):=(hc.block w.heap.size hg).trans HB.out
 clear hb1 hb2 hc hb HB hg
 obtain ⟨k0,k1,k2,k3,k4,kf⟩:=zmE HB2.out
 go_wp2
 exact bodyPost_ret (v:= .tuple #[.agg (refH .none),.int .i64 6]) (by simp [results,Tryz.results58,go_sem,k0,k1,k2,k3,k4,refH]) rfl ⟨rfl,zeW hc2 (yhR _) _ _ _ _ _⟩
theorem zlF (s:ByteArray) (w:World) (hs:s.size≤1073741824) (h0:0<s.size) (c:Nat) (hc:(s[0]'h0).toNat=c) (h91:c≠91):
  Calls Tryz.prog 58 #[.string s] w (zgG w (zhU (zdK (decB s.data.toList)))):=by
 have e91:((c:Int)==91)=false:=beq_eq_false_iff_ne.2 (by omega)
 have hd0:decide (0<(s.size:Int))=true:=yhS (by omega)
 have hdl:=zyC s.data.toList
 rw [zaH] at hdl
 obtain ⟨d,hd⟩: ∃d,decB s.data.toList=d:=⟨_,rfl⟩
 have HD:Hid (∀W,Calls Tryz.prog 101 #[.string s] W fun e w'=>e= .returned (.string ⟨d.toArray⟩)∧Below W.heap.size W w'):=fun W=>by have:=zkL s W hs;rwa [hd] at this
 rw [hd] at hdl ⊢
 obtain ⟨n,er,hk⟩: ∃n er,zdK d=(n,er):=⟨_,_,rfl⟩
 have hnl:=zpV hk
 have HK:Hid (∀W,Calls Tryz.prog 100 #[.string ⟨d.toArray⟩] W fun e w'=>e= .returned (.tuple #[.string ⟨n.toArray⟩,.int .i64 er])∧Below W.heap.size W w'):=fun W=>by have:=zlX ⟨d.toArray⟩ W (by rw [zaA];omega);rwa [zaB,hk] at this
 rw [hk]
 clear hd hk h91
 have HB:=yhQ (heap_alloc_new w (.cells #[.int .i64 0,.string ⟨#[]⟩,.bool false,.int .u64 0,.int .u64 0] 36))
 have hb:Below w.heap.size w (w.alloc (.cells #[.int .i64 0,.string ⟨#[]⟩,.bool false,.int .u64 0,.int .u64 0] 36)):=(yhT _ w).alloc (yhR _) _
 have hg:w.heap.size<(w.alloc (.cells #[.int .i64 0,.string ⟨#[]⟩,.bool false,.int .u64 0,.int .u64 0] 36)).heap.size:=by simp
 go_enter Tryz.func58,Tryz.ntmps58
 go_wp2_with fail
 generalize w.alloc (.cells #[.int .i64 0,.string ⟨#[]⟩,.bool false,.int .u64 0,.int .u64 0] 36)=x0 at*
 refine (HD.out _).mono ?_
 rintro e x1 ⟨rfl,hb1⟩
 go_wp2_with fail
 refine (HK.out _).mono ?_
 rintro e x2 ⟨rfl,hb2⟩
 have hc2:=zaC hb1 hb2
 clear hb1 hb2 HD HK hd0 e91
 by_cases h0:er=0
 ·subst h0
  go_wp2_with fail
  refine (zwC ⟨n.toArray⟩ _ (by rw [zaA];omega)).mono ?_
  rw [zaB]
  rintro e x3 ⟨rfl,hb3⟩
  have hc3:=zaC hc2 hb3
  clear hc2 hb3
  cases he:zfG n with
  |false=>
   have HF:=yhQ (z5Y he)
   clear he
   have hcw:=hb.trans (hc3.mono hb.size)
   obtain ⟨k0,k1,k2,k3,k4,kf⟩:=zmE ((hc3.block w.heap.size hg).trans HB.out)
   clear hc3 hb HB hg
   go_wp2
   exact bodyPost_ret (v:= .tuple #[.agg (refH (.name n)),.int .i64 0]) (by simp [results,Tryz.results58,go_sem,k0,k1,k2,k3,k4,refH]) rfl (zfC HF.out rfl (zeW hcw (yhR _) _ _ _ _ _))
  |true=>
   obtain ⟨x,b,hx⟩: ∃x b,ziA n=(x,b):=⟨_,_,rfl⟩
   have hxb:=zlV n
   rw [hx] at hxb
   have HF2:=yhQ (z3D he hx)
   clear he
   go_wp2_with fail
   refine (zrL ⟨n.toArray⟩ _ (by rw [zaA];omega)).mono ?_
   rw [zaB,hx]
   rintro e x4 ⟨rfl,hb4⟩
   have hc4:=zaC hc3 hb4
   clear hc3 hb4 hx
   cases b with
   |true=>
    have HF:Hid (zhU (n,0)=(.addr (.four x),0)):=HF2.out.trans (if_pos rfl)
    clear HF2
    go_wp2_with fail
    refine (znI x _ hxb.1 hxb.2).mono ?_
    rintro e x5 ⟨rfl,hb5⟩
    have hc5:=zaC hc4 hb5
    clear hc4 hb5
    have hcw:=hb.trans (hc5.mono hb.size)
    obtain ⟨k0,k1,k2,k3,k4,kf⟩:=zmE ((hc5.block w.heap.size hg).trans HB.out)
    clear hc5 hb HB hg
    go_wp2
    exact bodyPost_ret (v:= .tuple #[.agg (refH (.addr (.four x))),.int .i64 0]) (by simp [results,Tryz.results58,go_sem,k0,k1,k2,k3,k4,refH,refA]) rfl (zfC HF.out rfl (zeW hcw (yhR _) _ _ _ _ _))
   |false=>
    have HF:Hid (zhU (n,0)=(.none,6)):=HF2.out.trans (if_neg (by decide))
    clear HF2
    have hcw:=hb.trans (hc4.mono hb.size)
    obtain ⟨k0,k1,k2,k3,k4,kf⟩:=zmE ((hc4.block w.heap.size hg).trans HB.out)
    clear hc4 hb HB hg
    go_wp2
    exact bodyPost_ret (v:= .tuple #[.agg (refH (.none)),.int .i64 6]) (by simp [results,Tryz.results58,go_sem,k0,k1,k2,k3,k4,refH]) rfl (zfC HF.out rfl (zeW hcw (yhR _) _ _ _ _ _))
 ·have HF:=yhQ (z9B (c:=(n,er)) h0)
  have hd0:(er !=(0:Int))=true:=by rw [bne_iff_ne];exact h0
  clear h0
  have hcw:=hb.trans (hc2.mono hb.size)
  obtain ⟨k0,k1,k2,k3,k4,kf⟩:=zmE ((hc2.block w.heap.size hg).trans HB.out)
  clear hc2 hb HB hg
  go_wp2
  exact bodyPost_ret (v:= .tuple #[.agg (refH (.none)),.int .i64 er]) (by simp [results,Tryz.results58,go_sem,k0,k1,k2,k3,k4,refH]) rfl (zfC HF.out rfl (zeW hcw (yhR _) _ _ _ _ _))
theorem z0V (s:ByteArray) (r:List UInt8) (n:Nat) (hl:s.data.toList=91::r) (hn:s.size=n+2):(∃h:n+1<s.size,r.getLast? =some (s[n+1]'h))∧s.extract 1 (n+1)=⟨r.dropLast.toArray⟩:=by
 have hr:r.length=n+1:=by have:=zaH s;rw [hl,List.length_cons] at this;omega
 have h:n+1<s.size:=by omega
 refine ⟨⟨h,?_⟩,?_⟩
 ·have hb:=zdL s (n+1) h
  rw [hl,List.getElem?_cons_succ] at hb
  rw [List.getLast?_eq_getElem?,hr]
  exact hb
 ·refine zfS s 1 (n+1) _ ?_
  rw [hl,List.drop_one,List.tail_cons,List.dropLast_eq_take,hr]
theorem hs4A (v:Value) (w:World):(Instr.typeAssert (.iface 90 v) 26 68 true).run Tryz.prog w= .ok (.tuple #[.iface 90 v,.bool true]) w:=by kernel_rfl
theorem hs6A (v:Value) (w:World):(Instr.typeAssert (.iface 94 v) 26 68 true).run Tryz.prog w= .ok (.tuple #[.iface 94 v,.bool true]) w:=by kernel_rfl
theorem hs0A (w:World):(Instr.typeAssert .nilIface 26 68 true).run Tryz.prog w= .ok (.tuple #[.nilIface,.bool false]) w:=by kernel_rfl
def HZ.In:HZ→Prop
 | .addr a=>a.Ok
 |_=>True
theorem HZ.Ok.inn {h:HZ} (ho:h.Ok):h.In:=by
 match h,ho with
 | .name _,_=>trivial
 | .addr _,ho=>exact ho
def zyP (w:World) (v:Array Value) (e:Ending) (w':World):Prop:=e= .returned (.agg v)∧Below w.heap.size w w'
theorem ztD (w:World):Calls Tryz.prog 15 #[.nilIface] w (zyP w (refH .none)):=by
 have h1:=hs0N
 have h2:=hs0A
 have hb:Below w.heap.size w (w.alloc (.cells #[.int .i64 0,.string ⟨#[]⟩,.bool false,.int .u64 0,.int .u64 0] 36)):=(yhT _ w).alloc (yhR _) _
 go_enter Tryz.func15,Tryz.ntmps15
 go_wp2
 exact bodyPost_ret (v:= .agg (refH .none)) (by simp [results,Tryz.results15,go_sem,refH]) rfl ⟨rfl,by first|exact hb|exact (yhT _ _).alloc (yhR _) _⟩
theorem zuH (l:List UInt8) (w:World):Calls Tryz.prog 15 #[.iface 65 (.string ⟨l.toArray⟩)] w (zyP w (refH (.name l))):=by
 have h1:=hsNN
 have hb:Below w.heap.size w (w.alloc (.cells #[.int .i64 0,.string ⟨#[]⟩,.bool false,.int .u64 0,.int .u64 0] 36)):=(yhT _ w).alloc (yhR _) _
 go_enter Tryz.func15,Tryz.ntmps15
 go_wp2
 exact bodyPost_ret (v:= .agg (refH (.name l))) (by simp [results,Tryz.results15,go_sem,refH]) rfl ⟨rfl,by first|exact hb|exact (yhT _ _).alloc (yhR _) _⟩
theorem zvN (a:AZ) (w:World) (ha:a.Ok):Calls Tryz.prog 15 #[a.val] w (zyP w (refH (.addr a))):=by
 have h1: ∀W,(Instr.typeAssert a.val 26 65 true).run Tryz.prog W= .ok (.tuple #[.string ⟨#[]⟩,.bool false]) W:=by cases a;exact hs4N _;exact hs6N _
 have h2: ∀W,(Instr.typeAssert a.val 26 68 true).run Tryz.prog W= .ok (.tuple #[a.val,.bool true]) W:=by cases a;exact hs4A _;exact hs6A _
 have HO:=yhQ (fun W=>z7G (some a) W (fun b h=>by rw [←Option.some.inj h];exact ha))
 have HB:=yhQ (heap_alloc_new w (.cells #[.int .i64 0,.string ⟨#[]⟩,.bool false,.int .u64 0,.int .u64 0] 36))
 have hb:Below w.heap.size w (w.alloc (.cells #[.int .i64 0,.string ⟨#[]⟩,.bool false,.int .u64 0,.int .u64 0] 36)):=(yhT _ w).alloc (yhR _) _
 have hg:w.heap.size<(w.alloc (.cells #[.int .i64 0,.string ⟨#[]⟩,.bool false,.int .u64 0,.int .u64 0] 36)).heap.size:=by simp
 simp only [optV,refV] at HO
 generalize a.val=av at*
 go_enter Tryz.func15,Tryz.ntmps15
 go_wp2_with fail
 generalize w.alloc (.cells #[.int .i64 0,.string ⟨#[]⟩,.bool false,.int .u64 0,.int .u64 0] 36)=x0 at*
 refine (HO.out _).mono ?_
 rintro e x1 ⟨rfl,hb1⟩
 have hcw:=hb.trans (hb1.mono hb.size)
 obtain ⟨k0,k1,k2,k3,k4,kf⟩:=zmE ((hb1.block w.heap.size hg).trans HB.out)
 clear hb1 hb HB hg HO h1 h2
 go_wp2
 exact bodyPost_ret (v:= .agg (refH (.addr a))) (by simp [results,Tryz.results15,go_sem,k0,k1,k2,k3,k4,refH]) rfl ⟨rfl,zeW hcw (yhR _) _ _ _ _ _⟩
theorem zxM (h:HZ) (w:World) (ho:h.In):Calls Tryz.prog 15 #[h.val] w (zyP w (refH h)):=by
 match h,ho with
 | .none,_=>exact ztD w
 | .name l,_=>exact zuH l w
 | .addr a,ha=>exact zvN a w ha
theorem ybN (l:List UInt8):(zeM l).1.In:=by
 by_cases h:(zeM l).2=0
 ·exact (znB h).inn
 ·rw [z0A h];trivial
theorem HZ.iface {h:HZ} (hne:h≠ .none): ∃t v,h.val= .iface t v:=by
 match h,hne with
 | .name l,_=>exact ⟨_,_,rfl⟩
 | .addr (.four n),_=>exact ⟨_,_,rfl⟩
 | .addr (.six hi lo),_=>exact ⟨_,_,rfl⟩
theorem HZ.Ok.ne {h:HZ} (ho:h.Ok):h≠ .none:=fun e=>by rw [e] at ho;exact ho
theorem zlM (s:ByteArray) (w:World) (n:Nat) (hn:s.size=n+2) (hs:s.size≤1073741824) (h0:0<s.size) (hc:(s[0]'h0).toNat=91) (hlt:n+1<s.size) (c2:Nat) (hc2:(s[n+1]'hlt).toNat=c2) (h93:c2≠93):
  Calls Tryz.prog 58 #[.string s] w (zgG w (.none,6)):=by
 have hd0:decide (0<(s.size:Int))=true:=yhS (by omega)
 have hd1:decide ((s.size:Int)<2)=false:=decide_eq_false (by omega)
 have e93:((c2:Int) !=93)=true:=by rw [bne_iff_ne];omega
 have hb:Below w.heap.size w (w.alloc (.cells #[.int .i64 0,.string ⟨#[]⟩,.bool false,.int .u64 0,.int .u64 0] 36)):=(yhT _ w).alloc (yhR _) _
 clear h93
 go_enter Tryz.func58,Tryz.ntmps58
 go_wp2
 exact bodyPost_ret (v:= .tuple #[.agg (refH .none),.int .i64 6]) (by simp [results,Tryz.results58,go_sem,refH]) rfl ⟨rfl,hb⟩
theorem zmO (s:ByteArray) (w:World) (hn:s.size=1) (h0:0<s.size) (hc:(s[0]'h0).toNat=91):
  Calls Tryz.prog 58 #[.string s] w (zgG w (.none,6)):=by
 have hd0:decide (0<(s.size:Int))=true:=yhS (by omega)
 have hd1:decide ((s.size:Int)<2)=true:=yhS (by omega)
 have hb:Below w.heap.size w (w.alloc (.cells #[.int .i64 0,.string ⟨#[]⟩,.bool false,.int .u64 0,.int .u64 0] 36)):=(yhT _ w).alloc (yhR _) _
 clear hn
 go_enter Tryz.func58,Tryz.ntmps58
 go_wp2
 exact bodyPost_ret (v:= .tuple #[.agg (refH .none),.int .i64 6]) (by simp [results,Tryz.results58,go_sem,refH]) rfl ⟨rfl,hb⟩
def zsL (t:List UInt8):HZ×Int:=if (sixZ t).2=true then (.addr (.six (sixZ t).1.1 (sixZ t).1.2),0) else (.none,6)
theorem zlI (s:ByteArray) (w:World) (n:Nat) (hn:s.size=n+2) (hs:s.size≤1073741824) (h0:0<s.size) (hc:(s[0]'h0).toNat=91) (hlt:n+1<s.size) (hc2:(s[n+1]'hlt).toNat=93) (t:List UInt8) (hex:s.extract 1 (n+1)=⟨t.toArray⟩) (ht:t.length≤s.size):
  Calls Tryz.prog 58 #[.string s] w (zgG w (zsL t)):=by
 have hd0:decide (0<(s.size:Int))=true:=yhS (by omega)
 have hd1:decide ((s.size:Int)<2)=false:=decide_eq_false (by omega)
 have hsl:=fun W:World=>zkD (P:=Tryz.prog) W 9 s (1:Int) ((n:Int)+2 - 1) 1 (n+1) (by omega) (by omega) (by omega) (by omega) Tryz.underlying9
 rw [hex] at hsl
 clear hex
 obtain ⟨hi,lo,b,hz⟩: ∃hi lo b,sixZ t=((hi,lo),b):=⟨_,_,_,rfl⟩
 have HZ:=yhQ (fun W=>zrT ⟨t.toArray⟩ W (by rw [zaA];omega))
 rw [zaB,hz] at HZ
 have HB:=yhQ (heap_alloc_new w (.cells #[.int .i64 0,.string ⟨#[]⟩,.bool false,.int .u64 0,.int .u64 0] 36))
 have hb:Below w.heap.size w (w.alloc (.cells #[.int .i64 0,.string ⟨#[]⟩,.bool false,.int .u64 0,.int .u64 0] 36)):=(yhT _ w).alloc (yhR _) _
 have hg:w.heap.size<(w.alloc (.cells #[.int .i64 0,.string ⟨#[]⟩,.bool false,.int .u64 0,.int .u64 0] 36)).heap.size:=by simp
 have HF:Hid (zsL t=if b=true then (.addr (.six hi lo),0) else (.none,6)):=by show zsL t=_;unfold zsL;rw [hz]
 clear hz
 go_enter Tryz.func58,Tryz.ntmps58
 go_wp2_with fail
 generalize w.alloc (.cells #[.int .i64 0,.string ⟨#[]⟩,.bool false,.int .u64 0,.int .u64 0] 36)=x0 at*
 refine (HZ.out _).mono ?_
 rintro e x1 ⟨rfl,hb1⟩
 have hcw:=hb.trans (hb1.mono hb.size)
 obtain ⟨k0,k1,k2,k3,k4,kf⟩:=zmE ((hb1.block w.heap.size hg).trans HB.out)
 clear hb1 hb HB hg hsl HZ hc hc2 hd0 hd1 hn hs hlt
 cases b with
 |true=>
  have HF2:Hid (zsL t=(.addr (.six hi lo),0)):=HF.out.trans (if_pos rfl)
  clear HF
  go_wp2
  exact bodyPost_ret (v:= .tuple #[.agg (refH (.addr (.six hi lo))),.int .i64 0]) (by simp [results,Tryz.results58,go_sem,k0,k1,k2,k3,k4,refH,refA]) rfl (zfC HF2.out rfl (zeW hcw (yhR _) _ _ _ _ _))
 |false=>
  have HF2:Hid (zsL t=(.none,6)):=HF.out.trans (if_neg (by decide))
  clear HF
  go_wp2
  exact bodyPost_ret (v:= .tuple #[.agg (refH .none),.int .i64 6]) (by simp [results,Tryz.results58,go_sem,k0,k1,k2,k3,k4,refH]) rfl (zfC HF2.out rfl (zeW hcw (yhR _) _ _ _ _ _))
theorem zmK (s:ByteArray) (w:World) (hs:s.size≤1073741824):
  Calls Tryz.prog 58 #[.string s] w (zgG w (zeM s.data.toList)):=by
 match hl:s.data.toList with
 |[]=>
  obtain rfl:s=⟨#[]⟩:=by
   apply ByteArray.ext
   apply Array.ext'
   rw [hl]
  exact zmQ w
 |c::r=>
  have hsz:=zaH s
  rw [hl,List.length_cons] at hsz
  have h0:0<s.size:=by omega
  have hc:s[0]'h0=c:=by have hb:=zdL s 0 h0;rw [hl] at hb;exact (Option.some.inj hb).symm
  rw [zgR]
  by_cases h91:c=91
  ·rw [if_pos h91]
   subst h91
   by_cases h1:s.size<2
   ·have hr:r=[]:=List.eq_nil_of_length_eq_zero (by omega)
    rw [show ziJ r=(.none,6) by rw [hr];exact znA (.inl (by simp))]
    exact zmO s w (by omega) h0 (by rw [hc];rfl)
   ·obtain ⟨n,hn⟩: ∃n,s.size=n+2:=⟨s.size - 2,by omega⟩
    obtain ⟨⟨hlt,hlast⟩,hex⟩:=z0V s r n hl hn
    by_cases h93:s[n+1]=93
    ·rw [show ziJ r=zsL r.dropLast by unfold ziJ zsL;rw [hlast,h93];simp]
     exact zlI s w n hn hs h0 (by rw [hc];rfl) hlt (by rw [h93];rfl) _ hex (by rw [List.length_dropLast];omega)
    ·rw [show ziJ r=(.none,6) from znA (.inl (by rw [hlast];exact fun e=>h93 (Option.some.inj e)))]
     exact zlM s w n hn hs h0 (by rw [hc];rfl) hlt _ rfl (fun e=>h93 (UInt8.toNat_inj.1 e))
  ·rw [if_neg h91,←hl]
   exact zlF s w hs h0 _ rfl (fun e=>h91 (by rw [←hc];exact UInt8.toNat_inj.1 e))
end
end Go.Proofs.YtcagcjdhbijknaaGreatDoor
