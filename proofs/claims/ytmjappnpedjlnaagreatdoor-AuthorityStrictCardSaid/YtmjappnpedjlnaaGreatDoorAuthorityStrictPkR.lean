/-
  What the law AuthorityStrict leans on, and its walk (18 of 35).
-/
import Derived.Test.YtmjappnpedjlnaaGreatDoorAuthorityStrictPkO
import Derived.Test.YtmjappnpedjlnaaGreatDoorAuthorityStrictPkQ
namespace Go.Proofs.YtmjappnpedjlnaaGreatDoor
set_option maxRecDepth 100000
set_option maxHeartbeats 16000000
abbrev z0G := @Lib.hid
abbrev z0H := @Nat.le_refl
abbrev z0I := @decide_eq_true
abbrev z0J := @Go.RowKit.Below.refl
section
open Go.RowKit
def HZ.val:HZ→Value
 | .none=> .nilIface
 | .name l=> .iface 103 (.string ⟨l.toArray⟩)
 | .addr a=>a.val
def zkK (w:World) (x:HZ×Int) (e:Ending) (w':World):Prop:=e= .returned (.tuple #[x.1.val,.int .i64 x.2])∧Below w.heap.size w w'
theorem zcU {w w':World} {x:HZ×Int} {h:HZ} {n:Int} {v:Value} (e:x=(h,n)) (hv:v=h.val) (hb:Below w.heap.size w w'):zkK w x (.returned (.tuple #[v,.int .i64 n])) w':=by
 subst e hv;exact ⟨rfl,hb⟩
theorem zhT {r:List UInt8} (h: ¬r.getLast? =some 93∨(sixZ (Lib.trimSuffix r [93])).2=false):zfJ r=(.none,6):=by
 unfold zfJ
 rw [if_neg]
 rintro ⟨h1,h2⟩
 rw [zhU,if_pos h1] at h
 rcases h with h|h
 ·exact h h1
 ·rw [h2] at h;cases h
theorem zrY {r:List UInt8} {hi lo:Int} (h1:r.getLast? =some 93) (h2:sixZ (Lib.trimSuffix r [93])=((hi,lo),true)):zfJ r=(.addr (.six hi lo),0):=by
 unfold zfJ
 rw [zhU,if_pos h1] at h2
 rw [if_pos ⟨h1,by rw [h2]⟩,h2]
theorem zlG (r:List UInt8) (w:World) (hr:r.length≤1073741824) (hmax:MaxVar w):
  Calls Tryz.prog 125 #[.string ⟨r.toArray⟩] w (zkK w (zfJ r)):=by
 have HX:=z0G hmax
 clear hmax
 have hsl:=zoV r 93
 have htl:(Lib.trimSuffix r [93]).length≤r.length:=by rw [zhU];split<;>simp
 obtain ⟨t,ht⟩: ∃t,Lib.trimSuffix r [93]=t:=⟨_,rfl⟩
 obtain ⟨hi,lo,b,hz⟩: ∃hi lo b,sixZ t=((hi,lo),b):=⟨_,_,_,rfl⟩
 have HC:Hid (∀W,Calls Tryz.prog 150 #[.string ⟨r.toArray⟩,.string ⟨#[93]⟩] W fun e w'=>e= .returned (.tuple #[.string ⟨t.toArray⟩,.bool (decide (r.getLast? =some 93))])∧W=w'):=fun W=>(Tryz.strings_CutSuffix ⟨r.toArray⟩ ⟨#[93]⟩ W (by rw [zaA];omega)).mono (fun e w' h=>⟨by rw [h.1,←ht,←hsl],h.2.symm⟩)
 rw [ht] at htl
 go_enter Tryz.func125,Tryz.ntmps125
 go_wp2_with fail
 refine (HC.out _).mono ?_
 rintro e w' ⟨rfl,rfl⟩
 go_wp2_with fail
 refine (zqU ⟨t.toArray⟩ _ (by rw [zaA];omega) HX.out).mono ?_
 rw [zaE,hz]
 rintro e w1 ⟨rfl,hb1⟩
 clear HC
 by_cases hl:r.getLast? =some 93
 ·have hd:decide (r.getLast? =some 93)=true:=z0I hl
  cases b with
  |true=>
   have HF:=z0G (zrY hl (by rw [ht];exact hz))
   clear hl hsl hz ht
   rw [hd]
   go_wp2
   go_ret2
   exact zcU HF.out rfl (hb1.alloc hb1.size _)
  |false=>
   have HF:=z0G (zhT (r:=r) (.inr (by rw [ht,hz])))
   clear hl hsl hz ht
   rw [hd]
   go_wp2
   go_ret2
   exact zcU HF.out rfl (hb1.alloc hb1.size _)
 ·have hd:decide (r.getLast? =some 93)=false:=decide_eq_false hl
  have HF:=z0G (zhT (r:=r) (.inl hl))
  clear hl hsl hz ht
  rw [hd]
  go_wp2
  go_ret2
  exact zcU HF.out rfl (hb1.alloc hb1.size _)
theorem zrZ {c:List UInt8×Int} (h:c.2≠0):zfW c=(.none,c.2):=if_pos h
theorem ztI {n:List UInt8} (h:zdE n=false):zfW (n,0)=(.name n,0):=by unfold zfW;rw [if_neg (by simp),if_neg (by simp [h])]
theorem ztT {n:List UInt8} {x:Int} {b:Bool} (h:zdE n=true) (hx:zeV n=(x,b)):zfW (n,0)=if b=true then (.addr (.four x),0) else (.none,6):=by unfold zfW;rw [if_neg (by simp),if_pos h,hx]
theorem zjY (s:ByteArray) (w:World) (hs:s.size≤1073741824) (hmax:MaxVar w):
  Calls Tryz.prog 77 #[.string s] w (zkK w (zeT s.data.toList)):=by
 have HX:=z0G hmax
 clear hmax
 obtain ⟨b,hb⟩: ∃b,Lib.hasPrefix s.data.toList [91]=b:=⟨_,rfl⟩
 obtain ⟨r,hr⟩: ∃r,Lib.trimPrefix s.data.toList [91]=r:=⟨_,rfl⟩
 have HC:Hid (∀W,Calls Tryz.prog 96 #[.string s,.string ⟨#[91]⟩] W fun e w'=>e= .returned (.tuple #[.string ⟨r.toArray⟩,.bool b])∧W=w'):=fun W=>(Tryz.strings_CutPrefix s ⟨#[91]⟩ W).mono (fun e w' h=>⟨by rw [h.1,←hr,←hb],h.2.symm⟩)
 cases b with
 |true=>
  have hrd:r=s.data.toList.drop 1:=by rw [←hr];unfold Lib.trimPrefix;rw [if_pos hb];rfl
  have hrl:r.length≤s.size:=by rw [hrd,List.length_drop,zaB];omega
  have HF:=z0G ((zsV hb).trans (by rw [hrd]:_=zfJ r))
  clear hr hb hrd
  go_enter Tryz.func77,Tryz.ntmps77
  go_wp2_with fail
  refine (HC.out _).mono ?_
  rintro e w' ⟨rfl,rfl⟩
  go_wp2_with fail
  refine (zlG r _ (by omega) HX.out).mono ?_
  rw [←HF.out]
  rintro e w1 ⟨rfl,hb1⟩
  go_wp2
  go_ret2
  exact ⟨rfl,hb1⟩
 |false=>
  have HF:=z0G (ztC hb)
  have hdl:=zpO s.data.toList
  rw [zaB] at hdl
  obtain ⟨d,hd⟩: ∃d,decB s.data.toList=d:=⟨_,rfl⟩
  have HD:Hid (∀W,Calls Tryz.prog 127 #[.string s] W fun e w'=>e= .returned (.string ⟨d.toArray⟩)∧Below W.heap.size W w'):=fun W=>by have:=zrB s W hs;rwa [hd] at this
  rw [hd] at HF hdl
  obtain ⟨n,er,hc⟩: ∃n er,zbV d=(n,er):=⟨_,_,rfl⟩
  have hnl:=zjI hc
  have HK:Hid (∀W,Calls Tryz.prog 126 #[.string ⟨d.toArray⟩] W fun e w'=>e= .returned (.tuple #[.string ⟨n.toArray⟩,.int .i64 er])∧Below W.heap.size W w'):=fun W=>by have:=ztY ⟨d.toArray⟩ W (by rw [zaA];omega);rwa [zaE,hc] at this
  rw [hc] at HF
  clear hr hb hd hc
  go_enter Tryz.func77,Tryz.ntmps77
  go_wp2_with fail
  refine (HC.out _).mono ?_
  rintro e w' ⟨rfl,rfl⟩
  go_wp2_with fail
  refine (HD.out _).mono ?_
  rintro e w1 ⟨rfl,hb1⟩
  go_wp2_with fail
  refine (HK.out _).mono ?_
  rintro e w2 ⟨rfl,hb2⟩
  have hc2:=zaY hb1 hb2
  clear hb1 hb2 HD HK HC
  by_cases h0:er=0
  ·subst h0
   go_wp2_with fail
   refine (zeG _ _).mono ?_
   rintro e w' ⟨rfl,rfl⟩
   go_wp2_with fail
   refine (zvY ⟨n.toArray⟩ _ (by rw [zaA];omega)).mono ?_
   rw [zaE]
   rintro e w3 ⟨rfl,hb3⟩
   have hc3:=zaY hc2 hb3
   clear hc2 hb3
   cases he:zdE n with
   |false=>
    have HF2:=z0G (HF.out.trans (ztI he))
    clear he
    go_wp2
    go_ret2
    exact zcU HF2.out rfl hc3
   |true=>
    obtain ⟨x,b,hx⟩: ∃x b,zeV n=(x,b):=⟨_,_,rfl⟩
    have HF2:=z0G (HF.out.trans (ztT he hx))
    clear he
    go_wp2_with fail
    refine (zeG _ _).mono ?_
    rintro e w' ⟨rfl,rfl⟩
    go_wp2_with fail
    refine (zqZ ⟨n.toArray⟩ _ (by rw [zaA];omega)).mono ?_
    rw [zaE,hx]
    rintro e w4 ⟨rfl,hb4⟩
    have hc4:=zaY hc3 hb4
    clear hc3 hb4 hx
    cases b with
    |true=>
     go_wp2
     go_ret2
     exact zcU (HF2.out.trans (if_pos trivial)) rfl hc4
    |false=>
     go_wp2
     go_ret2
     exact zcU (HF2.out.trans (if_neg (by decide))) rfl hc4
  ·have HF2:=z0G (HF.out.trans (zrZ h0))
   have hd0:(er !=(0:Int))=true:=by rw [bne_iff_ne];exact h0
   clear h0
   go_wp2
   go_ret2
   exact zcU HF2.out rfl hc2
theorem hsNN (v:Value) (w:World):(Instr.typeAssert (.iface 103 v) 44 103 true).run Tryz.prog w= .ok (.tuple #[v,.bool true]) w:=by kernel_rfl
theorem hs4N (v:Value) (w:World):(Instr.typeAssert (.iface 134 v) 44 103 true).run Tryz.prog w= .ok (.tuple #[.string ⟨#[]⟩,.bool false]) w:=by kernel_rfl
theorem hs6N (v:Value) (w:World):(Instr.typeAssert (.iface 144 v) 44 103 true).run Tryz.prog w= .ok (.tuple #[.string ⟨#[]⟩,.bool false]) w:=by kernel_rfl
theorem hs0N (w:World):(Instr.typeAssert .nilIface 44 103 true).run Tryz.prog w= .ok (.tuple #[.string ⟨#[]⟩,.bool false]) w:=by kernel_rfl
def refH:HZ→Array Value
 | .none=> #[.int .i64 0,.string ⟨#[]⟩,.bool false,.int .u64 0,.int .u64 0]
 | .name l=> #[.int .i64 1,.string ⟨l.toArray⟩,.bool false,.int .u64 0,.int .u64 0]
 | .addr a=> #[.int .i64 2,.string ⟨#[]⟩,.bool (refA (some a)).1,.int .u64 (refA (some a)).2.1,.int .u64 (refA (some a)).2.2]
def zdV (w:World) (x:HZ×Int) (e:Ending) (w':World):Prop:=e= .returned (.tuple #[.agg (refH x.1),.int .i64 x.2])∧Below w.heap.size w w'
theorem zcT {w w':World} {x:HZ×Int} {h:HZ} {n:Int} {v:Array Value} (e:x=(h,n)) (hv:v=refH h) (hb:Below w.heap.size w w'):zdV w x (.returned (.tuple #[.agg v,.int .i64 n])) w':=by
 subst e hv;exact ⟨rfl,hb⟩
theorem ziO {x:World} {g:Nat} {a b c d e:Value} {t:TypeId} (h:x.heap[g]? =some (.cells #[a,b,c,d,e] t (0,0))):x.cell? ⟨g,0,none⟩=some a∧x.cell? ⟨g,1,none⟩=some b∧x.cell? ⟨g,2,none⟩=some c∧x.cell? ⟨g,3,none⟩=some d∧x.cell? ⟨g,4,none⟩=some e∧ ∀i,x.frozen? ⟨g,i,none⟩=false:=by
 refine ⟨?_,?_,?_,?_,?_,zaI h⟩<;>rw [cell_of_row x _ _ _ _ _ h]<;>rfl
theorem zcP {w x:World} {g:Nat} (h:Below w.heap.size w x) (hg:w.heap.size≤g) (a b c d e:Value):Below w.heap.size w (((((x.setCell ⟨g,0,none⟩ a).setCell ⟨g,1,none⟩ b).setCell ⟨g,2,none⟩ c).setCell ⟨g,3,none⟩ d).setCell ⟨g,4,none⟩ e):=
 ((((h.setCell (p:=⟨g,0,none⟩) hg _).setCell (p:=⟨g,1,none⟩) hg _).setCell (p:=⟨g,2,none⟩) hg _).setCell (p:=⟨g,3,none⟩) hg _).setCell (p:=⟨g,4,none⟩) hg _
theorem zyN:decB []=[]:=rfl
theorem zsA:zbV []=([],6):=by decide+kernel
theorem zhM (w:World):
  Calls Tryz.prog 81 #[.string ⟨#[]⟩] w (zdV w (.none,6)):=by
 have HB:=z0G (heap_alloc_new w (.cells #[.int .i64 0,.string ⟨#[]⟩,.bool false,.int .u64 0,.int .u64 0] 60))
 have hb:Below w.heap.size w (w.alloc (.cells #[.int .i64 0,.string ⟨#[]⟩,.bool false,.int .u64 0,.int .u64 0] 60)):=(z0J _ w).alloc (z0H _) _
 have hg:w.heap.size<(w.alloc (.cells #[.int .i64 0,.string ⟨#[]⟩,.bool false,.int .u64 0,.int .u64 0] 60)).heap.size:=by simp
 go_enter Tryz.func81,Tryz.ntmps81
 go_wp2_with fail
 generalize w.alloc (.cells #[.int .i64 0,.string ⟨#[]⟩,.bool false,.int .u64 0,.int .u64 0] 60)=x0 at*
 refine (zgB ⟨#[]⟩ _ (by decide)).mono ?_
 rw [show (ByteArray.mk #[]).data.toList=[] from rfl,zyN]
 rintro e x1 ⟨rfl,hb1⟩
 go_wp2_with fail
 refine (zhF ⟨#[]⟩ _ (by decide)).mono ?_
 rw [show (ByteArray.mk #[]).data.toList=[] from rfl,zsA]
 rintro e x2 ⟨rfl,hb2⟩
 have hc:=zaY hb1 hb2
 have hc2:Below w.heap.size w x2:=hb.trans (hc.mono hb.size)
 have HB2:Hid (x2.heap[w.heap.size]? =some (.cells #[.int .i64 0,.string ⟨#[]⟩,.bool false,.int .u64 0,.int .u64 0] 60 (0,0))):=(hc.block w.heap.size hg).trans HB.out
 clear hb1 hb2 hc hb HB hg
 obtain ⟨k0,k1,k2,k3,k4,kf⟩:=ziO HB2.out
 go_wp2
 exact bodyPost_ret (v:= .tuple #[.agg (refH .none),.int .i64 6]) (by simp [results,Tryz.results81,go_sem,k0,k1,k2,k3,k4,refH]) rfl ⟨rfl,zcP hc2 (z0H _) _ _ _ _ _⟩
theorem zhC (s:ByteArray) (w:World) (hs:s.size≤1073741824) (h0:0<s.size) (c:Nat) (hc:(s[0]'h0).toNat=c) (h91:c≠91):
  Calls Tryz.prog 81 #[.string s] w (zdV w (zfW (zbV (decB s.data.toList)))):=by
 have e91:((c:Int)==91)=false:=beq_eq_false_iff_ne.2 (by omega)
 have hd0:decide (0<(s.size:Int))=true:=z0I (by omega)
 have hdl:=zpO s.data.toList
 rw [zaB] at hdl
 obtain ⟨d,hd⟩: ∃d,decB s.data.toList=d:=⟨_,rfl⟩
 have HD:Hid (∀W,Calls Tryz.prog 131 #[.string s] W fun e w'=>e= .returned (.string ⟨d.toArray⟩)∧Below W.heap.size W w'):=fun W=>by have:=zgB s W hs;rwa [hd] at this
 rw [hd] at hdl ⊢
 obtain ⟨n,er,hk⟩: ∃n er,zbV d=(n,er):=⟨_,_,rfl⟩
 have hnl:=zjI hk
 have HK:Hid (∀W,Calls Tryz.prog 130 #[.string ⟨d.toArray⟩] W fun e w'=>e= .returned (.tuple #[.string ⟨n.toArray⟩,.int .i64 er])∧Below W.heap.size W w'):=fun W=>by have:=zhF ⟨d.toArray⟩ W (by rw [zaA];omega);rwa [zaE,hk] at this
 rw [hk]
 clear hd hk h91
 have HB:=z0G (heap_alloc_new w (.cells #[.int .i64 0,.string ⟨#[]⟩,.bool false,.int .u64 0,.int .u64 0] 60))
 have hb:Below w.heap.size w (w.alloc (.cells #[.int .i64 0,.string ⟨#[]⟩,.bool false,.int .u64 0,.int .u64 0] 60)):=(z0J _ w).alloc (z0H _) _
 have hg:w.heap.size<(w.alloc (.cells #[.int .i64 0,.string ⟨#[]⟩,.bool false,.int .u64 0,.int .u64 0] 60)).heap.size:=by simp
 go_enter Tryz.func81,Tryz.ntmps81
 go_wp2_with fail
 generalize w.alloc (.cells #[.int .i64 0,.string ⟨#[]⟩,.bool false,.int .u64 0,.int .u64 0] 60)=x0 at*
 refine (HD.out _).mono ?_
 rintro e x1 ⟨rfl,hb1⟩
 go_wp2_with fail
 refine (HK.out _).mono ?_
 rintro e x2 ⟨rfl,hb2⟩
 have hc2:=zaY hb1 hb2
 clear hb1 hb2 HD HK hd0 e91
 by_cases h0:er=0
 ·subst h0
  go_wp2_with fail
  refine (znD ⟨n.toArray⟩ _ (by rw [zaA];omega)).mono ?_
  rw [zaE]
  rintro e x3 ⟨rfl,hb3⟩
  have hc3:=zaY hc2 hb3
  clear hc2 hb3
  cases he:zdE n with
  |false=>
   have HF:=z0G (ztI he)
   clear he
   have hcw:=hb.trans (hc3.mono hb.size)
   obtain ⟨k0,k1,k2,k3,k4,kf⟩:=ziO ((hc3.block w.heap.size hg).trans HB.out)
   clear hc3 hb HB hg
   go_wp2
   exact bodyPost_ret (v:= .tuple #[.agg (refH (.name n)),.int .i64 0]) (by simp [results,Tryz.results81,go_sem,k0,k1,k2,k3,k4,refH]) rfl (zcT HF.out rfl (zcP hcw (z0H _) _ _ _ _ _))
  |true=>
   obtain ⟨x,b,hx⟩: ∃x b,zeV n=(x,b):=⟨_,_,rfl⟩
   have hxb:=zhD n
   rw [hx] at hxb
   have HF2:=z0G (ztT he hx)
   clear he
   go_wp2_with fail
   refine (zkG ⟨n.toArray⟩ _ (by rw [zaA];omega)).mono ?_
   rw [zaE,hx]
   rintro e x4 ⟨rfl,hb4⟩
   have hc4:=zaY hc3 hb4
   clear hc3 hb4 hx
   cases b with
   |true=>
    have HF:Hid (zfW (n,0)=(.addr (.four x),0)):=HF2.out.trans (if_pos rfl)
    clear HF2
    go_wp2_with fail
    refine (ziR x _ hxb.1 hxb.2).mono ?_
    rintro e x5 ⟨rfl,hb5⟩
    have hc5:=zaY hc4 hb5
    clear hc4 hb5
    have hcw:=hb.trans (hc5.mono hb.size)
    obtain ⟨k0,k1,k2,k3,k4,kf⟩:=ziO ((hc5.block w.heap.size hg).trans HB.out)
    clear hc5 hb HB hg
    go_wp2
    exact bodyPost_ret (v:= .tuple #[.agg (refH (.addr (.four x))),.int .i64 0]) (by simp [results,Tryz.results81,go_sem,k0,k1,k2,k3,k4,refH,refA]) rfl (zcT HF.out rfl (zcP hcw (z0H _) _ _ _ _ _))
   |false=>
    have HF:Hid (zfW (n,0)=(.none,6)):=HF2.out.trans (if_neg (by decide))
    clear HF2
    have hcw:=hb.trans (hc4.mono hb.size)
    obtain ⟨k0,k1,k2,k3,k4,kf⟩:=ziO ((hc4.block w.heap.size hg).trans HB.out)
    clear hc4 hb HB hg
    go_wp2
    exact bodyPost_ret (v:= .tuple #[.agg (refH (.none)),.int .i64 6]) (by simp [results,Tryz.results81,go_sem,k0,k1,k2,k3,k4,refH]) rfl (zcT HF.out rfl (zcP hcw (z0H _) _ _ _ _ _))
 ·have HF:=z0G (zrZ (c:=(n,er)) h0)
  have hd0:(er !=(0:Int))=true:=by rw [bne_iff_ne];exact h0
  clear h0
  have hcw:=hb.trans (hc2.mono hb.size)
  obtain ⟨k0,k1,k2,k3,k4,kf⟩:=ziO ((hc2.block w.heap.size hg).trans HB.out)
  clear hc2 hb HB hg
  go_wp2
  exact bodyPost_ret (v:= .tuple #[.agg (refH (.none)),.int .i64 er]) (by simp [results,Tryz.results81,go_sem,k0,k1,k2,k3,k4,refH]) rfl (zcT HF.out rfl (zcP hcw (z0H _) _ _ _ _ _))
theorem zqI (s:ByteArray) (r:List UInt8) (n:Nat) (hl:s.data.toList=91::r) (hn:s.size=n+2):(∃h:n+1<s.size,r.getLast? =some (s[n+1]'h))∧s.extract 1 (n+1)=⟨r.dropLast.toArray⟩:=by
 have hr:r.length=n+1:=by have:=zaB s;rw [hl,List.length_cons] at this;omega
 have h:n+1<s.size:=by omega
 refine ⟨⟨h,?_⟩,?_⟩
 ·have hb:=zcZ s (n+1) h
  rw [hl,List.getElem?_cons_succ] at hb
  rw [List.getLast?_eq_getElem?,hr]
  exact hb
 ·refine zdK s 1 (n+1) _ ?_
  rw [hl,List.drop_one,List.tail_cons,List.dropLast_eq_take,hr]
theorem hs4A (v:Value) (w:World):(Instr.typeAssert (.iface 134 v) 44 107 true).run Tryz.prog w= .ok (.tuple #[.iface 134 v,.bool true]) w:=by kernel_rfl
theorem hs6A (v:Value) (w:World):(Instr.typeAssert (.iface 144 v) 44 107 true).run Tryz.prog w= .ok (.tuple #[.iface 144 v,.bool true]) w:=by kernel_rfl
theorem hs0A (w:World):(Instr.typeAssert .nilIface 44 107 true).run Tryz.prog w= .ok (.tuple #[.nilIface,.bool false]) w:=by kernel_rfl
def HZ.In:HZ→Prop
 | .addr a=>a.Ok
 |_=>True
theorem HZ.Ok.inn {h:HZ} (ho:h.Ok):h.In:=by
 match h,ho with
 | .name _,_=>trivial
 | .addr _,ho=>exact ho
def zpA (w:World) (v:Array Value) (e:Ending) (w':World):Prop:=e= .returned (.agg v)∧Below w.heap.size w w'
theorem zmQ (w:World):Calls Tryz.prog 82 #[.nilIface] w (zpA w (refH .none)):=by
 have h1:=hs0N
 have h2:=hs0A
 have hb:Below w.heap.size w (w.alloc (.cells #[.int .i64 0,.string ⟨#[]⟩,.bool false,.int .u64 0,.int .u64 0] 60)):=(z0J _ w).alloc (z0H _) _
 go_enter Tryz.func82,Tryz.ntmps82
 go_wp2
 exact bodyPost_ret (v:= .agg (refH .none)) (by simp [results,Tryz.results82,go_sem,refH]) rfl ⟨rfl,by first|exact hb|exact (z0J _ _).alloc (z0H _) _⟩
theorem zkV (l:List UInt8) (w:World):Calls Tryz.prog 82 #[.iface 103 (.string ⟨l.toArray⟩)] w (zpA w (refH (.name l))):=by
 have h1:=hsNN
 have hb:Below w.heap.size w (w.alloc (.cells #[.int .i64 0,.string ⟨#[]⟩,.bool false,.int .u64 0,.int .u64 0] 60)):=(z0J _ w).alloc (z0H _) _
 go_enter Tryz.func82,Tryz.ntmps82
 go_wp2
 exact bodyPost_ret (v:= .agg (refH (.name l))) (by simp [results,Tryz.results82,go_sem,refH]) rfl ⟨rfl,by first|exact hb|exact (z0J _ _).alloc (z0H _) _⟩
theorem zkZ (a:AZ) (w:World) (ha:a.Ok):Calls Tryz.prog 82 #[a.val] w (zpA w (refH (.addr a))):=by
 have h1: ∀W,(Instr.typeAssert a.val 44 103 true).run Tryz.prog W= .ok (.tuple #[.string ⟨#[]⟩,.bool false]) W:=by cases a;exact hs4N _;exact hs6N _
 have h2: ∀W,(Instr.typeAssert a.val 44 107 true).run Tryz.prog W= .ok (.tuple #[a.val,.bool true]) W:=by cases a;exact hs4A _;exact hs6A _
 have HO:=z0G (fun W=>zuY (some a) W (fun b h=>by rw [←Option.some.inj h];exact ha))
 have HB:=z0G (heap_alloc_new w (.cells #[.int .i64 0,.string ⟨#[]⟩,.bool false,.int .u64 0,.int .u64 0] 60))
 have hb:Below w.heap.size w (w.alloc (.cells #[.int .i64 0,.string ⟨#[]⟩,.bool false,.int .u64 0,.int .u64 0] 60)):=(z0J _ w).alloc (z0H _) _
 have hg:w.heap.size<(w.alloc (.cells #[.int .i64 0,.string ⟨#[]⟩,.bool false,.int .u64 0,.int .u64 0] 60)).heap.size:=by simp
 simp only [optV,refV] at HO
 generalize a.val=av at*
 go_enter Tryz.func82,Tryz.ntmps82
 go_wp2_with fail
 generalize w.alloc (.cells #[.int .i64 0,.string ⟨#[]⟩,.bool false,.int .u64 0,.int .u64 0] 60)=x0 at*
 refine (HO.out _).mono ?_
 rintro e x1 ⟨rfl,hb1⟩
 have hcw:=hb.trans (hb1.mono hb.size)
 obtain ⟨k0,k1,k2,k3,k4,kf⟩:=ziO ((hb1.block w.heap.size hg).trans HB.out)
 clear hb1 hb HB hg HO h1 h2
 go_wp2
 exact bodyPost_ret (v:= .agg (refH (.addr a))) (by simp [results,Tryz.results82,go_sem,k0,k1,k2,k3,k4,refH]) rfl ⟨rfl,zcP hcw (z0H _) _ _ _ _ _⟩
theorem znP (h:HZ) (w:World) (ho:h.In):Calls Tryz.prog 82 #[h.val] w (zpA w (refH h)):=by
 match h,ho with
 | .none,_=>exact zmQ w
 | .name l,_=>exact zkV l w
 | .addr a,ha=>exact zkZ a w ha
theorem zgS (s:ByteArray) (w:World) (n:Nat) (hn:s.size=n+2) (hs:s.size≤1073741824) (h0:0<s.size) (hc:(s[0]'h0).toNat=91) (hlt:n+1<s.size) (c2:Nat) (hc2:(s[n+1]'hlt).toNat=c2) (h93:c2≠93):
  Calls Tryz.prog 81 #[.string s] w (zdV w (.none,6)):=by
 have hd0:decide (0<(s.size:Int))=true:=z0I (by omega)
 have hd1:decide ((s.size:Int)<2)=false:=decide_eq_false (by omega)
 have e93:((c2:Int) !=93)=true:=by rw [bne_iff_ne];omega
 have hb:Below w.heap.size w (w.alloc (.cells #[.int .i64 0,.string ⟨#[]⟩,.bool false,.int .u64 0,.int .u64 0] 60)):=(z0J _ w).alloc (z0H _) _
 clear h93
 go_enter Tryz.func81,Tryz.ntmps81
 go_wp2
 exact bodyPost_ret (v:= .tuple #[.agg (refH .none),.int .i64 6]) (by simp [results,Tryz.results81,go_sem,refH]) rfl ⟨rfl,hb⟩
theorem zhL (s:ByteArray) (w:World) (hn:s.size=1) (h0:0<s.size) (hc:(s[0]'h0).toNat=91):
  Calls Tryz.prog 81 #[.string s] w (zdV w (.none,6)):=by
 have hd0:decide (0<(s.size:Int))=true:=z0I (by omega)
 have hd1:decide ((s.size:Int)<2)=true:=z0I (by omega)
 have hb:Below w.heap.size w (w.alloc (.cells #[.int .i64 0,.string ⟨#[]⟩,.bool false,.int .u64 0,.int .u64 0] 60)):=(z0J _ w).alloc (z0H _) _
 clear hn
 go_enter Tryz.func81,Tryz.ntmps81
 go_wp2
 exact bodyPost_ret (v:= .tuple #[.agg (refH .none),.int .i64 6]) (by simp [results,Tryz.results81,go_sem,refH]) rfl ⟨rfl,hb⟩
def zmB (t:List UInt8):HZ×Int:=if (sixZ t).2=true then (.addr (.six (sixZ t).1.1 (sixZ t).1.2),0) else (.none,6)
theorem zgW (s:ByteArray) (w:World) (n:Nat) (hn:s.size=n+2) (hs:s.size≤1073741824) (h0:0<s.size) (hc:(s[0]'h0).toNat=91) (hlt:n+1<s.size) (hc2:(s[n+1]'hlt).toNat=93) (t:List UInt8) (hex:s.extract 1 (n+1)=⟨t.toArray⟩) (ht:t.length≤s.size):
  Calls Tryz.prog 81 #[.string s] w (zdV w (zmB t)):=by
 have hd0:decide (0<(s.size:Int))=true:=z0I (by omega)
 have hd1:decide ((s.size:Int)<2)=false:=decide_eq_false (by omega)
 have hsl:=fun W:World=>zlE (P:=Tryz.prog) W 9 s (1:Int) ((n:Int)+2 - 1) 1 (n+1) (by omega) (by omega) (by omega) (by omega) Tryz.underlying9
 rw [hex] at hsl
 clear hex
 obtain ⟨hi,lo,b,hz⟩: ∃hi lo b,sixZ t=((hi,lo),b):=⟨_,_,_,rfl⟩
 have HZ:=z0G (fun W=>zkE ⟨t.toArray⟩ W (by rw [zaA];omega))
 rw [zaE,hz] at HZ
 have HB:=z0G (heap_alloc_new w (.cells #[.int .i64 0,.string ⟨#[]⟩,.bool false,.int .u64 0,.int .u64 0] 60))
 have hb:Below w.heap.size w (w.alloc (.cells #[.int .i64 0,.string ⟨#[]⟩,.bool false,.int .u64 0,.int .u64 0] 60)):=(z0J _ w).alloc (z0H _) _
 have hg:w.heap.size<(w.alloc (.cells #[.int .i64 0,.string ⟨#[]⟩,.bool false,.int .u64 0,.int .u64 0] 60)).heap.size:=by simp
 have HF:Hid (zmB t=if b=true then (.addr (.six hi lo),0) else (.none,6)):=by show zmB t=_;unfold zmB;rw [hz]
 clear hz
 go_enter Tryz.func81,Tryz.ntmps81
 go_wp2_with fail
 generalize w.alloc (.cells #[.int .i64 0,.string ⟨#[]⟩,.bool false,.int .u64 0,.int .u64 0] 60)=x0 at*
 refine (HZ.out _).mono ?_
 rintro e x1 ⟨rfl,hb1⟩
 have hcw:=hb.trans (hb1.mono hb.size)
 obtain ⟨k0,k1,k2,k3,k4,kf⟩:=ziO ((hb1.block w.heap.size hg).trans HB.out)
 clear hb1 hb HB hg hsl HZ hc hc2 hd0 hd1 hn hs hlt
 cases b with
 |true=>
  have HF2:Hid (zmB t=(.addr (.six hi lo),0)):=HF.out.trans (if_pos rfl)
  clear HF
  go_wp2
  exact bodyPost_ret (v:= .tuple #[.agg (refH (.addr (.six hi lo))),.int .i64 0]) (by simp [results,Tryz.results81,go_sem,k0,k1,k2,k3,k4,refH,refA]) rfl (zcT HF2.out rfl (zcP hcw (z0H _) _ _ _ _ _))
 |false=>
  have HF2:Hid (zmB t=(.none,6)):=HF.out.trans (if_neg (by decide))
  clear HF
  go_wp2
  exact bodyPost_ret (v:= .tuple #[.agg (refH .none),.int .i64 6]) (by simp [results,Tryz.results81,go_sem,k0,k1,k2,k3,k4,refH]) rfl (zcT HF2.out rfl (zcP hcw (z0H _) _ _ _ _ _))
theorem zhN (s:ByteArray) (w:World) (hs:s.size≤1073741824):
  Calls Tryz.prog 81 #[.string s] w (zdV w (zeT s.data.toList)):=by
 match hl:s.data.toList with
 |[]=>
  obtain rfl:s=⟨#[]⟩:=by
   apply ByteArray.ext
   apply Array.ext'
   rw [hl]
  exact zhM w
 |c::r=>
  have hsz:=zaB s
  rw [hl,List.length_cons] at hsz
  have h0:0<s.size:=by omega
  have hc:s[0]'h0=c:=by have hb:=zcZ s 0 h0;rw [hl] at hb;exact (Option.some.inj hb).symm
  rw [zfA]
  by_cases h91:c=91
  ·rw [if_pos h91]
   subst h91
   by_cases h1:s.size<2
   ·have hr:r=[]:=List.eq_nil_of_length_eq_zero (by omega)
    rw [show zfJ r=(.none,6) by rw [hr];exact zhT (.inl (by simp))]
    exact zhL s w (by omega) h0 (by rw [hc];rfl)
   ·obtain ⟨n,hn⟩: ∃n,s.size=n+2:=⟨s.size - 2,by omega⟩
    obtain ⟨⟨hlt,hlast⟩,hex⟩:=zqI s r n hl hn
    by_cases h93:s[n+1]=93
    ·rw [show zfJ r=zmB r.dropLast by unfold zfJ zmB;rw [hlast,h93];simp]
     exact zgW s w n hn hs h0 (by rw [hc];rfl) hlt (by rw [h93];rfl) _ hex (by rw [List.length_dropLast];omega)
    ·rw [show zfJ r=(.none,6) from zhT (.inl (by rw [hlast];exact fun e=>h93 (Option.some.inj e)))]
     exact zgS s w n hn hs h0 (by rw [hc];rfl) hlt _ rfl (fun e=>h93 (UInt8.toNat_inj.1 e))
  ·rw [if_neg h91,←hl]
   exact zhC s w hs h0 _ rfl (fun e=>h91 (by rw [←hc];exact UInt8.toNat_inj.1 e))
end
end Go.Proofs.YtmjappnpedjlnaaGreatDoor
