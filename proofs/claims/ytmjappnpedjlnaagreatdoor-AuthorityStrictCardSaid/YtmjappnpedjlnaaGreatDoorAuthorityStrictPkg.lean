/-
  What the law AuthorityStrict leans on, and its walk (32 of 35).
-/
import Derived.Deep.RegionHeld3
import Derived.Test.YtmjappnpedjlnaaGreatDoorAuthorityStrictPka
import Derived.Test.YtmjappnpedjlnaaGreatDoorAuthorityStrictPkd
import Derived.Test.YtmjappnpedjlnaaGreatDoorAuthorityStrictPkf
import Derived.Test.YtmjappnpedjlnaaGreatDoorAuthorityStrictPkZ
import Derived.Test.YtmjappnpedjlnaaGreatDoorAuthorityStrictPkR
namespace Go.Proofs.YtmjappnpedjlnaaGreatDoor
set_option maxRecDepth 100000
set_option maxHeartbeats 16000000
theorem tkg {P : Program} {md : Region.Mode} {ops : Array Oper} {Q : Exit → Act → World → Prop} {S : World → Prop} (i : Nat) (s : Option Nat) {op : Op} {ty : TypeId} {pos : String} {af : _} {gd : _} {v : Value} {fuel : Nat} {listed : Array Bool} {a : Act} {w : World} (hi : ops[i]? = some ⟨s, op, ty, pos, af, gd⟩)
 (hy : YieldsIf P ops S ⟨s, op, ty, pos, af, gd⟩ v a) (hS : S w)
 (h : wpAnyH P md ops Q S fuel (listed.setIfInBounds i true) (a.put s v) w)
 (hs : Region.noSelect ops = true := by kernel_rfl) (hf : Region.free md ops listed i = true := by kernel_rfl) (hr : (Region.ready md ops listed).contains i = true := by kernel_rfl)
 (hQ : ∀ c a w, Q (.panic c) (a.put s v) w → Q (.panic c) a w := by exact fun _ _ _ h => h) : wpAnyH P md ops Q S (fuel + 1) listed a w :=
 wpAnyH_take hi hs hf hr hQ hy hS h
theorem tkga {α : Type _} (l : List α) (i : Nat) (a : α) : l.toArray.setIfInBounds i a = (l.set i a).toArray := List.setIfInBounds_toArray ..
theorem tkgb {α : Type _} (x y : α) (l : List α) : (x :: l).set 0 y = y :: l := rfl
theorem tkgc {α : Type _} (x y : α) (l : List α) (n : Nat) : (x :: l).set (n + 1) y = x :: l.set n y := rfl
abbrev z0L := @Lib.hid
abbrev z0M := @Nat.le_refl
abbrev z0N := @decide_eq_false
abbrev z0O := @Go.RowKit.Below.refl
section
open Go.RowKit
def zgZ (l:List UInt8):Int×Bool:=match digP 0 l with
 |none=>(0,false)
 |some n=>if 65535<n then (0,false) else (n,true)
theorem zrC {l:List UInt8} (h:digP 0 l=none):zgZ l=(0,false):=by unfold zgZ;rw [h]
theorem zvG {l:List UInt8} {n:Int} (h:digP 0 l=some n) (hn:65535<n):zgZ l=(0,false):=by unfold zgZ;rw [h];exact if_pos hn
theorem zyG {l:List UInt8} {n:Int} (h:digP 0 l=some n) (hn: ¬65535<n):zgZ l=(n,true):=by unfold zgZ;rw [h];exact if_neg hn
theorem zwB {l:List UInt8} (h0:l≠[]):(zeS l= -2∧zgZ l=(0,false))∨(zeS l≠ -2∧zgZ l=(zeS l,true)):=by
 unfold zgZ zeS
 rw [if_neg h0]
 rcases zpQ l 0 0 (.inl rfl) with ⟨e1,e2⟩|⟨a,b,e1,e2,hab⟩
 ·left;rw [e1,e2];exact ⟨rfl,rfl⟩
 ·rw [e1,e2]
  have ha:=zsW l 0 a (by omega) (by omega) e1
  rcases hab with rfl|⟨q1,q2,q3⟩
  ·by_cases h:65535<a
   ·left;simp only;rw [if_pos h,if_pos h];exact ⟨rfl,rfl⟩
   ·right
    simp only
    rw [if_neg h,if_neg (by omega)]
    exact ⟨by omega,rfl⟩
  ·left;simp only;rw [if_pos q1,if_pos q3];exact ⟨rfl,rfl⟩
def SZ.cells (s:SZ):Array Value:= #[.string ⟨s.scheme.toArray⟩,s.host.val,.int .i64 s.port,.bool s.user]
def zrO (w:World) (x:SZ×Int) (e:Ending) (w':World):Prop:=e= .returned (.tuple #[.agg x.1.cells,.int .i64 x.2])∧Below w.heap.size w w'
def put4 (x:World) (g:Nat) (a0 a1 a2 a3:Value):World:=(((x.setCell ⟨g,0,none⟩ a0).setCell ⟨g,1,none⟩ a1).setCell ⟨g,2,none⟩ a2).setCell ⟨g,3,none⟩ a3
theorem zbO {w x:World} {g B:Nat} (h:Below B w x) (hg:B≤g) (a0 a1 a2 a3:Value):Below B w (put4 x g a0 a1 a2 a3):=
 (((h.setCell (p:=⟨g,0,none⟩) hg _).setCell (p:=⟨g,1,none⟩) hg _).setCell (p:=⟨g,2,none⟩) hg _).setCell (p:=⟨g,3,none⟩) hg _
theorem zbP {t:TypeId} {x:World} {g:Nat} {b0 b1 b2 b3:Value} (h:x.heap[g]? =some (.cells #[b0,b1,b2,b3] t)) (a0 a1 a2 a3:Value):(put4 x g a0 a1 a2 a3).cell? ⟨g,0,none⟩=some a0∧(put4 x g a0 a1 a2 a3).cell? ⟨g,1,none⟩=some a1∧(put4 x g a0 a1 a2 a3).cell? ⟨g,2,none⟩=some a2∧(put4 x g a0 a1 a2 a3).cell? ⟨g,3,none⟩=some a3:=by
 have hr:(put4 x g a0 a1 a2 a3).heap[g]? =some (.cells #[a0,a1,a2,a3] t):=zcL (zcL (zcL (zcL h 0 a0) 1 a1) 2 a2) 3 a3
 exact ⟨zaG hr 0,zaG hr 1,zaG hr 2,zaG hr 3⟩
structure SB (tp ts:TypeId) (w x:World) (p:PZ) (z:Array Value):Prop where
 below:Below w.heap.size w x
 box:PB tp x w.heap.size p
 res:x.heap[w.heap.size+1]? =some (.cells z ts)
theorem SB.keep {tp ts:TypeId} {w x y:World} {p:PZ} {z:Array Value} (h:SB tp ts w x p z) (hb:Below x.heap.size x y):SB tp ts w y p z:=
 ⟨zaY h.below hb,h.box.below hb,(hb.block _ (zbA h.res)).trans h.res⟩
theorem SB.first (tp ts:TypeId) (w:World) (p:PZ) (z:Array Value):SB tp ts w ((w.alloc (.cells p.cells tp)).alloc (.cells z ts)) p z:=by
 have s0:(w.alloc (.cells p.cells tp)).heap.size=w.heap.size+1:=by simp
 have h1:=heap_alloc_new (w.alloc (.cells p.cells tp)) (.cells z ts)
 rw [s0] at h1
 exact ⟨((z0O _ w).alloc (z0M _) _).alloc (by simp) _,(PB.new tp w p).below ((z0O _ _).alloc (z0M _) _),h1⟩
theorem zcC {t:TypeId} {x:World} {g:Nat} (h:x.heap[g]? =some (.cells #[.string ⟨#[]⟩,.nilIface,.int .i64 0,.bool false] t)):x.cell? ⟨g,0,none⟩=some (.string ⟨#[]⟩)∧x.cell? ⟨g,1,none⟩=some .nilIface∧x.cell? ⟨g,2,none⟩=some (.int .i64 0)∧x.cell? ⟨g,3,none⟩=some (.bool false):=⟨zaG h 0,zaG h 1,zaG h 2,zaG h 3⟩
theorem ziW (l:List UInt8) (w:World):
  Calls Tryz.prog 78 #[.string ⟨l.toArray⟩] w fun e w'=>e= .returned (.tuple #[.int .i64 (zgZ l).1,.bool (zgZ l).2])∧Below w.heap.size w w':=by
 have hz:(ByteArray.mk l.toArray).size=l.length:=by simp [ByteArray.size]
 have HP1:=z0L (zrC (l:=l))
 have HP2:=z0L (fun n=>zvG (l:=l) (n:=n))
 have HP3:=z0L (fun n=>zyG (l:=l) (n:=n))
 obtain ⟨res,hres⟩: ∃r,zgZ l=r:=⟨_,rfl⟩
 rw [hres] at HP1 HP2 HP3 ⊢
 clear hres
 go_enter Tryz.func78,Tryz.ntmps78
 go_wp2
 go_loopg [4] l.length (fun gf o wx=> ∃(pos:Nat) (n:Int),o= .int .i64 n∧0≤n∧n≤65536∧wx.heap[w.heap.size]? =some (.stringIter ⟨l.toArray⟩ pos)∧Below w.heap.size w wx∧pos≤l.length∧Hid (digP 0 l=digP n (l.drop pos))∧l.length≤pos+gf)
 case atStart=>exact ⟨0,0,rfl,by omega,by omega,World.iter_heap w _ 0,(z0O _ w).alloc (z0M _) _,Nat.zero_le _,rfl,by omega⟩
 case round=>
  obtain ⟨pos,n,rfl,hn0,hn1,hit,hbw,hpl,HS,hgf⟩:=hrel
  by_cases hps:pos<l.length
  ·obtain ⟨g',rfl⟩: ∃g',gk=g'+1:=⟨gk - 1,by omega⟩
   have hps':pos<(ByteArray.mk l.toArray).size:=by rw [hz];exact hps
   have hnx: ∀ty,(Instr.next (.pointer (some ⟨w.heap.size,0,none⟩)) true ty).run Tryz.prog wr=_:=fun ty=>Lib.run_next_any_at wr w.heap.size _ pos ty hit hps'
   have hdr:l.drop pos=l[pos]::l.drop (pos+1):=List.drop_eq_getElem_cons hps
   have hba:(ByteArray.mk l.toArray)[pos]=l[pos]:=rfl
   by_cases hlow:(ByteArray.mk l.toArray)[pos].toNat<128
   ·rw [decode_ascii _ pos hps' hlow,hba] at hnx
    rw [hba] at hlow
    have hit2:=Lib.iterAt_heap wr w.heap.size _ pos (pos+1) hit
    have hbw2:=Lib.below_iterAt hbw (k:=w.heap.size) (z0M _) ⟨l.toArray⟩ (pos+1)
    simp only at hnx
    generalize wr.iterAt w.heap.size ⟨l.toArray⟩ (pos+1)=wi at*
    obtain ⟨c,hc⟩: ∃c,l[pos]=c:=⟨_,rfl⟩
    rw [hc] at hnx hlow hdr
    have HSS:Hid (digP 0 l=if zaU c.toNat=true then digP (min (10*n+((c.toNat:Int) - 48)) 65536) (l.drop (pos+1)) else none):=by show _=_;rw [HS.out,hdr,digP]
    have hvd:=zyT (c:=c.toNat)
    clear hc hdr hba hit hbw hps'
    generalize c.toNat=cn at*
    have HD:=z0L (fun W=>zcG (cn:Int) W)
    have HV:=z0L (fun W=>zbK (cn:Int) W)
    cases hd:zaU (cn:Int) with
    |false=>
     rw [hd] at HD HSS
     have HF:=z0L (HP1.out HSS.out)
     go_wp2_with fail
     refine (HD.out _).mono ?_
     rintro e w' ⟨rfl,rfl⟩
     go_wp2
     go_ret2
     exact ⟨by rw [HF.out];rfl,hbw2⟩
    |true=>
     rw [hd] at HD HSS
     obtain ⟨v1,v2,v3⟩:=hvd hd
     rw [v1] at HV
     have HF:Hid (digP 0 l=digP (min (10*n+((cn:Int) - 48)) 65536) (l.drop (pos+1))):=HSS.out.trans (if_pos rfl)
     clear HSS hd v1 hvd
     by_cases hbig:65536<10*n+((cn:Int) - 48)
     ·have hm:min (10*n+((cn:Int) - 48)) 65536=65536:=by omega
      rw [hm] at HF
      go_wp2_with (first|(go_at_call 100;refine (HD.out _).mono ?_;rintro e w' ⟨rfl,rfl⟩)|(go_at_call 129;refine (HV.out _).mono ?_;rintro e w' ⟨rfl,rfl⟩))
      go_roundg g'
      case measure=>omega
      case rel=>exact ⟨pos+1,65536,rfl,by omega,by omega,hit2,hbw2,by omega,HF.out,by omega⟩
     ·have hm:min (10*n+((cn:Int) - 48)) 65536=10*n+((cn:Int) - 48):=by omega
      rw [hm] at HF
      go_wp2_with (first|(go_at_call 100;refine (HD.out _).mono ?_;rintro e w' ⟨rfl,rfl⟩)|(go_at_call 129;refine (HV.out _).mono ?_;rintro e w' ⟨rfl,rfl⟩))
      go_roundg g'
      case measure=>omega
      case rel=>exact ⟨pos+1,10*n+((cn:Int) - 48),rfl,by omega,by omega,hit2,hbw2,by omega,HF.out,by omega⟩
   ·have hhi:=ztL _ pos hps' hlow
    have hdg:zaU (l[pos].toNat:Int)=false:=z0N (by rw [hba] at hlow;omega)
    have HF:=z0L (HP1.out (by rw [HS.out,hdr,digP,if_neg (by rw [hdg];decide)]))
    obtain ⟨R,hR⟩: ∃R,(Utf8.decode ⟨l.toArray⟩ pos).1=R:=⟨_,rfl⟩
    rw [hR] at hhi hnx
    have hbw2:=Lib.below_iterAt hbw (k:=w.heap.size) (z0M _) ⟨l.toArray⟩ (pos+(Utf8.decode ⟨l.toArray⟩ pos).2)
    generalize wr.iterAt w.heap.size ⟨l.toArray⟩ (pos+(Utf8.decode ⟨l.toArray⟩ pos).2)=wi at*
    have HD:=z0L (fun W=>zcG (R:Int) W)
    rw [show zaU (R:Int)=false from z0N (by omega)] at HD
    clear hR hdg hdr hba hlow
    go_wp2_with fail
    refine (HD.out _).mono ?_
    rintro e w' ⟨rfl,rfl⟩
    go_wp2
    go_ret2
    exact ⟨by rw [HF.out];rfl,hbw2⟩
  ·have hps': ¬pos<(ByteArray.mk l.toArray).size:=by rw [hz];exact hps
   have hnx: ∀ty,(Instr.next (.pointer (some ⟨w.heap.size,0,none⟩)) true ty).run Tryz.prog wr=_:=fun ty=>Lib.run_next_end_at wr w.heap.size _ pos ty hit hps'
   have HE:Hid (digP 0 l=some n):=by show _=_;rw [HS.out,List.drop_eq_nil_of_le (by omega)];rfl
   by_cases hbig:65535<n
   ·have HF:=z0L (HP2.out n HE.out hbig)
    have hd:decide (65535<n)=true:=decide_eq_true hbig
    go_wp2
    go_ret2
    exact ⟨by rw [HF.out];rfl,hbw⟩
   ·have hd:decide (65535<n)=false:=z0N hbig
    have HF:=z0L (HP3.out n HE.out (by omega))
    go_wp2
    go_ret2
    exact ⟨by rw [HF.out];rfl,hbw⟩
theorem zlM (p:PZ) (w:World) (f1:p.scheme.length≤1000000) (f3:p.host.length≤1000000) (_f4:p.port.length≤1000000) (hmax:MaxVar w):
  Calls Tryz.prog 30 #[.agg p.cells] w (zrO w (zeQ p)):=by
 have HS0:=z0L (SB.first 24 53 w p #[.string ⟨#[]⟩,.nilIface,.int .i64 0,.bool false])
 have HMX:=z0L (fun y (hy:Below w.heap.size w y)=>zaC hmax hy)
 have HLO:=z0L (fun W=>ztX ⟨p.scheme.toArray⟩ W (by rw [zaA];omega))
 have HOW:=z0L (fun W=>ztO (zaN p.scheme) W)
 have HHP:=z0L (fun W (hm:MaxVar W)=>zjY ⟨p.host.toArray⟩ W (by rw [zaA];omega) hm)
 have HRP:=z0L (fun W=>ziW p.port W)
 have HPI:=z0L (zwB (l:=p.port))
 have HF:Hid (zeQ p=if p.hasS=false∨ownZ (zaN p.scheme)=0 then (zdI,5)
  else if p.hasA=false then (zdI,6)
  else if (zeT p.host).2≠0 then (zdI,(zeT p.host).2)
  else if p.hasP=true∧zeS p.port= -2 then (zdI,8)
  else (⟨zaN p.scheme,(zeT p.host).1,if p.hasP=true∧p.port≠[] then zeS p.port else ownZ (zaN p.scheme),p.hasU⟩,0)):=rfl
 simp only at HLO HHP
 have hzp:=zaA p.port
 have hn2:zeS []≠ -2:=by decide
 generalize zeQ p=res at*
 generalize zgZ p.port=ps at*
 generalize hpw:zeS p.port=pw at HF HPI
 have HPW:Hid (pw=zeS p.port):=hpw.symm
 clear hpw
 generalize zeT p.host=hz at*
 generalize zaN p.scheme=lw at*
 generalize hpt:p.port=pt at*
 obtain ⟨x0,hx0⟩: ∃y,y=(w.alloc (.cells p.cells 24)).alloc (.cells #[.string ⟨#[]⟩,.nilIface,.int .i64 0,.bool false] 53):=⟨_,rfl⟩
 rw [←hx0] at HS0
 dsimp only [PZ.cells] at hx0 ⊢
 rw [hpt] at hx0 ⊢
 have HPT:=z0L hpt
 clear hmax f1 f3 hpt
 obtain ⟨hh,he⟩:=hz
 generalize ownZ lw=own at*
 simp only at HHP HF
 go_enter Tryz.func30,Tryz.ntmps30
 go_upto_region 1 with fail
 rw [←hx0]
 clear hx0
 obtain ⟨d0,-,-,-,-,-,-,-,-,-,-,-,-⟩:=HS0.out.box.all
 go_wp2_with fail
 refine (HLO.out _).mono ?_
 rintro e x1 ⟨rfl,hx1⟩
 have HS1:=z0L (HS0.out.keep hx1)
 clear d0 hx1 HS0 HLO
 obtain ⟨-,d1,-,-,-,d5,-,-,-,-,-,-,-⟩:=HS1.out.box.all
 by_cases c1:p.hasS=false
 ·have HF2:Hid (res=(zdI,5)):=by show _=_;rw [HF.out,if_pos (.inl c1)]
  rw [c1] at d1
  clear HF HOW HHP HRP HPI HMX c1 HPT d5
  go_upto_region 3 with fail
  clear d1
  obtain ⟨r0,r1,r2,r3⟩:=zcC HS1.out.res
  have rf:=zaI HS1.out.res
  have hEB:=zbO HS1.out.below (Nat.le_succ _) (.string ⟨#[]⟩) .nilIface (.int .i64 0) (.bool false)
  have hEC:=zbP HS1.out.res (.string ⟨#[]⟩) .nilIface (.int .i64 0) (.bool false)
  unfold put4 at hEB hEC
  have HEB:=z0L hEB
  have HEC:=z0L hEC
  clear hEB hEC HS1
  go_wp2
  obtain ⟨e0,e1,e2,e3⟩:=HEC.out
  obtain rfl:=HF2.out
  refine bodyPost_ret (v:= .tuple #[.agg #[.string ⟨#[]⟩,.nilIface,.int .i64 0,.bool false],.int .i64 5]) (by simp [results,Tryz.results30,go_sem,e0,e1,e2,e3]) rfl ?_
  exact ⟨rfl,HEB.out⟩
 have c1:p.hasS=true:=by cases h:p.hasS;exact absurd h c1;rfl
 rw [c1] at d1
 by_cases c2:own=0
 ·have HF2:Hid (res=(zdI,5)):=by show _=_;rw [HF.out,if_pos (.inr c2)]
  subst c2
  clear HF HHP HRP HPI HMX c1 HPT d5
  go_wp2_with fail
  refine (HOW.out _).mono ?_
  rintro e w' ⟨rfl,rfl⟩
  clear HOW
  go_upto_region 3 with fail
  clear d1
  obtain ⟨r0,r1,r2,r3⟩:=zcC HS1.out.res
  have rf:=zaI HS1.out.res
  have hEB:=zbO HS1.out.below (Nat.le_succ _) (.string ⟨#[]⟩) .nilIface (.int .i64 0) (.bool false)
  have hEC:=zbP HS1.out.res (.string ⟨#[]⟩) .nilIface (.int .i64 0) (.bool false)
  unfold put4 at hEB hEC
  have HEB:=z0L hEB
  have HEC:=z0L hEC
  clear hEB hEC HS1
  go_wp2
  obtain ⟨e0,e1,e2,e3⟩:=HEC.out
  obtain rfl:=HF2.out
  refine bodyPost_ret (v:= .tuple #[.agg #[.string ⟨#[]⟩,.nilIface,.int .i64 0,.bool false],.int .i64 5]) (by simp [results,Tryz.results30,go_sem,e0,e1,e2,e3]) rfl ?_
  exact ⟨rfl,HEB.out⟩
 have c2b:(own==0)=false:=beq_eq_false_iff_ne.2 c2
 go_wp2_with fail
 refine (HOW.out _).mono ?_
 rintro e w' ⟨rfl,rfl⟩
 by_cases c3:p.hasA=false
 ·have HF2:Hid (res=(zdI,6)):=by show _=_;rw [HF.out,if_neg (by rintro (q|q);rw [c1] at q;cases q;exact c2 q),if_pos c3]
  rw [c3] at d5
  clear HF HHP HRP HPI HMX c1 HPT HOW c2 c3
  go_upto_region 5 with fail
  clear d1 d5 c2b
  obtain ⟨r0,r1,r2,r3⟩:=zcC HS1.out.res
  have rf:=zaI HS1.out.res
  have hEB:=zbO HS1.out.below (Nat.le_succ _) (.string ⟨#[]⟩) .nilIface (.int .i64 0) (.bool false)
  have hEC:=zbP HS1.out.res (.string ⟨#[]⟩) .nilIface (.int .i64 0) (.bool false)
  unfold put4 at hEB hEC
  have HEB:=z0L hEB
  have HEC:=z0L hEC
  clear hEB hEC HS1
  go_wp2
  obtain ⟨e0,e1,e2,e3⟩:=HEC.out
  obtain rfl:=HF2.out
  refine bodyPost_ret (v:= .tuple #[.agg #[.string ⟨#[]⟩,.nilIface,.int .i64 0,.bool false],.int .i64 6]) (by simp [results,Tryz.results30,go_sem,e0,e1,e2,e3]) rfl ?_
  exact ⟨rfl,HEB.out⟩
 have c3:p.hasA=true:=by cases h:p.hasA;exact absurd h c3;rfl
 rw [c3] at d5
 go_upto_region 6 with fail
 clear d1 d5 c2b
 have HHP:=z0L (HHP.out x1 (HMX.out x1 HS1.out.below))
 obtain ⟨-,-,-,-,d4,-,-,-,-,-,-,-,-⟩:=HS1.out.box.all
 obtain ⟨hv,hvv,hvs⟩: ∃hv,hh.val=hv∧(hv= .nilIface∨ ∃it iv,hv= .iface it iv):=by
  rcases hh.shape with h|⟨it,iv,h⟩
  ·exact ⟨_,h,.inl rfl⟩
  ·exact ⟨_,h,.inr ⟨it,iv,rfl⟩⟩
 unfold zkK at HHP
 simp only at HHP
 rw [hvv] at HHP
 have HVV:=z0L hvv
 clear hvv HMX
 go_wp2_with fail
 refine HHP.out.mono ?_
 rintro e x2 ⟨rfl,hx2⟩
 have HS2:=z0L (HS1.out.keep hx2)
 clear d4 hx2 HHP HS1
 by_cases c4:he=0
 ·subst c4
  go_upto_region 9 with fail
  go_wp2_with fail
  refine (HOW.out _).mono ?_
  rintro e w' ⟨rfl,rfl⟩
  clear HOW
  obtain ⟨-,-,-,d3,-,-,d6,d7,-,-,-,-,-⟩:=HS2.out.box.all
  rw [HPT.out] at d6
  have hcs:p.hasP=false∨(p.hasP=true∧pt=[])∨(p.hasP=true∧pt≠[]):=by
   cases p.hasP
   ·exact .inl rfl
   ·by_cases q:pt=[]
    ·exact .inr (.inl ⟨rfl,q⟩)
    ·exact .inr (.inr ⟨rfl,q⟩)
  have hng: ¬(p.hasS=false∨own=0):=by rintro (q|q);rw [c1] at q;cases q;exact c2 q
  rcases hcs with c5|⟨c5,c6⟩|⟨c5,c6⟩
  ·have HF2:Hid (res=(⟨lw,hh,own,p.hasU⟩,0)):=by show _=_;rw [HF.out,if_neg hng,if_neg (by rw [c3];decide),if_neg (by simp),if_neg (by rintro ⟨q,_⟩;rw [c5] at q;cases q),if_neg (by rintro ⟨q,_⟩;rw [c5] at q;cases q)]
   rw [c5] at d7
   clear HF HRP HPI c5 HPT hng c1 c2 c3
   go_upto_region 15 with fail
   clear d6 d7
   rcases hvs with rfl|⟨it,iv,rfl⟩
   ·obtain ⟨r0,r1,r2,r3⟩:=zcC HS2.out.res
    have rf:=zaI HS2.out.res
    have hEB:=zbO HS2.out.below (Nat.le_succ _) (.string ⟨lw.toArray⟩) .nilIface (.int .i64 own) (.bool p.hasU)
    have hEC:=zbP HS2.out.res (.string ⟨lw.toArray⟩) .nilIface (.int .i64 own) (.bool p.hasU)
    unfold put4 at hEB hEC
    have HEB:=z0L hEB
    have HEC:=z0L hEC
    clear hEB hEC HS2
    go_wp2
    obtain ⟨e0,e1,e2,e3⟩:=HEC.out
    obtain rfl:=HF2.out
    refine bodyPost_ret (v:= .tuple #[.agg #[.string ⟨lw.toArray⟩,.nilIface,.int .i64 own,.bool p.hasU],.int .i64 0]) (by simp [results,Tryz.results30,go_sem,e0,e1,e2,e3]) rfl ?_
    refine ⟨?_,HEB.out⟩
    unfold SZ.cells
    simp only
    rw [HVV.out]
   ·obtain ⟨r0,r1,r2,r3⟩:=zcC HS2.out.res
    have rf:=zaI HS2.out.res
    have hEB:=zbO HS2.out.below (Nat.le_succ _) (.string ⟨lw.toArray⟩) (.iface it iv) (.int .i64 own) (.bool p.hasU)
    have hEC:=zbP HS2.out.res (.string ⟨lw.toArray⟩) (.iface it iv) (.int .i64 own) (.bool p.hasU)
    unfold put4 at hEB hEC
    have HEB:=z0L hEB
    have HEC:=z0L hEC
    clear hEB hEC HS2
    go_wp2
    obtain ⟨e0,e1,e2,e3⟩:=HEC.out
    obtain rfl:=HF2.out
    refine bodyPost_ret (v:= .tuple #[.agg #[.string ⟨lw.toArray⟩,.iface it iv,.int .i64 own,.bool p.hasU],.int .i64 0]) (by simp [results,Tryz.results30,go_sem,e0,e1,e2,e3]) rfl ?_
    refine ⟨?_,HEB.out⟩
    unfold SZ.cells
    simp only
    rw [HVV.out]
  ·have HF2:Hid (res=(⟨lw,hh,own,p.hasU⟩,0)):=by show _=_;rw [HF.out,if_neg hng,if_neg (by rw [c3];decide),if_neg (by simp),if_neg (by rintro ⟨_,q⟩;exact hn2 ((congrArg zeS c6).symm.trans (HPW.out.symm.trans q))),if_neg (by rintro ⟨_,q⟩;exact q c6)]
   rw [c5] at d7
   rw [c6] at d6
   clear HF HRP HPI c5 HPT hng c1 c2 c3 c6 HPW
   go_upto_region 15 with fail
   clear d6 d7
   rcases hvs with rfl|⟨it,iv,rfl⟩
   ·obtain ⟨r0,r1,r2,r3⟩:=zcC HS2.out.res
    have rf:=zaI HS2.out.res
    have hEB:=zbO HS2.out.below (Nat.le_succ _) (.string ⟨lw.toArray⟩) .nilIface (.int .i64 own) (.bool p.hasU)
    have hEC:=zbP HS2.out.res (.string ⟨lw.toArray⟩) .nilIface (.int .i64 own) (.bool p.hasU)
    unfold put4 at hEB hEC
    have HEB:=z0L hEB
    have HEC:=z0L hEC
    clear hEB hEC HS2
    go_wp2
    obtain ⟨e0,e1,e2,e3⟩:=HEC.out
    obtain rfl:=HF2.out
    refine bodyPost_ret (v:= .tuple #[.agg #[.string ⟨lw.toArray⟩,.nilIface,.int .i64 own,.bool p.hasU],.int .i64 0]) (by simp [results,Tryz.results30,go_sem,e0,e1,e2,e3]) rfl ?_
    refine ⟨?_,HEB.out⟩
    unfold SZ.cells
    simp only
    rw [HVV.out]
   ·obtain ⟨r0,r1,r2,r3⟩:=zcC HS2.out.res
    have rf:=zaI HS2.out.res
    have hEB:=zbO HS2.out.below (Nat.le_succ _) (.string ⟨lw.toArray⟩) (.iface it iv) (.int .i64 own) (.bool p.hasU)
    have hEC:=zbP HS2.out.res (.string ⟨lw.toArray⟩) (.iface it iv) (.int .i64 own) (.bool p.hasU)
    unfold put4 at hEB hEC
    have HEB:=z0L hEB
    have HEC:=z0L hEC
    clear hEB hEC HS2
    go_wp2
    obtain ⟨e0,e1,e2,e3⟩:=HEC.out
    obtain rfl:=HF2.out
    refine bodyPost_ret (v:= .tuple #[.agg #[.string ⟨lw.toArray⟩,.iface it iv,.int .i64 own,.bool p.hasU],.int .i64 0]) (by simp [results,Tryz.results30,go_sem,e0,e1,e2,e3]) rfl ?_
    refine ⟨?_,HEB.out⟩
    unfold SZ.cells
    simp only
    rw [HVV.out]
  ·have hne:(pt==[])=false:=by rw [beq_eq_false_iff_ne];exact c6
   rw [c5] at d7
   rcases HPI.out c6 with ⟨g1,g2⟩|⟨g1,g2⟩
   ·have HF2:Hid (res=(zdI,8)):=by show _=_;rw [HF.out,if_neg hng,if_neg (by rw [c3];decide),if_neg (by simp),if_pos ⟨c5,g1⟩]
    subst g2
    clear HF HPI c5 HPT hng c1 c2 c3 c6 g1 HPW
    go_wp2_with fail
    refine (HRP.out _).mono ?_
    rintro e x3 ⟨rfl,hx3⟩
    have HS3:=z0L (HS2.out.keep hx3)
    clear hx3 HS2 HRP d3 d6 d7 hne
    go_upto_region 13 with fail
    obtain ⟨r0,r1,r2,r3⟩:=zcC HS3.out.res
    have rf:=zaI HS3.out.res
    have hEB:=zbO HS3.out.below (Nat.le_succ _) (.string ⟨#[]⟩) .nilIface (.int .i64 0) (.bool false)
    have hEC:=zbP HS3.out.res (.string ⟨#[]⟩) .nilIface (.int .i64 0) (.bool false)
    unfold put4 at hEB hEC
    have HEB:=z0L hEB
    have HEC:=z0L hEC
    clear hEB hEC HS3
    go_wp2
    obtain ⟨e0,e1,e2,e3⟩:=HEC.out
    obtain rfl:=HF2.out
    refine bodyPost_ret (v:= .tuple #[.agg #[.string ⟨#[]⟩,.nilIface,.int .i64 0,.bool false],.int .i64 8]) (by simp [results,Tryz.results30,go_sem,e0,e1,e2,e3]) rfl ?_
    exact ⟨rfl,HEB.out⟩
   ·have HF2:Hid (res=(⟨lw,hh,pw,p.hasU⟩,0)):=by show _=_;rw [HF.out,if_neg hng,if_neg (by rw [c3];decide),if_neg (by simp),if_neg (by rintro ⟨_,q⟩;exact g1 q),if_pos ⟨c5,c6⟩]
    subst g2
    clear HF HPI c5 HPT hng c1 c2 c3 c6 g1 HPW
    go_wp2_with fail
    refine (HRP.out _).mono ?_
    rintro e x3 ⟨rfl,hx3⟩
    have HS3:=z0L (HS2.out.keep hx3)
    clear hx3 HS2 HRP d3 d6 d7 hne
    obtain ⟨-,-,-,d3,-,-,-,-,-,-,-,-,-⟩:=HS3.out.box.all
    go_upto_region 15 with fail
    rcases hvs with rfl|⟨it,iv,rfl⟩
    ·obtain ⟨r0,r1,r2,r3⟩:=zcC HS3.out.res
     have rf:=zaI HS3.out.res
     have hEB:=zbO HS3.out.below (Nat.le_succ _) (.string ⟨lw.toArray⟩) .nilIface (.int .i64 pw) (.bool p.hasU)
     have hEC:=zbP HS3.out.res (.string ⟨lw.toArray⟩) .nilIface (.int .i64 pw) (.bool p.hasU)
     unfold put4 at hEB hEC
     have HEB:=z0L hEB
     have HEC:=z0L hEC
     clear hEB hEC HS3
     go_wp2
     obtain ⟨e0,e1,e2,e3⟩:=HEC.out
     obtain rfl:=HF2.out
     refine bodyPost_ret (v:= .tuple #[.agg #[.string ⟨lw.toArray⟩,.nilIface,.int .i64 pw,.bool p.hasU],.int .i64 0]) (by simp [results,Tryz.results30,go_sem,e0,e1,e2,e3]) rfl ?_
     refine ⟨?_,HEB.out⟩
     unfold SZ.cells
     simp only
     rw [HVV.out]
    ·obtain ⟨r0,r1,r2,r3⟩:=zcC HS3.out.res
     have rf:=zaI HS3.out.res
     have hEB:=zbO HS3.out.below (Nat.le_succ _) (.string ⟨lw.toArray⟩) (.iface it iv) (.int .i64 pw) (.bool p.hasU)
     have hEC:=zbP HS3.out.res (.string ⟨lw.toArray⟩) (.iface it iv) (.int .i64 pw) (.bool p.hasU)
     unfold put4 at hEB hEC
     have HEB:=z0L hEB
     have HEC:=z0L hEC
     clear hEB hEC HS3
     go_wp2
     obtain ⟨e0,e1,e2,e3⟩:=HEC.out
     obtain rfl:=HF2.out
     refine bodyPost_ret (v:= .tuple #[.agg #[.string ⟨lw.toArray⟩,.iface it iv,.int .i64 pw,.bool p.hasU],.int .i64 0]) (by simp [results,Tryz.results30,go_sem,e0,e1,e2,e3]) rfl ?_
     refine ⟨?_,HEB.out⟩
     unfold SZ.cells
     simp only
     rw [HVV.out]
 ·have HF2:Hid (res=(zdI,he)):=by show _=_;rw [HF.out,if_neg (by rintro (q|q);rw [c1] at q;cases q;exact c2 q),if_neg (by rw [c3];decide),if_pos c4]
  have hne:(he !=0)=true:=bne_iff_ne.2 c4
  clear HF HRP HPI HPT c1 c2 c3 HOW HVV
  go_upto_region 8 with fail
  obtain ⟨r0,r1,r2,r3⟩:=zcC HS2.out.res
  have rf:=zaI HS2.out.res
  have hEB:=zbO HS2.out.below (Nat.le_succ _) (.string ⟨#[]⟩) .nilIface (.int .i64 0) (.bool false)
  have hEC:=zbP HS2.out.res (.string ⟨#[]⟩) .nilIface (.int .i64 0) (.bool false)
  unfold put4 at hEB hEC
  have HEB:=z0L hEB
  have HEC:=z0L hEC
  clear hEB hEC HS2
  go_wp2
  obtain ⟨e0,e1,e2,e3⟩:=HEC.out
  obtain rfl:=HF2.out
  refine bodyPost_ret (v:= .tuple #[.agg #[.string ⟨#[]⟩,.nilIface,.int .i64 0,.bool false],.int .i64 he]) (by simp [results,Tryz.results30,go_sem,e0,e1,e2,e3]) rfl ?_
  exact ⟨rfl,HEB.out⟩
theorem ziQ (h:HZ): ∃(k:Int) (n:List UInt8) (b:Bool) (hi lo:Int),refH h= #[.int .i64 k,.string ⟨n.toArray⟩,.bool b,.int .u64 hi,.int .u64 lo]:=by
 cases h with
 |none=>exact ⟨_,[],_,_,_,rfl⟩
 |name l=>exact ⟨_,l,_,_,_,rfl⟩
 |addr a=>exact ⟨_,[],_,_,_,rfl⟩
def SZ.rcells (s:SZ):Array Value:= #[.string ⟨s.scheme.toArray⟩]++refH s.host++ #[.int .i64 s.port,.bool s.user]
theorem zdM {s n:List UInt8} {h:HZ} {k p hi lo:Int} {b u:Bool} (e:refH h= #[.int .i64 k,.string ⟨n.toArray⟩,.bool b,.int .u64 hi,.int .u64 lo]):SZ.rcells ⟨s,h,p,u⟩= #[.string ⟨s.toArray⟩,.int .i64 k,.string ⟨n.toArray⟩,.bool b,.int .u64 hi,.int .u64 lo,.int .i64 p,.bool u]:=by
 unfold SZ.rcells
 simp only
 rw [e]
 rfl
def zpR (w:World) (x:SZ×Int) (e:Ending) (w':World):Prop:=e= .returned (.tuple #[.agg x.1.rcells,.int .i64 x.2])∧Below w.heap.size w w'
def put8 (x:World) (g:Nat) (a0 a1 a2 a3 a4 a5 a6 a7:Value):World:=(((((((x.setCell ⟨g,0,none⟩ a0).setCell ⟨g,1,none⟩ a1).setCell ⟨g,2,none⟩ a2).setCell ⟨g,3,none⟩ a3).setCell ⟨g,4,none⟩ a4).setCell ⟨g,5,none⟩ a5).setCell ⟨g,6,none⟩ a6).setCell ⟨g,7,none⟩ a7
theorem zbZ {w x:World} {g B:Nat} (h:Below B w x) (hg:B≤g) (a0 a1 a2 a3 a4 a5 a6 a7:Value):Below B w (put8 x g a0 a1 a2 a3 a4 a5 a6 a7):=
 ((((((((h.setCell (p:=⟨g,0,none⟩) hg _).setCell (p:=⟨g,1,none⟩) hg _).setCell (p:=⟨g,2,none⟩) hg _).setCell (p:=⟨g,3,none⟩) hg _).setCell (p:=⟨g,4,none⟩) hg _).setCell (p:=⟨g,5,none⟩) hg _).setCell (p:=⟨g,6,none⟩) hg _).setCell (p:=⟨g,7,none⟩) hg _)
theorem zcA {t:TypeId} {x:World} {g:Nat} {b0 b1 b2 b3 b4 b5 b6 b7:Value} (h:x.heap[g]? =some (.cells #[b0,b1,b2,b3,b4,b5,b6,b7] t)) (a0 a1 a2 a3 a4 a5 a6 a7:Value):(put8 x g a0 a1 a2 a3 a4 a5 a6 a7).cell? ⟨g,0,none⟩=some a0∧(put8 x g a0 a1 a2 a3 a4 a5 a6 a7).cell? ⟨g,1,none⟩=some a1∧(put8 x g a0 a1 a2 a3 a4 a5 a6 a7).cell? ⟨g,2,none⟩=some a2∧(put8 x g a0 a1 a2 a3 a4 a5 a6 a7).cell? ⟨g,3,none⟩=some a3∧(put8 x g a0 a1 a2 a3 a4 a5 a6 a7).cell? ⟨g,4,none⟩=some a4∧(put8 x g a0 a1 a2 a3 a4 a5 a6 a7).cell? ⟨g,5,none⟩=some a5∧(put8 x g a0 a1 a2 a3 a4 a5 a6 a7).cell? ⟨g,6,none⟩=some a6∧(put8 x g a0 a1 a2 a3 a4 a5 a6 a7).cell? ⟨g,7,none⟩=some a7:=by
 have hr:(put8 x g a0 a1 a2 a3 a4 a5 a6 a7).heap[g]? =some (.cells #[a0,a1,a2,a3,a4,a5,a6,a7] t):=by
  have:=(zcL (zcL (zcL (zcL (zcL (zcL (zcL (zcL h 0 a0) 1 a1) 2 a2) 3 a3) 4 a4) 5 a5) 6 a6) 7 a7)
  unfold put8
  simpa using this
 exact ⟨zaG hr 0,zaG hr 1,zaG hr 2,zaG hr 3,zaG hr 4,zaG hr 5,zaG hr 6,zaG hr 7⟩
theorem zcF {t:TypeId} {x:World} {g:Nat} (h:x.heap[g]? =some (.cells #[.string ⟨#[]⟩,.int .i64 0,.string ⟨#[]⟩,.bool false,.int .u64 0,.int .u64 0,.int .i64 0,.bool false] t)):x.cell? ⟨g,0,none⟩=some (.string ⟨#[]⟩)∧x.cell? ⟨g,1,none⟩=some (.int .i64 0)∧x.cell? ⟨g,2,none⟩=some (.string ⟨#[]⟩)∧x.cell? ⟨g,3,none⟩=some (.bool false)∧x.cell? ⟨g,4,none⟩=some (.int .u64 0)∧x.cell? ⟨g,5,none⟩=some (.int .u64 0)∧x.cell? ⟨g,6,none⟩=some (.int .i64 0)∧x.cell? ⟨g,7,none⟩=some (.bool false):=⟨zaG h 0,zaG h 1,zaG h 2,zaG h 3,zaG h 4,zaG h 5,zaG h 6,zaG h 7⟩
theorem zkC {t:TypeId} {x:World} {g:Nat} {b0 b1 b2 b3 b4:Value} (h:x.heap[g]? =some (.cells #[b0,b1,b2,b3,b4] t)):x.cell? ⟨g,0,none⟩=some b0∧x.cell? ⟨g,1,none⟩=some b1∧x.cell? ⟨g,2,none⟩=some b2∧x.cell? ⟨g,3,none⟩=some b3∧x.cell? ⟨g,4,none⟩=some b4:=⟨zaG h 0,zaG h 1,zaG h 2,zaG h 3,zaG h 4⟩
theorem ziH (p:PZ) (w:World) (f1:p.scheme.length≤1000000) (f3:p.host.length≤1000000) (f4:p.port.length≤1000000):
  Calls Tryz.prog 31 #[.agg p.cells] w (zpR w (zeQ p)):=by
 have HS0:=z0L (SB.first 28 62 w p #[.string ⟨#[]⟩,.int .i64 0,.string ⟨#[]⟩,.bool false,.int .u64 0,.int .u64 0,.int .i64 0,.bool false])
 have HLO:=z0L (fun W=>zhK ⟨p.scheme.toArray⟩ W (by rw [zaA];omega))
 have HOW:=z0L (fun W=>zmG (zaN p.scheme) W)
 have HHP:=z0L (fun W=>zhN ⟨p.host.toArray⟩ W (by rw [zaA];omega))
 have HF:Hid (zeQ p=if p.hasS=false∨ownZ (zaN p.scheme)=0 then (zdI,5)
  else if p.hasA=false then (zdI,6)
  else if (zeT p.host).2≠0 then (zdI,(zeT p.host).2)
  else if p.hasP=true∧zeS p.port= -2 then (zdI,8)
  else (⟨zaN p.scheme,(zeT p.host).1,if p.hasP=true∧p.port≠[] then zeS p.port else ownZ (zaN p.scheme),p.hasU⟩,0)):=rfl
 simp only at HLO HHP
 have hzp:=zaA p.port
 have hpl:p.port.length≤1000000:=f4
 generalize zeQ p=res at*
 generalize zeT p.host=hz at*
 generalize zaN p.scheme=lw at*
 generalize hpt:p.port=pt at*
 have HPW:=z0L (zxO (l:=pt))
 have hn2:zeS []≠ -2:=by decide
 have HN2:=z0L hn2
 obtain ⟨x0,hx0⟩: ∃y,y=(w.alloc (.cells p.cells 28)).alloc (.cells #[.string ⟨#[]⟩,.int .i64 0,.string ⟨#[]⟩,.bool false,.int .u64 0,.int .u64 0,.int .i64 0,.bool false] 62):=⟨_,rfl⟩
 rw [←hx0] at HS0
 dsimp only [PZ.cells] at hx0 ⊢
 rw [hpt] at hx0 ⊢
 have HPT:=z0L hpt
 clear f1 f3 f4 hpt hn2
 obtain ⟨hh,he⟩:=hz
 generalize ownZ lw=own at*
 simp only at HHP HF
 go_enter Tryz.func31,Tryz.ntmps31
 go_upto_region 1 with fail
 rw [←hx0]
 clear hx0
 obtain ⟨d0,-,-,-,-,-,-,-,-,-,-,-,-⟩:=HS0.out.box.all
 go_wp2_with fail
 refine (HLO.out _).mono ?_
 rintro e x1 ⟨rfl,hx1⟩
 have HS1:=z0L (HS0.out.keep hx1)
 clear d0 hx1 HS0 HLO
 go_wp2_with fail
 refine (HOW.out _).mono ?_
 rintro e w' ⟨rfl,rfl⟩
 clear HOW
 obtain ⟨-,d1,-,-,-,d5,-,-,-,-,-,-,-⟩:=HS1.out.box.all
 by_cases c1:p.hasS=false
 ·have HF2:Hid (res=(zdI,5)):=by show _=_;rw [HF.out,if_pos (.inl c1)]
  rw [c1] at d1
  clear HF HHP c1 HPT d5 HPW HN2
  go_upto_region 4 with fail
  clear d1
  obtain ⟨r0,r1,r2,r3,r4,r5,r6,r7⟩:=zcF HS1.out.res
  have rf:=zaI HS1.out.res
  have hEB:=zbZ HS1.out.below (Nat.le_succ _) (.string ⟨#[]⟩) (.int .i64 0) (.string ⟨#[]⟩) (.bool false) (.int .u64 0) (.int .u64 0) (.int .i64 0) (.bool false)
  have hEC:=zcA HS1.out.res (.string ⟨#[]⟩) (.int .i64 0) (.string ⟨#[]⟩) (.bool false) (.int .u64 0) (.int .u64 0) (.int .i64 0) (.bool false)
  unfold put8 at hEB hEC
  have HEB:=z0L hEB
  have HEC:=z0L hEC
  clear hEB hEC HS1
  go_wp2
  obtain ⟨e0,e1,e2,e3,e4,e5,e6,e7⟩:=HEC.out
  obtain rfl:=HF2.out
  refine bodyPost_ret (v:= .tuple #[.agg #[.string ⟨#[]⟩,.int .i64 0,.string ⟨#[]⟩,.bool false,.int .u64 0,.int .u64 0,.int .i64 0,.bool false],.int .i64 5]) (by simp [results,Tryz.results31,go_sem,e0,e1,e2,e3,e4,e5,e6,e7]) rfl ?_
  exact ⟨rfl,HEB.out⟩
 have c1:p.hasS=true:=by cases h:p.hasS;exact absurd h c1;rfl
 rw [c1] at d1
 by_cases c2:own=0
 ·have HF2:Hid (res=(zdI,5)):=by show _=_;rw [HF.out,if_pos (.inr c2)]
  subst c2
  clear HF HHP c1 HPT d5 HPW HN2
  go_upto_region 4 with fail
  clear d1
  obtain ⟨r0,r1,r2,r3,r4,r5,r6,r7⟩:=zcF HS1.out.res
  have rf:=zaI HS1.out.res
  have hEB:=zbZ HS1.out.below (Nat.le_succ _) (.string ⟨#[]⟩) (.int .i64 0) (.string ⟨#[]⟩) (.bool false) (.int .u64 0) (.int .u64 0) (.int .i64 0) (.bool false)
  have hEC:=zcA HS1.out.res (.string ⟨#[]⟩) (.int .i64 0) (.string ⟨#[]⟩) (.bool false) (.int .u64 0) (.int .u64 0) (.int .i64 0) (.bool false)
  unfold put8 at hEB hEC
  have HEB:=z0L hEB
  have HEC:=z0L hEC
  clear hEB hEC HS1
  go_wp2
  obtain ⟨e0,e1,e2,e3,e4,e5,e6,e7⟩:=HEC.out
  obtain rfl:=HF2.out
  refine bodyPost_ret (v:= .tuple #[.agg #[.string ⟨#[]⟩,.int .i64 0,.string ⟨#[]⟩,.bool false,.int .u64 0,.int .u64 0,.int .i64 0,.bool false],.int .i64 5]) (by simp [results,Tryz.results31,go_sem,e0,e1,e2,e3,e4,e5,e6,e7]) rfl ?_
  exact ⟨rfl,HEB.out⟩
 have c2b:(own==0)=false:=beq_eq_false_iff_ne.2 c2
 by_cases c3:p.hasA=false
 ·have HF2:Hid (res=(zdI,6)):=by show _=_;rw [HF.out,if_neg (by rintro (q|q);rw [c1] at q;cases q;exact c2 q),if_pos c3]
  rw [c3] at d5
  clear HF HHP c1 HPT c2 c3 HPW HN2
  go_upto_region 6 with fail
  clear d1 d5 c2b
  obtain ⟨r0,r1,r2,r3,r4,r5,r6,r7⟩:=zcF HS1.out.res
  have rf:=zaI HS1.out.res
  have hEB:=zbZ HS1.out.below (Nat.le_succ _) (.string ⟨#[]⟩) (.int .i64 0) (.string ⟨#[]⟩) (.bool false) (.int .u64 0) (.int .u64 0) (.int .i64 0) (.bool false)
  have hEC:=zcA HS1.out.res (.string ⟨#[]⟩) (.int .i64 0) (.string ⟨#[]⟩) (.bool false) (.int .u64 0) (.int .u64 0) (.int .i64 0) (.bool false)
  unfold put8 at hEB hEC
  have HEB:=z0L hEB
  have HEC:=z0L hEC
  clear hEB hEC HS1
  go_wp2
  obtain ⟨e0,e1,e2,e3,e4,e5,e6,e7⟩:=HEC.out
  obtain rfl:=HF2.out
  refine bodyPost_ret (v:= .tuple #[.agg #[.string ⟨#[]⟩,.int .i64 0,.string ⟨#[]⟩,.bool false,.int .u64 0,.int .u64 0,.int .i64 0,.bool false],.int .i64 6]) (by simp [results,Tryz.results31,go_sem,e0,e1,e2,e3,e4,e5,e6,e7]) rfl ?_
  exact ⟨rfl,HEB.out⟩
 have c3:p.hasA=true:=by cases h:p.hasA;exact absurd h c3;rfl
 rw [c3] at d5
 go_upto_region 7 with fail
 clear d1 d5 c2b
 obtain ⟨-,-,-,-,d4,-,-,-,-,-,-,-,-⟩:=HS1.out.box.all
 obtain ⟨gk,gn,gb,gi,gl,hvv⟩:=ziQ hh
 unfold zdV at HHP
 simp only at HHP
 rw [hvv] at HHP
 have HVV:=z0L hvv
 clear hvv
 go_wp2_with fail
 refine (HHP.out _).mono ?_
 rintro e x2 ⟨rfl,hx2⟩
 have hS2:=HS1.out.keep hx2
 obtain ⟨y2,hy2⟩: ∃y,y=x2.alloc (.cells #[.int .i64 gk,.string ⟨gn.toArray⟩,.bool gb,.int .u64 gi,.int .u64 gl] 60):=⟨_,rfl⟩
 have hby:Below x2.heap.size x2 y2:=by rw [hy2];exact (z0O _ _).alloc (z0M _) _
 have hrow:y2.heap[x2.heap.size]? =some (.cells #[.int .i64 gk,.string ⟨gn.toArray⟩,.bool gb,.int .u64 gi,.int .u64 gl] 60):=by rw [hy2];exact heap_alloc_new x2 _
 have HS2:=z0L (hS2.keep hby)
 obtain ⟨P,hP⟩: ∃g,g=x2.heap.size:=⟨_,rfl⟩
 rw [←hP] at hrow
 have hPn:P≠w.heap.size+1:=fun e=>by
  have:=zbA hS2.res
  omega
 have HRW:=z0L hrow
 clear d4 hx2 HHP HS1 hS2 hby hrow
 have hng: ¬(p.hasS=false∨own=0):=by rintro (q|q);rw [c1] at q;cases q;exact c2 q
 by_cases c4:he=0
 ·subst c4
  go_upto_region 10 with fail
  rw [←hy2,←hP]
  clear hy2 hP
  obtain ⟨-,-,-,d3,-,-,d6,d7,-,-,-,-,-⟩:=HS2.out.box.all
  rw [HPT.out] at d6
  have hcs:p.hasP=false∨(p.hasP=true∧pt=[])∨(p.hasP=true∧pt≠[]):=by
   cases p.hasP
   ·exact .inl rfl
   ·by_cases q:pt=[]
    ·exact .inr (.inl ⟨rfl,q⟩)
    ·exact .inr (.inr ⟨rfl,q⟩)
  rcases hcs with c5|⟨c5,c6⟩|⟨c5,c6⟩
  ·have HF2:Hid (res=(⟨lw,hh,own,p.hasU⟩,0)):=by show _=_;rw [HF.out,if_neg hng,if_neg (by rw [c3];decide),if_neg (by simp),if_neg (by rintro ⟨q,_⟩;rw [c5] at q;cases q),if_neg (by rintro ⟨q,_⟩;rw [c5] at q;cases q)]
   rw [c5] at d7
   clear HF c5 HPT hng c1 c2 c3 HPW HN2
   go_upto_region 23 with fail
   clear d6 d7
   obtain ⟨h0,h1,h2,h3,h4⟩:=zkC HRW.out
   obtain ⟨r0,r1,r2,r3,r4,r5,r6,r7⟩:=zcF HS2.out.res
   have rf:=zaI HS2.out.res
   have hEB:=zbZ HS2.out.below (Nat.le_succ _) (.string ⟨lw.toArray⟩) (.int .i64 gk) (.string ⟨gn.toArray⟩) (.bool gb) (.int .u64 gi) (.int .u64 gl) (.int .i64 own) (.bool p.hasU)
   have hEC:=zcA HS2.out.res (.string ⟨lw.toArray⟩) (.int .i64 gk) (.string ⟨gn.toArray⟩) (.bool gb) (.int .u64 gi) (.int .u64 gl) (.int .i64 own) (.bool p.hasU)
   unfold put8 at hEB hEC
   have HEB:=z0L hEB
   have HEC:=z0L hEC
   clear hEB hEC HS2
   go_wp2
   obtain ⟨e0,e1,e2,e3,e4,e5,e6,e7⟩:=HEC.out
   obtain rfl:=HF2.out
   refine bodyPost_ret (v:= .tuple #[.agg #[.string ⟨lw.toArray⟩,.int .i64 gk,.string ⟨gn.toArray⟩,.bool gb,.int .u64 gi,.int .u64 gl,.int .i64 own,.bool p.hasU],.int .i64 0]) (by simp [results,Tryz.results31,go_sem,e0,e1,e2,e3,e4,e5,e6,e7]) rfl ?_
   refine ⟨?_,HEB.out⟩
   rw [zdM HVV.out]
  ·have HF2:Hid (res=(⟨lw,hh,own,p.hasU⟩,0)):=by show _=_;rw [HF.out,if_neg hng,if_neg (by rw [c3];decide),if_neg (by simp),if_neg (by rintro ⟨_,q⟩;rw [c6] at q;exact HN2.out q),if_neg (by rintro ⟨_,q⟩;exact q c6)]
   rw [c5] at d7
   subst c6
   clear HF c5 HPT hng c1 c2 c3 HPW HN2
   go_upto_region 12 with fail
   go_wp2
   go_loopw [8,9] (fun v i wr=>v= .int .i64 0∧i= .int .i64 0∧wr=y2) (fun _ _ _=>0)
   case atStart=>exact ⟨rfl,rfl,rfl⟩
   case round=>
    obtain ⟨rfl,rfl,rfl⟩:=hrel
    go_upto_region 23 with fail
    clear d6 d7
    obtain ⟨h0,h1,h2,h3,h4⟩:=zkC HRW.out
    obtain ⟨r0,r1,r2,r3,r4,r5,r6,r7⟩:=zcF HS2.out.res
    have rf:=zaI HS2.out.res
    have hEB:=zbZ HS2.out.below (Nat.le_succ _) (.string ⟨lw.toArray⟩) (.int .i64 gk) (.string ⟨gn.toArray⟩) (.bool gb) (.int .u64 gi) (.int .u64 gl) (.int .i64 own) (.bool p.hasU)
    have hEC:=zcA HS2.out.res (.string ⟨lw.toArray⟩) (.int .i64 gk) (.string ⟨gn.toArray⟩) (.bool gb) (.int .u64 gi) (.int .u64 gl) (.int .i64 own) (.bool p.hasU)
    unfold put8 at hEB hEC
    have HEB:=z0L hEB
    have HEC:=z0L hEC
    clear hEB hEC HS2
    go_wp2
    obtain ⟨e0,e1,e2,e3,e4,e5,e6,e7⟩:=HEC.out
    obtain rfl:=HF2.out
    refine bodyPost_ret (v:= .tuple #[.agg #[.string ⟨lw.toArray⟩,.int .i64 gk,.string ⟨gn.toArray⟩,.bool gb,.int .u64 gi,.int .u64 gl,.int .i64 own,.bool p.hasU],.int .i64 0]) (by simp [results,Tryz.results31,go_sem,e0,e1,e2,e3,e4,e5,e6,e7]) rfl ?_
    refine ⟨?_,HEB.out⟩
    rw [zdM HVV.out]
  ·have hne:(pt==[])=false:=by rw [beq_eq_false_iff_ne];exact c6
   have HPN:=z0L (HPW.out c6)
   rw [c5] at d7
   have HFB:Hid (zeS pt= -2→res=(zdI,8)):=fun q=>by rw [HF.out,if_neg hng,if_neg (by rw [c3];decide),if_neg (by simp),if_pos ⟨c5,q⟩]
   have HFG:Hid (∀n,zeS pt=n→n≠ -2→res=(⟨lw,hh,n,p.hasU⟩,0)):=fun n q hn=>by rw [HF.out,if_neg hng,if_neg (by rw [c3];decide),if_neg (by simp),if_neg (by rintro ⟨_,g⟩;exact hn (q.symm.trans g)),if_pos ⟨c5,c6⟩,q]
   clear HF c5 HPT hng c1 c2 c3 c6 HPW HN2
   go_upto_region 12 with fail
   go_wp2
   go_loopw [8,9] (fun v i wr=> ∃(k:Nat) (n:Int),k≤pt.length∧i= .int .i64 k∧v= .int .i64 n∧0≤n∧n≤655360∧Hid (zgH 0 pt=zgH n (pt.drop k))∧wr=y2) (fun _ i _=>pt.length - (intOf i).toNat)
   case atStart=>exact ⟨0,0,Nat.zero_le _,rfl,rfl,by omega,by omega,rfl,rfl⟩
   case round=>
    obtain ⟨k,n,hk,rfl,rfl,hn0,hn1,HS,rfl⟩:=hrel
    by_cases hlt:k<pt.length
    ·obtain ⟨hks,c,hba,hdr,-⟩:=zxX pt k hlt
     have HS2':Hid (zgH 0 pt=if zaU c.toNat=true then zgH (if n≤65535 then 10*n+(c.toNat:Int) - 48 else n) (pt.drop (k+1)) else none):=by show _=_;rw [HS.out,hdr,zgH]
     have HD:=z0L (zkW (c.toNat:Int) wr)
     have hdb:=zwQ (c:=c)
     have hcn:(c.toNat:Int)<256:=by have:=c.toNat_lt;omega
     have hcn0:0≤(c.toNat:Int):=by omega
     clear HS hdr
     cases hd:zaU (c.toNat:Int) with
     |false=>
      rw [hd] at HD HS2'
      have HF2:Hid (res=(zdI,8)):=HFB.out (by rw [HPN.out,HS2'.out,if_neg (by decide)])
      clear HFB HFG HPN HS2' hdb
      go_wp2_with fail
      refine HD.out.mono ?_
      rintro e w' ⟨rfl,rfl⟩
      go_upto_region 16 with fail
      clear d3 d6 d7 hne
      obtain ⟨r0,r1,r2,r3,r4,r5,r6,r7⟩:=zcF HS2.out.res
      have rf:=zaI HS2.out.res
      have hEB:=zbZ HS2.out.below (Nat.le_succ _) (.string ⟨#[]⟩) (.int .i64 0) (.string ⟨#[]⟩) (.bool false) (.int .u64 0) (.int .u64 0) (.int .i64 0) (.bool false)
      have hEC:=zcA HS2.out.res (.string ⟨#[]⟩) (.int .i64 0) (.string ⟨#[]⟩) (.bool false) (.int .u64 0) (.int .u64 0) (.int .i64 0) (.bool false)
      unfold put8 at hEB hEC
      have HEB:=z0L hEB
      have HEC:=z0L hEC
      clear hEB hEC HS2
      go_wp2
      obtain ⟨e0,e1,e2,e3,e4,e5,e6,e7⟩:=HEC.out
      obtain rfl:=HF2.out
      refine bodyPost_ret (v:= .tuple #[.agg #[.string ⟨#[]⟩,.int .i64 0,.string ⟨#[]⟩,.bool false,.int .u64 0,.int .u64 0,.int .i64 0,.bool false],.int .i64 8]) (by simp [results,Tryz.results31,go_sem,e0,e1,e2,e3,e4,e5,e6,e7]) rfl ?_
      exact ⟨rfl,HEB.out⟩
     |true=>
      rw [hd] at HD HS2'
      obtain ⟨v1,v2⟩:=hdb hd
      have HS3:=HS2'.out.trans (if_pos rfl)
      clear HS2' hd hdb
      by_cases hb':n≤65535
      ·rw [if_pos hb'] at HS3
       have HFx:=z0L HS3
       have hd1:decide (n≤65535)=true:=decide_eq_true hb'
       clear HS3
       go_wp2_with fail
       refine HD.out.mono ?_
       rintro e w' ⟨rfl,rfl⟩
       go_wp2
       go_roundw
       case rel=>exact ⟨k+1,10*n+(c.toNat:Int) - 48,by omega,by go_num,by go_num,by omega,by omega,HFx.out,by trivial⟩
       case measure=>simp [intOf];omega
      ·rw [if_neg hb'] at HS3
       have HFx:=z0L HS3
       have hd1:decide (n≤65535)=false:=z0N hb'
       clear HS3
       go_wp2_with fail
       refine HD.out.mono ?_
       rintro e w' ⟨rfl,rfl⟩
       go_wp2
       go_roundw
       case rel=>exact ⟨k+1,n,by omega,by go_num,rfl,by omega,by omega,HFx.out,by trivial⟩
       case measure=>simp [intOf];omega
    ·have HE:Hid (zgH 0 pt=some n):=by show _=_;rw [HS.out,List.drop_eq_nil_of_le (by omega)];rfl
     by_cases hb':65535<n
     ·have HF2:Hid (res=(zdI,8)):=HFB.out (by rw [HPN.out,HE.out];exact if_pos hb')
      have hd1:decide (65535<n)=true:=decide_eq_true hb'
      clear HFB HFG HPN HE HS
      go_upto_region 20 with fail
      clear d3 d6 d7 hne
      obtain ⟨r0,r1,r2,r3,r4,r5,r6,r7⟩:=zcF HS2.out.res
      have rf:=zaI HS2.out.res
      have hEB:=zbZ HS2.out.below (Nat.le_succ _) (.string ⟨#[]⟩) (.int .i64 0) (.string ⟨#[]⟩) (.bool false) (.int .u64 0) (.int .u64 0) (.int .i64 0) (.bool false)
      have hEC:=zcA HS2.out.res (.string ⟨#[]⟩) (.int .i64 0) (.string ⟨#[]⟩) (.bool false) (.int .u64 0) (.int .u64 0) (.int .i64 0) (.bool false)
      unfold put8 at hEB hEC
      have HEB:=z0L hEB
      have HEC:=z0L hEC
      clear hEB hEC HS2
      go_wp2
      obtain ⟨e0,e1,e2,e3,e4,e5,e6,e7⟩:=HEC.out
      obtain rfl:=HF2.out
      refine bodyPost_ret (v:= .tuple #[.agg #[.string ⟨#[]⟩,.int .i64 0,.string ⟨#[]⟩,.bool false,.int .u64 0,.int .u64 0,.int .i64 0,.bool false],.int .i64 8]) (by simp [results,Tryz.results31,go_sem,e0,e1,e2,e3,e4,e5,e6,e7]) rfl ?_
      exact ⟨rfl,HEB.out⟩
     ·have HF2:Hid (res=(⟨lw,hh,n,p.hasU⟩,0)):=HFG.out n (by rw [HPN.out,HE.out];exact if_neg hb') (by omega)
      have hd1:decide (65535<n)=false:=z0N hb'
      clear HFB HFG HPN HE HS
      go_upto_region 23 with fail
      clear d6 d7 hne
      obtain ⟨h0,h1,h2,h3,h4⟩:=zkC HRW.out
      obtain ⟨r0,r1,r2,r3,r4,r5,r6,r7⟩:=zcF HS2.out.res
      have rf:=zaI HS2.out.res
      have hEB:=zbZ HS2.out.below (Nat.le_succ _) (.string ⟨lw.toArray⟩) (.int .i64 gk) (.string ⟨gn.toArray⟩) (.bool gb) (.int .u64 gi) (.int .u64 gl) (.int .i64 n) (.bool p.hasU)
      have hEC:=zcA HS2.out.res (.string ⟨lw.toArray⟩) (.int .i64 gk) (.string ⟨gn.toArray⟩) (.bool gb) (.int .u64 gi) (.int .u64 gl) (.int .i64 n) (.bool p.hasU)
      unfold put8 at hEB hEC
      have HEB:=z0L hEB
      have HEC:=z0L hEC
      clear hEB hEC HS2
      go_wp2
      obtain ⟨e0,e1,e2,e3,e4,e5,e6,e7⟩:=HEC.out
      obtain rfl:=HF2.out
      refine bodyPost_ret (v:= .tuple #[.agg #[.string ⟨lw.toArray⟩,.int .i64 gk,.string ⟨gn.toArray⟩,.bool gb,.int .u64 gi,.int .u64 gl,.int .i64 n,.bool p.hasU],.int .i64 0]) (by simp [results,Tryz.results31,go_sem,e0,e1,e2,e3,e4,e5,e6,e7]) rfl ?_
      refine ⟨?_,HEB.out⟩
      rw [zdM HVV.out]
 ·have HF2:Hid (res=(zdI,he)):=by show _=_;rw [HF.out,if_neg hng,if_neg (by rw [c3];decide),if_pos c4]
  have hne:(he !=0)=true:=bne_iff_ne.2 c4
  clear HF HPT c1 c2 c3 hng HVV HPW HN2
  go_upto_region 9 with fail
  rw [←hy2]
  clear hy2 hP HRW
  obtain ⟨r0,r1,r2,r3,r4,r5,r6,r7⟩:=zcF HS2.out.res
  have rf:=zaI HS2.out.res
  have hEB:=zbZ HS2.out.below (Nat.le_succ _) (.string ⟨#[]⟩) (.int .i64 0) (.string ⟨#[]⟩) (.bool false) (.int .u64 0) (.int .u64 0) (.int .i64 0) (.bool false)
  have hEC:=zcA HS2.out.res (.string ⟨#[]⟩) (.int .i64 0) (.string ⟨#[]⟩) (.bool false) (.int .u64 0) (.int .u64 0) (.int .i64 0) (.bool false)
  unfold put8 at hEB hEC
  have HEB:=z0L hEB
  have HEC:=z0L hEC
  clear hEB hEC HS2
  go_wp2
  obtain ⟨e0,e1,e2,e3,e4,e5,e6,e7⟩:=HEC.out
  obtain rfl:=HF2.out
  refine bodyPost_ret (v:= .tuple #[.agg #[.string ⟨#[]⟩,.int .i64 0,.string ⟨#[]⟩,.bool false,.int .u64 0,.int .u64 0,.int .i64 0,.bool false],.int .i64 he]) (by simp [results,Tryz.results31,go_sem,e0,e1,e2,e3,e4,e5,e6,e7]) rfl ?_
  exact ⟨rfl,HEB.out⟩
theorem zqN {x:World} {g k:Nat} (h:k≠g) (a0 a1 a2 a3 a4 a5 a6 a7:Value):(put8 x g a0 a1 a2 a3 a4 a5 a6 a7).heap[k]? =x.heap[k]? :=by
 unfold put8
 rw [zcB h,zcB h,zcB h,zcB h,zcB h,zcB h,zcB h,zcB h]
theorem zhQ {t:TypeId} {x:World} {g:Nat} {b0 b1 b2 b3:Value} (h:x.heap[g]? =some (.cells #[b0,b1,b2,b3] t)):x.cell? ⟨g,0,none⟩=some b0∧x.cell? ⟨g,1,none⟩=some b1∧x.cell? ⟨g,2,none⟩=some b2∧x.cell? ⟨g,3,none⟩=some b3:=⟨zaG h 0,zaG h 1,zaG h 2,zaG h 3⟩
def RetSR (w:World) (s:SZ) (e:Ending) (w':World):Prop:=e= .returned (.agg s.rcells)∧Below w.heap.size w w'
theorem zpN (s:SZ) (w:World) (ho:s.host.In):
  Calls Tryz.prog 32 #[.agg s.cells] w (RetSR w s):=by
 obtain ⟨k,n,b,hi,lo,hvv⟩:=ziQ s.host
 have hrc:s.rcells= #[.string ⟨s.scheme.toArray⟩,.int .i64 k,.string ⟨n.toArray⟩,.bool b,.int .u64 hi,.int .u64 lo,.int .i64 s.port,.bool s.user]:=zdM hvv
 have hbox:((w.alloc (.cells s.cells 53)).alloc (.cells #[.string ⟨#[]⟩,.int .i64 0,.string ⟨#[]⟩,.bool false,.int .u64 0,.int .u64 0,.int .i64 0,.bool false] 62)).heap[w.heap.size]? =some (.cells s.cells 53):=(((z0O _ (w.alloc (.cells s.cells 53))).alloc (z0M _) _).block _ (by simp)).trans (heap_alloc_new w _)
 have s0:(w.alloc (.cells s.cells 53)).heap.size=w.heap.size+1:=by simp
 have hres:=heap_alloc_new (w.alloc (.cells s.cells 53)) (.cells #[.string ⟨#[]⟩,.int .i64 0,.string ⟨#[]⟩,.bool false,.int .u64 0,.int .u64 0,.int .i64 0,.bool false] 62)
 rw [s0] at hres
 have hbb:Below w.heap.size w ((w.alloc (.cells s.cells 53)).alloc (.cells #[.string ⟨#[]⟩,.int .i64 0,.string ⟨#[]⟩,.bool false,.int .u64 0,.int .u64 0,.int .i64 0,.bool false] 62)):=((z0O _ w).alloc (z0M _) _).alloc (by simp) _
 obtain ⟨x0,hx0⟩: ∃y,y=(w.alloc (.cells s.cells 53)).alloc (.cells #[.string ⟨#[]⟩,.int .i64 0,.string ⟨#[]⟩,.bool false,.int .u64 0,.int .u64 0,.int .i64 0,.bool false] 62):=⟨_,rfl⟩
 rw [←hx0] at hbox hres hbb
 have HB:=z0L hbb
 have HKK:Hid (∀x,Below x0.heap.size x0 x→x.cell? ⟨w.heap.size,0,none⟩=some (.string ⟨s.scheme.toArray⟩)∧x.cell? ⟨w.heap.size,1,none⟩=some (s.host.val)∧x.cell? ⟨w.heap.size,2,none⟩=some (.int .i64 s.port)∧x.cell? ⟨w.heap.size,3,none⟩=some (.bool s.user)):=fun x hb=>zhQ ((hb.block _ (zbA hbox)).trans hbox)
 have hSP: ∀x,Below x0.heap.size x0 x→ ∀y,y=put8 x (w.heap.size+1) (.string ⟨s.scheme.toArray⟩) (.int .i64 k) (.string ⟨n.toArray⟩) (.bool b) (.int .u64 hi) (.int .u64 lo) (.int .i64 s.port) (.bool s.user)→y.cell? ⟨w.heap.size,0,none⟩=some (.string ⟨s.scheme.toArray⟩)∧y.cell? ⟨w.heap.size,1,none⟩=some (s.host.val)∧y.cell? ⟨w.heap.size,2,none⟩=some (.int .i64 s.port)∧y.cell? ⟨w.heap.size,3,none⟩=some (.bool s.user):=fun x hb y hy=>by
  subst hy
  exact zhQ ((zqN (by omega) _ _ _ _ _ _ _ _).trans ((hb.block _ (zbA hbox)).trans hbox))
 unfold put8 at hSP
 have HSP:=z0L hSP
 have HRR:=z0L (fun x (hb:Below x0.heap.size x0 x)=>(hb.block _ (zbA hres)).trans hres)
 have HOF:Hid (∀W,Below x0.heap.size x0 W→Calls Tryz.prog 82 #[s.host.val] W fun e w'=>e= .returned (.agg #[.int .i64 k,.string ⟨n.toArray⟩,.bool b,.int .u64 hi,.int .u64 lo])∧Below x0.heap.size x0 w'):=fun W hW=>(znP s.host W ho).mono (fun e w' h=>⟨h.1.trans (by rw [hvv]),zaY hW h.2⟩)
 have HRC:=z0L hrc
 dsimp only [SZ.cells] at hx0 ⊢
 clear hbox hres hbb hSP ho s0 hvv hrc
 go_enter Tryz.func32,Tryz.ntmps32
 go_wp2_with fail
 rw [←hx0]
 clear hx0
 refine wp_region_held_drew (S:=fun W=>W.cell? ⟨w.heap.size,0,none⟩=some (.string ⟨s.scheme.toArray⟩)∧W.cell? ⟨w.heap.size,1,none⟩=some (s.host.val)∧W.cell? ⟨w.heap.size,2,none⟩=some (.int .i64 s.port)∧W.cell? ⟨w.heap.size,3,none⟩=some (.bool s.user)) (by kernel_rfl) ?_ (fun hHeld=> ?_)
 ·exact (HKK.out _ (zcY _))
 refine tkg 0 (some 3) (v:= ?_) rfl (.inl ⟨by rfl,?_⟩) hHeld ?_;rotate_left;·intro w hSw;(try dsimp only at hSw);go_simp;try with_reducible rfl
 try simp only [Act.put,tkga,tkgb,tkgc]
 refine tkg 1 (some 4) (v:= ?_) rfl (.inl ⟨by rfl,?_⟩) hHeld ?_;rotate_left;·intro w hSw;(try dsimp only at hSw);go_simp;try with_reducible rfl
 try simp only [Act.put,tkga,tkgb,tkgc]
 refine tkg 2 (some 5) (v:= ?_) rfl (.inl ⟨by rfl,?_⟩) hHeld ?_;rotate_left;·intro w hSw;(try dsimp only at hSw);go_simp;try with_reducible rfl
 try simp only [Act.put,tkga,tkgb,tkgc]
 refine tkg 3 (some 6) (v:= ?_) rfl (.inl ⟨by rfl,?_⟩) hHeld ?_;rotate_left;·intro w hSw;(try dsimp only at hSw);go_simp;try with_reducible rfl
 try simp only [Act.put,tkga,tkgb,tkgc]
 refine tkg 5 (some 8) (v:= ?_) rfl (.inl ⟨by rfl,?_⟩) hHeld ?_;rotate_left;·intro w hSw;(try dsimp only at hSw);go_simp;try with_reducible rfl
 try simp only [Act.put,tkga,tkgb,tkgc]
 refine tkg 6 (some 9) (v:= ?_) rfl (.inl ⟨by rfl,?_⟩) hHeld ?_;rotate_left;·intro w hSw;(try dsimp only at hSw);go_simp;try with_reducible rfl
 try simp only [Act.put,tkga,tkgb,tkgc]
 refine tkg 7 (some 10) (v:= ?_) rfl (.inl ⟨by rfl,?_⟩) hHeld ?_;rotate_left;·intro w hSw;(try dsimp only at hSw);go_simp;try with_reducible rfl
 try simp only [Act.put,tkga,tkgb,tkgc]
 refine tkg 8 (some 11) (v:= ?_) rfl (.inl ⟨by rfl,?_⟩) hHeld ?_;rotate_left;·intro w hSw;(try dsimp only at hSw);go_simp;try with_reducible rfl
 try simp only [Act.put,tkga,tkgb,tkgc]
 refine wpAnyH_ready (rs:=[4]) (by kernel_rfl) (by simp) ?_
 refine AllReadyH.cons (o:=⟨some 7,_,_,_,_,_⟩) rfl (fun K hK=> ?_) AllReadyH.nil
 go_simp
 go_at_call 82
 refine (HOF.out _ (zcY _)).mono ?_
 rintro e x1 ⟨rfl,hb1⟩
 obtain ⟨k0,k1,k2,k3,k4,k5,k6,k7⟩:=zcF (HRR.out _ hb1)
 have kf:=zaI (HRR.out _ hb1)
 (try go_wp2_with fail)
 refine hK.out _ _ ?_ (fun hHeld1=> ?_)
 ·exact (HKK.out _ hb1)
 clear hK K
 try simp only [Act.put,tkga,tkgb,tkgc]
 refine tkg 9 (some 12) (v:= ?_) rfl (.inl ⟨by rfl,?_⟩) hHeld1 ?_;rotate_left;·intro w hSw;(try dsimp only at hSw);go_simp;try with_reducible rfl
 try simp only [Act.put,tkga,tkgb,tkgc]
 refine wpAnyH_ready (rs:=[10]) (by kernel_rfl) (by simp) ?_
 refine AllReadyH.cons (o:=⟨none,_,_,_,_,_⟩) rfl (fun K hK=> ?_) AllReadyH.nil
 go_simp
 refine hK.out _ _ ?_ (fun hHeld2=> ?_)
 ·exact (HSP.out _ hb1 _ rfl)
 clear hK K
 try simp only [Act.put,tkga,tkgb,tkgc]
 refine wpAnyH_done (by kernel_rfl) ?_ _
 have hEB:=zbZ (zaY HB.out hb1) (show w.heap.size≤w.heap.size+1 by omega) (.string ⟨s.scheme.toArray⟩) (.int .i64 k) (.string ⟨n.toArray⟩) (.bool b) (.int .u64 hi) (.int .u64 lo) (.int .i64 s.port) (.bool s.user)
 have hEC:=zcA (HRR.out _ hb1) (.string ⟨s.scheme.toArray⟩) (.int .i64 k) (.string ⟨n.toArray⟩) (.bool b) (.int .u64 hi) (.int .u64 lo) (.int .i64 s.port) (.bool s.user)
 unfold put8 at hEB hEC
 have HEB:=z0L hEB
 have HEC:=z0L hEC
 clear hEB hEC
 go_wp2
 obtain ⟨e0,e1,e2,e3,e4,e5,e6,e7⟩:=HEC.out
 refine bodyPost_ret (v:= .agg #[.string ⟨s.scheme.toArray⟩,.int .i64 k,.string ⟨n.toArray⟩,.bool b,.int .u64 hi,.int .u64 lo,.int .i64 s.port,.bool s.user]) (by simp [results,Tryz.results32,go_sem,e0,e1,e2,e3,e4,e5,e6,e7]) rfl ?_
 exact ⟨by rw [HRC.out],HEB.out⟩
theorem zxF (sc:List UInt8) (k:Int) (n:List UInt8) (b:Bool) (hi lo p:Int) (u:Bool): ∀W:World,(binOp .eql 62 (.agg #[.string ⟨sc.toArray⟩,.int .i64 k,.string ⟨n.toArray⟩,.bool b,.int .u64 hi,.int .u64 lo,.int .i64 p,.bool u]) (.agg #[.string ⟨sc.toArray⟩,.int .i64 k,.string ⟨n.toArray⟩,.bool b,.int .u64 hi,.int .u64 lo,.int .i64 p,.bool u])).run Tryz.prog W= .ok (.bool true) W:=by
 intro W
 show ((Op.equal _ _ _>>=fun b=>pure (Value.bool b)):Sem Value).run _ _=_
 rw [Sem.run_bind,show (Op.equal 62 (.agg #[.string ⟨sc.toArray⟩,.int .i64 k,.string ⟨n.toArray⟩,.bool b,.int .u64 hi,.int .u64 lo,.int .i64 p,.bool u]) (.agg #[.string ⟨sc.toArray⟩,.int .i64 k,.string ⟨n.toArray⟩,.bool b,.int .u64 hi,.int .u64 lo,.int .i64 p,.bool u])).run Tryz.prog W= .ok true W from ?_]
 ·rfl
 ·rw [show (Op.equal 62 (.agg #[.string ⟨sc.toArray⟩,.int .i64 k,.string ⟨n.toArray⟩,.bool b,.int .u64 hi,.int .u64 lo,.int .i64 p,.bool u]) (.agg #[.string ⟨sc.toArray⟩,.int .i64 k,.string ⟨n.toArray⟩,.bool b,.int .u64 hi,.int .u64 lo,.int .i64 p,.bool u])).run Tryz.prog W=(Op.equalIn 10000 62 (.agg #[.string ⟨sc.toArray⟩,.int .i64 k,.string ⟨n.toArray⟩,.bool b,.int .u64 hi,.int .u64 lo,.int .i64 p,.bool u]) (.agg #[.string ⟨sc.toArray⟩,.int .i64 k,.string ⟨n.toArray⟩,.bool b,.int .u64 hi,.int .u64 lo,.int .i64 p,.bool u])).run Tryz.prog W from rfl,run_equalIn_struct W 9999 62 _ _ (by kernel_rfl) (by kernel_rfl)]
  simp [Program.fieldsOf,Tryz.underlying62,Op.eqFields,go_sem,part,Tryz.sizeOf60,Tryz.isAgg60]
end
end Go.Proofs.YtmjappnpedjlnaaGreatDoor
