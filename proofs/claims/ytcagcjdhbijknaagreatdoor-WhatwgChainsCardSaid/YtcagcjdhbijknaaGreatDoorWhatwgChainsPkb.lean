/-
  What the law WhatwgChains leans on, and its walk (27 of 33).
-/
import Derived.Deep.RegionHeld3
import Derived.OwnWalk
import Derived.Test.YtcagcjdhbijknaaGreatDoorWhatwgChainsPkX
namespace Go.Proofs.YtcagcjdhbijknaaGreatDoor
set_option maxRecDepth 100000
set_option maxHeartbeats 16000000
abbrev yiN := @Lib.hid
section
open Go.RowKit
theorem yeT:schW []=none:=by decide
theorem yaV {c:UInt8} {r:List UInt8} (h:zcG c.toNat=false):schW (c::r)=none:=by
 unfold schW
 exact if_neg (fun g=>by
  have g1:zcG c.toNat=true:=g.1
  rw [h] at g1;cases g1)
theorem sch_at {l:List UInt8} {c0:UInt8} {r0:List UInt8} (hq:l=c0::r0) (ha:zcG c0.toNat=true) {k:Nat} (hk:k<l.length) (h: ∀j (hj:j<l.length),j<k→schC l[j]=true) (hn:schC l[k]=false):
  schW l=if l[k]=58 then some (zaX (l.take k),l.drop (k+1)) else none:=by
 have e:l.findIdx (fun c=> !schC c)=k:=z8H hk (fun j hj hjk=>by rw [h j hj hjk];rfl) (by rw [hn];rfl)
 have e2:l[k]? =some l[k]:=List.getElem?_eq_getElem hk
 subst hq
 unfold schW
 rw [e,e2]
 by_cases h58:(c0::r0)[k]=58
 ·rw [if_pos h58];exact if_pos ⟨ha,by rw [h58]⟩
 ·rw [if_neg h58];exact if_neg (fun g=>h58 (Option.some.inj g.2))
theorem ydR {l:List UInt8} (h: ∀j (hj:j<l.length),schC l[j]=true):schW l=none:=by
 have e:l.findIdx (fun c=> !schC c)=l.length:=zzL (fun j hj=>by rw [h j hj];rfl)
 unfold schW
 rw [e,if_neg (fun g=>by rw [List.getElem?_eq_none (Nat.le_refl _)] at g;cases g.2)]
theorem ybD (c:UInt8):schC c=(zcG (c.toNat:Int)||(zbD (c.toNat:Int)||(((c.toNat:Int)==43)||(((c.toNat:Int)==45)||((c.toNat:Int)==46))))):=by
 have e43:((c.toNat:Int)==43)=decide (c=43):=zlJ (c:=c) (n:=43) (by omega)
 have e45:((c.toNat:Int)==45)=decide (c=45):=zlJ (c:=c) (n:=45) (by omega)
 have e46:((c.toNat:Int)==46)=decide (c=46):=zlJ (c:=c) (n:=46) (by omega)
 unfold schC
 rw [e43,e45,e46]
 simp only [Bool.or_assoc]
 rfl
def z9U (w:World) (l:List UInt8) (e:Ending) (w':World):Prop:=e= .returned (.tuple #[.string ⟨(((schW l).map Prod.fst).getD []).toArray⟩,.string ⟨(((schW l).map Prod.snd).getD l).toArray⟩,.bool (schW l).isSome])∧Below w.heap.size w w'
theorem ziO {w w':World} {l:List UInt8} (h:schW l=none) (hb:Below w.heap.size w w'):z9U w l (.returned (.tuple #[.string ⟨#[]⟩,.string ⟨l.toArray⟩,.bool false])) w':=by
 unfold z9U;rw [h];exact ⟨rfl,hb⟩
theorem z1N {w w':World} {l a b:List UInt8} (h:schW l=some (a,b)) (hb:Below w.heap.size w w'):z9U w l (.returned (.tuple #[.string ⟨a.toArray⟩,.string ⟨b.toArray⟩,.bool true])) w':=by
 unfold z9U;rw [h];exact ⟨rfl,hb⟩
theorem zcD (l:List UInt8) (w:World) (hl:l.length≤1073741824):
  Calls Tryz.prog 29 #[.string ⟨l.toArray⟩] w (z9U w l):=by
 cases hq:l with
 |nil=>
  go_enter Tryz.func29,Tryz.ntmps29
  go_wp2
  go_ret3
  exact ziO (l:=[]) yeT (Below.refl _ _)
 |cons c0 r0=>
  have hzz:(ByteArray.mk l.toArray).size=r0.length+1:=by rw [hq];simp [ByteArray.size]
  have hll:l.length=r0.length+1:=by rw [hq];simp
  have h0:0<(ByteArray.mk l.toArray).size:=by rw [hzz];omega
  have hb0:(ByteArray.mk l.toArray)[0]=c0:=by subst hq;rfl
  have e00:((r0.length:Int)+1==0)=false:=beq_eq_false_iff_ne.2 (by omega)
  have HNO:Hid (zcG (c0.toNat:Int)=false→schW l=none):=fun h=>by rw [hq];exact yaV h
  have HAT:Hid (zcG (c0.toNat:Int)=true→ ∀k (hk:k<l.length),(∀j (hj:j<l.length),j<k→schC l[j]=true)→schC l[k]=false→schW l=if l[k]=58 then some (zaX (l.take k),l.drop (k+1)) else none):=fun ha k hk h hn=>sch_at hq ha hk h hn
  rw [←hq]
  clear hq
  have HA0:=yiN (zlT (c0.toNat:Int) w)
  cases ha:zcG (c0.toNat:Int) with
  |false=>
   rw [ha] at HA0
   have HF:=yiN (HNO.out ha)
   clear ha HAT HNO
   go_enter Tryz.func29,Tryz.ntmps29
   go_wp2_with fail
   refine HA0.out.mono ?_
   rintro e w' ⟨rfl,rfl⟩
   go_wp2
   go_ret3
   exact ziO HF.out (Below.refl _ _)
  |true=>
   rw [ha] at HA0
   have HAT2:=yiN (HAT.out ha)
   clear ha HAT HNO
   go_enter Tryz.func29,Tryz.ntmps29
   go_wp2_with fail
   refine HA0.out.mono ?_
   rintro e w' ⟨rfl,rfl⟩
   clear HA0 h0 hb0
   go_wp2
   go_loopw [5] (fun i wr=> ∃k:Nat,k≤l.length∧i= .int .i64 k∧Hid (∀j (hj:j<l.length),j<k→schC l[j]=true)∧wr=w) (fun i _=>l.length - (intOf i).toNat)
   case atStart=>exact ⟨0,Nat.zero_le _,rfl,fun j _ h=>absurd h (Nat.not_lt_zero j),rfl⟩
   case round=>
    obtain ⟨k,hk,rfl,H,rfl⟩:=hrel
    by_cases hlt:k<l.length
    ·have hks:k<(ByteArray.mk l.toArray).size:=by rw [hzz];omega
     have hba:(ByteArray.mk l.toArray)[k]=l[k]:=rfl
     have HSA:=yiN (fun hn=>HAT2.out k hlt H.out hn)
     have hsc:=ybD l[k]
     have HHN:Hid (∀j (hj:j<l.length),schC l[k]=true→j<k+1→schC l[j]=true):=fun j hj hc hjk=>by
      by_cases e:j=k
      ·subst e;exact hc
      ·exact H.out j hj (by omega)
     obtain ⟨c,hc⟩: ∃c,l[k]=c:=⟨_,rfl⟩
     rw [hc] at hba HSA hsc HHN
     have hs1:=zkE l k hk
     have hs2:=zhA l k hlt
     have h58:=zlJ (c:=c) (n:=58) (by omega)
     have HLW:=yiN (fun W (hW:Below wr.heap.size wr W)=>(zlW ⟨(l.take k).toArray⟩ W (by rw [zaA,List.length_take];omega)).mono (fun e w' h=>(And.intro h.1 (zaC hW h.2):e=_∧Below wr.heap.size wr w')))
     rw [zaB] at HLW
     by_cases hc58:c=58
     ·have hF:=HSA.out (by rw [hc58];decide)
      rw [if_pos hc58] at hF
      have HF:=yiN hF
      have q1:IntKind.i64.wrap ((k:Int)+1)=(k:Int)+1:=IntWalk.i64_in _ (by omega)
      subst hc58
      clear HSA hsc HHN h58 hF hc HAT2 H
      generalize zaX (l.take k)=lo at*
      go_wp2_with fail
      go_region_held3 (fun _=>True) (exact trivial)
       (first|(go_simp;go_at_call 53;((with_reducible refine (HLW.out _ (zbB _)).mono ?_);rintro e x2 ⟨rfl,hb2⟩)))
      go_wp2
      go_ret3
      exact z1N HF.out hb2
     ·have e58:((c.toNat:Int)==58)=false:=h58.trans (decide_eq_false hc58)
      have HF:Hid (schC c=false→schW l=none):=fun h=>(HSA.out h).trans (if_neg hc58)
      have HAL:=yiN (zlT (c.toNat:Int) wr)
      have HDG:=yiN (zmF (c.toNat:Int) wr)
      clear HSA h58 hc58 HLW hc HAT2
      generalize zcG (c.toNat:Int)=ba at*
      generalize zbD (c.toNat:Int)=bd at*
      cases ba with
      |true=>
       have HN:=yiN (fun j hj=>HHN.out j hj hsc)
       clear hsc HHN HF
       go_wp2_with fail
       refine HAL.out.mono ?_
       rintro e w' ⟨rfl,rfl⟩
       go_wp2
       go_roundw
       case rel=>exact ⟨k+1,by omega,by go_num,HN.out,by trivial⟩
       case measure=>simp [intOf];omega
      |false=>
       cases bd with
       |true=>
        have HN:=yiN (fun j hj=>HHN.out j hj hsc)
        clear hsc HHN HF
        go_wp2_with fail
        refine HAL.out.mono ?_
        rintro e w' ⟨rfl,rfl⟩
        go_wp2_with fail
        refine HDG.out.mono ?_
        rintro e w' ⟨rfl,rfl⟩
        go_wp2
        go_roundw
        case rel=>exact ⟨k+1,by omega,by go_num,HN.out,by trivial⟩
        case measure=>simp [intOf];omega
       |false=>
        rw [Bool.false_or,Bool.false_or] at hsc
        cases e43:((c.toNat:Int)==43) with
        |true=>
         have n43:((c.toNat:Int) !=43)=false:=by rw [bne,e43];rfl
         rw [e43] at hsc
         have HN:=yiN (fun j hj=>HHN.out j hj hsc)
         clear hsc HHN HF
         go_wp2_with fail
         refine HAL.out.mono ?_
         rintro e w' ⟨rfl,rfl⟩
         go_wp2_with fail
         refine HDG.out.mono ?_
         rintro e w' ⟨rfl,rfl⟩
         go_wp2
         go_roundw
         case rel=>exact ⟨k+1,by omega,by go_num,HN.out,by trivial⟩
         case measure=>simp [intOf];omega
        |false=>
         have n43:((c.toNat:Int) !=43)=true:=by rw [bne,e43];rfl
         rw [e43,Bool.false_or] at hsc
         cases e45:((c.toNat:Int)==45) with
         |true=>
          have n45:((c.toNat:Int) !=45)=false:=by rw [bne,e45];rfl
          rw [e45] at hsc
          have HN:=yiN (fun j hj=>HHN.out j hj hsc)
          clear hsc HHN HF
          go_wp2_with fail
          refine HAL.out.mono ?_
          rintro e w' ⟨rfl,rfl⟩
          go_wp2_with fail
          refine HDG.out.mono ?_
          rintro e w' ⟨rfl,rfl⟩
          go_wp2
          go_roundw
          case rel=>exact ⟨k+1,by omega,by go_num,HN.out,by trivial⟩
          case measure=>simp [intOf];omega
         |false=>
          have n45:((c.toNat:Int) !=45)=true:=by rw [bne,e45];rfl
          rw [e45,Bool.false_or] at hsc
          cases e46:((c.toNat:Int)==46) with
          |true=>
           have n46:((c.toNat:Int) !=46)=false:=by rw [bne,e46];rfl
           rw [e46] at hsc
           have HN:=yiN (fun j hj=>HHN.out j hj hsc)
           clear hsc HHN HF
           go_wp2_with fail
           refine HAL.out.mono ?_
           rintro e w' ⟨rfl,rfl⟩
           go_wp2_with fail
           refine HDG.out.mono ?_
           rintro e w' ⟨rfl,rfl⟩
           go_wp2
           go_roundw
           case rel=>exact ⟨k+1,by omega,by go_num,HN.out,by trivial⟩
           case measure=>simp [intOf];omega
          |false=>
           have n46:((c.toNat:Int) !=46)=true:=by rw [bne,e46];rfl
           rw [e46] at hsc
           have HF2:=yiN (HF.out hsc)
           clear hsc HHN HF
           go_wp2_with fail
           refine HAL.out.mono ?_
           rintro e w' ⟨rfl,rfl⟩
           go_wp2_with fail
           refine HDG.out.mono ?_
           rintro e w' ⟨rfl,rfl⟩
           go_wp2
           go_ret3
           exact ziO HF2.out (Below.refl _ _)
    ·have HF:Hid (schW l=none):=ydR (fun j hj=>H.out j hj (by omega))
     go_wp2
     go_ret3
     exact ziO HF.out (Below.refl _ _)
end
end Go.Proofs.YtcagcjdhbijknaaGreatDoor
