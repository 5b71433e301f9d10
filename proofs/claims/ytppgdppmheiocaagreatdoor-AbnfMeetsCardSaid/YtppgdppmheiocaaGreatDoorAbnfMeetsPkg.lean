/-
  What the law AbnfMeets leans on, and its walk (32 of 35).
-/
import Derived.Test.YtppgdppmheiocaaGreatDoorAbnfMeetsPkW
import Derived.Test.YtppgdppmheiocaaGreatDoorAbnfMeetsPke
import Derived.Test.YtppgdppmheiocaaGreatDoorAbnfMeetsPkf
namespace Go.Proofs.YtppgdppmheiocaaGreatDoor
set_option maxRecDepth 100000
set_option maxHeartbeats 16000000
section
open Go.RowKit
theorem zpP (a b:List (List UInt8)):zbA (a++b)=zbA a++zbA b:=by
 induction a with
 |nil=>rfl
 |cons s r ih=>simp [zbA,ih]
theorem zxH (a:List (List UInt8)):(zbA a.dropLast).length≤(zbA a).length:=by
 rcases List.eq_nil_or_concat a with rfl|⟨t,x,rfl⟩
 ·exact Nat.le_refl _
 ·rw [List.concat_eq_append,List.dropLast_concat,zpP,List.length_append];omega
theorem zxJ (b:Bool) (out:List (List UInt8)) (q:List UInt8):(zbA (zeQ b out q)).length≤(zbA out).length+q.length+1:=by
 have hd:=zxH out
 have e: ∀(o:List (List UInt8)) (x:List UInt8),(zbA (o++[x])).length=(zbA o).length+x.length+1:=fun o x=>by rw [zpP];simp [zbA];omega
 unfold zeQ
 split
 ·rw [e];omega
 ·split
  ·split
   ·rw [e];simp only [List.length_nil];omega
   ·rw [e];simp only [List.length_nil];omega
  ·split<;>omega
theorem zwG: ∀(ps out:List (List UInt8)),(zbA (goW out ps)).length≤(zbA out).length+12*zdT ps+ps.length
 |[],out=>by simp only [goW];omega
 |p::r,out=>by
  have h1:=zwG r (zeQ r.isEmpty out (encW 4 p))
  have h2:=zxJ r.isEmpty out (encW 4 p)
  have h3:=zgR 4 p
  have e:zdT (p::r)=p.length+zdT r:=by simp [zdT]
  rw [goW,e,List.length_cons]
  omega
theorem zzO (l:List UInt8):(zbA (zmN [] l)).length≤13*l.length+1:=by
 have h1:=zwG (zbH (hasB [47,92]) l) []
 have h2:=zlI (hasB [47,92]) l
 have h3:=zcC (hasB [47,92]) l
 unfold zmN
 have h4:(zbA ([]:List (List UInt8))).length=0:=rfl
 omega
structure zkZ (u:UZ) (n:Nat):Prop where
 user:u.user.length≤12*n
 pass:u.pass.length≤12*n
 path:(zbA u.path).length≤13*n+1
 qry:u.query.length≤12*n
 frg:u.frag.length≤12*n
theorem zkZ.zero (n:Nat):zkZ zcG n:=⟨Nat.zero_le _,Nat.zero_le _,Nat.zero_le _,Nat.zero_le _,Nat.zero_le _⟩
theorem yaN (l:List UInt8):(zjN l).length≤12*l.length:=by
 unfold zjN
 split
 ·simp
 ·rename_i k _
  have h:=zgR 5 ((l.take k).take ((l.take k).findIdx (· ==58)))
  have h2:((l.take k).take ((l.take k).findIdx (· ==58))).length≤l.length:=by rw [List.length_take,List.length_take];omega
  omega
theorem z9P (l:List UInt8):(ziX l).length≤12*l.length:=by
 unfold ziX
 split
 ·simp
 ·rename_i k _
  split
  ·have h:=zgR 5 ((l.take k).drop ((l.take k).findIdx (· ==58)+1))
   have h2:((l.take k).drop ((l.take k).findIdx (· ==58)+1)).length≤l.length:=by rw [List.length_drop,List.length_take];omega
   omega
  ·simp
theorem zsQ (u:UZ) (l:List UInt8) (n:Nat) (hl:l.length≤n) (h1:u.user.length≤12*n) (h2:u.pass.length≤12*n) (h3:u.query=[]) (h4:u.frag=[]):zkZ (zeA u [] l) n:=by
 unfold zeA zjX
 have hp:=zzO (l.take (l.findIdx (hasB [63,35])))
 have hpl:(l.take (l.findIdx (hasB [63,35]))).length≤n:=by rw [List.length_take];omega
 have hdl:(l.drop (l.findIdx (hasB [63,35]))).length≤n:=by rw [List.length_drop];omega
 generalize zmN [] (l.take (l.findIdx (hasB [63,35])))=pa at*
 generalize l.drop (l.findIdx (hasB [63,35]))=d at*
 have hq:=zgR 3 ((d.take (d.findIdx (· ==35))).drop 1)
 have hf:=zgR 1 (d.drop (d.findIdx (· ==35)+1))
 have hq2:((d.take (d.findIdx (· ==35))).drop 1).length≤n:=by rw [List.length_drop,List.length_take];omega
 have hf2:(d.drop (d.findIdx (· ==35)+1)).length≤n:=by rw [List.length_drop];omega
 unfold frgW qryW
 split<;>split<;>refine ⟨?_,?_,?_,?_,?_⟩<;>simp only [h3,h4,List.length_nil]<;>omega
theorem zyD (m l:List UInt8) (n:Nat) (hl:l.length≤n):zkZ (zeB m l).1 n:=by
 unfold zeB
 simp only
 have hal:(l.take (l.findIdx (hasB [47,92,63,35]))).length≤n:=by rw [List.length_take];omega
 have hu:=yaN (l.take (l.findIdx (hasB [47,92,63,35])))
 have hp:=z9P (l.take (l.findIdx (hasB [47,92,63,35])))
 have hr:(l.drop (l.findIdx (hasB [47,92,63,35]))).length≤n:=by rw [List.length_drop];omega
 have ho:(offW (l.drop (l.findIdx (hasB [47,92,63,35])))).length≤n:=by
  unfold offW
  split
  ·simp
  ·rename_i c r e
   rw [e] at hr
   simp only [List.length_cons] at hr
   split
   ·omega
   ·simp only [List.length_cons];omega
 split
 ·exact .zero n
 ·split
  ·exact .zero n
  ·split
   ·exact .zero n
   ·exact zsQ _ _ n ho (by simp only;omega) (by simp only;omega) rfl rfl
theorem zyI (t:List UInt8):zkZ (zaZ t none).1 4096:=by
 unfold zaZ
 split
 ·exact .zero _
 ·have hc:=zpD t
  unfold zmT
  cases h:schW (zgZ (zgP t)) with
  |none=>exact .zero _
  |some x=>
   obtain ⟨n,r⟩:=x
   simp only
   split
   ·have:=z5P h
    have hb:=zwS r
    exact zyD _ _ _ (by omega)
   ·exact .zero _
theorem zwK {u:UZ} {n h:Nat} (hs:zkZ u n) (hh:(zcN u.host).length≤h) (hsc:u.scheme.length≤10) (hpt:u.port≠ -1→(Lib.itoa u.port).length≤30):(zcF u).length≤61*n+h+100:=by
 obtain ⟨h1,h2,h3,h4,h5⟩:=hs
 unfold zcF zfF z3A whoU zbX askU
 by_cases hp:u.port= -1
 ·rw [if_pos hp]
  split<;>split<;>split<;>split<;>simp only [List.length_append,List.length_cons,List.length_nil]<;>omega
 ·have hpt:=hpt hp
  rw [if_neg hp]
  split<;>split<;>split<;>split<;>simp only [List.length_append,List.length_cons,List.length_nil]<;>omega
theorem zqL {h:HZ} (ho:h.Ok):(zcN h).length≤1000:=by
 match h,ho with
 | .name l,ho=>
  have:=zoU l
  have:=ho.1.size
  show l.length≤_
  omega
 | .addr (.four n),_=>exact Nat.le_trans (z8Y n) (by decide)
 | .addr (.six hi lo),ho=>
  have:=zqG ho.1.1 ho.1.2 ho.2.1 ho.2.2
  show ([91]++zdY hi lo++[93]).length≤_
  simp only [List.length_append,List.length_cons,List.length_nil]
  omega
theorem ydU (u:Nat) (h:u≤65535):(Lib.decDigits u).length≤5:=by
 have key: ∀k:Nat,∀u,u<10^(k+1)→(Lib.decDigits u).length≤k+1:=by
  intro k
  induction k with
  |zero=>intro u hu;rw [Lib.decDigits,dif_pos (by omega)];simp
  |succ k ih=>
   intro u hu
   rw [Lib.decDigits]
   split
   ·simp
   ·have:=ih (u/10) (by rw [Nat.div_lt_iff_lt_mul (by decide)];rw [Nat.pow_succ] at hu;exact hu)
    rw [List.length_append]
    simp
    omega
 exact key 4 u (by omega)
theorem zvE {n:Int} (h0:0≤n) (h1:n≤65535):(Lib.itoa n).length≤30:=by
 unfold Lib.itoa
 rw [if_neg (by omega)]
 have:=ydU n.toNat (by omega)
 omega
theorem zxQ {m l:List UInt8} (h:(zeB m l).2≠0):(zeB m l).1=zcG:=by
 unfold zeB at*
 simp only at*
 split
 ·rfl
 ·split
  ·rfl
  ·split
   ·rfl
   ·rename_i h1 h2 h3
    rw [if_neg h1,if_neg h2,if_neg h3] at h
    exact absurd rfl h
theorem zlC {t:List UInt8} (h:(zaZ t none).2≠0):(zaZ t none).1=zcG:=by
 unfold zaZ at*
 split
 ·rfl
 ·rename_i hl
  rw [if_neg hl] at h
  unfold zmT at*
  cases hs:schW (zgZ (zgP t)) with
  |none=>rfl
  |some x=>
   obtain ⟨n,r⟩:=x
   rw [hs] at h
   simp only at h ⊢
   split
   ·rename_i hn
    rw [if_pos hn] at h
    exact zxQ h
   ·rfl
theorem z8D (t:List UInt8):(zcF (zaZ t none).1).length≤300000∧(zaZ t none).1.user.length+(zaZ t none).1.pass.length≤100000∧(-1≤(zaZ t none).1.port∧(zaZ t none).1.port≤65535):=by
 have hs:=zyI t
 refine ⟨?_,by have:=hs.user;have:=hs.pass;omega,?_⟩
 ·by_cases h:(zaZ t none).2=0
  ·have hu:=zkU t none (fun _ e=>by cases e) h
   have:=zwK hs (zqL hu.host) (by rcases hu.sch with e|e<;>rw [e]<;>decide) (fun hne=>zvE (by have:=hu.port.1;omega) hu.port.2.1)
   omega
  ·have hz:(zaZ t none).1=zcG:=zlC h
   rw [hz]
   have:=zwK (zkZ.zero 4096) (h:=0) (by decide) (by decide) (fun _=>zvE (by decide) (by decide))
   omega
 ·by_cases h:(zaZ t none).2=0
  ·have hu:=zkU t none (fun _ e=>by cases e) h
   exact ⟨hu.port.1,hu.port.2.1⟩
  ·have hz:(zaZ t none).1=zcG:=zlC h
   rw [hz]
   decide
end
end Go.Proofs.YtppgdppmheiocaaGreatDoor
