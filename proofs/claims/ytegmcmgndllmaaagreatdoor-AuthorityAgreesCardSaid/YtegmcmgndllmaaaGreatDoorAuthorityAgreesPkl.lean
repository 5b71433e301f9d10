/-
  What the law AuthorityAgrees leans on, and its walk (37 of 43).
-/
import Derived.Test.YtegmcmgndllmaaaGreatDoorAuthorityAgreesPkU
import Derived.Test.YtegmcmgndllmaaaGreatDoorAuthorityAgreesPkf
import Derived.Test.YtegmcmgndllmaaaGreatDoorAuthorityAgreesPkk
namespace Go.Proofs.YtegmcmgndllmaaaGreatDoor
set_option maxRecDepth 100000
set_option maxHeartbeats 16000000
section
open Go.RowKit
theorem zsV (a b:List (List UInt8)):zbC (a++b)=zbC a++zbC b:=by
 induction a with
 |nil=>rfl
 |cons s r d=>simp [zbC,d]
theorem z2O (a:List (List UInt8)):(zbC a.dropLast).length≤(zbC a).length:=by
 rcases List.eq_nil_or_concat a with rfl|⟨t,x,rfl⟩
 ·exact Nat.le_refl _
 ·rw [List.concat_eq_append,List.dropLast_concat,zsV,List.length_append];omega
theorem z2G (b:Bool) (out:List (List UInt8)) (q:List UInt8):(zbC (zeE b out q)).length≤(zbC out).length+q.length+1:=by
 have d:=z2O out
 have e: ∀(o:List (List UInt8)) (x:List UInt8),(zbC (o++[x])).length=(zbC o).length+x.length+1:=fun o x=>by rw [zsV];simp [zbC];omega
 unfold zeE
 split
 ·rw [e];omega
 ·split
  ·split
   ·rw [e];simp only [List.length_nil];omega
   ·rw [e];simp only [List.length_nil];omega
  ·split<;>omega
theorem zyH: ∀(ps out:List (List UInt8)),(zbC (goW out ps)).length≤(zbC out).length+12*zeS ps+ps.length
 |[],out=>by simp only [goW];omega
 |p::r,out=>by
  have d:=zyH r (zeE r.isEmpty out (encW 4 p))
  have g:=z2G r.isEmpty out (encW 4 p)
  have f:=ziC 4 p
  have e:zeS (p::r)=p.length+zeS r:=by simp [zeS]
  rw [goW,e,List.length_cons]
  omega
theorem z1H (l:List UInt8):(zbC (znS [] l)).length≤13*l.length+1:=by
 have d:=zyH (zbF (hasB [47,92]) l) []
 have f:=zmJ (hasB [47,92]) l
 have e:=zcV (hasB [47,92]) l
 unfold znS
 have g:(zbC ([]:List (List UInt8))).length=0:=rfl
 omega
structure znC (u:UZ) (n:Nat):Prop where
 user:u.user.length≤12*n
 pass:u.pass.length≤12*n
 path:(zbC u.path).length≤13*n+1
 qry:u.query.length≤12*n
 frg:u.frag.length≤12*n
theorem znC.zero (n:Nat):znC zcL n:=⟨Nat.zero_le _,Nat.zero_le _,Nat.zero_le _,Nat.zero_le _,Nat.zero_le _⟩
theorem ygD (l:List UInt8):(ziJ l).length≤12*l.length:=by
 unfold ziJ
 split
 ·simp
 ·rename_i k _
  have h:=ziC 5 ((l.take k).take ((l.take k).findIdx (· ==58)))
  have d:((l.take k).take ((l.take k).findIdx (· ==58))).length≤l.length:=by rw [List.length_take,List.length_take];omega
  omega
theorem yfA (l:List UInt8):(ziN l).length≤12*l.length:=by
 unfold ziN
 split
 ·simp
 ·rename_i k _
  split
  ·have h:=ziC 5 ((l.take k).drop ((l.take k).findIdx (· ==58)+1))
   have d:((l.take k).drop ((l.take k).findIdx (· ==58)+1)).length≤l.length:=by rw [List.length_drop,List.length_take];omega
   omega
  ·simp
theorem zvU (u:UZ) (l:List UInt8) (n:Nat) (A:l.length≤n) (o:u.user.length≤12*n) (D:u.pass.length≤12*n) (j:u.query=[]) (m:u.frag=[]):znC (zdQ u [] l) n:=by
 unfold zdQ zkH
 have B:=z1H (l.take (l.findIdx (hasB [63,35])))
 have g:(l.take (l.findIdx (hasB [63,35]))).length≤n:=by rw [List.length_take];omega
 have e:(l.drop (l.findIdx (hasB [63,35]))).length≤n:=by rw [List.length_drop];omega
 generalize znS [] (l.take (l.findIdx (hasB [63,35])))=pa at*
 generalize l.drop (l.findIdx (hasB [63,35]))=d at*
 have q:=ziC 3 ((d.take (d.findIdx (· ==35))).drop 1)
 have C:=ziC 1 (d.drop (d.findIdx (· ==35)+1))
 have f:((d.take (d.findIdx (· ==35))).drop 1).length≤n:=by rw [List.length_drop,List.length_take];omega
 have i:(d.drop (d.findIdx (· ==35)+1)).length≤n:=by rw [List.length_drop];omega
 unfold frgW qryW
 split<;>split<;>refine ⟨?_,?_,?_,?_,?_⟩<;>simp only [j,m,List.length_nil]<;>omega
theorem z1X (m l:List UInt8) (n:Nat) (i:l.length≤n):znC (zeG m l).1 n:=by
 unfold zeG
 simp only
 have g:(l.take (l.findIdx (hasB [47,92,63,35]))).length≤n:=by rw [List.length_take];omega
 have o:=ygD (l.take (l.findIdx (hasB [47,92,63,35])))
 have j:=yfA (l.take (l.findIdx (hasB [47,92,63,35])))
 have d:(l.drop (l.findIdx (hasB [47,92,63,35]))).length≤n:=by rw [List.length_drop];omega
 have f:(offW (l.drop (l.findIdx (hasB [47,92,63,35])))).length≤n:=by
  unfold offW
  split
  ·simp
  ·rename_i c r e
   rw [e] at d
   simp only [List.length_cons] at d
   split
   ·omega
   ·simp only [List.length_cons];omega
 split
 ·exact .zero n
 ·split
  ·exact .zero n
  ·split
   ·exact .zero n
   ·exact zvU _ _ n f (by simp only;omega) (by simp only;omega) rfl rfl
theorem z4H (t:List UInt8):znC (zbL t none).1 4096:=by
 unfold zbL
 split
 ·exact .zero _
 ·have d:=zuJ t
  unfold znE
  cases h:schW (zgX (zgP t)) with
  |none=>exact .zero _
  |some x=>
   obtain ⟨n,r⟩:=x
   simp only
   split
   ·have:=ydJ h
    have e:=z0N r
    exact z1X _ _ _ (by omega)
   ·exact .zero _
theorem z0M {u:UZ} {n h:Nat} (g:znC u n) (m:(zbD u.host).length≤h) (f:u.scheme.length≤10) (d:u.port≠ -1→(Lib.itoa u.port).length≤30):(zhG u).length≤61*n+h+100:=by
 obtain ⟨i,q,o,A,j⟩:=g
 unfold zhG zfI zqX whoU zaX askU
 by_cases e:u.port= -1
 ·rw [if_pos e]
  split<;>split<;>split<;>split<;>simp only [List.length_append,List.length_cons,List.length_nil]<;>omega
 ·have d:=d e
  rw [if_neg e]
  split<;>split<;>split<;>split<;>simp only [List.length_append,List.length_cons,List.length_nil]<;>omega
theorem zhJ {h:HZ} (d:h.Ok):(zbD h).length≤1000:=by
 match h,d with
 | .name l,d=>
  have:=zlW l
  have:=d.1.size
  show l.length≤_
  omega
 | .addr (.four n),_=>exact Nat.le_trans (yiE n) (by decide)
 | .addr (.six hi lo),d=>
  have:=zuS d.1.1 d.1.2 d.2.1 d.2.2
  show ([91]++zdH hi lo++[93]).length≤_
  simp only [List.length_append,List.length_cons,List.length_nil]
  omega
theorem ykE (u:Nat) (h:u≤65535):(Lib.decDigits u).length≤5:=by
 have e: ∀k:Nat,∀u,u<10^(k+1)→(Lib.decDigits u).length≤k+1:=by
  intro k
  induction k with
  |zero=>intro u d;rw [Lib.decDigits,dif_pos (by omega)];simp
  |succ k f=>
   intro u d
   rw [Lib.decDigits]
   split
   ·simp
   ·have:=f (u/10) (by rw [Nat.div_lt_iff_lt_mul (by decide)];rw [Nat.pow_succ] at d;exact d)
    rw [List.length_append]
    simp
    omega
 exact e 4 u (by omega)
theorem zrQ {n:Int} (d:0≤n) (e:n≤65535):(Lib.itoa n).length≤30:=by
 unfold Lib.itoa
 rw [if_neg (by omega)]
 have:=ykE n.toNat (by omega)
 omega
theorem z3X {m l:List UInt8} (h:(zeG m l).2≠0):(zeG m l).1=zcL:=by
 unfold zeG at*
 simp only at*
 split
 ·rfl
 ·split
  ·rfl
  ·split
   ·rfl
   ·rename_i d f e
    rw [if_neg d,if_neg f,if_neg e] at h
    exact absurd rfl h
theorem znM {t:List UInt8} (h:(zbL t none).2≠0):(zbL t none).1=zcL:=by
 unfold zbL at*
 split
 ·rfl
 ·rename_i f
  rw [if_neg f] at h
  unfold znE at*
  cases d:schW (zgX (zgP t)) with
  |none=>rfl
  |some x=>
   obtain ⟨n,r⟩:=x
   rw [d] at h
   simp only at h ⊢
   split
   ·rename_i e
    rw [if_pos e] at h
    exact z3X h
   ·rfl
theorem ygR (t:List UInt8):(zhG (zbL t none).1).length≤300000∧(zbL t none).1.user.length+(zbL t none).1.pass.length≤100000∧(-1≤(zbL t none).1.port∧(zbL t none).1.port≤65535):=by
 have f:=z4H t
 refine ⟨?_,by have:=f.user;have:=f.pass;omega,?_⟩
 ·by_cases h:(zbL t none).2=0
  ·have d:=zmX t none (fun _ e=>by cases e) h
   have:=z0M f (zhJ d.host) (by rcases d.sch with e|e<;>rw [e]<;>decide) (fun i=>zrQ (by have:=d.port.1;omega) d.port.2.1)
   omega
  ·have g:(zbL t none).1=zcL:=znM h
   rw [g]
   have:=z0M (znC.zero 4096) (h:=0) (by decide) (by decide) (fun _=>zrQ (by decide) (by decide))
   omega
 ·by_cases h:(zbL t none).2=0
  ·have d:=zmX t none (fun _ e=>by cases e) h
   exact ⟨d.port.1,d.port.2.1⟩
  ·have g:(zbL t none).1=zcL:=znM h
   rw [g]
   decide
end
end Go.Proofs.YtegmcmgndllmaaaGreatDoor
