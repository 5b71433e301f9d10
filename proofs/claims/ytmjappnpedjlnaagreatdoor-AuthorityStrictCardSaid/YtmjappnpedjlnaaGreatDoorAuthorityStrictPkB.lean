/-
  What the law AuthorityStrict leans on, and its walk (2 of 35).
-/
import Derived.IntWalk
import Derived.StillTailTactics
import Derived.Deep.RegionHeld3
import Derived.Deep.AppendLies
import Derived.Test.YtmjappnpedjlnaaGreatDoorAuthorityStrictPkA
namespace Go.Proofs.YtmjappnpedjlnaaGreatDoor
set_option maxRecDepth 100000
set_option maxHeartbeats 16000000
abbrev zzE := @Lib.hid
abbrev zzF := @Nat.le_refl
abbrev zzG := @decide_eq_false
abbrev zzH := @decide_eq_true
abbrev zzI := @Go.RowKit.Below.refl
section
section
open Go.RowKit
def zdO:List UInt8→Option UInt8
 |c::a::b::_=>if c.toNat=37∧0≤valZ (a.toNat:Int)∧0≤valZ (b.toNat:Int) then some (UInt8.ofNat ((valZ (a.toNat:Int)*16+valZ (b.toNat:Int)).toNat)) else none
 |_=>none
def decL:Nat→List UInt8→List UInt8
 |0,_=>[]
 |_+1,[]=>[]
 |f+1,c::r=>match zdO (c::r) with
  |some v=>v::decL f (r.drop 2)
  |none=>c::decL f r
def decB (l:List UInt8):List UInt8:=decL l.length l
theorem zjZ (r:Int):valZ r<16:=by unfold valZ;(repeat' split)<;>omega
theorem ztW (r:Int): -1≤valZ r:=by unfold valZ;(repeat' split)<;>omega
theorem zdY (s:ByteArray) (k:Nat) (h:k<s.size):s.data.toList.drop k=s[k]::s.data.toList.drop (k+1):=by
 rw [List.drop_eq_getElem_cons (by simpa using h)]
 rfl
theorem zhS (s:ByteArray) (k:Nat) (h: ¬k<s.size):s.data.toList.drop k=[]:=List.drop_eq_nil_of_le (by simpa using h)
theorem zgU (s:ByteArray) (k:Nat) (hk:k+2<s.size) (h37:s[k].toNat=37) (h1:0≤valZ (s[k+1].toNat:Int)) (h2:0≤valZ (s[k+2].toNat:Int)):
  zdO (s.data.toList.drop k)=some (UInt8.ofNat ((valZ (s[k+1].toNat:Int)*16+valZ (s[k+2].toNat:Int)).toNat)):=by
 rw [zdY s k (by omega),zdY s (k+1) (by omega),zdY s (k+2) (by omega)]
 simp only [zdO]
 rw [if_pos ⟨h37,h1,h2⟩]
theorem zeD (s:ByteArray) (k:Nat) (hk:k+2<s.size) (h:s[k].toNat≠37∨valZ (s[k+1].toNat:Int)<0∨valZ (s[k+2].toNat:Int)<0):
  zdO (s.data.toList.drop k)=none:=by
 rw [zdY s k (by omega),zdY s (k+1) (by omega),zdY s (k+2) (by omega)]
 simp only [zdO]
 rw [if_neg (by omega)]
theorem zfX (s:ByteArray) (k:Nat) (hk:s.size≤k+2):zdO (s.data.toList.drop k)=none:=by
 by_cases h0:k<s.size
 ·rw [zdY s k h0]
  by_cases h1:k+1<s.size
  ·rw [zdY s (k+1) h1,zhS s (k+2) (by omega)]
   rfl
  ·rw [zhS s (k+1) h1]
   rfl
 ·rw [zhS s k h0]
  rfl
theorem zwJ (a b:Int) (h0:0≤a) (h1:a<16) (h2:0≤b) (h3:b<16):bits BinOp.or IntKind.i64 (a*16) b % 256=a*16+b:=by
 have key: ∀a b:Fin 16,bits BinOp.or IntKind.i64 ((a.val:Int)*16) (b.val:Int) % 256=(a.val:Int)*16+(b.val:Int):=by decide+kernel
 have:=key ⟨a.toNat,by omega⟩ ⟨b.toNat,by omega⟩
 simp only [Int.toNat_of_nonneg h0,Int.toNat_of_nonneg h2] at this
 exact this
def znT (o:Option UInt8) (w:World) (e:Ending) (w':World):Prop:=e= .returned (.tuple #[.int .u8 ((o.getD 0).toNat:Int),.bool o.isSome])∧ ∃n,w'=w.drewN n
theorem zdT {o:Option UInt8} {w:World} {e:Ending} {w':World} (ho:o=none) (he:e= .returned (.tuple #[.int .u8 0,.bool false])) (n:Nat) (hw:w'=w.drewN n):znT o w e w':=by
 subst ho
 exact ⟨he,n,hw⟩
theorem zmF {o:Option UInt8} {v:UInt8} {x:Int} {w:World} {e:Ending} {w':World} (ho:o=some v) (he:e= .returned (.tuple #[.int .u8 x,.bool true])) (hx:x=(v.toNat:Int)) (n:Nat) (hw:w'=w.drewN n):znT o w e w':=by
 subst ho hx
 exact ⟨he,n,hw⟩
theorem zjD (x:Int) (h0:0≤x) (h1:x<256):x=((UInt8.ofNat x.toNat).toNat:Int):=by
 have:x.toNat % 256=x.toNat:=Nat.mod_eq_of_lt (by omega)
 simp [this]
 omega
theorem ziL (s:ByteArray) (k:Nat) (w:World) (hs:s.size≤1073741824) (hk:k<s.size):
  Calls Tryz.prog 178 #[.string s,.int .i64 k] w (znT (zdO (s.data.toList.drop k)) w):=by
 obtain ⟨c0,hc0⟩: ∃c,s[k].toNat=c:=⟨_,rfl⟩
 by_cases h2:k+2<s.size
 ·obtain ⟨c1,hc1⟩: ∃c,s[k+1].toNat=c:=⟨_,rfl⟩
  obtain ⟨c2,hc2⟩: ∃c,s[k+2].toNat=c:=⟨_,rfl⟩
  have l1:c1<256:=by rw [←hc1];exact s[k+1].toNat_lt
  have l2:c2<256:=by rw [←hc2];exact s[k+2].toNat_lt
  by_cases h37:c0=37
  ·subst h37
   obtain ⟨v1,hv1⟩: ∃v,valZ (c1:Int)=v:=⟨_,rfl⟩
   obtain ⟨v2,hv2⟩: ∃v,valZ (c2:Int)=v:=⟨_,rfl⟩
   have b1:v1<16:=by rw [←hv1];exact zjZ _
   have b2:v2<16:=by rw [←hv2];exact zjZ _
   have b3: -1≤v1:=by rw [←hv1];exact ztW _
   have b4: -1≤v2:=by rw [←hv2];exact ztW _
   have hb37:((37:Int) !=37)=false:=by decide
   by_cases hv:0≤v1∧0≤v2
   ·obtain ⟨b5,b6⟩:=hv
    have HT:=zzE (zgU s k h2 hc0 (by rw [hc1,hv1];exact b5) (by rw [hc2,hv2];exact b6))
    rw [hc1,hc2,hv1,hv2] at HT
    have HO:=zzE (zwJ v1 v2 b5 b1 b6 b2)
    have HX:=zzE (zjD (v1*16+v2) (by omega) (by omega))
    have p1:(0:Int)≤(k:Int)+1:=by omega
    have p2:(0:Int)≤(k:Int)+2:=by omega
    have p3:(k:Int)+1<(s.size:Int):=by omega
    have p4:(k:Int)+2<(s.size:Int):=by omega
    have q1:IntKind.i64.wrap ((k:Int)+1)=(k:Int)+1:=IntWalk.i64_in _ (by omega)
    have q2:IntKind.i64.wrap ((k:Int)+2)=(k:Int)+2:=IntWalk.i64_in _ (by omega)
    have r1:((k:Int)+1).toNat=k+1:=by omega
    have r2:((k:Int)+2).toNat=k+2:=by omega
    go_enter Tryz.func178,Tryz.ntmps178
    go_wp2_with fail
    go_quiet ((go_at_call 129;exact Calls.quiet_of_same ((zbK _ _).mono fun _ _ h=>⟨h.1,h.2.symm⟩)))
    clear q1 q2 r1 r2
    go_wp2
    go_ret2
    exact zmF HT.out rfl (HO.out.trans HX.out) nq rfl
   ·have HT:=zzE (zeD s k h2 (by rw [hc1,hc2,hv1,hv2];omega))
    have p1:(0:Int)≤(k:Int)+1:=by omega
    have p2:(0:Int)≤(k:Int)+2:=by omega
    have p3:(k:Int)+1<(s.size:Int):=by omega
    have p4:(k:Int)+2<(s.size:Int):=by omega
    by_cases hv1n:v1<0
    all_goals
     have q1:IntKind.i64.wrap ((k:Int)+1)=(k:Int)+1:=IntWalk.i64_in _ (by omega)
     have q2:IntKind.i64.wrap ((k:Int)+2)=(k:Int)+2:=IntWalk.i64_in _ (by omega)
     have r1:((k:Int)+1).toNat=k+1:=by omega
     have r2:((k:Int)+2).toNat=k+2:=by omega
     go_enter Tryz.func178,Tryz.ntmps178
     go_wp2_with fail
     go_quiet ((go_at_call 129;exact Calls.quiet_of_same ((zbK _ _).mono fun _ _ h=>⟨h.1,h.2.symm⟩)))
     clear q1 q2 r1 r2
     have hv2n:v1<0∨v2<0:=by omega
     go_wp2
     all_goals
      go_ret2
      exact zdT HT.out rfl nq rfl
  ·have HT:=zzE (zeD s k h2 (.inl (by rw [hc0];exact h37)))
   have hb:((c0:Int) !=37)=true:=by rw [bne_iff_ne];omega
   go_enter Tryz.func178,Tryz.ntmps178
   go_wp2
   go_ret2
   exact zdT HT.out rfl 0 rfl
 ·have HT:=zzE (zfX s k (by omega))
  by_cases h37:c0=37
  ·subst h37
   go_enter Tryz.func178,Tryz.ntmps178
   go_wp2
   go_ret2
   exact zdT HT.out rfl 0 rfl
  ·have hb:((c0:Int) !=37)=true:=by rw [bne_iff_ne];omega
   go_enter Tryz.func178,Tryz.ntmps178
   go_wp2
   go_ret2
   exact zdT HT.out rfl 0 rfl
theorem zjS (s:ByteArray) (k:Nat) (w:World) (hs:s.size≤1073741824) (hk:k<s.size):
  Calls Tryz.prog 55 #[.string s,.int .i64 k] w fun e w'=>e= .returned (.bool (zdO (s.data.toList.drop k)).isSome)∧w=w':=by
 obtain ⟨c0,hc0⟩: ∃c,s[k].toNat=c:=⟨_,rfl⟩
 by_cases h2:k+2<s.size
 ·obtain ⟨c1,hc1⟩: ∃c,s[k+1].toNat=c:=⟨_,rfl⟩
  obtain ⟨c2,hc2⟩: ∃c,s[k+2].toNat=c:=⟨_,rfl⟩
  have l1:c1<256:=by rw [←hc1];exact s[k+1].toNat_lt
  have l2:c2<256:=by rw [←hc2];exact s[k+2].toNat_lt
  by_cases h37:c0=37
  ·subst h37
   obtain ⟨v1,hv1⟩: ∃v,valZ (c1:Int)=v:=⟨_,rfl⟩
   obtain ⟨v2,hv2⟩: ∃v,valZ (c2:Int)=v:=⟨_,rfl⟩
   by_cases b5:0≤v1
   ·by_cases b6:0≤v2
    ·have HT:=zzE (congrArg Option.isSome (zgU s k h2 hc0 (by rw [hc1,hv1];exact b5) (by rw [hc2,hv2];exact b6)))
     go_enter Tryz.func55,Tryz.ntmps55
     go_wp2_with (go_at_call 108;refine (zbE _ _).mono ?_;rintro e w' ⟨rfl,rfl⟩)
     go_ret
     exact ⟨zaJ (by rw [HT.out];simp [*]),rfl⟩
    ·have HT:=zzE (congrArg Option.isSome (zeD s k h2 (by rw [hc1,hc2,hv1,hv2];omega)))
     go_enter Tryz.func55,Tryz.ntmps55
     go_wp2_with (go_at_call 108;refine (zbE _ _).mono ?_;rintro e w' ⟨rfl,rfl⟩)
     go_ret
     exact ⟨zaJ (by rw [HT.out];simp [*];try omega),rfl⟩
   ·have HT:=zzE (congrArg Option.isSome (zeD s k h2 (by rw [hc1,hc2,hv1,hv2];omega)))
    go_enter Tryz.func55,Tryz.ntmps55
    go_wp2_with (go_at_call 108;refine (zbE _ _).mono ?_;rintro e w' ⟨rfl,rfl⟩)
    all_goals
     go_ret
     exact ⟨zaJ (by rw [HT.out];simp [*];try omega),rfl⟩
  ·have HT:=zzE (congrArg Option.isSome (zeD s k h2 (.inl (by rw [hc0];exact h37))))
   have hb:((c0:Int)==37)=false:=beq_eq_false_iff_ne.2 (by omega)
   go_enter Tryz.func55,Tryz.ntmps55
   go_wp2
   go_ret
   exact ⟨zaJ (by rw [HT.out];first|rfl|(simp [*];done)),rfl⟩
 ·have HT:=zzE (congrArg Option.isSome (zfX s k (by omega)))
  go_enter Tryz.func55,Tryz.ntmps55
  go_wp2
  go_ret
  exact ⟨zaJ (by rw [HT.out];first|rfl|(simp;omega)),rfl⟩
theorem zpB (s:ByteArray) (f k:Nat) (h: ¬k<s.size):decL f (s.data.toList.drop k)=[]:=by
 rw [zhS s k h]
 cases f<;>rfl
theorem zkY (s:ByteArray) (f k:Nat) (v:UInt8) (h:k<s.size) (ht:zdO (s.data.toList.drop k)=some v):decL (f+1) (s.data.toList.drop k)=v::decL f (s.data.toList.drop (k+3)):=by
 rw [zdY s k h] at ht ⊢
 simp only [decL,ht,List.drop_drop]
theorem zmM (s:ByteArray) (f k:Nat) (h:k<s.size) (ht:zdO (s.data.toList.drop k)=none):decL (f+1) (s.data.toList.drop k)=s[k]::decL f (s.data.toList.drop (k+1)):=by
 rw [zdY s k h] at ht ⊢
 simp only [decL,ht]
theorem zjJ (s:ByteArray) (k:Nat) (v:UInt8) (h:zdO (s.data.toList.drop k)=some v):k+2<s.size:=by
 by_cases hk:k+2<s.size
 ·exact hk
 ·rw [zfX s k (by omega)] at h;cases h
theorem zrB (s:ByteArray) (w:World) (hs:s.size≤1073741824):
  Calls Tryz.prog 127 #[.string s] w fun e w'=>e= .returned (.string ⟨(decB s.data.toList).toArray⟩)∧Below w.heap.size w w':=by
 go_enter Tryz.func127,Tryz.ntmps127
 go_wp2
 go_loopw [4] (fun i wr=> ∃(k fuel:Nat) (T:List UInt8),i= .int .i64 k∧k≤s.size∧Lib.IsBuilderF 121 5 w.heap.size w.heap.size (Lib.byteCells T) wr∧Below w.heap.size w wr∧T.length≤k∧s.size≤k+fuel∧Hid (T++decL fuel (s.data.toList.drop k)=decB s.data.toList)) (fun i _=>s.size - (intOf i).toNat)
 case atStart=>
  refine ⟨0,s.size,[],rfl,Nat.zero_le _,Lib.IsBuilderF.of (Lib.fresh_isBuilder _ _ w),(zzI _ w).alloc (zzF _) _,by simp,by omega,?_⟩
  show []++decL s.size (s.data.toList.drop 0)=decL s.data.toList.length s.data.toList
  rw [zaB];rfl
 case round=>
  obtain ⟨k,fuel,T,rfl,hk,hI,hbw,hTl,hfu,HD⟩:=hrel
  have hsz:=hbw.size
  by_cases hlt:k<s.size
  ·obtain ⟨f,rfl⟩: ∃f,fuel=f+1:=⟨fuel - 1,by omega⟩
   cases hth:zdO (s.data.toList.drop k) with
   |some v=>
    have hroom:=zjJ s k v hth
    have hD2:=HD.out
    rw [zkY s f k v hlt hth] at hD2
    have HD2:=zzE hD2
    have HTH:=zzE hth
    clear hD2 hth
    go_wp2_with fail
    refine (ziL s k _ hs hlt).mono ?_
    rw [HTH.out]
    rintro e w' ⟨rfl,nq,rfl⟩
    have hI2:Lib.IsBuilderF 121 5 w.heap.size w.heap.size (Lib.byteCells T) (wr.drewN nq):=hI
    have hb2:=zaS hbw nq
    have hsz2:w.heap.size≤(wr.drewN nq).heap.size:=hsz
    generalize wr.drewN nq=w2 at*
    go_wp2_with fail
    refine (Tryz.Builder_WriteByte_k w.heap.size w.heap.size _ _ _ hI2 (by rw [Lib.byteCells_length];omega) hsz2).mono ?_
    rintro e w3 ⟨rfl,h3,b3,_⟩
    go_wp2
    go_roundw
    case rel=>
     refine ⟨k+3,f,T++[v],by go_num,by omega,?_,hb2.trans b3,by simp;omega,by omega,?_⟩
     ·rw [zhB T v _ rfl];exact .inr h3
     ·show (T++[v])++_=_
      rw [List.append_assoc];exact HD2.out
    case measure=>simp [intOf];omega
   |none=>
    have hD2:=HD.out
    rw [zmM s f k hlt hth] at hD2
    have HD2:=zzE hD2
    have HTH:=zzE hth
    clear hD2 hth
    go_wp2_with fail
    refine (ziL s k _ hs hlt).mono ?_
    rw [HTH.out]
    rintro e w' ⟨rfl,nq,rfl⟩
    have hI2:Lib.IsBuilderF 121 5 w.heap.size w.heap.size (Lib.byteCells T) (wr.drewN nq):=hI
    have hb2:=zaS hbw nq
    have hsz2:w.heap.size≤(wr.drewN nq).heap.size:=hsz
    generalize wr.drewN nq=w2 at*
    go_wp2_with fail
    refine (Tryz.Builder_WriteByte_k w.heap.size w.heap.size _ _ _ hI2 (by rw [Lib.byteCells_length];omega) hsz2).mono ?_
    rintro e w3 ⟨rfl,h3,b3,_⟩
    go_wp2
    go_roundw
    case rel=>
     refine ⟨k+1,f,T++[s[k]],by go_num,by omega,?_,hb2.trans b3,by simp;omega,by omega,?_⟩
     ·rw [zhB T s[k] _ rfl];exact .inr h3
     ·show (T++[s[k]])++_=_
      rw [List.append_assoc];exact HD2.out
    case measure=>simp [intOf];omega
  ·have hfin:T=decB s.data.toList:=by
    have:=HD.out
    rwa [zpB s fuel k hlt,List.append_nil] at this
   subst hfin
   go_wp2_with fail
   refine (Tryz.Builder_String_any_k w.heap.size w.heap.size _ _ hI (by omega)).mono ?_
   rintro e w1 ⟨rfl,_,b1,_⟩
   go_wp2
   go_ret
   exact ⟨rfl,hbw.trans b1⟩
theorem zgB (s:ByteArray) (w:World) (hs:s.size≤1073741824):
  Calls Tryz.prog 131 #[.string s] w fun e w'=>e= .returned (.string ⟨(decB s.data.toList).toArray⟩)∧Below w.heap.size w w':=by
 obtain ⟨i0,hi,hz0,hz1,hz2⟩:=info_parts Tryz.infoByte
 go_enter Tryz.func131,Tryz.ntmps131
 go_wp2
 go_loopw [3,4] (fun v i wr=> ∃(k fuel:Nat) (T:List UInt8),i= .int .i64 k∧k≤s.size∧Gath w.heap.size wr v T∧Below w.heap.size w wr∧T.length≤k∧s.size≤k+fuel∧Hid (T++decL fuel (s.data.toList.drop k)=decB s.data.toList)) (fun _ i _=>s.size - (intOf i).toNat)
 case atStart=>
  refine ⟨0,s.size,[],rfl,Nat.zero_le _,Gath.nil _ _,zzI _ w,by simp,by omega,?_⟩
  show []++decL s.size (s.data.toList.drop 0)=decL s.data.toList.length s.data.toList
  rw [zaB];rfl
 case round=>
  obtain ⟨k,fuel,T,rfl,hk,hown,hbw,hTl,hfu,HD⟩:=hrel
  have hsz:=hbw.size
  unfold Gath at hown
  by_cases hlt:k<s.size
  ·obtain ⟨f,rfl⟩: ∃f,fuel=f+1:=⟨fuel - 1,by omega⟩
   cases hth:zdO (s.data.toList.drop k) with
   |some v=>
    have hroom:=zjJ s k v hth
    have hD2:=HD.out
    rw [zkY s f k v hlt hth] at hD2
    have HD2:=zzE hD2
    have hth2:(zdO (s.data.toList.drop k)).isSome=true:=by rw [hth];rfl
    obtain ⟨c1,hc1⟩: ∃c,s[k+1].toNat=c:=⟨_,rfl⟩
    obtain ⟨c2,hc2⟩: ∃c,s[k+2].toNat=c:=⟨_,rfl⟩
    have l1:c1<256:=by rw [←hc1];exact s[k+1].toNat_lt
    have l2:c2<256:=by rw [←hc2];exact s[k+2].toNat_lt
    obtain ⟨v1,hv1⟩: ∃v,valZ (c1:Int)=v:=⟨_,rfl⟩
    obtain ⟨v2,hv2⟩: ∃v,valZ (c2:Int)=v:=⟨_,rfl⟩
    have b1:v1<16:=by rw [←hv1];exact zjZ _
    have b2:v2<16:=by rw [←hv2];exact zjZ _
    have hgood:0≤v1∧0≤v2∧s[k].toNat=37:=by
     by_cases hg:s[k].toNat≠37∨v1<0∨v2<0
     ·rw [zeD s k hroom (by rw [hc1,hc2,hv1,hv2];exact hg)] at hth;cases hth
     ·omega
    obtain ⟨b5,b6,h37⟩:=hgood
    have hv:v=UInt8.ofNat ((v1*16+v2).toNat):=by
     have h3:=zgU s k hroom h37 (by rw [hc1,hv1];exact b5) (by rw [hc2,hv2];exact b6)
     rw [hth,hc1,hc2,hv1,hv2] at h3
     exact Option.some.inj h3
    have hvx:(v.toNat:Int)=16*v1+v2:=by
     rw [hv,←zjD (v1*16+v2) (by omega) (by omega)];omega
    have HVX:=zzE hvx
    have HTH:=zzE hth
    clear hD2 hth hv hvx h37
    go_wp2_with (go_at_call 55;refine (zjS s k _ hs hlt).mono ?_;rintro e w' ⟨rfl,rfl⟩)
    have p1:(0:Int)≤(k:Int)+1:=by omega
    have p2:(0:Int)≤(k:Int)+2:=by omega
    have p3:(k:Int)+1<(s.size:Int):=by omega
    have p4:(k:Int)+2<(s.size:Int):=by omega
    have q1:IntKind.i64.wrap ((k:Int)+1)=(k:Int)+1:=IntWalk.i64_in _ (by omega)
    have q2:IntKind.i64.wrap ((k:Int)+2)=(k:Int)+2:=IntWalk.i64_in _ (by omega)
    have q3:IntKind.i64.wrap (16*v1)=16*v1:=IntWalk.i64_in _ (by omega)
    have q4:IntKind.i64.wrap (16*v1+v2)=16*v1+v2:=IntWalk.i64_in _ (by omega)
    have r1:((k:Int)+1).toNat=k+1:=by omega
    have q5:IntKind.i32.wrap (c1:Int)=(c1:Int):=IntWalk.i32_in _ (by omega)
    have q6:IntKind.i32.wrap (c2:Int)=(c2:Int):=IntWalk.i32_in _ (by omega)
    have q7:IntKind.u8.wrap (16*v1+v2)=16*v1+v2:=IntWalk.u8_in _ (by omega)
    have r2:((k:Int)+2).toNat=k+2:=by omega
    go_region_held3 (fun _=>True) (exact trivial)
     (first
      |(go_at_call 108;refine (zbE _ _).mono ?_;rintro e w' ⟨rfl,rfl⟩)
      |(refine step_append_lies _ (by rfl) _ _ _ (by rfl) w.heap.size 5 i0 _ 1 1 Tryz.underlying119 hi hz0 hz1 hz2 rfl (by omega) _ T.length (Lib.byteCells T) (by rfl) ((hown.alloc _).drew) ⟨wr.heap.size,0,none⟩ 1 1 [.int .u8 (16*v1+v2)] (by rfl) (by rfl) (World.news_of_block (cs:= #[.int .u8 (16*v1+v2)]) (t:=5) (fr:=(0,0)) (heap_alloc_new wr _)) (by simp [Value.oneCell']) (by omega) (by unfold maxLen;omega) (by omega) (by simp;omega) (wr.heap.size+1) (by simp) ?_;intro gg cap w1 hown1 hgrow hat hlt2))
    all_goals
     clear q1 q2 q3 q4 q5 q6 q7 r1 r2
     have hbw3:Below w.heap.size w w1:=((hbw.alloc (by omega) _).drew).grown hgrow (by simp;omega) (fun j hj=>by have:=hown.lt j hj;omega)
     clear hgrow hown hat
     go_wp2
     go_roundw
     case rel=>
      refine ⟨k+3,f,T++[v],by go_num,by omega,Gath.snoc hown1 HVX.out,hbw3,by simp;omega,by omega,?_⟩
      show (T++[v])++_=_
      rw [List.append_assoc];exact HD2.out
     case measure=>simp [intOf];omega
   |none=>
    have hD2:=HD.out
    rw [zmM s f k hlt hth] at hD2
    have HD2:=zzE hD2
    have hth2:(zdO (s.data.toList.drop k)).isSome=false:=by rw [hth];rfl
    obtain ⟨c,hc⟩: ∃c,s[k].toNat=c:=⟨_,rfl⟩
    have HC:=zzE hc
    clear hD2 hth
    go_wp2_with (first|(go_at_call 55;refine (zjS s k _ hs hlt).mono ?_;rintro e w' ⟨rfl,rfl⟩)|(at_builtin;refine zaW _ rfl _ _ 119 rfl w.heap.size 5 i0 (.int .u8 0) 1 Tryz.underlying119 hi hz0 hz1 hz2 rfl _ _ _ rfl hown (.int .u8 (c:Int)) rfl rfl (by omega) (by omega) hsz ?_;intro v' w1 hown' hk'))
    go_roundw
    case rel=>
     refine ⟨k+1,f,T++[s[k]],by go_num,by omega,Gath.snoc hown' (by rw [HC.out]),hbw.trans hk',by simp;omega,by omega,?_⟩
     show (T++[s[k]])++_=_
     rw [List.append_assoc];exact HD2.out
    case measure=>simp [intOf];omega
  ·have hfin:decB s.data.toList=T:=by
    have:=HD.out
    rw [zpB s fuel k hlt,List.append_nil] at this
    exact this.symm
   have hcv:=Gath.conv hown
   have HF:=zzE hfin
   clear hfin
   go_wp2
   go_ret
   exact ⟨by rw [HF.out];rfl,hbw⟩
def digC (b:Int) (c:UInt8):Bool:=decide (0≤valZ (c.toNat:Int)∧valZ (c.toNat:Int)<b)
def zaQ (b:Int) (l:List UInt8):Bool:=l.all (digC b)
def capZ (x:Int):Int:=if 1099511627776<x then 1099511627776 else x
def znZ (b:Int) (n:Int) (c:UInt8):Int:=capZ (n*b+valZ (c.toNat:Int))
def numZ (b:Int) (l:List UInt8):Int:=l.foldl (znZ b) 0
def zeH (l:List UInt8):List UInt8×Int:=
 match l with
 |a::c::r=>if a.toNat=48 then (if c.toNat=120∨c.toNat=88 then (r,16) else (c::r,8)) else (a::c::r,10)
 |_=>(l,10)
def zbG (l:List UInt8):Int×Bool:=
 if l.isEmpty then (0,false) else if zaQ (zeH l).2 (zeH l).1 then (numZ (zeH l).2 (zeH l).1,true) else (0,false)
theorem zqQ (b:Int) (s:ByteArray) (k:Nat) (h:k<s.size):zaQ b (s.data.toList.take (k+1))=(zaQ b (s.data.toList.take k)&&digC b s[k]):=by
 rw [zcX s k h];simp [zaQ]
theorem zmJ (b:Int) (s:ByteArray) (k:Nat) (h:k<s.size):numZ b (s.data.toList.take (k+1))=znZ b (numZ b (s.data.toList.take k)) s[k]:=by
 rw [zcX s k h];simp [numZ]
theorem zgK {b:Int} {c:UInt8} {v:Int} (hv:valZ (c.toNat:Int)=v) (h0:0≤v) (h1:v<b):digC b c=true:=zzH (by rw [hv];exact ⟨h0,h1⟩)
theorem zcN {b:Int} {c:UInt8} {v:Int} (hv:valZ (c.toNat:Int)=v) (h:v<0∨b≤v):digC b c=false:=zzG (by rw [hv];omega)
theorem zcJ (b:Int) (s:ByteArray) (k:Nat) (h:k<s.size) (hc:digC b s[k]=false):zaQ b s.data.toList=false:=by
 unfold zaQ
 rw [List.all_eq_false]
 refine ⟨s[k],?_,by rw [hc];simp⟩
 show s.data[k]∈_
 simp
theorem zfC (b:Int) (s:ByteArray) (k:Nat) (h:k<s.size) (hp:zaQ b (s.data.toList.take k)=true) (hc:digC b s[k]=true):zaQ b (s.data.toList.take (k+1))=true:=by
 rw [zqQ b s k h,hp,hc];rfl
theorem zfY (r:Int) (h:128≤r):valZ r= -1:=by
 unfold valZ;(repeat' split)<;>omega
theorem zjV (r:Int):valZ r<16:=by
 unfold valZ;(repeat' split)<;>omega
theorem zyR (x:Int):capZ x≤1099511627776:=by unfold capZ;split<;>omega
theorem ztP {x:Int} (h:1099511627776<x):capZ x=1099511627776:=if_pos h
theorem zvO {x:Int} (h: ¬1099511627776<x):capZ x=x:=if_neg h
theorem zoQ (b n:Int) (c:UInt8) (v:Int) (hv:valZ (c.toNat:Int)=v):znZ b n c=capZ (n*b+v):=by rw [znZ,hv]
theorem zjG (l:List UInt8):(zeH l).2=8∨(zeH l).2=10∨(zeH l).2=16:=by
 unfold zeH
 repeat' split
 all_goals simp
theorem zkF (s:ByteArray) (h:2≤s.size): ∃r,s.data.toList=s[0]::s[1]::r∧s.data.toList.drop 2=r:=by
 refine ⟨s.data.toList.drop 2,?_,rfl⟩
 have e0:s.data.toList=s.data.toList.drop 0:=rfl
 conv=>lhs;rw [e0,List.drop_eq_getElem_cons (by simp;omega),List.drop_eq_getElem_cons (by simp;omega)]
 rfl
theorem ziS (s:ByteArray) (h:s.size<2):zeH s.data.toList=(s.data.toList,10):=by
 have hl:=zaB s
 match hd:s.data.toList,hl with
 |[],_=>rfl
 |[a],_=>rfl
 |a::c::r,hl=>simp at hl;omega
theorem zlP (s:ByteArray) (h:2≤s.size) (h0:s[0].toNat≠48):zeH s.data.toList=(s.data.toList,10):=by
 obtain ⟨r,hr,_⟩:=zkF s h
 rw [hr];simp [zeH,h0]
theorem zlU (s:ByteArray) (h:2≤s.size) (h0:s[0].toNat=48) (h1:s[1].toNat=120∨s[1].toNat=88):zeH s.data.toList=(s.data.toList.drop 2,16):=by
 obtain ⟨r,hr,h2⟩:=zkF s h
 rw [h2,hr];simp only [zeH,h0,h1,if_true]
theorem zmT (s:ByteArray) (h:2≤s.size) (h0:s[0].toNat=48) (h1: ¬(s[1].toNat=120∨s[1].toNat=88)):zeH s.data.toList=(s.data.toList.drop 1,8):=by
 obtain ⟨r,hr,_⟩:=zkF s h
 rw [hr];simp only [zeH,h0,h1,if_true,if_false];rfl
theorem zeZ (s:ByteArray) (a:Nat):s.extract a s.size=⟨(s.data.toList.drop a).toArray⟩:=
 zdK s a s.size _ (List.take_of_length_le (by simp))
def zrK (w:World) (x:List UInt8×Int) (e:Ending) (w':World):Prop:=e= .returned (.tuple #[.string ⟨x.1.toArray⟩,.int .i64 x.2])∧w=w'
theorem zfF {w:World} {x:List UInt8×Int} {y:ByteArray} {b:Int} {l:List UInt8} (h:x=(l,b)) (hy:y=⟨l.toArray⟩):zrK w x (.returned (.tuple #[.string y,.int .i64 b])) w:=by
 subst h hy;exact ⟨rfl,rfl⟩
theorem ziB (s:ByteArray) (w:World) (hs:s.size≤1073741824):
  Calls Tryz.prog 192 #[.string s] w (zrK w (zeH s.data.toList)):=by
 by_cases h2:s.size<2
 ·have HR:=zzE (ziS s h2)
  go_enter Tryz.func192,Tryz.ntmps192
  go_wp2
  go_ret2
  exact zfF HR.out (by simp)
 ·have h2':2≤s.size:=by omega
  have l0:0<s.size:=by omega
  have l1:1<s.size:=by omega
  obtain ⟨a,ha⟩: ∃a,s[0].toNat=a:=⟨_,rfl⟩
  obtain ⟨c,hc⟩: ∃a,s[1].toNat=a:=⟨_,rfl⟩
  by_cases h48:a=48
  ·subst h48
   by_cases hx:c=120∨c=88
   ·have HR:=zzE (zlU s h2' ha (by rw [hc];exact hx))
    rcases hx with rfl|rfl
    all_goals
     go_enter Tryz.func192,Tryz.ntmps192
     go_wp2
     go_ret2
     exact zfF HR.out (zeZ s 2)
   ·have HR:=zzE (zmT s h2' ha (by rw [hc];exact hx))
    have b1:((c:Int)==120)=false:=beq_eq_false_iff_ne.2 (by omega)
    have b2:((c:Int)==88)=false:=beq_eq_false_iff_ne.2 (by omega)
    clear hx
    go_enter Tryz.func192,Tryz.ntmps192
    go_wp2
    go_ret2
    exact zfF HR.out (zeZ s 1)
  ·have HR:=zzE (zlP s h2' (by rw [ha];exact h48))
   have b1:((a:Int) !=48)=true:=by rw [bne_iff_ne];omega
   go_enter Tryz.func192,Tryz.ntmps192
   go_wp2
   go_ret2
   exact zfF HR.out (by simp)
def zpJ (w:World) (x:Int×Bool) (e:Ending) (w':World):Prop:=e= .returned (.tuple #[.int .u64 x.1,.bool x.2])∧Below w.heap.size w w'
theorem zbL {w w':World} {x:Int×Bool} {n:Int} {b:Bool} (h:x=(n,b)) (hb:Below w.heap.size w w'):zpJ w x (.returned (.tuple #[.int .u64 n,.bool b])) w':=by
 subst h;exact ⟨rfl,hb⟩
theorem zaP (s:ByteArray) (b:Int) (w:World) (hs:s.size≤1073741824):
  Calls Tryz.prog 186 #[.string s,.int .i64 b] w fun e w'=>e= .returned (.bool (zaQ b s.data.toList))∧w=w':=by
 go_enter Tryz.func186,Tryz.ntmps186
 go_wp2
 go_loop [5] (fun i=> ∃k:Nat,k≤s.size∧i= .int .i64 k∧Hid (zaQ b (s.data.toList.take k)=true)) (fun i=>s.size - (intOf i).toNat)
 case atStart=>exact ⟨0,Nat.zero_le _,rfl,rfl⟩
 case round=>
  obtain ⟨k,hk,rfl,H⟩:=hrel
  by_cases hlt:k<s.size
  ·obtain ⟨c,hc⟩: ∃c,(s[k]'hlt).toNat=c:=⟨_,rfl⟩
   have hc256:c<256:=by rw [←hc];exact (s[k]'hlt).toNat_lt
   obtain ⟨v,hv⟩: ∃v,valZ (c:Int)=v:=⟨_,rfl⟩
   have HV:Hid (valZ (s[k].toNat:Int)=v):=by show valZ (s[k].toNat:Int)=v;rw [hc];exact hv
   by_cases h0:v<0
   ·have HF:=zzE (zcJ b s k hlt (zcN HV.out (.inl h0)))
    go_wp2_with (go_at_call 108;refine (zbE _ _).mono ?_;rintro e w' ⟨rfl,rfl⟩)
    go_ret
    exact ⟨zaJ HF.out.symm,rfl⟩
   ·by_cases h1:b≤v
    ·have HF:=zzE (zcJ b s k hlt (zcN HV.out (.inr h1)))
     go_wp2_with (go_at_call 108;refine (zbE _ _).mono ?_;rintro e w' ⟨rfl,rfl⟩)
     go_ret
     exact ⟨zaJ HF.out.symm,rfl⟩
    ·have HF:=zzE (zfC b s k hlt H.out (zgK HV.out (by omega) (by omega)))
     go_wp2_with (go_at_call 108;refine (zbE _ _).mono ?_;rintro e w' ⟨rfl,rfl⟩)
     go_round
     case rel=>exact ⟨k+1,by omega,by go_num,HF⟩
     case measure=>simp [intOf];omega
  ·have HF:Hid (zaQ b s.data.toList=true):=by
    show zaQ b s.data.toList=true
    have:=H.out
    rwa [zbW s k hlt] at this
   go_wp2
   go_ret
   exact ⟨zaJ HF.out.symm,rfl⟩
theorem zvN (b:Int) (s:ByteArray) (k:Nat) (h:k<s.size) (hd:zaQ b s.data.toList=true):0≤valZ (s[k].toNat:Int)∧valZ (s[k].toNat:Int)<b:=by
 unfold zaQ at hd
 rw [List.all_eq_true] at hd
 have:=hd s[k] (by show s.data[k]∈_;simp)
 exact of_decide_eq_true this
theorem zdB (s:ByteArray) (b:Int) (w:World) (hs:s.size≤1073741824) (hb:b=8∨b=10∨b=16) (hd:zaQ b s.data.toList=true):
  Calls Tryz.prog 214 #[.string s,.int .i64 b] w fun e w'=>e= .returned (.int .u64 (numZ b s.data.toList))∧w=w':=by
 have HD:=zzE hd
 clear hd
 have hb1:8≤b:=by omega
 have hb2:b≤16:=by omega
 clear hb
 go_enter Tryz.func214,Tryz.ntmps214
 go_wp2
 go_loop [5,6] (fun n i=> ∃(k:Nat) (A:Int),k≤s.size∧i= .int .i64 k∧n= .int .i64 A∧0≤A∧A≤1099511627776∧Hid (A=numZ b (s.data.toList.take k))) (fun _ i=>s.size - (intOf i).toNat)
 case atStart=>exact ⟨0,0,Nat.zero_le _,rfl,rfl,by omega,by omega,rfl⟩
 case round=>
  obtain ⟨k,A,hk,rfl,rfl,hA0,hA1,HA⟩:=hrel
  by_cases hlt:k<s.size
  ·obtain ⟨c,hc⟩: ∃c,(s[k]'hlt).toNat=c:=⟨_,rfl⟩
   have hc256:c<256:=by rw [←hc];exact (s[k]'hlt).toNat_lt
   obtain ⟨v,hv⟩: ∃v,valZ (c:Int)=v:=⟨_,rfl⟩
   have hvb:=zvN b s k hlt HD.out
   rw [hc,hv] at hvb
   obtain ⟨hv0,hv1⟩:=hvb
   have hsn:=zmJ b s k hlt
   rw [←HA.out,zoQ _ _ _ v (by rw [hc];exact hv)] at hsn
   have HSN:=zzE hsn
   clear hsn
   have hP0:0≤A*b:=Int.mul_nonneg hA0 (by omega)
   have hP1:A*b≤1099511627776*16:=Int.mul_le_mul hA1 hb2 (by omega) (by omega)
   by_cases ht:1099511627776<A*b+v
   ·have HC:=zzE (HSN.out.trans (ztP ht))
    go_wp2_with (go_at_call 108;refine (zbE _ _).mono ?_;rintro e w' ⟨rfl,rfl⟩)
    go_round
    case rel=>exact ⟨k+1,1099511627776,by omega,by go_num,rfl,by omega,by omega,HC.out.symm⟩
    case measure=>simp [intOf];omega
   ·have HC:=zzE (HSN.out.trans (zvO ht))
    go_wp2_with (go_at_call 108;refine (zbE _ _).mono ?_;rintro e w' ⟨rfl,rfl⟩)
    go_round
    case rel=>exact ⟨k+1,_,by omega,by go_num,rfl,by omega,by omega,HC.out.symm⟩
    case measure=>simp [intOf];omega
  ·have HF:Hid (numZ b s.data.toList=A):=by
    show numZ b s.data.toList=A
    rw [HA.out,zbW s k hlt]
   go_wp2
   go_ret
   exact ⟨zbC HF.out.symm,rfl⟩
theorem zeW (l:List UInt8) (r:List UInt8) (b:Int) (h:zeH l=(r,b)) (hd:zaQ b r=false):zbG l=(0,false):=by
 unfold zbG
 rw [h,hd]
 split<;>rfl
theorem zeA (l:List UInt8) (r:List UInt8) (b:Int) (h:zeH l=(r,b)) (hn:l≠[]) (hd:zaQ b r=true):zbG l=(numZ b r,true):=by
 unfold zbG
 rw [h,hd]
 cases l with
 |nil=>exact absurd rfl hn
 |cons a t=>rfl
theorem znG (s:ByteArray) (h:s.size=0):s.data.toList=[]:=List.length_eq_zero_iff.1 (by rw [zaB];exact h)
theorem zbQ (s:ByteArray) (h:s.size≠0):s.data.toList≠[]:=fun e=>h (by rw [←zaB,e];rfl)
theorem zuR (s:ByteArray):ByteArray.mk s.data.toList.toArray=s:=by simp
theorem zaE (l:List UInt8):(ByteArray.mk l.toArray).data.toList=l:=by simp
theorem zbM (s:ByteArray) (h:s.size=0):s=⟨#[]⟩:=by
 apply ByteArray.ext
 apply Array.ext'
 exact znG s h
theorem zcK (s:ByteArray) (h:s.size≠0):s.toList.isEmpty=false:=by
 rw [ByteArray.toList_eq]
 cases hd:s.data.toList with
 |nil=>exact absurd hd (zbQ s h)
 |cons a l=>rfl
theorem zqL (s:ByteArray) (d:ByteArray) (b:Int) (w:World) (hs:s.size≤1073741824) (hn:s.size≠0) (hb:b=8∨b=10∨b=16) (hr:zeH s.data.toList=(d.data.toList,b)):
  Calls Tryz.prog 141 #[.string s] w (zpJ w (zbG s.data.toList)):=by
 have HR:=zzE hr
 have HNO:=zzE (zeW s.data.toList _ b hr)
 have HYES:=zzE (zeA s.data.toList _ b hr (zbQ s hn))
 have hse:=zcK s hn
 clear hr hn
 have hb1:8≤b:=by omega
 have hb2:b≤16:=by omega
 clear hb
 go_enter Tryz.func141,Tryz.ntmps141
 go_wp2_with fail
 refine (ziB s _ hs).mono ?_
 rw [HR.out]
 rintro e w' ⟨rfl,rfl⟩
 simp only [zuR]
 go_wp2
 go_loopw [6] (fun n wr=> ∃(k:Nat) (A:Int),n= .int .u64 A∧0≤A∧A≤1099511627776∧k≤d.size∧wr.heap[w.heap.size]? =some (.stringIter d k)∧Below w.heap.size w wr∧w.heap.size+1≤wr.heap.size∧Hid (A=numZ b (d.data.toList.take k))∧Hid (zaQ b (d.data.toList.take k)=true)) (fun _ wr=>d.size - wr.iterPos w.heap.size)
 case atStart=>exact ⟨0,0,rfl,by omega,by omega,Nat.zero_le _,World.iter_heap w d 0,(zzI _ w).alloc (zzF _) _,by simp [World.iter],rfl,rfl⟩
 case round=>
  obtain ⟨k,A,rfl,hA0,hA1,hk,hit,hbw,hsz,HA,HDG⟩:=hrel
  by_cases hp:k<d.size
  ·obtain ⟨c,hc⟩: ∃c,(d[k]'hp).toNat=c:=⟨_,rfl⟩
   have hnx: ∀ty,(Instr.next (.pointer (some ⟨w.heap.size,0,none⟩)) true ty).run Tryz.prog wr=_:=fun ty=>Lib.run_next_any_at wr w.heap.size d k ty hit hp
   by_cases hc128:c<128
   ·have hdec:=decode_ascii d k hp (by omega)
    rw [hc] at hdec
    rw [hdec] at hnx
    have hit2:=Lib.iterAt_heap wr w.heap.size d k (k+1) hit
    have hbw2:=Lib.below_iterAt hbw (k:=w.heap.size) (zzF _) d (k+1)
    have hsz2:w.heap.size+1≤(wr.iterAt w.heap.size d (k+1)).heap.size:=by rw [Lib.iterAt_size];exact hsz
    simp only at hnx
    generalize wr.iterAt w.heap.size d (k+1)=wi at*
    obtain ⟨v,hv⟩: ∃v,valZ (c:Int)=v:=⟨_,rfl⟩
    have hv16:v<16:=by rw [←hv];exact zjV _
    have HV:Hid (valZ (d[k].toNat:Int)=v):=by show valZ (d[k].toNat:Int)=v;rw [hc];exact hv
    have HIT:=zzE hit
    have HC:=zzE hc
    clear hit hc hdec
    by_cases h0:v<0
    ·have HF:=zzE (HNO.out (zcJ b d k hp (zcN HV.out (.inl h0))))
     go_wp2_with (go_at_call 129;refine (zbK _ _).mono ?_;rintro e w' ⟨rfl,rfl⟩)
     go_ret2
     exact zbL HF.out hbw2
    ·by_cases h1:b≤v
     ·have HF:=zzE (HNO.out (zcJ b d k hp (zcN HV.out (.inr h1))))
      go_wp2_with (go_at_call 129;refine (zbK _ _).mono ?_;rintro e w' ⟨rfl,rfl⟩)
      go_ret2
      exact zbL HF.out hbw2
     ·have HF:=zzE (zfC b d k hp HDG.out (zgK HV.out (by omega) (by omega)))
      have hsn:=zmJ b d k hp
      rw [←HA.out,zoQ _ _ _ v HV.out] at hsn
      have HSN:=zzE hsn
      clear hsn
      have hP0:0≤A*b:=Int.mul_nonneg hA0 (by omega)
      have hP1:A*b≤1099511627776*16:=Int.mul_le_mul hA1 hb2 (by omega) (by omega)
      by_cases ht:1099511627776<A*b+v
      ·have HC2:=zzE (HSN.out.trans (ztP ht))
       go_wp2_with (go_at_call 129;refine (zbK _ _).mono ?_;rintro e w' ⟨rfl,rfl⟩)
       go_roundw
       case rel=>exact ⟨k+1,1099511627776,rfl,by omega,by omega,by omega,hit2,hbw2,hsz2,HC2.out.symm,HF⟩
       case measure=>
        simp only [World.iterPos,hit2,HIT.out]
        omega
      ·have HC2:=zzE (HSN.out.trans (zvO ht))
       go_wp2_with (go_at_call 129;refine (zbK _ _).mono ?_;rintro e w' ⟨rfl,rfl⟩)
       go_roundw
       case rel=>exact ⟨k+1,_,rfl,by omega,by omega,by omega,hit2,hbw2,hsz2,HC2.out.symm,HF⟩
       case measure=>
        simp only [World.iterPos,hit2,HIT.out]
        omega
   ·have hh:=decode_high d k hp (by omega)
    obtain ⟨r,hr⟩: ∃r,(Utf8.decode d k).1=r:=⟨_,rfl⟩
    obtain ⟨wd,hwd⟩: ∃r,(Utf8.decode d k).2=r:=⟨_,rfl⟩
    have hrl:=decode_le d k
    rw [hr,hwd] at hnx
    rw [hr,hwd] at hh
    rw [hr] at hrl
    have hbw2:=Lib.below_iterAt hbw (k:=w.heap.size) (zzF _) d (k+wd)
    generalize wr.iterAt w.heap.size d (k+wd)=wi at*
    have hv:valZ (r:Int)= -1:=zfY _ (by omega)
    have HF:=zzE (HNO.out (zcJ b d k hp (zcN (zfY _ (by omega)) (.inl (by omega)))))
    clear hc hr hwd
    go_wp2_with (go_at_call 129;refine (zbK _ _).mono ?_;rintro e w' ⟨rfl,rfl⟩)
    go_ret2
    exact zbL HF.out hbw2
  ·have hnx: ∀ty,(Instr.next (.pointer (some ⟨w.heap.size,0,none⟩)) true ty).run Tryz.prog wr=_:=fun ty=>Lib.run_next_end_at wr w.heap.size d k ty hit hp
   have hdt:=HDG.out
   rw [zbW d k hp] at hdt
   have hat:=HA.out
   rw [zbW d k hp] at hat
   have HF:=zzE (HYES.out hdt)
   have HAT:=zzE hat
   clear hdt hat
   go_wp2
   go_ret2
   exact zbL (by rw [HF.out,HAT.out]) hbw
theorem zgL (s:ByteArray) (w:World) (hs:s.size≤1073741824):
  Calls Tryz.prog 141 #[.string s] w (zpJ w (zbG s.data.toList)):=by
 by_cases hn:s.size=0
 ·obtain rfl:=zbM s hn
  clear hn hs
  have HF:Hid (zbG (ByteArray.mk #[]).data.toList=(0,false)):=rfl
  go_enter Tryz.func141,Tryz.ntmps141
  go_wp2
  go_ret2
  exact zbL HF.out (zzI _ _)
 ·obtain ⟨⟨r,b⟩,hr⟩: ∃x,zeH s.data.toList=x:=⟨_,rfl⟩
  have hb:=zjG s.data.toList
  rw [hr] at hb
  exact zqL s ⟨r.toArray⟩ b w hs hn hb (by rw [zaE];exact hr)
theorem zgG (s:ByteArray) (a:Nat) (d:ByteArray) (h:s.extract a s.size=d):s.data.toList.drop a=d.data.toList:=by
 rw [←h,zeZ]
theorem zhH (s:ByteArray) (a:Nat) (d:ByteArray) (h:s.extract a s.size=d):d.size≤s.size:=by
 rw [←h];simp [ByteArray.size_extract]
theorem zbU (s:ByteArray) (w:World) (hs:s.size≤1073741824):
  Calls Tryz.prog 185 #[.string s] w (zpJ w (zbG s.data.toList)):=by
 by_cases hn:s.size=0
 ·obtain rfl:=zbM s hn
  clear hn hs
  have HF:Hid (zbG (ByteArray.mk #[]).data.toList=(0,false)):=rfl
  go_enter Tryz.func185,Tryz.ntmps185
  go_wp2
  go_ret2
  exact zbL HF.out (zzI _ _)
 ·have hn1:1≤s.size:=by omega
  have hnb:((s.size:Int)==0)=false:=beq_eq_false_iff_ne.2 (by omega)
  by_cases h2:s.size<2
  ·have HR:=zzE (ziS s h2)
   by_cases hdg:zaQ 10 s.data.toList=true
   ·have HF:=zzE (zeA s.data.toList _ 10 HR.out (zbQ s hn) hdg)
    have HDG:=zzE hdg
    clear hdg hn
    go_enter Tryz.func185,Tryz.ntmps185
    go_wp2_with fail
    refine (zaP s 10 _ (by omega)).mono ?_
    rw [HDG.out]
    rintro e w' ⟨rfl,rfl⟩
    go_wp2_with fail
    refine (zdB s 10 _ (by omega) (by omega) HDG.out).mono ?_
    rintro e w' ⟨rfl,rfl⟩
    go_wp2
    go_ret2
    exact zbL HF.out (zzI _ _)
   ·have hdf:zaQ 10 s.data.toList=false:=by simpa using hdg
    have HF:=zzE (zeW s.data.toList _ 10 HR.out hdf)
    have HDG:=zzE hdf
    clear hdg hdf hn
    go_enter Tryz.func185,Tryz.ntmps185
    go_wp2_with fail
    refine (zaP s 10 _ (by omega)).mono ?_
    rw [HDG.out]
    rintro e w' ⟨rfl,rfl⟩
    go_wp2
    go_ret2
    exact zbL HF.out (zzI _ _)
  ·have h2':2≤s.size:=by omega
   have l0:0<s.size:=by omega
   have l1:1<s.size:=by omega
   obtain ⟨a,ha⟩: ∃a,s[0].toNat=a:=⟨_,rfl⟩
   obtain ⟨c,hc⟩: ∃a,s[1].toNat=a:=⟨_,rfl⟩
   by_cases h48:a=48
   ·subst h48
    by_cases hx:c=120∨c=88
    ·have HR0:=zlU s h2' ha (by rw [hc];exact hx)
     obtain ⟨d,hd⟩: ∃d,s.extract 2 s.size=d:=⟨_,rfl⟩
     have hdz:=zhH s 2 d hd
     rw [zgG s 2 d hd] at HR0
     have HR:=zzE HR0
     clear HR0
     rcases hx with rfl|rfl
     all_goals
      by_cases hdg:zaQ 16 d.data.toList=true
      ·have HF:=zzE (zeA s.data.toList _ 16 HR.out (zbQ s hn) hdg)
       have HDG:=zzE hdg
       clear hdg hn
       go_enter Tryz.func185,Tryz.ntmps185
       go_wp2_with fail
       go_quiet (fail)
       go_wp2_with fail
       go_quiet (fail)
       go_wp2_with fail
       refine (zaP d 16 _ (by omega)).mono ?_
       rw [HDG.out]
       rintro e w' ⟨rfl,rfl⟩
       go_wp2_with fail
       refine (zdB d 16 _ (by omega) (by omega) HDG.out).mono ?_
       rintro e w' ⟨rfl,rfl⟩
       go_wp2
       go_ret2
       exact zbL HF.out (by first|exact zaS (zzI _ _) _|exact zaS (zaS (zzI _ _) _) _)
      ·have hdf:zaQ 16 d.data.toList=false:=by simpa using hdg
       have HF:=zzE (zeW s.data.toList _ 16 HR.out hdf)
       have HDG:=zzE hdf
       clear hdg hdf hn
       go_enter Tryz.func185,Tryz.ntmps185
       go_wp2_with fail
       go_quiet (fail)
       go_wp2_with fail
       go_quiet (fail)
       go_wp2_with fail
       refine (zaP d 16 _ (by omega)).mono ?_
       rw [HDG.out]
       rintro e w' ⟨rfl,rfl⟩
       go_wp2
       go_ret2
       exact zbL HF.out (by first|exact zaS (zzI _ _) _|exact zaS (zaS (zzI _ _) _) _)
    ·have HR0:=zmT s h2' ha (by rw [hc];exact hx)
     obtain ⟨d,hd⟩: ∃d,s.extract 1 s.size=d:=⟨_,rfl⟩
     have hdz:=zhH s 1 d hd
     rw [zgG s 1 d hd] at HR0
     have HR:=zzE HR0
     have b1:((c:Int)==120)=false:=beq_eq_false_iff_ne.2 (by omega)
     have b2:((c:Int)==88)=false:=beq_eq_false_iff_ne.2 (by omega)
     clear hx HR0
     by_cases hdg:zaQ 8 d.data.toList=true
     ·have HF:=zzE (zeA s.data.toList _ 8 HR.out (zbQ s hn) hdg)
      have HDG:=zzE hdg
      clear hdg hn
      go_enter Tryz.func185,Tryz.ntmps185
      go_wp2_with fail
      go_quiet (fail)
      go_wp2_with fail
      refine (zaP d 8 _ (by omega)).mono ?_
      rw [HDG.out]
      rintro e w' ⟨rfl,rfl⟩
      go_wp2_with fail
      refine (zdB d 8 _ (by omega) (by omega) HDG.out).mono ?_
      rintro e w' ⟨rfl,rfl⟩
      go_wp2
      go_ret2
      exact zbL HF.out (by first|exact zaS (zzI _ _) _|exact zaS (zaS (zzI _ _) _) _)
     ·have hdf:zaQ 8 d.data.toList=false:=by simpa using hdg
      have HF:=zzE (zeW s.data.toList _ 8 HR.out hdf)
      have HDG:=zzE hdf
      clear hdg hdf hn
      go_enter Tryz.func185,Tryz.ntmps185
      go_wp2_with fail
      go_quiet (fail)
      go_wp2_with fail
      refine (zaP d 8 _ (by omega)).mono ?_
      rw [HDG.out]
      rintro e w' ⟨rfl,rfl⟩
      go_wp2
      go_ret2
      exact zbL HF.out (by first|exact zaS (zzI _ _) _|exact zaS (zaS (zzI _ _) _) _)
   ·have HR:=zzE (zlP s h2' (by rw [ha];exact h48))
    have b1:((a:Int)==48)=false:=beq_eq_false_iff_ne.2 (by omega)
    by_cases hdg:zaQ 10 s.data.toList=true
    ·have HF:=zzE (zeA s.data.toList _ 10 HR.out (zbQ s hn) hdg)
     have HDG:=zzE hdg
     clear hdg hn
     go_enter Tryz.func185,Tryz.ntmps185
     go_wp2_with fail
     refine (zaP s 10 _ (by omega)).mono ?_
     rw [HDG.out]
     rintro e w' ⟨rfl,rfl⟩
     go_wp2_with fail
     refine (zdB s 10 _ (by omega) (by omega) HDG.out).mono ?_
     rintro e w' ⟨rfl,rfl⟩
     go_wp2
     go_ret2
     exact zbL HF.out (zzI _ _)
    ·have hdf:zaQ 10 s.data.toList=false:=by simpa using hdg
     have HF:=zzE (zeW s.data.toList _ 10 HR.out hdf)
     have HDG:=zzE hdf
     clear hdg hdf hn
     go_enter Tryz.func185,Tryz.ntmps185
     go_wp2_with fail
     refine (zaP s 10 _ (by omega)).mono ?_
     rw [HDG.out]
     rintro e w' ⟨rfl,rfl⟩
     go_wp2
     go_ret2
     exact zbL HF.out (zzI _ _)
def decN (l:List UInt8):Int:=l.foldl (fun n c=>n*10+valZ (c.toNat:Int)) 0
def decZ (l:List UInt8) (m:Int):Int×Bool:=
 if (l.isEmpty||(decide (1<l.length)&&decide ((l.getD 0 0).toNat=48))|| !zaQ 10 l)=true then (0,false) else if m<decN l then (0,false) else (decN l,true)
theorem zmH (s:ByteArray) (k:Nat) (h:k<s.size):decN (s.data.toList.take (k+1))=decN (s.data.toList.take k)*10+valZ (s[k].toNat:Int):=by
 rw [zcX s k h];simp [decN]
theorem zlA (l:List UInt8): ∀a:Int,0≤a→zaQ 10 l=true→a≤l.foldl (fun n c=>n*10+valZ (c.toNat:Int)) a:=by
 induction l with
 |nil=>intro a _ _;exact Int.le_refl _
 |cons c l ih=>
  intro a ha hd
  have h1:digC 10 c=true∧zaQ 10 l=true:=by simpa [zaQ] using hd
  have h2:=of_decide_eq_true h1.1
  have:=ih (a*10+valZ (c.toNat:Int)) (by omega) h1.2
  exact Int.le_trans (by omega) this
theorem ziN (l:List UInt8) (hd:zaQ 10 l=true):0≤decN l:=zlA l 0 (Int.le_refl _) hd
theorem zqX (b:Int) (l:List UInt8) (k:Nat):zaQ b l=(zaQ b (l.take k)&&zaQ b (l.drop k)):=by
 unfold zaQ
 rw [←List.all_append,List.take_append_drop]
theorem zhJ (l:List UInt8) (k:Nat) (hd:zaQ 10 l=true):decN (l.take k)≤decN l:=by
 have h:=zqX 10 l k
 rw [hd] at h
 have h2:zaQ 10 (l.take k)=true∧zaQ 10 (l.drop k)=true:=by simpa using h.symm
 have e:decN l=(l.drop k).foldl (fun n c=>n*10+valZ (c.toNat:Int)) (decN (l.take k)):=by
  unfold decN
  rw [←List.foldl_append,List.take_append_drop]
 rw [e]
 exact zlA _ _ (ziN _ h2.1) h2.2
theorem zgC (l:List UInt8) (m:Int) (h:l=[]∨(1<l.length∧(l.getD 0 0).toNat=48)):decZ l m=(0,false):=by
 unfold decZ
 rw [if_pos]
 rcases h with rfl|⟨h1,h2⟩
 ·rfl
 ·rw [zzH h1,zzH h2];simp
theorem zkI (l:List UInt8) (m:Int) (h:zaQ 10 l=false):decZ l m=(0,false):=by
 unfold decZ
 rw [if_pos (by rw [h];simp)]
theorem zoI (l:List UInt8) (m:Int) (k:Nat) (h:m<decN (l.take k)):decZ l m=(0,false):=by
 by_cases hd:zaQ 10 l=true
 ·unfold decZ
  split
  ·rfl
  ·rw [if_pos]
   have:=zhJ l k hd
   omega
 ·exact zkI l m (by simpa using hd)
theorem zpI (l:List UInt8) (m:Int) (h0:l≠[]) (h1: ¬(1<l.length∧(l.getD 0 0).toNat=48)) (hd:zaQ 10 l=true) (hm:decN l≤m):decZ l m=(decN l,true):=by
 unfold decZ
 rw [if_neg,if_neg (by omega)]
 rw [hd]
 cases l with
 |nil=>exact absurd rfl h0
 |cons a r=>
  by_cases e1:1<(a::r).length
  ·rw [zzH e1,zzG (fun e=>h1 ⟨e1,e⟩)];simp
  ·rw [zzG e1];simp
theorem zgI (s:ByteArray) (h:0<s.size):(s.data.toList.getD 0 0).toNat=s[0].toNat:=by
 rw [List.getD,zcZ s 0 h];rfl
theorem zjB (r:Int):zaU r=decide (0≤valZ r∧valZ r<10):=by
 unfold zaU valZ
 by_cases h:48≤r∧r≤57
 ·rw [if_pos h,zzH h,zzH (by omega)]
 ·rw [if_neg h,zzG h]
  refine (zzG ?_).symm
  repeat' split
  all_goals omega
theorem zfT (c:UInt8):digC 10 c=zaU (c.toNat:Int):=(zjB _).symm
theorem ziC {r:Int} (h:zaU r=true):48≤r∧r≤57:=of_decide_eq_true h
theorem zgQ {r:Int} (h1:48≤r) (h2:r≤57):valZ r=r - 48:=if_pos ⟨h1,h2⟩
theorem zeM (r:Int) (h:128≤r):zaU r=false:=zzG (by omega)
def zlL (w:World) (x:Int×Bool) (e:Ending) (w':World):Prop:=e= .returned (.tuple #[.int .i64 x.1,.bool x.2])∧Below w.heap.size w w'
theorem zbR {w w':World} {x:Int×Bool} {n:Int} {b:Bool} (h:x=(n,b)) (hb:Below w.heap.size w w'):zlL w x (.returned (.tuple #[.int .i64 n,.bool b])) w':=by
 subst h;exact ⟨rfl,hb⟩
theorem zlV (s:ByteArray) (m:Int) (w:World) (hs:s.size≤1073741824) (hm:m≤9223372036854775807) (hm0: -9223372036854775808≤m) (hn:1≤s.size) (hz: ¬(1<s.size∧s[0].toNat=48)):
  Calls Tryz.prog 245 #[.string s,.int .i64 m] w (zlL w (decZ s.data.toList m)):=by
 have HNO:=zzE (zkI s.data.toList m)
 have HBIG:=zzE (zoI s.data.toList m)
 have HYES:=zzE (zpI s.data.toList m (zbQ s (by omega)) (by rw [zaB,zgI s (by omega)];exact hz))
 have hse:=zcK s (by omega)
 have l0:0<s.size:=by omega
 obtain ⟨a,ha⟩: ∃a,s[0].toNat=a:=⟨_,rfl⟩
 rw [ha] at hz
 rcases (show s.size≤1∨(1<s.size∧((a:Int)==48)=false) from by
   by_cases h1:1<s.size
   ·exact .inr ⟨h1,beq_eq_false_iff_ne.2 (fun e=>hz ⟨h1,by omega⟩)⟩
   ·exact .inl (by omega)) with h1|⟨h1,hb1⟩
 all_goals
  clear hz
  go_enter Tryz.func245,Tryz.ntmps245
  go_wp2
  go_loopw [6] (fun n wr=> ∃(k:Nat) (A:Int),n= .int .i64 A∧0≤A∧(A=0∨A≤m)∧k≤s.size∧wr.heap[w.heap.size]? =some (.stringIter s k)∧Below w.heap.size w wr∧w.heap.size+1≤wr.heap.size∧Hid (A=decN (s.data.toList.take k))∧Hid (zaQ 10 (s.data.toList.take k)=true)∧Hid (1≤k→A≤m)) (fun _ wr=>s.size - wr.iterPos w.heap.size)
  case atStart=>exact ⟨0,0,rfl,by omega,.inl rfl,Nat.zero_le _,World.iter_heap w s 0,(zzI _ w).alloc (zzF _) _,by simp [World.iter],rfl,rfl,fun h=>absurd h (by omega)⟩
  case round=>
   obtain ⟨k,A,rfl,hA0,hA1,hk,hit,hbw,hsz,HA,HDG,HK⟩:=hrel
   have hA2:A≤9223372036854775807:=by omega
   clear hA1
   by_cases hp:k<s.size
   ·obtain ⟨c,hc⟩: ∃c,(s[k]'hp).toNat=c:=⟨_,rfl⟩
    have hnx: ∀ty,(Instr.next (.pointer (some ⟨w.heap.size,0,none⟩)) true ty).run Tryz.prog wr=_:=fun ty=>Lib.run_next_any_at wr w.heap.size s k ty hit hp
    by_cases hc128:c<128
    ·have hdec:=decode_ascii s k hp (by omega)
     rw [hc] at hdec
     rw [hdec] at hnx
     have hit2:=Lib.iterAt_heap wr w.heap.size s k (k+1) hit
     have hbw2:=Lib.below_iterAt hbw (k:=w.heap.size) (zzF _) s (k+1)
     have hsz2:w.heap.size+1≤(wr.iterAt w.heap.size s (k+1)).heap.size:=by rw [Lib.iterAt_size];exact hsz
     simp only at hnx
     generalize wr.iterAt w.heap.size s (k+1)=wi at*
     have HIT:=zzE hit
     have HC:=zzE hc
     clear hit hc hdec
     cases hdg:zaU (c:Int) with
     |false=>
      have HF:=zzE (HNO.out (zcJ 10 s k hp (by rw [zfT,HC.out];exact hdg)))
      go_wp2_with (go_at_call 100;refine (zcG _ _).mono ?_;rintro e w' ⟨rfl,rfl⟩)
      go_ret2
      exact zbR HF.out hbw2
     |true=>
      obtain ⟨hc1,hc2⟩:=ziC hdg
      have hv:valZ (c:Int)=(c:Int) - 48:=zgQ hc1 hc2
      have HF:=zzE (zfC 10 s k hp HDG.out (by rw [zfT,HC.out];exact hdg))
      have hsn:=zmH s k hp
      rw [←HA.out,HC.out,hv] at hsn
      have HSN:=zzE hsn
      clear hsn
      obtain ⟨v,hvv⟩: ∃v:Int,(c:Int) - 48=v:=⟨_,rfl⟩
      have hv0:0≤v:=by omega
      have hv9:v≤9:=by omega
      rw [hvv] at hv
      have HVV:=zzE hvv
      clear hvv
      by_cases hg:m<A*10+v
      ·have HB:=zzE (HBIG.out (k+1) (by rw [HSN.out,HVV.out];exact hg))
       by_cases hg1:m<v
       ·go_wp2_with (first|(go_at_call 100;refine (zcG _ _).mono ?_;rintro e w' ⟨rfl,rfl⟩)|(go_at_call 129;refine (zbK _ _).mono ?_;rintro e w' ⟨rfl,rfl⟩))
        go_ret2
        exact zbR HB.out hbw2
       ·have hg2:(m - v)/10<A:=by omega
        go_wp2_with (first|(go_at_call 100;refine (zcG _ _).mono ?_;rintro e w' ⟨rfl,rfl⟩)|(go_at_call 129;refine (zbK _ _).mono ?_;rintro e w' ⟨rfl,rfl⟩))
        go_ret2
        exact zbR HB.out hbw2
      ·have hg1: ¬m<v:=by omega
       have hg2: ¬(m - v)/10<A:=by omega
       go_wp2_with (first|(go_at_call 100;refine (zcG _ _).mono ?_;rintro e w' ⟨rfl,rfl⟩)|(go_at_call 129;refine (zbK _ _).mono ?_;rintro e w' ⟨rfl,rfl⟩))
       go_roundw
       case rel=>exact ⟨k+1,A*10+v,rfl,by omega,by omega,by omega,hit2,hbw2,hsz2,(by show _=_;rw [HSN.out,HVV.out]),HF,fun _=>by omega⟩
       case measure=>
        simp only [World.iterPos,hit2,HIT.out]
        omega
    ·have hh:=decode_high s k hp (by omega)
     obtain ⟨r,hr⟩: ∃r,(Utf8.decode s k).1=r:=⟨_,rfl⟩
     obtain ⟨wd,hwd⟩: ∃r,(Utf8.decode s k).2=r:=⟨_,rfl⟩
     have hrl:=decode_le s k
     rw [hr,hwd] at hnx
     rw [hr,hwd] at hh
     rw [hr] at hrl
     have hbw2:=Lib.below_iterAt hbw (k:=w.heap.size) (zzF _) s (k+wd)
     generalize wr.iterAt w.heap.size s (k+wd)=wi at*
     have hv:zaU (r:Int)=false:=zeM _ (by omega)
     have HF:=zzE (HNO.out (zcJ 10 s k hp (by rw [zfT];exact zeM _ (by omega))))
     clear hc hr hwd
     go_wp2_with (go_at_call 100;refine (zcG _ _).mono ?_;rintro e w' ⟨rfl,rfl⟩)
     go_ret2
     exact zbR HF.out hbw2
   ·have hnx: ∀ty,(Instr.next (.pointer (some ⟨w.heap.size,0,none⟩)) true ty).run Tryz.prog wr=_:=fun ty=>Lib.run_next_end_at wr w.heap.size s k ty hit hp
    have hdt:=HDG.out
    rw [zbW s k hp] at hdt
    have hat:=HA.out
    rw [zbW s k hp] at hat
    have HF:=zzE (HYES.out hdt (by rw [←hat];exact HK.out (by omega)))
    have HAT:=zzE hat
    clear hdt hat
    go_wp2
    go_ret2
    exact zbR (by rw [HF.out,HAT.out]) hbw
theorem ziF (s:ByteArray) (m:Int) (w:World) (hs:s.size≤1073741824) (hm:m≤9223372036854775807) (hm0: -9223372036854775808≤m):
  Calls Tryz.prog 245 #[.string s,.int .i64 m] w (zlL w (decZ s.data.toList m)):=by
 by_cases hn:s.size=0
 ·obtain rfl:=zbM s hn
  have HF:=zzE (zgC (ByteArray.mk #[]).data.toList m (.inl rfl))
  clear hn hs
  go_enter Tryz.func245,Tryz.ntmps245
  go_wp2
  go_ret2
  exact zbR HF.out (zzI _ _)
 ·by_cases hz:1<s.size∧s[0].toNat=48
  ·obtain ⟨h1,h0⟩:=hz
   have HF:=zzE (zgC s.data.toList m (.inr ⟨by rw [zaB];exact h1,by rw [zgI s (by omega)];exact h0⟩))
   have hse:=zcK s hn
   have l0:0<s.size:=by omega
   go_enter Tryz.func245,Tryz.ntmps245
   go_wp2
   go_ret2
   exact zbR HF.out (zzI _ _)
  ·exact zlV s m w hs hm hm0 (by omega) hz
theorem ziU (s:ByteArray) (m:Int) (w:World) (hs:s.size≤1073741824) (hm:m≤9223372036854775807) (hm0: -9223372036854775808≤m) (hn:1≤s.size) (hz: ¬(1<s.size∧s[0].toNat=48)) (hd:zaQ 10 s.data.toList=true):
  Calls Tryz.prog 226 #[.string s,.int .i64 m] w (zlL w (decZ s.data.toList m)):=by
 have HBIG:=zzE (zoI s.data.toList m)
 have HYES:=zzE (zpI s.data.toList m (zbQ s (by omega)) (by rw [zaB,zgI s (by omega)];exact hz) hd)
 have HD:=zzE hd
 have l0:0<s.size:=by omega
 have hnb:((s.size:Int)==0)=false:=beq_eq_false_iff_ne.2 (by omega)
 obtain ⟨a,ha⟩: ∃a,s[0].toNat=a:=⟨_,rfl⟩
 rw [ha] at hz
 rcases (show s.size≤1∨(1<s.size∧((a:Int)==48)=false) from by
   by_cases h1:1<s.size
   ·exact .inr ⟨h1,beq_eq_false_iff_ne.2 (fun e=>hz ⟨h1,by omega⟩)⟩
   ·exact .inl (by omega)) with h1|⟨h1,hb1⟩
 all_goals
  clear hz hd
  go_enter Tryz.func226,Tryz.ntmps226
  go_wp2_with fail
  refine (zaP s 10 _ hs).mono ?_
  rw [HD.out]
  rintro e w' ⟨rfl,rfl⟩
  go_wp2
  go_loop [6,7] (fun n i=> ∃(k:Nat) (A:Int),k≤s.size∧i= .int .i64 k∧n= .int .i64 A∧0≤A∧A≤9223372036854775807∧Hid (A=decN (s.data.toList.take k))) (fun _ i=>s.size - (intOf i).toNat)
  case atStart=>exact ⟨0,0,Nat.zero_le _,rfl,rfl,by omega,by omega,rfl⟩
  case round=>
   obtain ⟨k,A,hk,rfl,rfl,hA0,hA1,HA⟩:=hrel
   by_cases hp:k<s.size
   ·obtain ⟨c,hc⟩: ∃c,(s[k]'hp).toNat=c:=⟨_,rfl⟩
    have hdk:=zvN 10 s k hp HD.out
    have hdg:zaU (c:Int)=true:=by rw [zjB,←hc];exact zzH hdk
    obtain ⟨hc1,hc2⟩:=ziC hdg
    have hv:valZ (c:Int)=(c:Int) - 48:=zgQ hc1 hc2
    have hsn:=zmH s k hp
    rw [←HA.out,hc,hv] at hsn
    have HSN:=zzE hsn
    clear hsn hdk hdg hv
    by_cases hg:(9223372036854775807 - ((c:Int) - 48))/10<A
    ·have HB:=zzE (HBIG.out (k+1) (by rw [HSN.out];omega))
     go_wp2
     go_ret2
     exact zbR HB.out (zzI _ _)
    ·go_wp2
     go_round
     case rel=>exact ⟨k+1,10*A+((c:Int) - 48),by omega,by go_num,rfl,by omega,by omega,(by show _=_;rw [HSN.out];omega)⟩
     case measure=>simp [intOf];omega
   ·have hat:=HA.out
    rw [zbW s k hp] at hat
    by_cases hg:m<A
    ·have HB:=zzE (HBIG.out k (by rw [←HA.out];exact hg))
     go_wp2
     go_ret2
     exact zbR HB.out (zzI _ _)
    ·have HF:=zzE (HYES.out (by rw [←hat];omega))
     have HAT:=zzE hat
     clear hat
     go_wp2
     go_ret2
     exact zbR (by rw [HF.out,HAT.out]) (zzI _ _)
theorem zfM (s:ByteArray) (m:Int) (w:World) (hs:s.size≤1073741824) (hm:m≤9223372036854775807) (hm0: -9223372036854775808≤m):
  Calls Tryz.prog 226 #[.string s,.int .i64 m] w (zlL w (decZ s.data.toList m)):=by
 by_cases hn:s.size=0
 ·obtain rfl:=zbM s hn
  have HF:=zzE (zgC (ByteArray.mk #[]).data.toList m (.inl rfl))
  clear hn hs
  go_enter Tryz.func226,Tryz.ntmps226
  go_wp2
  go_ret2
  exact zbR HF.out (zzI _ _)
 ·have hnb:((s.size:Int)==0)=false:=beq_eq_false_iff_ne.2 (by omega)
  cases hd:zaQ 10 s.data.toList with
  |false=>
   have HF:=zzE (zkI s.data.toList m hd)
   have HD:=zzE hd
   clear hd
   go_enter Tryz.func226,Tryz.ntmps226
   go_wp2_with fail
   refine (zaP s 10 _ hs).mono ?_
   rw [HD.out]
   rintro e w' ⟨rfl,rfl⟩
   go_wp2
   go_ret2
   exact zbR HF.out (zzI _ _)
  |true=>
   by_cases hz:1<s.size∧s[0].toNat=48
   ·obtain ⟨h1,h0⟩:=hz
    have HF:=zzE (zgC s.data.toList m (.inr ⟨by rw [zaB];exact h1,by rw [zgI s (by omega)];exact h0⟩))
    have l0:0<s.size:=by omega
    have HD:=zzE hd
    clear hd
    go_enter Tryz.func226,Tryz.ntmps226
    go_wp2_with fail
    refine (zaP s 10 _ hs).mono ?_
    rw [HD.out]
    rintro e w' ⟨rfl,rfl⟩
    go_wp2
    go_ret2
    exact zbR HF.out (zzI _ _)
   ·exact ziU s m w hs hm hm0 (by omega) hz hd
def zcD (l:List UInt8):Bool:= !l.isEmpty&&zaQ 10 l
theorem zrV {l:List UInt8} (h:zaQ 10 l=false):zcD l=false:=by unfold zcD;rw [h];simp
theorem zqD {s:ByteArray} (hn:s.size≠0) (h:zaQ 10 s.data.toList=true):zcD s.data.toList=true:=by
 unfold zcD;rw [h]
 cases hd:s.data.toList with
 |nil=>exact absurd hd (zbQ s hn)
 |cons a l=>rfl
def zdF (w:World) (b:Bool) (e:Ending) (w':World):Prop:=e= .returned (.bool b)∧Below w.heap.size w w'
theorem zaL {w w':World} {x b:Bool} (h:x=b) (hb:Below w.heap.size w w'):zdF w x (.returned (.bool b)) w':=by
 subst h;exact ⟨rfl,hb⟩
theorem zeE (s:ByteArray) (w:World) (hs:s.size≤1073741824):
  Calls Tryz.prog 140 #[.string s] w (zdF w (zcD s.data.toList)):=by
 by_cases hn:s.size=0
 ·obtain rfl:=zbM s hn
  have HF:Hid (zcD (ByteArray.mk #[]).data.toList=false):=rfl
  clear hn hs
  go_enter Tryz.func140,Tryz.ntmps140
  go_wp2
  go_loopw [] (fun wr=>wr.heap[w.heap.size]? =some (.stringIter ⟨#[]⟩ 0)∧Below w.heap.size w wr) (fun _=>0)
  case atStart=>exact ⟨World.iter_heap w ⟨#[]⟩ 0,(zzI _ w).alloc (zzF _) _⟩
  case round=>
   obtain ⟨hit,hbw⟩:=hrel
   have hnx: ∀ty,(Instr.next (.pointer (some ⟨w.heap.size,0,none⟩)) true ty).run Tryz.prog wr=_:=fun ty=>Lib.run_next_end_at wr w.heap.size ⟨#[]⟩ 0 ty hit (by decide)
   go_wp2
   go_ret
   exact zaL HF.out hbw
 ·have HNO:=zzE (zrV (l:=s.data.toList))
  have HYES:=zzE (zqD hn)
  have hse:=zcK s hn
  clear hn
  go_enter Tryz.func140,Tryz.ntmps140
  go_wp2
  go_loopw [] (fun wr=> ∃(k:Nat),k≤s.size∧wr.heap[w.heap.size]? =some (.stringIter s k)∧Below w.heap.size w wr∧w.heap.size+1≤wr.heap.size∧Hid (zaQ 10 (s.data.toList.take k)=true)) (fun wr=>s.size - wr.iterPos w.heap.size)
  case atStart=>exact ⟨0,Nat.zero_le _,World.iter_heap w s 0,(zzI _ w).alloc (zzF _) _,by simp [World.iter],rfl⟩
  case round=>
   obtain ⟨k,hk,hit,hbw,hsz,HDG⟩:=hrel
   by_cases hp:k<s.size
   ·obtain ⟨c,hc⟩: ∃c,(s[k]'hp).toNat=c:=⟨_,rfl⟩
    have hnx: ∀ty,(Instr.next (.pointer (some ⟨w.heap.size,0,none⟩)) true ty).run Tryz.prog wr=_:=fun ty=>Lib.run_next_any_at wr w.heap.size s k ty hit hp
    by_cases hc128:c<128
    ·have hdec:=decode_ascii s k hp (by omega)
     rw [hc] at hdec
     rw [hdec] at hnx
     have hit2:=Lib.iterAt_heap wr w.heap.size s k (k+1) hit
     have hbw2:=Lib.below_iterAt hbw (k:=w.heap.size) (zzF _) s (k+1)
     have hsz2:w.heap.size+1≤(wr.iterAt w.heap.size s (k+1)).heap.size:=by rw [Lib.iterAt_size];exact hsz
     simp only at hnx
     generalize wr.iterAt w.heap.size s (k+1)=wi at*
     have HIT:=zzE hit
     have HC:=zzE hc
     clear hit hc hdec
     cases hdg:zaU (c:Int) with
     |false=>
      have HF:=zzE (HNO.out (zcJ 10 s k hp (by rw [zfT,HC.out];exact hdg)))
      go_wp2_with (go_at_call 100;refine (zcG _ _).mono ?_;rintro e w' ⟨rfl,rfl⟩)
      go_ret
      exact zaL HF.out hbw2
     |true=>
      have HF:=zzE (zfC 10 s k hp HDG.out (by rw [zfT,HC.out];exact hdg))
      go_wp2_with (go_at_call 100;refine (zcG _ _).mono ?_;rintro e w' ⟨rfl,rfl⟩)
      go_roundw
      case rel=>exact ⟨k+1,by omega,hit2,hbw2,hsz2,HF⟩
      case measure=>
       simp only [World.iterPos,hit2,HIT.out]
       omega
    ·have hh:=decode_high s k hp (by omega)
     obtain ⟨r,hr⟩: ∃r,(Utf8.decode s k).1=r:=⟨_,rfl⟩
     obtain ⟨wd,hwd⟩: ∃r,(Utf8.decode s k).2=r:=⟨_,rfl⟩
     have hrl:=decode_le s k
     rw [hr,hwd] at hnx
     rw [hr,hwd] at hh
     rw [hr] at hrl
     have hbw2:=Lib.below_iterAt hbw (k:=w.heap.size) (zzF _) s (k+wd)
     generalize wr.iterAt w.heap.size s (k+wd)=wi at*
     have hv:zaU (r:Int)=false:=zeM _ (by omega)
     have HF:=zzE (HNO.out (zcJ 10 s k hp (by rw [zfT];exact zeM _ (by omega))))
     clear hc hr hwd
     go_wp2_with (go_at_call 100;refine (zcG _ _).mono ?_;rintro e w' ⟨rfl,rfl⟩)
     go_ret
     exact zaL HF.out hbw2
   ·have hnx: ∀ty,(Instr.next (.pointer (some ⟨w.heap.size,0,none⟩)) true ty).run Tryz.prog wr=_:=fun ty=>Lib.run_next_end_at wr w.heap.size s k ty hit hp
    have hdt:=HDG.out
    rw [zbW s k hp] at hdt
    have HF:=zzE (HYES.out hdt)
    clear hdt
    go_wp2
    go_ret
    exact zaL HF.out hbw
def zgJ (ps:List (List UInt8)):List UInt8:=
 if 1<ps.length∧ps.getD (ps.length - 1) []=[] then ps.getD (ps.length - 2) [] else ps.getD (ps.length - 1) []
def zaH (l:List UInt8):List (List UInt8):=zcR (hasB [46]) l
def zfN (x:List UInt8):Bool:=zcD x||(zbG x).2
def zdE (l:List UInt8):Bool:=zfN (zgJ (zaH l))
theorem zwX (p:UInt8→Bool) (l:List UInt8): ∀st:List (List UInt8)×List UInt8,(∀x∈(l.foldl (zbX p) st).1,x∈st.1∨x.length≤st.2.length+l.length)∧(l.foldl (zbX p) st).2.length≤st.2.length+l.length:=by
 induction l with
 |nil=>intro st;exact ⟨fun x hx=> .inl hx,by simp⟩
 |cons c l ih=>
  intro st
  simp only [List.foldl_cons,List.length_cons]
  have h:=ih (zbX p st c)
  by_cases hp:p c=true
  ·have e:zbX p st c=(st.1++[st.2],[]):=by simp [zbX,hp]
   rw [e] at h ⊢
   refine ⟨fun x hx=> ?_,by have:=h.2;simp at this;omega⟩
   rcases h.1 x hx with h1|h1
   ·simp at h1
    rcases h1 with h1|h1
    ·exact .inl h1
    ·subst h1;exact .inr (by omega)
   ·simp at h1;exact .inr (by omega)
  ·have e:zbX p st c=(st.1,st.2++[c]):=by simp [zbX,hp]
   rw [e] at h ⊢
   refine ⟨fun x hx=> ?_,by have:=h.2;simp at this;omega⟩
   rcases h.1 x hx with h1|h1
   ·exact .inl h1
   ·simp at h1;exact .inr (by omega)
theorem zwZ (p:UInt8→Bool) (l x:List UInt8) (h:x∈zcR p l):x.length≤l.length:=by
 have k:=zwX p l ([],[])
 unfold zcR at h
 rcases List.mem_append.1 h with h|h
 ·rcases k.1 x h with h|h
  ·simp at h
  ·simpa using h
 ·simp at h
  subst h
  exact Nat.le_trans k.2 (by simp)
theorem zcI (p:UInt8→Bool) (l:List UInt8) (j:Nat):((zcR p l).getD j []).length≤l.length:=by
 by_cases h:j<(zcR p l).length
 ·refine zwZ p l _ ?_
  rw [List.getD,List.getElem?_eq_getElem h]
  exact List.getElem_mem h
 ·rw [List.getD,List.getElem?_eq_none (by omega)]
  simp
theorem zgF (n:Nat) (x:List UInt8) (ps:List (List UInt8)) (h:ps.length=n+1) (hx:ps.getD n []=x) (hc:n=0∨x≠[]):zgJ ps=x:=by
 unfold zgJ
 rw [h,Nat.add_sub_cancel,hx,if_neg]
 rintro ⟨h1,h2⟩
 rcases hc with h3|h3
 ·omega
 ·exact h3 h2
theorem ziE (n:Nat) (y:List UInt8) (ps:List (List UInt8)) (h:ps.length=n+2) (hx:ps.getD (n+1) []=[]) (hy:ps.getD n []=y):zgJ ps=y:=by
 unfold zgJ
 rw [h,show n+2 - 1=n+1 from rfl,hx,if_pos ⟨by omega,rfl⟩,show n+2 - 2=n from rfl,hy]
theorem zbF {x:List UInt8} (h:x≠[]):x.isEmpty=false:=by cases x with|nil=>exact absurd rfl h|cons a l=>rfl
theorem zfR {x:List UInt8} (h:zcD x=true):zfN x=true:=by unfold zfN;rw [h];rfl
theorem zfS {x:List UInt8} {b:Bool} (h:zcD x=false) (hb:(zbG x).2=b):zfN x=b:=by unfold zfN;rw [h,hb];rfl
theorem zxL (s:ByteArray) (w:World) (hs:s.size≤1073741824) (x:List UInt8) (hl:(zaH s.data.toList).length=1) (hx:(zaH s.data.toList).getD 0 []=x):
  Calls Tryz.prog 91 #[.string s] w (zdF w (zdE s.data.toList)):=by
 have hxl:x.length≤s.size:=by rw [←hx,←zaB];exact zcI _ _ _
 have HE0:=zzE (show zdE s.data.toList=zfN x from by unfold zdE;rw [zgF 0 x _ hl hx (.inl rfl)])
 have HL:=zzE hl
 have HX:=zzE hx
 clear hl hx
 go_enter Tryz.func91,Tryz.ntmps91
 go_wp2_with fail
 refine (zdD s _ _ hs).mono ?_
 rintro e w1 ⟨v,rfl,hp,hb1⟩
 have hp':zbY w.heap.size w1 v (zaH s.data.toList):=hp
 obtain ⟨g,cap,rfl,hg,hcell⟩:=hp'.form (by rw [HL.out];omega)
 rw [HL.out]
 rw [HL.out] at hcell
 have hcx:=hcell 0 (by omega)
 rw [HX.out] at hcx
 clear hcell hp hp'
 by_cases haz:zcD x=true
 -- digits alone
 ·have HE:=zzE (HE0.out.trans (zfR haz))
  have HAZ:=zzE haz
  clear haz
  go_wp2_with fail
  refine (zeE ⟨x.toArray⟩ _ (by rw [zaA];omega)).mono ?_
  rw [zaE,HAZ.out]
  rintro e w2 ⟨rfl,hb2⟩
  have hc2:Below w.heap.size w w2:=hb1.trans (hb2.mono hb1.size)
  clear hb1 hb2
  go_wp2
  go_ret
  exact zaL HE.out hc2
 ·have haf:zcD x=false:=by simpa using haz
  have HE:=zzE (HE0.out.trans (zfS haf rfl))
  have HAZ:=zzE haf
  clear haz haf
  go_wp2_with fail
  refine (zeE ⟨x.toArray⟩ _ (by rw [zaA];omega)).mono ?_
  rw [zaE,HAZ.out]
  rintro e w2 ⟨rfl,hb2⟩
  have hc2:Below w.heap.size w w2:=hb1.trans (hb2.mono hb1.size)
  have hcx2:=(hb2.cell (p:=⟨g,0,none⟩) hg).trans hcx
  clear hb1 hb2 hcx
  go_wp2_with fail
  refine (zgL ⟨x.toArray⟩ _ (by rw [zaA];omega)).mono ?_
  rw [zaE]
  rintro e w3 ⟨rfl,hb3⟩
  have hc3:Below w.heap.size w w3:=hc2.trans (hb3.mono hc2.size)
  clear hc2 hb3 hcx2
  go_wp2
  go_ret
  exact zaL HE.out hc3
theorem zqW (s:ByteArray) (w:World) (hs:s.size≤1073741824) (n:Nat) (x:List UInt8) (hl:(zaH s.data.toList).length=n+2) (hx:(zaH s.data.toList).getD (n+1) []=x) (hne:x≠[]):
  Calls Tryz.prog 91 #[.string s] w (zdF w (zdE s.data.toList)):=by
 have hxl:x.length≤s.size:=by rw [←hx,←zaB];exact zcI _ _ _
 have HE0:=zzE (show zdE s.data.toList=zfN x from by unfold zdE;rw [zgF (n+1) x _ hl hx (.inr hne)])
 have hxe:x.isEmpty=false:=zbF hne
 have HL:=zzE hl
 have HX:=zzE hx
 clear hl hx hne
 have hnb:n≤1073741824:=by
  have h1:=zbS (hasB [46]) s.data.toList
  rw [zaB] at h1
  have h2:=HL.out
  unfold zaH at h2
  omega
 go_enter Tryz.func91,Tryz.ntmps91
 go_wp2_with fail
 refine (zdD s _ _ hs).mono ?_
 rintro e w1 ⟨v,rfl,hp,hb1⟩
 have hp':zbY w.heap.size w1 v (zaH s.data.toList):=hp
 obtain ⟨g,cap,rfl,hg,hcell⟩:=hp'.form (by rw [HL.out];omega)
 rw [HL.out]
 rw [HL.out] at hcell
 have hcx:=hcell (n+1) (by omega)
 rw [HX.out] at hcx
 clear hcell hp hp'
 by_cases haz:zcD x=true
 -- digits alone
 ·have HE:=zzE (HE0.out.trans (zfR haz))
  have HAZ:=zzE haz
  clear haz
  go_wp2_with fail
  refine (zeE ⟨x.toArray⟩ _ (by rw [zaA];omega)).mono ?_
  rw [zaE,HAZ.out]
  rintro e w2 ⟨rfl,hb2⟩
  have hc2:Below w.heap.size w w2:=hb1.trans (hb2.mono hb1.size)
  clear hb1 hb2
  go_wp2
  go_ret
  exact zaL HE.out hc2
 ·have haf:zcD x=false:=by simpa using haz
  have HE:=zzE (HE0.out.trans (zfS haf rfl))
  have HAZ:=zzE haf
  clear haz haf
  go_wp2_with fail
  refine (zeE ⟨x.toArray⟩ _ (by rw [zaA];omega)).mono ?_
  rw [zaE,HAZ.out]
  rintro e w2 ⟨rfl,hb2⟩
  have hc2:Below w.heap.size w w2:=hb1.trans (hb2.mono hb1.size)
  have hcx2:=(hb2.cell (p:=⟨g,(n+1),none⟩) hg).trans hcx
  clear hb1 hb2 hcx
  go_wp2_with fail
  refine (zgL ⟨x.toArray⟩ _ (by rw [zaA];omega)).mono ?_
  rw [zaE]
  rintro e w3 ⟨rfl,hb3⟩
  have hc3:Below w.heap.size w w3:=hc2.trans (hb3.mono hc2.size)
  clear hc2 hb3 hcx2
  go_wp2
  go_ret
  exact zaL HE.out hc3
theorem zmA (s:ByteArray) (w:World) (hs:s.size≤1073741824) (n:Nat) (x:List UInt8) (hl:(zaH s.data.toList).length=n+2) (hx:(zaH s.data.toList).getD n []=x) (hy:(zaH s.data.toList).getD (n+1) []=[]):
  Calls Tryz.prog 91 #[.string s] w (zdF w (zdE s.data.toList)):=by
 have hxl:x.length≤s.size:=by rw [←hx,←zaB];exact zcI _ _ _
 have HE0:=zzE (show zdE s.data.toList=zfN x from by unfold zdE;rw [ziE n x _ hl hy hx])
 have HL:=zzE hl
 have HX:=zzE hx
 have HY:=zzE hy
 clear hl hx hy
 have hnb:n≤1073741824:=by
  have h1:=zbS (hasB [46]) s.data.toList
  rw [zaB] at h1
  have h2:=HL.out
  unfold zaH at h2
  omega
 go_enter Tryz.func91,Tryz.ntmps91
 go_wp2_with fail
 refine (zdD s _ _ hs).mono ?_
 rintro e w1 ⟨v,rfl,hp,hb1⟩
 have hp':zbY w.heap.size w1 v (zaH s.data.toList):=hp
 obtain ⟨g,cap,rfl,hg,hcell⟩:=hp'.form (by rw [HL.out];omega)
 rw [HL.out]
 rw [HL.out] at hcell
 have hcx:=hcell n (by omega)
 rw [HX.out] at hcx
 have hcy:=hcell (n+1) (by omega)
 rw [HY.out] at hcy
 clear hcell hp hp'
 by_cases haz:zcD x=true
 -- digits alone
 ·have HE:=zzE (HE0.out.trans (zfR haz))
  have HAZ:=zzE haz
  clear haz
  go_wp2_with fail
  refine (zeE ⟨x.toArray⟩ _ (by rw [zaA];omega)).mono ?_
  rw [zaE,HAZ.out]
  rintro e w2 ⟨rfl,hb2⟩
  have hc2:Below w.heap.size w w2:=hb1.trans (hb2.mono hb1.size)
  clear hb1 hb2
  go_wp2
  go_ret
  exact zaL HE.out hc2
 ·have haf:zcD x=false:=by simpa using haz
  have HE:=zzE (HE0.out.trans (zfS haf rfl))
  have HAZ:=zzE haf
  clear haz haf
  go_wp2_with fail
  refine (zeE ⟨x.toArray⟩ _ (by rw [zaA];omega)).mono ?_
  rw [zaE,HAZ.out]
  rintro e w2 ⟨rfl,hb2⟩
  have hc2:Below w.heap.size w w2:=hb1.trans (hb2.mono hb1.size)
  have hcx2:=(hb2.cell (p:=⟨g,n,none⟩) hg).trans hcx
  clear hb1 hb2 hcx
  go_wp2_with fail
  refine (zgL ⟨x.toArray⟩ _ (by rw [zaA];omega)).mono ?_
  rw [zaE]
  rintro e w3 ⟨rfl,hb3⟩
  have hc3:Below w.heap.size w w3:=hc2.trans (hb3.mono hc2.size)
  clear hc2 hb3 hcx2
  go_wp2
  go_ret
  exact zaL HE.out hc3
theorem zvY (s:ByteArray) (w:World) (hs:s.size≤1073741824):
  Calls Tryz.prog 91 #[.string s] w (zdF w (zdE s.data.toList)):=by
 have h0:0<(zaH s.data.toList).length:=zdN _ _
 by_cases h1:(zaH s.data.toList).length=1
 ·exact zxL s w hs _ h1 rfl
 ·obtain ⟨n,hn⟩: ∃n,(zaH s.data.toList).length=n+2:=⟨(zaH s.data.toList).length - 2,by omega⟩
  by_cases he:(zaH s.data.toList).getD (n+1) []=[]
  ·exact zmA s w hs n _ hn rfl he
  ·exact zqW s w hs n _ hn rfl he
theorem ziP {x:List UInt8} {p:Int} (h:zbG x=(p,true)):zfN x=true:=by unfold zfN;rw [h];simp
theorem zhV {x:List UInt8} {p:Int} (h:zbG x=(p,false)):zfN x=zcD x:=by unfold zfN;rw [h];simp
theorem znI (s:ByteArray) (w:World) (hs:s.size≤1073741824) (x:List UInt8) (hl:(zaH s.data.toList).length=1) (hx:(zaH s.data.toList).getD 0 []=x):
  Calls Tryz.prog 132 #[.string s] w (zdF w (zdE s.data.toList)):=by
 have hxl:x.length≤s.size:=by rw [←hx,←zaB];exact zcI _ _ _
 have HE0:=zzE (show zdE s.data.toList=zfN x from by unfold zdE;rw [zgF 0 x _ hl hx (.inl rfl)])
 have HL:=zzE hl
 have HX:=zzE hx
 clear hl hx
 go_enter Tryz.func132,Tryz.ntmps132
 go_wp2_with fail
 refine (zbT s _ _ hs (by decide)).mono ?_
 rintro e w1 ⟨v,rfl,hp,hb1⟩
 have hp':zbY w.heap.size w1 v (zaH s.data.toList):=hp
 obtain ⟨g,cap,rfl,hg,hcell⟩:=hp'.form (by rw [HL.out];omega)
 rw [HL.out]
 rw [HL.out] at hcell
 have hcx:=hcell 0 (by omega)
 rw [HX.out] at hcx
 clear hcell hp hp'
 by_cases hxn:x=[]
 ·subst hxn
  have HPZ:Hid (zbG []=(0,false)):=rfl
  go_wp2_with fail
  refine (zbU ⟨#[]⟩ _ (by decide)).mono ?_
  rw [show zbG (ByteArray.mk #[]).data.toList=(0,false) from rfl]
  rintro e w2 ⟨rfl,hb2⟩
  have hc2:Below w.heap.size w w2:=hb1.trans (hb2.mono hb1.size)
  clear hb1 hb2
  go_wp2
  go_ret
  exact zaL (HE0.out.trans rfl) hc2
 ·have hxe:x.isEmpty=false:=zbF hxn
  obtain ⟨pz,b,hpz⟩: ∃p b,zbG x=(p,b):=⟨_,_,rfl⟩
  have HPZ:=zzE hpz
  clear hpz
  cases b with
  |true=>
   have HE:=zzE (HE0.out.trans (ziP HPZ.out))
   go_wp2_with fail
   refine (zbU ⟨x.toArray⟩ _ (by rw [zaA];omega)).mono ?_
   rw [zaE,HPZ.out]
   rintro e w2 ⟨rfl,hb2⟩
   have hc2:Below w.heap.size w w2:=hb1.trans (hb2.mono hb1.size)
   clear hb1 hb2
   go_wp2
   go_ret
   exact zaL HE.out hc2
  |false=>
   have HE:=zzE (HE0.out.trans (zhV HPZ.out))
   go_wp2_with fail
   refine (zbU ⟨x.toArray⟩ _ (by rw [zaA];omega)).mono ?_
   rw [zaE,HPZ.out]
   rintro e w2 ⟨rfl,hb2⟩
   have hc2:Below w.heap.size w w2:=hb1.trans (hb2.mono hb1.size)
   clear hb1 hb2
   ·skip
    have HA:=zzE (show zcD x=zaQ 10 x from by unfold zcD;rw [hxe];rfl)
    go_wp2_with fail
    refine (zaP ⟨x.toArray⟩ 10 _ (by rw [zaA];omega)).mono ?_
    rw [zaE]
    rintro e w' ⟨rfl,rfl⟩
    go_wp2
    go_ret
    exact zaL (HE.out.trans HA.out) hc2
theorem zjX (s:ByteArray) (w:World) (hs:s.size≤1073741824) (n:Nat) (x:List UInt8) (hl:(zaH s.data.toList).length=n+2) (hx:(zaH s.data.toList).getD (n+1) []=x) (hne:x≠[]):
  Calls Tryz.prog 132 #[.string s] w (zdF w (zdE s.data.toList)):=by
 have hxl:x.length≤s.size:=by rw [←hx,←zaB];exact zcI _ _ _
 have HE0:=zzE (show zdE s.data.toList=zfN x from by unfold zdE;rw [zgF (n+1) x _ hl hx (.inr hne)])
 have hxe:x.isEmpty=false:=zbF hne
 have HL:=zzE hl
 have HX:=zzE hx
 clear hl hx hne
 have hnb:n≤1073741824:=by
  have h1:=zbS (hasB [46]) s.data.toList
  rw [zaB] at h1
  have h2:=HL.out
  unfold zaH at h2
  omega
 go_enter Tryz.func132,Tryz.ntmps132
 go_wp2_with fail
 refine (zbT s _ _ hs (by decide)).mono ?_
 rintro e w1 ⟨v,rfl,hp,hb1⟩
 have hp':zbY w.heap.size w1 v (zaH s.data.toList):=hp
 obtain ⟨g,cap,rfl,hg,hcell⟩:=hp'.form (by rw [HL.out];omega)
 rw [HL.out]
 rw [HL.out] at hcell
 have hcx:=hcell (n+1) (by omega)
 rw [HX.out] at hcx
 clear hcell hp hp'
 obtain ⟨pz,b,hpz⟩: ∃p b,zbG x=(p,b):=⟨_,_,rfl⟩
 have HPZ:=zzE hpz
 clear hpz
 cases b with
 |true=>
  have HE:=zzE (HE0.out.trans (ziP HPZ.out))
  go_wp2_with fail
  refine (zbU ⟨x.toArray⟩ _ (by rw [zaA];omega)).mono ?_
  rw [zaE,HPZ.out]
  rintro e w2 ⟨rfl,hb2⟩
  have hc2:Below w.heap.size w w2:=hb1.trans (hb2.mono hb1.size)
  clear hb1 hb2
  go_wp2
  go_ret
  exact zaL HE.out hc2
 |false=>
  have HE:=zzE (HE0.out.trans (zhV HPZ.out))
  go_wp2_with fail
  refine (zbU ⟨x.toArray⟩ _ (by rw [zaA];omega)).mono ?_
  rw [zaE,HPZ.out]
  rintro e w2 ⟨rfl,hb2⟩
  have hc2:Below w.heap.size w w2:=hb1.trans (hb2.mono hb1.size)
  clear hb1 hb2
  ·skip
   have HA:=zzE (show zcD x=zaQ 10 x from by unfold zcD;rw [hxe];rfl)
   go_wp2_with fail
   refine (zaP ⟨x.toArray⟩ 10 _ (by rw [zaA];omega)).mono ?_
   rw [zaE]
   rintro e w' ⟨rfl,rfl⟩
   go_wp2
   go_ret
   exact zaL (HE.out.trans HA.out) hc2
theorem zhY (s:ByteArray) (w:World) (hs:s.size≤1073741824) (n:Nat) (x:List UInt8) (hl:(zaH s.data.toList).length=n+2) (hx:(zaH s.data.toList).getD n []=x) (hy:(zaH s.data.toList).getD (n+1) []=[]):
  Calls Tryz.prog 132 #[.string s] w (zdF w (zdE s.data.toList)):=by
 have hxl:x.length≤s.size:=by rw [←hx,←zaB];exact zcI _ _ _
 have HE0:=zzE (show zdE s.data.toList=zfN x from by unfold zdE;rw [ziE n x _ hl hy hx])
 have HL:=zzE hl
 have HX:=zzE hx
 have HY:=zzE hy
 clear hl hx hy
 have hnb:n≤1073741824:=by
  have h1:=zbS (hasB [46]) s.data.toList
  rw [zaB] at h1
  have h2:=HL.out
  unfold zaH at h2
  omega
 go_enter Tryz.func132,Tryz.ntmps132
 go_wp2_with fail
 refine (zbT s _ _ hs (by decide)).mono ?_
 rintro e w1 ⟨v,rfl,hp,hb1⟩
 have hp':zbY w.heap.size w1 v (zaH s.data.toList):=hp
 obtain ⟨g,cap,rfl,hg,hcell⟩:=hp'.form (by rw [HL.out];omega)
 rw [HL.out]
 rw [HL.out] at hcell
 have hcx:=hcell n (by omega)
 rw [HX.out] at hcx
 have hcy:=hcell (n+1) (by omega)
 rw [HY.out] at hcy
 clear hcell hp hp'
 obtain ⟨pz,b,hpz⟩: ∃p b,zbG x=(p,b):=⟨_,_,rfl⟩
 have HPZ:=zzE hpz
 clear hpz
 cases b with
 |true=>
  have HE:=zzE (HE0.out.trans (ziP HPZ.out))
  go_wp2_with fail
  refine (zbU ⟨x.toArray⟩ _ (by rw [zaA];omega)).mono ?_
  rw [zaE,HPZ.out]
  rintro e w2 ⟨rfl,hb2⟩
  have hc2:Below w.heap.size w w2:=hb1.trans (hb2.mono hb1.size)
  clear hb1 hb2
  go_wp2
  go_ret
  exact zaL HE.out hc2
 |false=>
  have HE:=zzE (HE0.out.trans (zhV HPZ.out))
  go_wp2_with fail
  refine (zbU ⟨x.toArray⟩ _ (by rw [zaA];omega)).mono ?_
  rw [zaE,HPZ.out]
  rintro e w2 ⟨rfl,hb2⟩
  have hc2:Below w.heap.size w w2:=hb1.trans (hb2.mono hb1.size)
  clear hb1 hb2
  by_cases hxn:x=[]
  ·subst hxn
   go_wp2
   go_ret
   exact zaL (HE.out.trans rfl) hc2
  ·have hxe:x.isEmpty=false:=zbF hxn
   have HA:=zzE (show zcD x=zaQ 10 x from by unfold zcD;rw [hxe];rfl)
   go_wp2_with fail
   refine (zaP ⟨x.toArray⟩ 10 _ (by rw [zaA];omega)).mono ?_
   rw [zaE]
   rintro e w' ⟨rfl,rfl⟩
   go_wp2
   go_ret
   exact zaL (HE.out.trans HA.out) hc2
theorem znD (s:ByteArray) (w:World) (hs:s.size≤1073741824):
  Calls Tryz.prog 132 #[.string s] w (zdF w (zdE s.data.toList)):=by
 have h0:0<(zaH s.data.toList).length:=zdN _ _
 by_cases h1:(zaH s.data.toList).length=1
 ·exact znI s w hs _ h1 rfl
 ·obtain ⟨n,hn⟩: ∃n,(zaH s.data.toList).length=n+2:=⟨(zaH s.data.toList).length - 2,by omega⟩
  by_cases he:(zaH s.data.toList).getD (n+1) []=[]
  ·exact zhY s w hs n _ hn rfl he
  ·exact zjX s w hs n _ hn rfl he
end
end
end Go.Proofs.YtmjappnpedjlnaaGreatDoor
