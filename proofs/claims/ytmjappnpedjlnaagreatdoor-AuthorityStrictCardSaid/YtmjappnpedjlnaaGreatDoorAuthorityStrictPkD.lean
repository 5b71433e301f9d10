/-
  What the law AuthorityStrict leans on, and its walk (4 of 35).
-/
import Derived.Lib.IndexMore
import Derived.Deep.Onto
import Derived.Laws.CopyOwn
import Derived.Lib.AppendZerosOnto
import Derived.Laws.MakeOwn
import Derived.Test.YtmjappnpedjlnaaGreatDoorAuthorityStrictPkC
namespace Go.Proofs.YtmjappnpedjlnaaGreatDoor
set_option maxRecDepth 100000
set_option maxHeartbeats 16000000
abbrev zzN := @Lib.hid
abbrev zzO := @beq_eq_false_iff_ne
abbrev zzP := @Nat.le_refl
abbrev zzQ := @Go.RowKit.Below.refl
section
section
open Go.RowKit Go.Sort Go.Lib
end
section
open Go.RowKit
def zcE (l:List UInt8):Int×Bool:=if l.length<1∨4<l.length then (0,false) else if zaQ 16 l then (valP 16 l,true) else (0,false)
def zaZ (l:List UInt8):List (List UInt8):=zcR (hasB [58]) l
def rowP (last:Bool):List Int→List (List UInt8)→List Int×Bool
 |acc,[]=>(acc,true)
 |acc,p::r=>if last=true∧r=[]∧(zaT p).2=true then (acc++[(zaT p).1/65536,(zaT p).1 % 65536],true)
  else if (zcE p).2=true then rowP last (acc++[(zcE p).1]) r else ([],false)
def rowZ (l:List UInt8) (last:Bool):List Int×Bool:=if l=[] then ([],true) else rowP last [] (zaZ l)
def ccAt:List UInt8→Option Nat
 |[]=>none
 |a::r=>if a=58∧r.head? =some 58 then some 0 else (ccAt r).map (· +1)
def sixL (l:List UInt8):List Int×Bool:=
 match ccAt l with
 |none=>if (rowZ l true).2=true∧(rowZ l true).1.length=8 then ((rowZ l true).1,true) else ([],false)
 |some k=>if (rowZ (l.take k) false).2=true∧(rowZ (l.drop (k+2)) true).2=true∧(rowZ (l.take k) false).1.length+(rowZ (l.drop (k+2)) true).1.length≤7 then
   ((rowZ (l.take k) false).1++List.replicate (8 - ((rowZ (l.take k) false).1.length+(rowZ (l.drop (k+2)) true).1.length)) 0++(rowZ (l.drop (k+2)) true).1,true)
  else ([],false)
def hi4 (l:List Int):Int:=((l.getD 0 0*65536+l.getD 1 0)*65536+l.getD 2 0)*65536+l.getD 3 0
def lo4 (l:List Int):Int:=((l.getD 4 0*65536+l.getD 5 0)*65536+l.getD 6 0)*65536+l.getD 7 0
def sixZ (l:List UInt8):(Int×Int)×Bool:=((hi4 (sixL l).1,lo4 (sixL l).1),(sixL l).2)
theorem zuB (L:List UInt8) (hd:zaQ 16 L=true):valP 16 L<16^L.length:=by
 induction L with
 |nil=>decide
 |cons c L ih=>
  have h2:digC 16 c=true∧zaQ 16 L=true:=by simpa [zaQ] using hd
  have h3:=of_decide_eq_true h2.1
  have h4:=ih h2.2
  rw [zuO,List.length_cons,Int.pow_succ]
  have hp:(0:Int)≤16^L.length:=Int.pow_nonneg (by decide)
  have hm:valZ (c.toNat:Int)*16^L.length≤15*16^L.length:=Int.mul_le_mul_of_nonneg_right (by omega) hp
  omega
theorem zjR (L:List UInt8) (hd:zaQ 16 L=true) (h:L.length≤3):0≤valP 16 L∧valP 16 L≤4095:=by
 refine ⟨ziA 16 (by decide) L hd,?_⟩
 have h1:=zuB L hd
 rcases (show L.length=0∨L.length=1∨L.length=2∨L.length=3 from by omega) with e|e|e|e<;>rw [e] at h1<;>omega
theorem zuM (L:List UInt8) (hd:zaQ 16 L=true) (h:L.length≤4):0≤valP 16 L∧valP 16 L≤65535:=by
 refine ⟨ziA 16 (by decide) L hd,?_⟩
 have h1:=zuB L hd
 rcases (show L.length=0∨L.length=1∨L.length=2∨L.length=3∨L.length=4 from by omega) with e|e|e|e|e<;>rw [e] at h1<;>omega
theorem zkU (b:Int) (s:ByteArray) (k:Nat) (h:k<s.size):valP b (s.data.toList.take (k+1))=valP b (s.data.toList.take k)*b+valZ (s[k].toNat:Int):=by
 rw [zcX s k h];simp [valP]
theorem zeO (l:List UInt8):0≤(zcE l).1∧(zcE l).1≤65535:=by
 unfold zcE
 split
 ·exact ⟨Int.le_refl _,by show (0:Int)≤_;omega⟩
 ·split
  ·exact zuM l (by assumption) (by omega)
  ·exact ⟨Int.le_refl _,by show (0:Int)≤_;omega⟩
theorem zgR {l:List UInt8} (h:l.length<1∨4<l.length):zcE l=(0,false):=by unfold zcE;rw [if_pos h]
theorem zkS {l:List UInt8} (h:zaQ 16 l=false):zcE l=(0,false):=by
 unfold zcE;split
 ·rfl
 ·rw [h];rfl
theorem ziZ {l:List UInt8} (h: ¬(l.length<1∨4<l.length)) (hd:zaQ 16 l=true):zcE l=(valP 16 l,true):=by
 unfold zcE;rw [if_neg h,hd];rfl
theorem zdZ (l:List UInt8):0≤(zaT l).1∧(zaT l).1≤4294967295:=by
 obtain ⟨⟨x,b⟩,hx⟩: ∃x,zaT l=x:=⟨_,rfl⟩
 rw [hx]
 cases b with
 |true=>have h:=znX l x hx;exact ⟨h.1,h.2.1⟩
 |false=>have h:=zmS l x hx;subst h;exact ⟨Int.le_refl _,by show (0:Int)≤_;omega⟩
theorem zoR (last:Bool) (acc:List Int):rowP last acc []=(acc,true):=rfl
theorem zkL {last:Bool} {acc:List Int} {p:List UInt8} {r:List (List UInt8)} {x:Int} (h1:last=true) (h2:r=[]) (h3:zaT p=(x,true)):rowP last acc (p::r)=(acc++[x/65536,x % 65536],true):=by
 unfold rowP;rw [if_pos ⟨h1,h2,by rw [h3]⟩,h3]
theorem zdQ {last:Bool} {acc:List Int} {p:List UInt8} {r:List (List UInt8)} {x:Int} (h: ¬(last=true∧r=[]∧(zaT p).2=true)) (h3:zcE p=(x,false)):rowP last acc (p::r)=([],false):=by
 unfold rowP;rw [if_neg h,h3];rfl
theorem zcS {last:Bool} {acc:List Int} {p:List UInt8} {r:List (List UInt8)} {x:Int} (h: ¬(last=true∧r=[]∧(zaT p).2=true)) (h3:zcE p=(x,true)):rowP last acc (p::r)=rowP last (acc++[x]) r:=by
 rw [rowP,if_neg h,h3];rfl
def In16 (l:List Int):Prop:= ∀x∈l,0≤x∧x≤65535
theorem In16.nil:In16 []:=fun _ h=>by cases h
theorem In16.append {a b:List Int} (ha:In16 a) (hb:In16 b):In16 (a++b):=fun x hx=>(List.mem_append.1 hx).elim (ha x) (hb x)
theorem In16.zeros (n:Nat):In16 (List.replicate n 0):=fun x hx=>by rw [(List.mem_replicate.1 hx).2];exact ⟨by decide,by decide⟩
theorem In16.getD {l:List Int} (h:In16 l) (k:Nat):0≤l.getD k 0∧l.getD k 0≤65535:=by
 rw [List.getD_eq_getElem?_getD]
 cases e:l[k]? with
 |none=>exact ⟨Int.le_refl _,by show (0:Int)≤_;omega⟩
 |some x=>exact h x (List.mem_of_getElem? e)
theorem zyV (last:Bool) (ps:List (List UInt8)): ∀acc,In16 acc→In16 (rowP last acc ps).1:=by
 induction ps with
 |nil=>intro acc h;exact h
 |cons p r ih=>
  intro acc h
  unfold rowP
  split
  ·have hb:=zdZ p
   refine h.append fun x hx=> ?_
   simp only [List.mem_cons,List.not_mem_nil,or_false] at hx
   rcases hx with rfl|rfl<;>omega
  ·split
   ·refine ih _ (h.append fun x hx=> ?_)
    simp only [List.mem_cons,List.not_mem_nil,or_false] at hx
    subst hx
    exact zeO p
   ·exact In16.nil
theorem zeL (l:List UInt8) (last:Bool):In16 (rowZ l last).1:=by
 unfold rowZ
 split
 ·exact In16.nil
 ·exact zyV _ _ _ In16.nil
theorem zwM (last:Bool) (ps:List (List UInt8)): ∀acc,(rowP last acc ps).1.length≤acc.length+ps.length+1:=by
 induction ps with
 |nil=>intro acc;simp [rowP]
 |cons p r ih=>
  intro acc
  unfold rowP
  split
  ·simp only [List.length_append,List.length_cons,List.length_nil];omega
  ·split
   ·have:=ih (acc++[(zcE p).1])
    simp only [List.length_append,List.length_cons,List.length_nil] at this ⊢
    omega
   ·simp
theorem ztV (l:List UInt8):In16 (sixL l).1:=by
 unfold sixL
 split
 ·split
  ·exact zeL _ _
  ·exact In16.nil
 ·split
  ·exact ((zeL _ _).append (In16.zeros _)).append (zeL _ _)
  ·exact In16.nil
theorem zqP {l:List Int} (h:In16 l):0≤hi4 l∧hi4 l≤18446744073709551615:=by
 have h0:=h.getD 0
 have h1:=h.getD 1
 have h2:=h.getD 2
 have h3:=h.getD 3
 unfold hi4
 omega
theorem zqO {l:List Int} (h:In16 l):0≤lo4 l∧lo4 l≤18446744073709551615:=by
 have h0:=h.getD 4
 have h1:=h.getD 5
 have h2:=h.getD 6
 have h3:=h.getD 7
 unfold lo4
 omega
def isCC (l:List UInt8) (k:Nat):Prop:=l[k]? =some 58∧l[k+1]? =some 58
theorem zyY {l:List UInt8}: ∀{k:Nat},ccAt l=some k→k+2≤l.length:=by
 induction l with
 |nil=>intro k h;cases h
 |cons a r ih=>
  intro k h
  unfold ccAt at h
  split at h
  ·rename_i hc
   cases h
   cases r with
   |nil=>exact absurd hc.2 (by simp)
   |cons b r=>simp
  ·cases hr:ccAt r with
   |none=>rw [hr] at h;cases h
   |some j=>
    rw [hr] at h
    have:=ih hr
    cases h
    simp only [List.length_cons]
    omega
theorem zpS (l:List UInt8):Lib.index l [58,58]=match ccAt l with|some k=>(k:Int)|none=> -1:=by
 induction l with
 |nil=>rfl
 |cons a r ih=>
  have hp:([58,58]:List UInt8).isPrefixOf (a::r)=decide (a=58∧r.head? =some 58):=by
   rw [Bool.eq_iff_iff,decide_eq_true_iff]
   cases r with
   |nil=>simp [List.isPrefixOf]
   |cons b r=>
    rw [List.isPrefixOf,List.isPrefixOf,List.isPrefixOf,Bool.and_true,Bool.and_eq_true,beq_iff_eq,beq_iff_eq,List.head?_cons,Option.some.injEq]
    exact ⟨fun h=>⟨h.1.symm,h.2.symm⟩,fun h=>⟨h.1.symm,h.2.symm⟩⟩
  unfold Lib.index ccAt
  rw [hp]
  by_cases hc:a=58∧r.head? =some 58
  ·rw [if_pos (by simpa using hc),if_pos hc];rfl
  ·rw [if_neg (by simpa using hc),if_neg hc,ih]
   cases ccAt r with
   |none=>rfl
   |some k=>
    have:((k:Int)== -1)=false:=by rw [zzO];omega
    simp [this]
theorem zxN {l:List UInt8} (h:ccAt l=none):Lib.cut l [58,58]=(l,[],false):=by
 unfold Lib.cut
 rw [zpS,h]
 rfl
theorem zxH {l:List UInt8} {k:Nat} (h:ccAt l=some k):Lib.cut l [58,58]=(l.take k,l.drop (k+2),true):=by
 unfold Lib.cut
 rw [zpS,h]
 show (if (0:Int)≤(k:Int) then _ else _)=_
 rw [if_pos (by omega)]
 rfl
theorem zwC (x y:Int) (hx0:0≤x) (hx:x≤4095) (hy0:0≤y) (hy:y<16):bits .or .u16 (x*16) y=x*16+y:=
 bits_join .u16 16 (by decide) (fun n h0 h1=>by rw [IntKind.wrap_u16];omega) 4 (x*16) y (by omega) (by omega) (by omega) hy0 (by omega) (by omega)
def zoW (w:World) (x:Int×Bool) (e:Ending) (w':World):Prop:=e= .returned (.tuple #[.int .u16 x.1,.bool x.2])∧Below w.heap.size w w'
theorem zdP {w w':World} {x:Int×Bool} {n:Int} {b:Bool} (h:x=(n,b)) (hb:Below w.heap.size w w'):zoW w x (.returned (.tuple #[.int .u16 n,.bool b])) w':=by
 subst h;exact ⟨rfl,hb⟩
theorem zbN (s:ByteArray) (w:World) (hs:s.size≤1073741824):
  Calls Tryz.prog 225 #[.string s] w (zoW w (zcE s.data.toList)):=by
 by_cases hn:s.size=0
 ·obtain rfl:=zbM s hn
  clear hn hs
  have HF:Hid (zcE (ByteArray.mk #[]).data.toList=(0,false)):=rfl
  go_enter Tryz.func225,Tryz.ntmps225
  go_wp2
  go_ret2
  exact zdP HF.out (zzQ _ _)
 ·have hse:=zcK s hn
  by_cases h4:4<s.size
  ·have HF:=zzN (zgR (l:=s.data.toList) (.inr (by rw [zaB];exact h4)))
   clear hn
   go_enter Tryz.func225,Tryz.ntmps225
   go_wp2
   go_ret2
   exact zdP HF.out (zzQ _ _)
  ·have HNO:=zzN (zkS (l:=s.data.toList))
   have HYES:=zzN (ziZ (l:=s.data.toList) (by rw [zaB];omega))
   clear hn
   go_enter Tryz.func225,Tryz.ntmps225
   go_wp2
   go_loopw [4] (fun n wr=> ∃(k:Nat) (A:Int),n= .int .u16 A∧k≤s.size∧wr.heap[w.heap.size]? =some (.stringIter s k)∧Below w.heap.size w wr∧w.heap.size+1≤wr.heap.size∧Hid (A=valP 16 (s.data.toList.take k))∧Hid (zaQ 16 (s.data.toList.take k)=true)) (fun _ wr=>s.size - wr.iterPos w.heap.size)
   case atStart=>exact ⟨0,0,rfl,Nat.zero_le _,World.iter_heap w s 0,(zzQ _ w).alloc (zzP _) _,by simp [World.iter],rfl,rfl⟩
   case round=>
    obtain ⟨k,A,rfl,hk,hit,hbw,hsz,HA,HDG⟩:=hrel
    by_cases hp:k<s.size
    ·obtain ⟨c,hc⟩: ∃c,(s[k]'hp).toNat=c:=⟨_,rfl⟩
     have hnx: ∀ty,(Instr.next (.pointer (some ⟨w.heap.size,0,none⟩)) true ty).run Tryz.prog wr=_:=fun ty=>Lib.run_next_any_at wr w.heap.size s k ty hit hp
     have hAb:=zjR _ HDG.out (by rw [List.length_take];omega)
     rw [←HA.out] at hAb
     obtain ⟨hA0,hA1⟩:=hAb
     by_cases hc128:c<128
     ·have hdec:=decode_ascii s k hp (by omega)
      rw [hc] at hdec
      rw [hdec] at hnx
      have hit2:=Lib.iterAt_heap wr w.heap.size s k (k+1) hit
      have hbw2:=Lib.below_iterAt hbw (k:=w.heap.size) (zzP _) s (k+1)
      have hsz2:w.heap.size+1≤(wr.iterAt w.heap.size s (k+1)).heap.size:=by rw [Lib.iterAt_size];exact hsz
      simp only at hnx
      generalize wr.iterAt w.heap.size s (k+1)=wi at*
      obtain ⟨v,hv⟩: ∃v,valZ (c:Int)=v:=⟨_,rfl⟩
      have hv16:v<16:=by rw [←hv];exact zjV _
      have HV:Hid (valZ (s[k].toNat:Int)=v):=by show valZ (s[k].toNat:Int)=v;rw [hc];exact hv
      have HIT:=zzN hit
      have HC:=zzN hc
      clear hit hc hdec
      by_cases h0:v<0
      ·have HF:=zzN (HNO.out (zcJ 16 s k hp (zcN HV.out (.inl h0))))
       go_wp2_with (go_at_call 129;refine (zbK _ _).mono ?_;rintro e w' ⟨rfl,rfl⟩)
       go_ret2
       exact zdP HF.out hbw2
      ·have HF:=zzN (zfC 16 s k hp HDG.out (zgK HV.out (by omega) (by omega)))
       have hsn:=zkU 16 s k hp
       rw [←HA.out,HV.out] at hsn
       have HSN:=zzN hsn
       clear hsn
       have hor:=zwC A v hA0 hA1 (by omega) hv16
       go_wp2_with (go_at_call 129;refine (zbK _ _).mono ?_;rintro e w' ⟨rfl,rfl⟩)
       go_roundw
       case rel=>exact ⟨k+1,_,rfl,by omega,hit2,hbw2,hsz2,HSN.out.symm,HF⟩
       case measure=>
        simp only [World.iterPos,hit2,HIT.out]
        omega
     ·have hh:=decode_high s k hp (by omega)
      obtain ⟨r,hr⟩: ∃r,(Utf8.decode s k).1=r:=⟨_,rfl⟩
      obtain ⟨wd,hwd⟩: ∃r,(Utf8.decode s k).2=r:=⟨_,rfl⟩
      have hrl:=decode_le s k
      rw [hr,hwd] at hnx
      rw [hr,hwd] at hh
      rw [hr] at hrl
      have hbw2:=Lib.below_iterAt hbw (k:=w.heap.size) (zzP _) s (k+wd)
      generalize wr.iterAt w.heap.size s (k+wd)=wi at*
      have hv:valZ (r:Int)= -1:=zfY _ (by omega)
      have HF:=zzN (HNO.out (zcJ 16 s k hp (zcN (zfY _ (by omega)) (.inl (by omega)))))
      clear hc hr hwd
      go_wp2_with (go_at_call 129;refine (zbK _ _).mono ?_;rintro e w' ⟨rfl,rfl⟩)
      go_ret2
      exact zdP HF.out hbw2
    ·have hnx: ∀ty,(Instr.next (.pointer (some ⟨w.heap.size,0,none⟩)) true ty).run Tryz.prog wr=_:=fun ty=>Lib.run_next_end_at wr w.heap.size s k ty hit hp
     have hdt:=HDG.out
     rw [zbW s k hp] at hdt
     have hat:=HA.out
     rw [zbW s k hp] at hat
     have HF:=zzN (HYES.out hdt)
     have HAT:=zzN hat
     clear hdt hat
     go_wp2
     go_ret2
     exact zdP (by rw [HF.out,HAT.out]) hbw
def zkO (l:List UInt8):Int:=if (zcE l).2=true then (zcE l).1 else -1
theorem zcH {l:List UInt8} {x:Int} (h:zcE l=(x,false)):zkO l= -1:=by unfold zkO;rw [h];rfl
theorem zcQ {l:List UInt8} {x:Int} (h:zcE l=(x,true)):zkO l=x:=by unfold zkO;rw [h];rfl
theorem zaV (s:ByteArray) (w:World) (hs:s.size≤1073741824):
  Calls Tryz.prog 202 #[.string s] w fun e w'=>e= .returned (.int .i64 (zkO s.data.toList))∧w=w':=by
 by_cases hn:s.size<1
 ·have HF:=zzN (zcH (zgR (l:=s.data.toList) (.inl (by rw [zaB];exact hn))))
  go_enter Tryz.func202,Tryz.ntmps202
  go_wp2
  go_ret
  exact ⟨zbC HF.out.symm,rfl⟩
 ·by_cases h4:4<s.size
  ·have HF:=zzN (zcH (zgR (l:=s.data.toList) (.inr (by rw [zaB];exact h4))))
   go_enter Tryz.func202,Tryz.ntmps202
   go_wp2
   go_ret
   exact ⟨zbC HF.out.symm,rfl⟩
  ·have HNO:=zzN (zkS (l:=s.data.toList))
   have HYES:=zzN (ziZ (l:=s.data.toList) (by rw [zaB];omega))
   go_enter Tryz.func202,Tryz.ntmps202
   go_wp2
   go_loop [3,4] (fun n i=> ∃(k:Nat) (A:Int),n= .int .i64 A∧i= .int .i64 k∧k≤s.size∧Hid (A=valP 16 (s.data.toList.take k))∧Hid (zaQ 16 (s.data.toList.take k)=true)) (fun _ i=>s.size - (intOf i).toNat)
   case atStart=>exact ⟨0,0,rfl,rfl,Nat.zero_le _,rfl,rfl⟩
   case round=>
    obtain ⟨k,A,rfl,rfl,hk,HA,HDG⟩:=hrel
    by_cases hp:k<s.size
    ·obtain ⟨c,hc⟩: ∃c,(s[k]'hp).toNat=c:=⟨_,rfl⟩
     have hc256:c<256:=by rw [←hc];exact (s[k]'hp).toNat_lt
     have hAb:=zjR _ HDG.out (by rw [List.length_take];omega)
     rw [←HA.out] at hAb
     obtain ⟨hA0,hA1⟩:=hAb
     obtain ⟨v,hv⟩: ∃v,valZ (c:Int)=v:=⟨_,rfl⟩
     have hv16:v<16:=by rw [←hv];exact zjV _
     have HV:Hid (valZ (s[k].toNat:Int)=v):=by show valZ (s[k].toNat:Int)=v;rw [hc];exact hv
     by_cases h0:v<0
     ·have HF:=zzN (zcH (HNO.out (zcJ 16 s k hp (zcN HV.out (.inl h0)))))
      go_wp2_with (go_at_call 108;refine (zbE _ _).mono ?_;rintro e w' ⟨rfl,rfl⟩)
      go_ret
      exact ⟨zbC HF.out.symm,rfl⟩
     ·have HF:=zzN (zfC 16 s k hp HDG.out (zgK HV.out (by omega) (by omega)))
      have hsn:=zkU 16 s k hp
      rw [←HA.out,HV.out] at hsn
      have HSN:=zzN hsn
      clear hsn
      go_wp2_with (go_at_call 108;refine (zbE _ _).mono ?_;rintro e w' ⟨rfl,rfl⟩)
      go_round
      case rel=>exact ⟨k+1,_,rfl,by go_num,by omega,HSN.out.symm,HF⟩
      case measure=>simp [intOf];omega
    ·have hdt:=HDG.out
     rw [zbW s k hp] at hdt
     have hat:=HA.out
     rw [zbW s k hp] at hat
     have HF:=zzN ((zcQ (HYES.out hdt)).trans hat.symm)
     clear hdt hat
     go_wp2
     go_ret
     exact ⟨zbC HF.out.symm,rfl⟩
theorem Tryz.infoU16:(Tryz.prog.info? 177).map (fun i=>(i.zero,i.size,i.bytes))=some (some (.int .u16 0),1,2):=by kernel_rfl
theorem Tryz.infoInt:(Tryz.prog.info? 3).map (fun i=>(i.zero,i.size,i.bytes))=some (some (.int .i64 0),1,8):=by kernel_rfl
theorem zyU (w:World) (u1 u2:Value) (t:TypeId): ∀j x,[u1,u2][j]? =some x→(w.alloc (.cells #[u1,u2] t)).cell? ((⟨w.heap.size,0,none⟩:Addr).add j)=some x:=by
 intro j x hj
 match j,hj with
 |0,hj=>simp at hj;subst hj;simp [Addr.add]
 |1,hj=>simp at hj;subst hj;simp [Addr.add]
theorem zjF {P:Program} (w:World) {ops:Array Oper} {rest:List Oper} {o:Oper} {a:Act} {Q:Exit→Act→World→Prop} (hgd:o.guard=none) (s x:Operand) (t:TypeId)
  (ho:o.op= .call {callee:= .builtin .append,args:= #[s,x],argTypes:= #[t,t]})
  (base:Nat) (e:TypeId) (i:TypeInfo) (z:Value) (bytes:Nat) (ht:P.underlying t=some (.slice e)) (hi:P.info? e=some i) (hz:i.zero=some z)
  (hsize:i.size=1) (hby:i.bytes=bytes) (hzs:z.cells.size=1)
  (v:Value) (n:Nat) (xs:List Value) (hs:a.eval s=v) (hown:w.ownsRow base e 1 v n xs) (u1 u2:Value) (hx:a.eval x= .slice (some ⟨w.heap.size,0,none⟩) 2 2) (hu1:u1.oneCell'=true) (hu2:u2.oneCell'=true)
  (h63:n+2≤maxLen) (hbytes:(n+2)*bytes≤140737488355328) (hbase:base≤w.heap.size)
  (h: ∀v' w',w'.ownsRow base e 1 v' (n+2) (xs++[u1,u2])→Below base w w'→wpList P ops Q rest (a.put o.dst v') w'):wpList P ops Q (o::rest) a (w.alloc (.cells #[u1,u2] e)):=by
 refine wpList_append_own (w.alloc (.cells #[u1,u2] e)) hgd s x t ho base e i z 1 bytes ht hi hz hsize hby hzs (by decide) v n xs hs (hown.alloc _) ⟨w.heap.size,0,none⟩ 2 2 [u1,u2] hx rfl (zyU w u1 u2 e) ?_ h63 hbytes (by simp;omega) ?_
 ·intro y hy;simp at hy;rcases hy with rfl|rfl<;>assumption
 ·intro v' w1 hown' hgrow _
  exact h v' w1 hown' (((zzQ base w).alloc hbase _).grown hgrow (by simp;omega) (fun k hk=>(hown.lt k hk).1))
def Nums (t:TypeId) (k:IntKind) (B:Nat) (w:World) (v:Value) (l:List Int):Prop:=w.ownsRow B t 1 v l.length (l.map (Value.int k))
theorem Nums.nil (t:TypeId) (k:IntKind) (B:Nat) (w:World):Nums t k B w (.slice none 0 0) []:=World.ownsRow_nil _ _ _ _
theorem Nums.below {t:TypeId} {k:IntKind} {B:Nat} {w w':World} {v:Value} {l:List Int} (h:Nums t k B w v l) (hb:Below w.heap.size w w'):Nums t k B w' v l:=zaR h hb
theorem Nums.mono {t:TypeId} {k:IntKind} {B B':Nat} {w:World} {v:Value} {l:List Int} (h:Nums t k B w v l) (hb:B'≤B):Nums t k B' w v l:=World.ownsRow.mono h hb
theorem Nums.snoc2 {t:TypeId} {k:IntKind} {B:Nat} {w:World} {v:Value} {l:List Int} {x y:Int} (h:w.ownsRow B t 1 v (l.length+2) (l.map (Value.int k)++[.int k x,.int k y])):Nums t k B w v (l++[x,y]):=by
 unfold Nums;rw [List.length_append,List.map_append];exact h
theorem Nums.row {t:TypeId} {k:IntKind} {B:Nat} {w:World} {v:Value} {l:List Int} (h:Nums t k B w v l):RowR w v (l.map (Value.int k)):=by
 refine RowR.of_own (base:=B) (e:=t) ?_
 rw [List.length_map];exact h
def znJ (t:TypeId) (k:IntKind) (w:World) (x:List Int×Bool) (e:Ending) (w':World):Prop:= ∃v,e= .returned (.tuple #[v,.bool x.2])∧Nums t k w.heap.size w' v x.1∧Below w.heap.size w w'
theorem zbB {t:TypeId} {k:IntKind} {w w':World} {x:List Int×Bool} {v:Value} {l:List Int} {b:Bool} (h:x=(l,b)) (hn:Nums t k w.heap.size w' v l) (hb:Below w.heap.size w w'):znJ t k w x (.returned (.tuple #[v,.bool b])) w':=by
 subst h;exact ⟨v,rfl,hn,hb⟩
theorem zuC {l:List UInt8} {last:Bool} (h:l≠[]):rowZ l last=rowP last [] ((zaZ l).drop 0):=by unfold rowZ;rw [if_neg h];rfl
theorem zjE (k:Nat) (ps:List (List UInt8)) (h:k<ps.length):ps.drop k=ps.getD k []::ps.drop (k+1):=by
 rw [List.drop_eq_getElem_cons h,List.getD,List.getElem?_eq_getElem h];rfl
theorem zgA (k:Nat) (ps:List (List UInt8)) (h:ps.length≤k):ps.drop k=[]:=List.drop_eq_nil_of_le h
theorem zjT (k:Nat) (ps:List (List UInt8)) (h:k<ps.length):ps.drop k≠[]:=by intro e;have:=congrArg List.length e;simp at this;omega
theorem zfQ (s:ByteArray) (last:Bool) (w:World) (hs:s.size≤1073741824):
  Calls Tryz.prog 197 #[.string s,.bool last] w (znJ 177 .u16 w (rowZ s.data.toList last)):=by
 by_cases hn:s.size=0
 ·obtain rfl:=zbM s hn
  clear hn hs
  have HF:Hid (rowZ (ByteArray.mk #[]).data.toList last=([],true)):=rfl
  go_enter Tryz.func197,Tryz.ntmps197
  go_wp2
  go_ret2
  exact zbB HF.out (Nums.nil _ _ _ _) (zzQ _ _)
 ·have hse:=zcK s hn
  obtain ⟨i0,hi,hz0,hz1,hz2⟩:=info_parts Tryz.infoU16
  have HZ:=zzN (zuC (last:=last) (zbQ s hn))
  clear hn
  obtain ⟨m,hm⟩: ∃m,(zaZ s.data.toList).length=m:=⟨_,rfl⟩
  have h0:0<(zaZ s.data.toList).length:=zdN _ _
  rw [hm] at h0
  have hmb:m≤1073741825:=by
   have h1:=zbS (hasB [58]) s.data.toList
   rw [zaB] at h1
   have h2:=hm
   unfold zaZ at h2
   omega
  have HM:=zzN hm
  clear hm
  go_enter Tryz.func197,Tryz.ntmps197
  go_wp2_with fail
  refine (zdD s _ _ hs).mono ?_
  rintro e w1 ⟨v,rfl,hp,hb1⟩
  have hp':zbY w.heap.size w1 v (zaZ s.data.toList):=hp
  obtain ⟨g,cap,rfl,hcap,hg,hcell⟩:=hp'.form2 (by rw [HM.out];exact h0)
  rw [HM.out] at hcap hcell ⊢
  have HCELL:=zzN hcell
  clear hp hp' hcell
  have HCAP:=zzN hcap
  go_wp2
  go_loopw [7,20] (fun v i wr=> ∃(k:Nat) (T:List Int),k≤m∧i= .int .i64 k∧wr.ownsRow w1.heap.size 177 1 v k (T.map (Value.int .u16))∧Hid (T.length=k)∧Hid (rowP last T ((zaZ s.data.toList).drop k)=rowZ s.data.toList last)∧Below w1.heap.size w1 wr) (fun _ i _=>m - (intOf i).toNat)
  case atStart=>exact ⟨0,[],by omega,rfl,World.ownsRow_nil _ _ _ _,rfl,HZ.out.symm,zzQ _ _⟩
  case round=>
   obtain ⟨k,T,hk,rfl,hown,HTL,HG,hbw⟩:=hrel
   by_cases hkm:k<m
   ·obtain ⟨p,hpk⟩: ∃p,(zaZ s.data.toList).getD k []=p:=⟨_,rfl⟩
    have hcx:=HCELL.out k hkm
    rw [hpk] at hcx
    have hcx2:wr.cell? ⟨g,k,none⟩=some (.string ⟨p.toArray⟩):=(hbw.cell (p:=⟨g,k,none⟩) hg).trans hcx
    have hpl:p.length≤s.size:=by rw [←hpk,←zaB];exact zcI _ _ _
    have hdr:=zjE k (zaZ s.data.toList) (by rw [HM.out];exact hkm)
    rw [hpk] at hdr
    have HDR:=zzN hdr
    have HG1:Hid (rowP last T (p::(zaZ s.data.toList).drop (k+1))=rowZ s.data.toList last):=by
     show rowP last T (p::(zaZ s.data.toList).drop (k+1))=rowZ s.data.toList last
     rw [←HDR.out];exact HG.out
    clear hdr hcx HDR
    have HP:=zzN hpk
    clear hpk
    obtain ⟨x,b,hpz⟩: ∃x b,zcE p=(x,b):=⟨_,_,rfl⟩
    have hx:0≤x∧x≤65535:=by have h9:=zeO p;rw [hpz] at h9;exact h9
    obtain ⟨hx0,hx1⟩:=hx
    have HPZ:=zzN hpz
    clear hpz
    obtain ⟨y,b4,hsz4⟩: ∃x b,zaT p=(x,b):=⟨_,_,rfl⟩
    have hy:0≤y∧y≤4294967295:=by have h9:=zdZ p;rw [hsz4] at h9;exact h9
    obtain ⟨hy0,hy1⟩:=hy
    have HS4:=zzN hsz4
    clear hsz4
    by_cases hlast:k+1=m
    ·have hq1:((k:Int)==(m:Int) - 1)=true:=by rw [beq_iff_eq];omega
     have HLAST:=zzN (zgA (k+1) (zaZ s.data.toList) (by rw [HM.out];omega))
     have hlo:m - 1≤k:=by omega
     clear hlast
     cases last with
     |true=>
      cases b4 with
      |true=>
       have HF:=zzN (HG1.out.symm.trans (zkL rfl HLAST.out HS4.out))
       go_wp2_with fail
       refine (zgY ⟨p.toArray⟩ _ (by rw [zaA];omega)).mono ?_
       rw [zaE,HS4.out]
       rintro e w2 ⟨rfl,hb2⟩
       have hc2:Below w1.heap.size w1 w2:=hbw.trans (hb2.mono hbw.size)
       have hown2:=zaR hown hb2
       have hsz2:=hc2.size
       clear hb2 hown
       go_wp2_with (at_builtin;refine zjF _ rfl _ _ 183 rfl w1.heap.size 177 i0 (.int .u16 0) 2 Tryz.underlying183 hi hz0 hz1 hz2 rfl _ _ _ rfl hown2 (.int .u16 (y/65536)) (.int .u16 (y % 65536)) rfl rfl rfl (by unfold maxLen;omega) (by omega) hsz2 ?_;intro v' w3 hown' hk')
       go_ret2
       exact zbB HF.out ((Nums.snoc2 (by rw [HTL.out];exact hown')).mono hb1.size) (hb1.trans ((hc2.trans hk').mono hb1.size))
      |false=>
       have HNOT:Hid (¬(true=true∧(zaZ s.data.toList).drop (k+1)=[]∧(zaT p).2=true)):=by
        show ¬_
        rintro ⟨h1,h2,h3⟩
        first|exact HNE.out h2|exact absurd h1 (by decide)|(rw [HS4.out] at h3;exact absurd (show false=true from h3) (by decide))
       cases b with
       |true=>
        have hgo:=HG1.out
        rw [zcS HNOT.out HPZ.out] at hgo
        have HG2:=zzN hgo
        clear hgo
        go_wp2_with fail
        refine (zgY ⟨p.toArray⟩ _ (by rw [zaA];omega)).mono ?_
        rw [zaE,HS4.out]
        rintro e w2 ⟨rfl,hb2⟩
        have hc2:Below w1.heap.size w1 w2:=hbw.trans (hb2.mono hbw.size)
        have hown2:=zaR hown hb2
        clear hb2 hown
        go_wp2_with fail
        refine (zbN ⟨p.toArray⟩ _ (by rw [zaA];omega)).mono ?_
        rw [zaE,HPZ.out]
        rintro e w3 ⟨rfl,hb3⟩
        have hc3:Below w1.heap.size w1 w3:=hc2.trans (hb3.mono hc2.size)
        have hown3:=zaR hown2 hb3
        have hsz3:=hc3.size
        clear hb3 hown2
        go_wp2_with (at_builtin;refine zaW _ rfl _ _ 183 rfl w1.heap.size 177 i0 (.int .u16 0) 2 Tryz.underlying183 hi hz0 hz1 hz2 rfl _ _ _ rfl hown3 (.int .u16 x) rfl rfl (by omega) (by omega) hsz3 ?_;intro v' w4 hown' hk')
        go_roundw
        case rel=>exact ⟨k+1,T++[x],by omega,by go_num,(by rw [List.map_append];exact hown'),(by show (T++[x]).length=k+1;rw [List.length_append,HTL.out];rfl),HG2,hc3.trans hk'⟩
        case measure=>simp [intOf];omega
       |false=>
        have HF:=zzN (HG1.out.symm.trans (zdQ HNOT.out HPZ.out))
        go_wp2_with fail
        refine (zgY ⟨p.toArray⟩ _ (by rw [zaA];omega)).mono ?_
        rw [zaE,HS4.out]
        rintro e w2 ⟨rfl,hb2⟩
        have hc2:Below w1.heap.size w1 w2:=hbw.trans (hb2.mono hbw.size)
        have hown2:=zaR hown hb2
        clear hb2 hown
        go_wp2_with fail
        refine (zbN ⟨p.toArray⟩ _ (by rw [zaA];omega)).mono ?_
        rw [zaE,HPZ.out]
        rintro e w3 ⟨rfl,hb3⟩
        have hc3:Below w1.heap.size w1 w3:=hc2.trans (hb3.mono hc2.size)
        clear hb3
        go_wp2
        go_ret2
        exact zbB HF.out (Nums.nil _ _ _ _) (hb1.trans (hc3.mono hb1.size))
     |false=>
      have HNOT:Hid (¬(false=true∧(zaZ s.data.toList).drop (k+1)=[]∧(zaT p).2=true)):=by
       show ¬_
       rintro ⟨h1,h2,h3⟩
       first|exact HNE.out h2|exact absurd h1 (by decide)|(rw [HS4.out] at h3;exact absurd (show false=true from h3) (by decide))
      cases b with
      |true=>
       have hgo:=HG1.out
       rw [zcS HNOT.out HPZ.out] at hgo
       have HG2:=zzN hgo
       clear hgo
       go_wp2_with fail
       refine (zbN ⟨p.toArray⟩ _ (by rw [zaA];omega)).mono ?_
       rw [zaE,HPZ.out]
       rintro e w3 ⟨rfl,hb3⟩
       have hc3:Below w1.heap.size w1 w3:=hbw.trans (hb3.mono hbw.size)
       have hown3:=zaR hown hb3
       have hsz3:=hc3.size
       clear hb3 hown
       go_wp2_with (at_builtin;refine zaW _ rfl _ _ 183 rfl w1.heap.size 177 i0 (.int .u16 0) 2 Tryz.underlying183 hi hz0 hz1 hz2 rfl _ _ _ rfl hown3 (.int .u16 x) rfl rfl (by omega) (by omega) hsz3 ?_;intro v' w4 hown' hk')
       go_roundw
       case rel=>exact ⟨k+1,T++[x],by omega,by go_num,(by rw [List.map_append];exact hown'),(by show (T++[x]).length=k+1;rw [List.length_append,HTL.out];rfl),HG2,hc3.trans hk'⟩
       case measure=>simp [intOf];omega
      |false=>
       have HF:=zzN (HG1.out.symm.trans (zdQ HNOT.out HPZ.out))
       go_wp2_with fail
       refine (zbN ⟨p.toArray⟩ _ (by rw [zaA];omega)).mono ?_
       rw [zaE,HPZ.out]
       rintro e w3 ⟨rfl,hb3⟩
       have hc3:Below w1.heap.size w1 w3:=hbw.trans (hb3.mono hbw.size)
       clear hb3
       go_wp2
       go_ret2
       exact zbB HF.out (Nums.nil _ _ _ _) (hb1.trans (hc3.mono hb1.size))
    ·have hq1:((k:Int)==(m:Int) - 1)=false:=by rw [zzO];omega
     have HNE:=zzN (zjT (k+1) (zaZ s.data.toList) (by rw [HM.out];omega))
     clear hlast
     cases last with
     |true=>
      have HNOT:Hid (¬(true=true∧(zaZ s.data.toList).drop (k+1)=[]∧(zaT p).2=true)):=by
       show ¬_
       rintro ⟨h1,h2,h3⟩
       first|exact HNE.out h2|exact absurd h1 (by decide)|(rw [HS4.out] at h3;exact absurd (show false=true from h3) (by decide))
      cases b with
      |true=>
       have hgo:=HG1.out
       rw [zcS HNOT.out HPZ.out] at hgo
       have HG2:=zzN hgo
       clear hgo
       go_wp2_with fail
       refine (zbN ⟨p.toArray⟩ _ (by rw [zaA];omega)).mono ?_
       rw [zaE,HPZ.out]
       rintro e w3 ⟨rfl,hb3⟩
       have hc3:Below w1.heap.size w1 w3:=hbw.trans (hb3.mono hbw.size)
       have hown3:=zaR hown hb3
       have hsz3:=hc3.size
       clear hb3 hown
       go_wp2_with (at_builtin;refine zaW _ rfl _ _ 183 rfl w1.heap.size 177 i0 (.int .u16 0) 2 Tryz.underlying183 hi hz0 hz1 hz2 rfl _ _ _ rfl hown3 (.int .u16 x) rfl rfl (by omega) (by omega) hsz3 ?_;intro v' w4 hown' hk')
       go_roundw
       case rel=>exact ⟨k+1,T++[x],by omega,by go_num,(by rw [List.map_append];exact hown'),(by show (T++[x]).length=k+1;rw [List.length_append,HTL.out];rfl),HG2,hc3.trans hk'⟩
       case measure=>simp [intOf];omega
      |false=>
       have HF:=zzN (HG1.out.symm.trans (zdQ HNOT.out HPZ.out))
       go_wp2_with fail
       refine (zbN ⟨p.toArray⟩ _ (by rw [zaA];omega)).mono ?_
       rw [zaE,HPZ.out]
       rintro e w3 ⟨rfl,hb3⟩
       have hc3:Below w1.heap.size w1 w3:=hbw.trans (hb3.mono hbw.size)
       clear hb3
       go_wp2
       go_ret2
       exact zbB HF.out (Nums.nil _ _ _ _) (hb1.trans (hc3.mono hb1.size))
     |false=>
      have HNOT:Hid (¬(false=true∧(zaZ s.data.toList).drop (k+1)=[]∧(zaT p).2=true)):=by
       show ¬_
       rintro ⟨h1,h2,h3⟩
       first|exact HNE.out h2|exact absurd h1 (by decide)|(rw [HS4.out] at h3;exact absurd (show false=true from h3) (by decide))
      cases b with
      |true=>
       have hgo:=HG1.out
       rw [zcS HNOT.out HPZ.out] at hgo
       have HG2:=zzN hgo
       clear hgo
       go_wp2_with fail
       refine (zbN ⟨p.toArray⟩ _ (by rw [zaA];omega)).mono ?_
       rw [zaE,HPZ.out]
       rintro e w3 ⟨rfl,hb3⟩
       have hc3:Below w1.heap.size w1 w3:=hbw.trans (hb3.mono hbw.size)
       have hown3:=zaR hown hb3
       have hsz3:=hc3.size
       clear hb3 hown
       go_wp2_with (at_builtin;refine zaW _ rfl _ _ 183 rfl w1.heap.size 177 i0 (.int .u16 0) 2 Tryz.underlying183 hi hz0 hz1 hz2 rfl _ _ _ rfl hown3 (.int .u16 x) rfl rfl (by omega) (by omega) hsz3 ?_;intro v' w4 hown' hk')
       go_roundw
       case rel=>exact ⟨k+1,T++[x],by omega,by go_num,(by rw [List.map_append];exact hown'),(by show (T++[x]).length=k+1;rw [List.length_append,HTL.out];rfl),HG2,hc3.trans hk'⟩
       case measure=>simp [intOf];omega
      |false=>
       have HF:=zzN (HG1.out.symm.trans (zdQ HNOT.out HPZ.out))
       go_wp2_with fail
       refine (zbN ⟨p.toArray⟩ _ (by rw [zaA];omega)).mono ?_
       rw [zaE,HPZ.out]
       rintro e w3 ⟨rfl,hb3⟩
       have hc3:Below w1.heap.size w1 w3:=hbw.trans (hb3.mono hbw.size)
       clear hb3
       go_wp2
       go_ret2
       exact zbB HF.out (Nums.nil _ _ _ _) (hb1.trans (hc3.mono hb1.size))
   ·obtain rfl:k=m:=by omega
    have hfin:=HG.out
    rw [zgA k _ (by rw [HM.out];omega),zoR] at hfin
    have HF:=zzN hfin.symm
    clear hfin
    go_wp2
    go_ret2
    exact zbB HF.out (Nums.mono (show Nums _ _ _ _ _ _ from by unfold Nums;rw [HTL.out];exact hown) hb1.size) (hb1.trans (hbw.mono hb1.size))
theorem zfO (s:ByteArray) (last:Bool) (w:World) (hs:s.size≤1073741824):
  Calls Tryz.prog 154 #[.string s,.bool last] w (znJ 3 .i64 w (rowZ s.data.toList last)):=by
 by_cases hn:s.size=0
 ·obtain rfl:=zbM s hn
  clear hn hs
  have HF:Hid (rowZ (ByteArray.mk #[]).data.toList last=([],true)):=rfl
  go_enter Tryz.func154,Tryz.ntmps154
  go_wp2
  go_ret2
  exact zbB HF.out (Nums.nil _ _ _ _) (zzQ _ _)
 ·have hse:=zcK s hn
  obtain ⟨i0,hi,hz0,hz1,hz2⟩:=info_parts Tryz.infoInt
  have HZ:=zzN (zuC (last:=last) (zbQ s hn))
  clear hn
  obtain ⟨m,hm⟩: ∃m,(zaZ s.data.toList).length=m:=⟨_,rfl⟩
  have h0:0<(zaZ s.data.toList).length:=zdN _ _
  rw [hm] at h0
  have hmb:m≤1073741825:=by
   have h1:=zbS (hasB [58]) s.data.toList
   rw [zaB] at h1
   have h2:=hm
   unfold zaZ at h2
   omega
  have HM:=zzN hm
  clear hm
  go_enter Tryz.func154,Tryz.ntmps154
  go_wp2_with fail
  refine (zbT s _ _ hs (by decide)).mono ?_
  rintro e w1 ⟨v,rfl,hp,hb1⟩
  have hp':zbY w.heap.size w1 v (zaZ s.data.toList):=hp
  obtain ⟨g,cap,rfl,hcap,hg,hcell⟩:=hp'.form2 (by rw [HM.out];exact h0)
  rw [HM.out] at hcap hcell ⊢
  have HCELL:=zzN hcell
  clear hp hp' hcell
  have HCAP:=zzN hcap
  go_wp2
  go_loopw [6,8] (fun v i wr=> ∃(k n:Nat) (T:List Int),k≤m∧n≤2*k∧i= .int .i64 k∧wr.ownsRow w1.heap.size 3 1 v n (T.map (Value.int .i64))∧Hid (T.length=n)∧Hid (rowP last T ((zaZ s.data.toList).drop k)=rowZ s.data.toList last)∧Below w1.heap.size w1 wr) (fun _ i _=>m - (intOf i).toNat)
  case atStart=>exact ⟨0,0,[],by omega,by omega,rfl,World.ownsRow_nil _ _ _ _,rfl,HZ.out.symm,zzQ _ _⟩
  case round=>
   obtain ⟨k,n,T,hk,hnk,rfl,hown,HTL,HG,hbw⟩:=hrel
   by_cases hkm:k<m
   ·obtain ⟨p,hpk⟩: ∃p,(zaZ s.data.toList).getD k []=p:=⟨_,rfl⟩
    have hcx:=HCELL.out k hkm
    rw [hpk] at hcx
    have hcx2:wr.cell? ⟨g,k,none⟩=some (.string ⟨p.toArray⟩):=(hbw.cell (p:=⟨g,k,none⟩) hg).trans hcx
    have hpl:p.length≤s.size:=by rw [←hpk,←zaB];exact zcI _ _ _
    have hdr:=zjE k (zaZ s.data.toList) (by rw [HM.out];exact hkm)
    rw [hpk] at hdr
    have HDR:=zzN hdr
    have HG1:Hid (rowP last T (p::(zaZ s.data.toList).drop (k+1))=rowZ s.data.toList last):=by
     show rowP last T (p::(zaZ s.data.toList).drop (k+1))=rowZ s.data.toList last
     rw [←HDR.out];exact HG.out
    have HCX:=zzN hcx
    clear hdr hcx HDR
    have HP:=zzN hpk
    clear hpk
    obtain ⟨x,b,hpz⟩: ∃x b,zcE p=(x,b):=⟨_,_,rfl⟩
    have hx:0≤x∧x≤65535:=by have h9:=zeO p;rw [hpz] at h9;exact h9
    obtain ⟨hx0,hx1⟩:=hx
    have HPZ:=zzN hpz
    clear hpz
    obtain ⟨y,b4,hsz4⟩: ∃x b,zaT p=(x,b):=⟨_,_,rfl⟩
    have hy:0≤y∧y≤4294967295:=by have h9:=zdZ p;rw [hsz4] at h9;exact h9
    obtain ⟨hy0,hy1⟩:=hy
    have HS4:=zzN hsz4
    clear hsz4
    by_cases hlast:k+1=m
    ·have hq1:((k:Int)==(m:Int) - 1)=true:=by rw [beq_iff_eq];omega
     have HLAST:=zzN (zgA (k+1) (zaZ s.data.toList) (by rw [HM.out];omega))
     have hlo:m - 1≤k:=by omega
     clear hlast
     cases last with
     |true=>
      cases b4 with
      |true=>
       have HF:=zzN (HG1.out.symm.trans (zkL rfl HLAST.out HS4.out))
       go_wp2_with fail
       refine (zaM ⟨p.toArray⟩ _ (by rw [zaA];omega)).mono ?_
       rw [zaE,HS4.out]
       rintro e w2 ⟨rfl,hb2⟩
       have hc2:Below w1.heap.size w1 w2:=hbw.trans (hb2.mono hbw.size)
       have hown2:=zaR hown hb2
       have hsz2:=hc2.size
       clear hb2 hown
       clear hcx2
       have HG3:Hid (rowP true (T++[y/65536,y % 65536]) ((zaZ s.data.toList).drop (k+1))=rowZ s.data.toList true):=by
        show rowP true (T++[y/65536,y % 65536]) ((zaZ s.data.toList).drop (k+1))=rowZ s.data.toList true
        rw [HLAST.out];exact HF.out.symm
       go_wp2_with (at_builtin;refine zjF _ rfl _ _ 157 rfl w1.heap.size 3 i0 (.int .i64 0) 8 Tryz.underlying157 hi hz0 hz1 hz2 rfl _ _ _ rfl hown2 (.int .i64 (y/65536)) (.int .i64 (y % 65536)) rfl rfl rfl (by unfold maxLen;omega) (by omega) hsz2 ?_;intro v' w3 hown' hk')
       go_roundw
       case rel=>exact ⟨k+1,n+2,T++[y/65536,y % 65536],by omega,by omega,by go_num,(by rw [List.map_append];exact hown'),(by show (T++[y/65536,y % 65536]).length=n+2;rw [List.length_append,HTL.out];rfl),HG3,hc2.trans hk'⟩
       case measure=>simp [intOf];omega
      |false=>
       have HNOT:Hid (¬(true=true∧(zaZ s.data.toList).drop (k+1)=[]∧(zaT p).2=true)):=by
        show ¬_
        rintro ⟨h1,h2,h3⟩
        first|exact HNE.out h2|exact absurd h1 (by decide)|(rw [HS4.out] at h3;exact absurd (show false=true from h3) (by decide))
       cases b with
       |true=>
        have hgo:=HG1.out
        rw [zcS HNOT.out HPZ.out] at hgo
        have HG2:=zzN hgo
        clear hgo
        go_wp2_with fail
        refine (zaM ⟨p.toArray⟩ _ (by rw [zaA];omega)).mono ?_
        rw [zaE,HS4.out]
        rintro e w2 ⟨rfl,hb2⟩
        have hc2:Below w1.heap.size w1 w2:=hbw.trans (hb2.mono hbw.size)
        have hown2:=zaR hown hb2
        have hsz2:=hc2.size
        clear hb2 hown
        have hcx3:w2.cell? ⟨g,k,none⟩=some (.string ⟨p.toArray⟩):=(hc2.cell (p:=⟨g,k,none⟩) hg).trans HCX.out
        clear hcx2
        go_wp2_with fail
        refine (zaV ⟨p.toArray⟩ _ (by rw [zaA];omega)).mono ?_
        rw [zaE,zcQ HPZ.out]
        rintro e w' ⟨rfl,rfl⟩
        go_wp2_with (at_builtin;refine zaW _ rfl _ _ 157 rfl w1.heap.size 3 i0 (.int .i64 0) 8 Tryz.underlying157 hi hz0 hz1 hz2 rfl _ _ _ rfl hown2 (.int .i64 x) rfl rfl (by omega) (by omega) hsz2 ?_;intro v' w4 hown' hk')
        go_roundw
        case rel=>exact ⟨k+1,n+1,T++[x],by omega,by omega,by go_num,(by rw [List.map_append];exact hown'),(by show (T++[x]).length=n+1;rw [List.length_append,HTL.out];rfl),HG2,hc2.trans hk'⟩
        case measure=>simp [intOf];omega
       |false=>
        have HF:=zzN (HG1.out.symm.trans (zdQ HNOT.out HPZ.out))
        go_wp2_with fail
        refine (zaM ⟨p.toArray⟩ _ (by rw [zaA];omega)).mono ?_
        rw [zaE,HS4.out]
        rintro e w2 ⟨rfl,hb2⟩
        have hc2:Below w1.heap.size w1 w2:=hbw.trans (hb2.mono hbw.size)
        have hown2:=zaR hown hb2
        have hsz2:=hc2.size
        clear hb2 hown
        have hcx3:w2.cell? ⟨g,k,none⟩=some (.string ⟨p.toArray⟩):=(hc2.cell (p:=⟨g,k,none⟩) hg).trans HCX.out
        clear hcx2
        go_wp2_with fail
        refine (zaV ⟨p.toArray⟩ _ (by rw [zaA];omega)).mono ?_
        rw [zaE,zcH HPZ.out]
        rintro e w' ⟨rfl,rfl⟩
        go_wp2
        go_ret2
        exact zbB HF.out (Nums.nil _ _ _ _) (hb1.trans (hc2.mono hb1.size))
     |false=>
      cases b4 with
      |true=>
       have HNOT:Hid (¬(false=true∧(zaZ s.data.toList).drop (k+1)=[]∧(zaT p).2=true)):=by
        show ¬_
        rintro ⟨h1,h2,h3⟩
        first|exact HNE.out h2|exact absurd h1 (by decide)|(rw [HS4.out] at h3;exact absurd (show false=true from h3) (by decide))
       cases b with
       |true=>
        have hgo:=HG1.out
        rw [zcS HNOT.out HPZ.out] at hgo
        have HG2:=zzN hgo
        clear hgo
        go_wp2_with fail
        refine (zaM ⟨p.toArray⟩ _ (by rw [zaA];omega)).mono ?_
        rw [zaE,HS4.out]
        rintro e w2 ⟨rfl,hb2⟩
        have hc2:Below w1.heap.size w1 w2:=hbw.trans (hb2.mono hbw.size)
        have hown2:=zaR hown hb2
        have hsz2:=hc2.size
        clear hb2 hown
        have hcx3:w2.cell? ⟨g,k,none⟩=some (.string ⟨p.toArray⟩):=(hc2.cell (p:=⟨g,k,none⟩) hg).trans HCX.out
        clear hcx2
        go_wp2_with fail
        refine (zaV ⟨p.toArray⟩ _ (by rw [zaA];omega)).mono ?_
        rw [zaE,zcQ HPZ.out]
        rintro e w' ⟨rfl,rfl⟩
        go_wp2_with (at_builtin;refine zaW _ rfl _ _ 157 rfl w1.heap.size 3 i0 (.int .i64 0) 8 Tryz.underlying157 hi hz0 hz1 hz2 rfl _ _ _ rfl hown2 (.int .i64 x) rfl rfl (by omega) (by omega) hsz2 ?_;intro v' w4 hown' hk')
        go_roundw
        case rel=>exact ⟨k+1,n+1,T++[x],by omega,by omega,by go_num,(by rw [List.map_append];exact hown'),(by show (T++[x]).length=n+1;rw [List.length_append,HTL.out];rfl),HG2,hc2.trans hk'⟩
        case measure=>simp [intOf];omega
       |false=>
        have HF:=zzN (HG1.out.symm.trans (zdQ HNOT.out HPZ.out))
        go_wp2_with fail
        refine (zaM ⟨p.toArray⟩ _ (by rw [zaA];omega)).mono ?_
        rw [zaE,HS4.out]
        rintro e w2 ⟨rfl,hb2⟩
        have hc2:Below w1.heap.size w1 w2:=hbw.trans (hb2.mono hbw.size)
        have hown2:=zaR hown hb2
        have hsz2:=hc2.size
        clear hb2 hown
        have hcx3:w2.cell? ⟨g,k,none⟩=some (.string ⟨p.toArray⟩):=(hc2.cell (p:=⟨g,k,none⟩) hg).trans HCX.out
        clear hcx2
        go_wp2_with fail
        refine (zaV ⟨p.toArray⟩ _ (by rw [zaA];omega)).mono ?_
        rw [zaE,zcH HPZ.out]
        rintro e w' ⟨rfl,rfl⟩
        go_wp2
        go_ret2
        exact zbB HF.out (Nums.nil _ _ _ _) (hb1.trans (hc2.mono hb1.size))
      |false=>
       have HNOT:Hid (¬(false=true∧(zaZ s.data.toList).drop (k+1)=[]∧(zaT p).2=true)):=by
        show ¬_
        rintro ⟨h1,h2,h3⟩
        first|exact HNE.out h2|exact absurd h1 (by decide)|(rw [HS4.out] at h3;exact absurd (show false=true from h3) (by decide))
       cases b with
       |true=>
        have hgo:=HG1.out
        rw [zcS HNOT.out HPZ.out] at hgo
        have HG2:=zzN hgo
        clear hgo
        go_wp2_with fail
        refine (zaM ⟨p.toArray⟩ _ (by rw [zaA];omega)).mono ?_
        rw [zaE,HS4.out]
        rintro e w2 ⟨rfl,hb2⟩
        have hc2:Below w1.heap.size w1 w2:=hbw.trans (hb2.mono hbw.size)
        have hown2:=zaR hown hb2
        have hsz2:=hc2.size
        clear hb2 hown
        have hcx3:w2.cell? ⟨g,k,none⟩=some (.string ⟨p.toArray⟩):=(hc2.cell (p:=⟨g,k,none⟩) hg).trans HCX.out
        clear hcx2
        go_wp2_with fail
        refine (zaV ⟨p.toArray⟩ _ (by rw [zaA];omega)).mono ?_
        rw [zaE,zcQ HPZ.out]
        rintro e w' ⟨rfl,rfl⟩
        go_wp2_with (at_builtin;refine zaW _ rfl _ _ 157 rfl w1.heap.size 3 i0 (.int .i64 0) 8 Tryz.underlying157 hi hz0 hz1 hz2 rfl _ _ _ rfl hown2 (.int .i64 x) rfl rfl (by omega) (by omega) hsz2 ?_;intro v' w4 hown' hk')
        go_roundw
        case rel=>exact ⟨k+1,n+1,T++[x],by omega,by omega,by go_num,(by rw [List.map_append];exact hown'),(by show (T++[x]).length=n+1;rw [List.length_append,HTL.out];rfl),HG2,hc2.trans hk'⟩
        case measure=>simp [intOf];omega
       |false=>
        have HF:=zzN (HG1.out.symm.trans (zdQ HNOT.out HPZ.out))
        go_wp2_with fail
        refine (zaM ⟨p.toArray⟩ _ (by rw [zaA];omega)).mono ?_
        rw [zaE,HS4.out]
        rintro e w2 ⟨rfl,hb2⟩
        have hc2:Below w1.heap.size w1 w2:=hbw.trans (hb2.mono hbw.size)
        have hown2:=zaR hown hb2
        have hsz2:=hc2.size
        clear hb2 hown
        have hcx3:w2.cell? ⟨g,k,none⟩=some (.string ⟨p.toArray⟩):=(hc2.cell (p:=⟨g,k,none⟩) hg).trans HCX.out
        clear hcx2
        go_wp2_with fail
        refine (zaV ⟨p.toArray⟩ _ (by rw [zaA];omega)).mono ?_
        rw [zaE,zcH HPZ.out]
        rintro e w' ⟨rfl,rfl⟩
        go_wp2
        go_ret2
        exact zbB HF.out (Nums.nil _ _ _ _) (hb1.trans (hc2.mono hb1.size))
    ·have hq1:((k:Int)==(m:Int) - 1)=false:=by rw [zzO];omega
     have HNE:=zzN (zjT (k+1) (zaZ s.data.toList) (by rw [HM.out];omega))
     clear hlast
     cases last with
     |true=>
      cases b4 with
      |true=>
       have HNOT:Hid (¬(true=true∧(zaZ s.data.toList).drop (k+1)=[]∧(zaT p).2=true)):=by
        show ¬_
        rintro ⟨h1,h2,h3⟩
        first|exact HNE.out h2|exact absurd h1 (by decide)|(rw [HS4.out] at h3;exact absurd (show false=true from h3) (by decide))
       cases b with
       |true=>
        have hgo:=HG1.out
        rw [zcS HNOT.out HPZ.out] at hgo
        have HG2:=zzN hgo
        clear hgo
        go_wp2_with fail
        refine (zaM ⟨p.toArray⟩ _ (by rw [zaA];omega)).mono ?_
        rw [zaE,HS4.out]
        rintro e w2 ⟨rfl,hb2⟩
        have hc2:Below w1.heap.size w1 w2:=hbw.trans (hb2.mono hbw.size)
        have hown2:=zaR hown hb2
        have hsz2:=hc2.size
        clear hb2 hown
        have hcx3:w2.cell? ⟨g,k,none⟩=some (.string ⟨p.toArray⟩):=(hc2.cell (p:=⟨g,k,none⟩) hg).trans HCX.out
        clear hcx2
        go_wp2_with fail
        refine (zaV ⟨p.toArray⟩ _ (by rw [zaA];omega)).mono ?_
        rw [zaE,zcQ HPZ.out]
        rintro e w' ⟨rfl,rfl⟩
        go_wp2_with (at_builtin;refine zaW _ rfl _ _ 157 rfl w1.heap.size 3 i0 (.int .i64 0) 8 Tryz.underlying157 hi hz0 hz1 hz2 rfl _ _ _ rfl hown2 (.int .i64 x) rfl rfl (by omega) (by omega) hsz2 ?_;intro v' w4 hown' hk')
        go_roundw
        case rel=>exact ⟨k+1,n+1,T++[x],by omega,by omega,by go_num,(by rw [List.map_append];exact hown'),(by show (T++[x]).length=n+1;rw [List.length_append,HTL.out];rfl),HG2,hc2.trans hk'⟩
        case measure=>simp [intOf];omega
       |false=>
        have HF:=zzN (HG1.out.symm.trans (zdQ HNOT.out HPZ.out))
        go_wp2_with fail
        refine (zaM ⟨p.toArray⟩ _ (by rw [zaA];omega)).mono ?_
        rw [zaE,HS4.out]
        rintro e w2 ⟨rfl,hb2⟩
        have hc2:Below w1.heap.size w1 w2:=hbw.trans (hb2.mono hbw.size)
        have hown2:=zaR hown hb2
        have hsz2:=hc2.size
        clear hb2 hown
        have hcx3:w2.cell? ⟨g,k,none⟩=some (.string ⟨p.toArray⟩):=(hc2.cell (p:=⟨g,k,none⟩) hg).trans HCX.out
        clear hcx2
        go_wp2_with fail
        refine (zaV ⟨p.toArray⟩ _ (by rw [zaA];omega)).mono ?_
        rw [zaE,zcH HPZ.out]
        rintro e w' ⟨rfl,rfl⟩
        go_wp2
        go_ret2
        exact zbB HF.out (Nums.nil _ _ _ _) (hb1.trans (hc2.mono hb1.size))
      |false=>
       have HNOT:Hid (¬(true=true∧(zaZ s.data.toList).drop (k+1)=[]∧(zaT p).2=true)):=by
        show ¬_
        rintro ⟨h1,h2,h3⟩
        first|exact HNE.out h2|exact absurd h1 (by decide)|(rw [HS4.out] at h3;exact absurd (show false=true from h3) (by decide))
       cases b with
       |true=>
        have hgo:=HG1.out
        rw [zcS HNOT.out HPZ.out] at hgo
        have HG2:=zzN hgo
        clear hgo
        go_wp2_with fail
        refine (zaM ⟨p.toArray⟩ _ (by rw [zaA];omega)).mono ?_
        rw [zaE,HS4.out]
        rintro e w2 ⟨rfl,hb2⟩
        have hc2:Below w1.heap.size w1 w2:=hbw.trans (hb2.mono hbw.size)
        have hown2:=zaR hown hb2
        have hsz2:=hc2.size
        clear hb2 hown
        have hcx3:w2.cell? ⟨g,k,none⟩=some (.string ⟨p.toArray⟩):=(hc2.cell (p:=⟨g,k,none⟩) hg).trans HCX.out
        clear hcx2
        go_wp2_with fail
        refine (zaV ⟨p.toArray⟩ _ (by rw [zaA];omega)).mono ?_
        rw [zaE,zcQ HPZ.out]
        rintro e w' ⟨rfl,rfl⟩
        go_wp2_with (at_builtin;refine zaW _ rfl _ _ 157 rfl w1.heap.size 3 i0 (.int .i64 0) 8 Tryz.underlying157 hi hz0 hz1 hz2 rfl _ _ _ rfl hown2 (.int .i64 x) rfl rfl (by omega) (by omega) hsz2 ?_;intro v' w4 hown' hk')
        go_roundw
        case rel=>exact ⟨k+1,n+1,T++[x],by omega,by omega,by go_num,(by rw [List.map_append];exact hown'),(by show (T++[x]).length=n+1;rw [List.length_append,HTL.out];rfl),HG2,hc2.trans hk'⟩
        case measure=>simp [intOf];omega
       |false=>
        have HF:=zzN (HG1.out.symm.trans (zdQ HNOT.out HPZ.out))
        go_wp2_with fail
        refine (zaM ⟨p.toArray⟩ _ (by rw [zaA];omega)).mono ?_
        rw [zaE,HS4.out]
        rintro e w2 ⟨rfl,hb2⟩
        have hc2:Below w1.heap.size w1 w2:=hbw.trans (hb2.mono hbw.size)
        have hown2:=zaR hown hb2
        have hsz2:=hc2.size
        clear hb2 hown
        have hcx3:w2.cell? ⟨g,k,none⟩=some (.string ⟨p.toArray⟩):=(hc2.cell (p:=⟨g,k,none⟩) hg).trans HCX.out
        clear hcx2
        go_wp2_with fail
        refine (zaV ⟨p.toArray⟩ _ (by rw [zaA];omega)).mono ?_
        rw [zaE,zcH HPZ.out]
        rintro e w' ⟨rfl,rfl⟩
        go_wp2
        go_ret2
        exact zbB HF.out (Nums.nil _ _ _ _) (hb1.trans (hc2.mono hb1.size))
     |false=>
      cases b4 with
      |true=>
       have HNOT:Hid (¬(false=true∧(zaZ s.data.toList).drop (k+1)=[]∧(zaT p).2=true)):=by
        show ¬_
        rintro ⟨h1,h2,h3⟩
        first|exact HNE.out h2|exact absurd h1 (by decide)|(rw [HS4.out] at h3;exact absurd (show false=true from h3) (by decide))
       cases b with
       |true=>
        have hgo:=HG1.out
        rw [zcS HNOT.out HPZ.out] at hgo
        have HG2:=zzN hgo
        clear hgo
        go_wp2_with fail
        refine (zaM ⟨p.toArray⟩ _ (by rw [zaA];omega)).mono ?_
        rw [zaE,HS4.out]
        rintro e w2 ⟨rfl,hb2⟩
        have hc2:Below w1.heap.size w1 w2:=hbw.trans (hb2.mono hbw.size)
        have hown2:=zaR hown hb2
        have hsz2:=hc2.size
        clear hb2 hown
        have hcx3:w2.cell? ⟨g,k,none⟩=some (.string ⟨p.toArray⟩):=(hc2.cell (p:=⟨g,k,none⟩) hg).trans HCX.out
        clear hcx2
        go_wp2_with fail
        refine (zaV ⟨p.toArray⟩ _ (by rw [zaA];omega)).mono ?_
        rw [zaE,zcQ HPZ.out]
        rintro e w' ⟨rfl,rfl⟩
        go_wp2_with (at_builtin;refine zaW _ rfl _ _ 157 rfl w1.heap.size 3 i0 (.int .i64 0) 8 Tryz.underlying157 hi hz0 hz1 hz2 rfl _ _ _ rfl hown2 (.int .i64 x) rfl rfl (by omega) (by omega) hsz2 ?_;intro v' w4 hown' hk')
        go_roundw
        case rel=>exact ⟨k+1,n+1,T++[x],by omega,by omega,by go_num,(by rw [List.map_append];exact hown'),(by show (T++[x]).length=n+1;rw [List.length_append,HTL.out];rfl),HG2,hc2.trans hk'⟩
        case measure=>simp [intOf];omega
       |false=>
        have HF:=zzN (HG1.out.symm.trans (zdQ HNOT.out HPZ.out))
        go_wp2_with fail
        refine (zaM ⟨p.toArray⟩ _ (by rw [zaA];omega)).mono ?_
        rw [zaE,HS4.out]
        rintro e w2 ⟨rfl,hb2⟩
        have hc2:Below w1.heap.size w1 w2:=hbw.trans (hb2.mono hbw.size)
        have hown2:=zaR hown hb2
        have hsz2:=hc2.size
        clear hb2 hown
        have hcx3:w2.cell? ⟨g,k,none⟩=some (.string ⟨p.toArray⟩):=(hc2.cell (p:=⟨g,k,none⟩) hg).trans HCX.out
        clear hcx2
        go_wp2_with fail
        refine (zaV ⟨p.toArray⟩ _ (by rw [zaA];omega)).mono ?_
        rw [zaE,zcH HPZ.out]
        rintro e w' ⟨rfl,rfl⟩
        go_wp2
        go_ret2
        exact zbB HF.out (Nums.nil _ _ _ _) (hb1.trans (hc2.mono hb1.size))
      |false=>
       have HNOT:Hid (¬(false=true∧(zaZ s.data.toList).drop (k+1)=[]∧(zaT p).2=true)):=by
        show ¬_
        rintro ⟨h1,h2,h3⟩
        first|exact HNE.out h2|exact absurd h1 (by decide)|(rw [HS4.out] at h3;exact absurd (show false=true from h3) (by decide))
       cases b with
       |true=>
        have hgo:=HG1.out
        rw [zcS HNOT.out HPZ.out] at hgo
        have HG2:=zzN hgo
        clear hgo
        go_wp2_with fail
        refine (zaM ⟨p.toArray⟩ _ (by rw [zaA];omega)).mono ?_
        rw [zaE,HS4.out]
        rintro e w2 ⟨rfl,hb2⟩
        have hc2:Below w1.heap.size w1 w2:=hbw.trans (hb2.mono hbw.size)
        have hown2:=zaR hown hb2
        have hsz2:=hc2.size
        clear hb2 hown
        have hcx3:w2.cell? ⟨g,k,none⟩=some (.string ⟨p.toArray⟩):=(hc2.cell (p:=⟨g,k,none⟩) hg).trans HCX.out
        clear hcx2
        go_wp2_with fail
        refine (zaV ⟨p.toArray⟩ _ (by rw [zaA];omega)).mono ?_
        rw [zaE,zcQ HPZ.out]
        rintro e w' ⟨rfl,rfl⟩
        go_wp2_with (at_builtin;refine zaW _ rfl _ _ 157 rfl w1.heap.size 3 i0 (.int .i64 0) 8 Tryz.underlying157 hi hz0 hz1 hz2 rfl _ _ _ rfl hown2 (.int .i64 x) rfl rfl (by omega) (by omega) hsz2 ?_;intro v' w4 hown' hk')
        go_roundw
        case rel=>exact ⟨k+1,n+1,T++[x],by omega,by omega,by go_num,(by rw [List.map_append];exact hown'),(by show (T++[x]).length=n+1;rw [List.length_append,HTL.out];rfl),HG2,hc2.trans hk'⟩
        case measure=>simp [intOf];omega
       |false=>
        have HF:=zzN (HG1.out.symm.trans (zdQ HNOT.out HPZ.out))
        go_wp2_with fail
        refine (zaM ⟨p.toArray⟩ _ (by rw [zaA];omega)).mono ?_
        rw [zaE,HS4.out]
        rintro e w2 ⟨rfl,hb2⟩
        have hc2:Below w1.heap.size w1 w2:=hbw.trans (hb2.mono hbw.size)
        have hown2:=zaR hown hb2
        have hsz2:=hc2.size
        clear hb2 hown
        have hcx3:w2.cell? ⟨g,k,none⟩=some (.string ⟨p.toArray⟩):=(hc2.cell (p:=⟨g,k,none⟩) hg).trans HCX.out
        clear hcx2
        go_wp2_with fail
        refine (zaV ⟨p.toArray⟩ _ (by rw [zaA];omega)).mono ?_
        rw [zaE,zcH HPZ.out]
        rintro e w' ⟨rfl,rfl⟩
        go_wp2
        go_ret2
        exact zbB HF.out (Nums.nil _ _ _ _) (hb1.trans (hc2.mono hb1.size))
   ·obtain rfl:k=m:=by omega
    have hfin:=HG.out
    rw [zgA k _ (by rw [HM.out];omega),zoR] at hfin
    have HF:=zzN hfin.symm
    clear hfin
    go_wp2
    go_ret2
    exact zbB HF.out (Nums.mono (show Nums _ _ _ _ _ _ from by unfold Nums;rw [HTL.out];exact hown) hb1.size) (hb1.trans (hbw.mono hb1.size))
theorem zqK (w:World) (cs:Array Value) (t:TypeId) (j:Nat):(w.alloc (.cells cs t)).frozen? ⟨w.heap.size,j,none⟩=false:=by
 have h:=heap_alloc_new w (.cells cs t)
 simp only [World.frozen?,h]
 simp
def hiP (o:Nat) (l:List Int):Nat→Int
 |0=>0
 |k+1=>hiP o l k*65536+l.getD (o+k) 0
theorem zxV (l:List Int):hiP 0 l 4=hi4 l:=by simp [hiP,hi4]
theorem zxQ (l:List Int):hiP 4 l 4=lo4 l:=by simp [hiP,lo4]
theorem zfE {l:List Int} (h:In16 l) (o k:Nat) (hk:k≤3):0≤hiP o l k∧hiP o l k≤281474976710655:=by
 have h0:=h.getD o
 have h1:=h.getD (o+1)
 have h2:=h.getD (o+2)
 rcases (show k=0∨k=1∨k=2∨k=3 from by omega) with rfl|rfl|rfl|rfl<;>simp only [hiP,Nat.add_zero]<;>omega
theorem zjM (x y:Int) (hx0:0≤x) (hx:x≤281474976710655) (hy0:0≤y) (hy:y≤65535):bits .or .u64 (x*65536) y=x*65536+y:=
 bits_join .u64 64 (by decide) (fun n h0 h1=>by rw [IntKind.wrap_u64];omega) 16 (x*65536) y (by omega) (by omega) (by omega) hy0 (by omega) (by omega)
abbrev zoM:List Value:=[.int .u16 0,.int .u16 0,.int .u16 0,.int .u16 0,.int .u16 0,.int .u16 0,.int .u16 0,.int .u16 0]
theorem zxZ (l:List Int) (j:Nat) (hj:j<8):(splice zoM 0 ((l.map (Value.int .u16)).take 8))[j]? =some (.int .u16 (l.getD j 0)):=by
 unfold splice
 simp only [List.take_zero,List.nil_append,Nat.zero_add,List.length_take,List.length_map]
 by_cases h:j<l.length
 ·rw [List.getElem?_append_left (by simp;omega),List.getElem?_take,if_pos hj,List.getElem?_map,List.getElem?_eq_getElem h,List.getD,List.getElem?_eq_getElem h]
  rfl
 ·rw [List.getElem?_append_right (by simp;omega),List.getElem?_drop,List.getD,List.getElem?_eq_none (by omega:l.length≤j)]
  simp only [List.length_take,List.length_map]
  rw [show min 8 l.length+(j - min 8 l.length)=j from by omega]
  rcases (show j=0∨j=1∨j=2∨j=3∨j=4∨j=5∨j=6∨j=7 from by omega) with rfl|rfl|rfl|rfl|rfl|rfl|rfl|rfl<;>rfl
theorem zlK (v:Value) (l:List Int) (w:World) (hr:RowR w v (l.map (Value.int .u16))) (hin:In16 l) (hlen:l.length≤1073741824):
  Calls Tryz.prog 198 #[v] w fun e w'=>e= .returned (.agg #[.int .u64 (hi4 l),.int .u64 (lo4 l)])∧Below w.heap.size w w':=by
 obtain ⟨ao,c,rfl,hcs⟩:=hr
 rw [List.length_map]
 have HCS:=zzN hcs
 have HIN:=zzN hin
 clear hcs hin
 have hU:(Tryz.prog.info? 177).map (·.size)=some 1:=by
  obtain ⟨i0,hi,hz0,hz1,hz2⟩:=info_parts Tryz.infoU16
  rw [hi];simp [hz1]
 have hW0s:(w.alloc (.cells #[.int .u64 0,.int .u64 0] 144)).heap.size=w.heap.size+1:=by simp
 have hW0s:(w.alloc (.cells #[.int .u64 0,.int .u64 0] 144)).heap.size=w.heap.size+1:=by simp
 have hb0:Below (w.heap.size+1) (w.alloc (.cells #[.int .u64 0,.int .u64 0] 144)) ((w.alloc (.cells #[.int .u64 0,.int .u64 0] 144)).alloc (.cells #[.int .u16 0,.int .u16 0,.int .u16 0,.int .u16 0,.int .u16 0,.int .u16 0,.int .u16 0,.int .u16 0] 178)):=(zzQ _ _).alloc (by rw [hW0s];exact zzP _) _
 have HPOS:Hid (0<((l.map (Value.int .u16)).take 8).length→(some (⟨w.heap.size+1,0,none⟩:Addr))=some ⟨w.heap.size+1,0,none⟩∧ ∃ad,ao=some ad∧ ∀j v,((l.map (Value.int .u16)).take 8)[j]? =some v→((w.alloc (.cells #[.int .u64 0,.int .u64 0] 144)).alloc (.cells #[.int .u16 0,.int .u16 0,.int .u16 0,.int .u16 0,.int .u16 0,.int .u16 0,.int .u16 0,.int .u16 0] 178)).cell? (ad.add j)=some v):=fun hp=>by
  have hl:0<l.length:=by simp at hp;omega
  obtain ⟨ad,ha,_⟩:=HCS.out 0 (.int .u16 l[0]) (by simp [hl])
  refine ⟨rfl,ad,ha,fun j v hj=> ?_⟩
  rw [List.getElem?_take] at hj
  split at hj
  ·obtain ⟨ad2,ha2,hc2⟩:=HCS.out j v hj
   rw [ha] at ha2
   cases ha2
   exact ((((zzQ _ w).alloc (zzP _) _).alloc (by simp) _).cell (World.block_lt_of_cell? w _ hc2)).trans hc2
  ·cases hj
 have hfit:0+((l.map (Value.int .u16)).take 8).length≤zoM.length:=by simp [zoM];omega
 have hone: ∀v∈(l.map (Value.int .u16)).take 8,v.oneCell'=true:=by
  intro v hv
  obtain ⟨x,_,rfl⟩:=List.mem_map.1 (List.mem_of_mem_take hv)
  rfl
 have hcl:((l.map (Value.int .u16)).take 8).length=Nat.min l.length 8:=by
  rw [List.length_take,List.length_map];exact Nat.min_comm _ _
 have HONE:=zzN hone
 have HCL:=zzN hcl
 clear hone hcl hW0s
 go_enter Tryz.func198,Tryz.ntmps198
 go_wp2_with (refine wpList_copy_splice (o:=⟨some 8,_,_,_,_,_⟩) rfl (.tmp 6) (.tmp 7) 183 183 rfl 177 Tryz.underlying183 hU (some ⟨w.heap.size+1,0,none⟩) ao 8 8 l.length c rfl rfl (w.heap.size+1) 0 zoM 178 (by rw [show w.heap.size+1=(w.alloc (.cells #[.int .u64 0,.int .u64 0] 144)).heap.size from by simp];exact heap_alloc_new _ _) ((l.map (Value.int .u16)).take 8) HCL.out HPOS.out hfit HONE.out (w.heap.size+1) _ hb0 (by omega) ?_;intro w1 HB hb1)
 have hsz1:w.heap.size+1<w1.heap.size:=(Array.getElem?_eq_some_iff.1 HB.out).1
 have HARR:Hid (∀j,j<8→w1.cell? ⟨w.heap.size+1,j,none⟩=some (.int .u16 (l.getD j 0))):=fun j hj=>by
  rw [cell_of_row w1 _ j _ _ _ HB.out]
  have:=zxZ l j hj
  simpa using this
 have hres: ∀j u,(#[Value.int .u64 0,Value.int .u64 0]:Array Value)[j]? =some u→w1.cell? ⟨w.heap.size,j,none⟩=some u:=fun j u hj=>by
  rw [hb1.cell (p:=⟨w.heap.size,j,none⟩) (by show w.heap.size<w.heap.size+1;omega),cell_of_row _ _ j _ _ _ (heap_alloc_new w _)]
  exact hj
 have hresf: ∀j,w1.frozen? ⟨w.heap.size,j,none⟩=false:=fun j=>by
  rw [hb1.frozen (p:=⟨w.heap.size,j,none⟩) (by show w.heap.size<w.heap.size+1;omega)]
  exact zqK w _ _ j
 have HRES:=zzN (And.intro (hres 0 _ rfl) (And.intro (hres 1 _ rfl) (And.intro (hresf 0) (hresf 1))))
 have hbw1:Below w.heap.size w w1:=((zzQ _ w).alloc (zzP _) _).trans (hb1.mono (by omega))
 clear hres hresf hb1 hb0 hfit HPOS HONE HCL HCS hU
 have HB2:=zzN (heap_alloc_new w1 (.cells #[.int .u64 0,.int .u64 0] 144))
 have hbA:Below w1.heap.size w1 (w1.alloc (.cells #[.int .u64 0,.int .u64 0] 144)):=(zzQ _ w1).alloc (zzP _) _
 go_loopw [9] (fun i wr=> ∃k:Nat,k≤4∧i= .int .i64 k∧Hid (wr.heap[w1.heap.size]? =some (.cells #[.int .u64 (hiP 0 l k),.int .u64 (hiP 4 l k)] 144 (0,0)))∧Below w1.heap.size w1 wr) (fun i _=>4 - (intOf i).toNat)
 case atStart=>exact ⟨0,by omega,rfl,HB2,hbA⟩
 case round=>
  obtain ⟨k,hk,rfl,HA,hbw⟩:=hrel
  by_cases hk4:k<4
  ·have hHb:=zfE HIN.out 0 k (by omega)
   have hLb:=zfE HIN.out 4 k (by omega)
   have hxb:=HIN.out.getD (0+k)
   have hyb:=HIN.out.getD (4+k)
   have hcx:wr.cell? ⟨w.heap.size+1,0+k,none⟩=some (.int .u16 (l.getD (0+k) 0)):=(hbw.cell (p:=⟨w.heap.size+1,0+k,none⟩) hsz1).trans (HARR.out (0+k) (by omega))
   have hcy:wr.cell? ⟨w.heap.size+1,4+k,none⟩=some (.int .u16 (l.getD (4+k) 0)):=(hbw.cell (p:=⟨w.heap.size+1,4+k,none⟩) hsz1).trans (HARR.out (4+k) (by omega))
   have HHS:Hid (hiP 0 l (k+1)=hiP 0 l k*65536+l.getD (0+k) 0):=rfl
   have HLS:Hid (hiP 4 l (k+1)=hiP 4 l k*65536+l.getD (4+k) 0):=rfl
   generalize hiP 0 l k=H at*
   generalize hiP 4 l k=L at*
   generalize l.getD (0+k) 0=x at*
   generalize l.getD (4+k) 0=y at*
   obtain ⟨hH0,hH1⟩:=hHb
   obtain ⟨hL0,hL1⟩:=hLb
   obtain ⟨hx0,hx1⟩:=hxb
   obtain ⟨hy0,hy1⟩:=hyb
   have hor1:=zjM H x hH0 hH1 hx0 hx1
   have hor2:=zjM L y hL0 hL1 hy0 hy1
   have hc0:wr.cell? ⟨w1.heap.size,0,none⟩=some (.int .u64 H):=by rw [cell_of_row wr _ 0 _ _ _ HA.out];rfl
   have hc1:wr.cell? ⟨w1.heap.size,1,none⟩=some (.int .u64 L):=by rw [cell_of_row wr _ 1 _ _ _ HA.out];rfl
   have hf0:wr.frozen? ⟨w1.heap.size,0,none⟩=false:=by simp [World.frozen?,HA.out]
   have hf1:wr.frozen? ⟨w1.heap.size,1,none⟩=false:=by simp [World.frozen?,HA.out]
   have hne:w.heap.size+1≠w1.heap.size:=by omega
   have HA2:Hid (((wr.setCell ⟨w1.heap.size,0,none⟩ (.int .u64 (H*65536+x))).setCell ⟨w1.heap.size,1,none⟩ (.int .u64 (L*65536+y))).heap[w1.heap.size]? =some (.cells #[.int .u64 (H*65536+x),.int .u64 (L*65536+y)] 144 (0,0))):=by
    show _=_
    simp [World.setCell,Array.getElem?_modify,HA.out]
   have hbw2:Below w1.heap.size w1 ((wr.setCell ⟨w1.heap.size,0,none⟩ (.int .u64 (H*65536+x))).setCell ⟨w1.heap.size,1,none⟩ (.int .u64 (L*65536+y))):=(hbw.setCell (zzP _) _).setCell (zzP _) _
   rcases (show k=0∨k=1∨k=2∨k=3 from by omega) with rfl|rfl|rfl|rfl
   ·rw [show 0+0=0 from rfl] at hcx
    rw [show 4+0=4 from rfl] at hcy
    rw [show ((0:Nat):Int)=0 from rfl]
    go_wp2
    go_region
    go_wp2
    go_region
    go_wp2
    go_roundw
    case rel=>exact ⟨1,by omega,(by first|rfl|go_num),(by show _=_;rw [HHS.out,HLS.out];exact HA2.out),(hbw2.drew).drew⟩
    case measure=>first|(simp [intOf];done)|(simp [intOf];omega)
   ·rw [show 0+1=1 from rfl] at hcx
    rw [show 4+1=5 from rfl] at hcy
    rw [show ((1:Nat):Int)=1 from rfl]
    go_wp2
    go_region
    go_wp2
    go_region
    go_wp2
    go_roundw
    case rel=>exact ⟨2,by omega,(by first|rfl|go_num),(by show _=_;rw [HHS.out,HLS.out];exact HA2.out),(hbw2.drew).drew⟩
    case measure=>first|(simp [intOf];done)|(simp [intOf];omega)
   ·rw [show 0+2=2 from rfl] at hcx
    rw [show 4+2=6 from rfl] at hcy
    rw [show ((2:Nat):Int)=2 from rfl]
    go_wp2
    go_region
    go_wp2
    go_region
    go_wp2
    go_roundw
    case rel=>exact ⟨3,by omega,(by first|rfl|go_num),(by show _=_;rw [HHS.out,HLS.out];exact HA2.out),(hbw2.drew).drew⟩
    case measure=>first|(simp [intOf];done)|(simp [intOf];omega)
   ·rw [show 0+3=3 from rfl] at hcx
    rw [show 4+3=7 from rfl] at hcy
    rw [show ((3:Nat):Int)=3 from rfl]
    go_wp2
    go_region
    go_wp2
    go_region
    go_wp2
    go_roundw
    case rel=>exact ⟨4,by omega,(by first|rfl|go_num),(by show _=_;rw [HHS.out,HLS.out];exact HA2.out),(hbw2.drew).drew⟩
    case measure=>first|(simp [intOf];done)|(simp [intOf];omega)
  ·obtain rfl:k=4:=by omega
   rw [show ((4:Nat):Int)=4 from rfl]
   have ha:=HA.out
   rw [zxV,zxQ] at ha
   have HA3:=zzN ha
   clear ha
   have hc0:wr.cell? ⟨w1.heap.size,0,none⟩=some (.int .u64 (hi4 l)):=by rw [cell_of_row wr _ 0 _ _ _ HA3.out];rfl
   have hc1:wr.cell? ⟨w1.heap.size,1,none⟩=some (.int .u64 (lo4 l)):=by rw [cell_of_row wr _ 1 _ _ _ HA3.out];rfl
   have hr0:wr.cell? ⟨w.heap.size,0,none⟩=some (.int .u64 0):=(hbw.cell (p:=⟨w.heap.size,0,none⟩) (by show w.heap.size<_;omega)).trans HRES.out.1
   have hr1:wr.cell? ⟨w.heap.size,1,none⟩=some (.int .u64 0):=(hbw.cell (p:=⟨w.heap.size,1,none⟩) (by show w.heap.size<_;omega)).trans HRES.out.2.1
   have hf0:wr.frozen? ⟨w.heap.size,0,none⟩=false:=(hbw.frozen (p:=⟨w.heap.size,0,none⟩) (by show w.heap.size<_;omega)).trans HRES.out.2.2.1
   have hf1:wr.frozen? ⟨w.heap.size,1,none⟩=false:=(hbw.frozen (p:=⟨w.heap.size,1,none⟩) (by show w.heap.size<_;omega)).trans HRES.out.2.2.2
   have hfin:Below w.heap.size w ((wr.setCell ⟨w.heap.size,0,none⟩ (.int .u64 (hi4 l))).setCell ⟨w.heap.size,1,none⟩ (.int .u64 (lo4 l))):=((hbw1.trans (hbw.mono (by omega))).setCell (zzP _) _).setCell (zzP _) _
   go_wp2
   exact bodyPost_ret (v:= .agg #[.int .u64 (hi4 l),.int .u64 (lo4 l)]) (by simp [results,Tryz.results198,go_sem,hr0,hr1]) rfl ⟨rfl,hfin⟩
theorem zdJ (k:IntKind) (n:Nat):Builtin.zeroCells (Value.int k 0).cells n=(List.replicate n (Value.int k 0)).toArray:=by
 unfold Builtin.zeroCells
 have e:(Value.int k 0).cells= #[.int k 0]:=rfl
 rw [e]
 apply Array.ext'
 simp only [Array.toList_map]
 apply List.ext_getElem
 ·simp
 ·intro i h1 h2
  simp [Nat.mod_one]
theorem zkM (w:World) (base:Nat) (e:TypeId) (kd:IntKind) (n k cap0:Nat) (xs:List Value) (hxs:xs.length=n) (h63:n+k≤maxLen) (hbase:base≤w.heap.size):
  (w.drew.alloc (.cells (xs.toArray++Builtin.zeroCells (Value.int kd 0).cells k++Builtin.zeroCells (Value.int kd 0).cells (grownCap w (n+k) cap0 e - (n+k))) e)).ownsRow base e 1
   (.slice (some ⟨w.heap.size,0,none⟩) (n+k) (grownCap w (n+k) cap0 e)) (n+k) (xs++List.replicate k (.int kd 0)):=by
 have hge:=grownCap_ge w (n+k) cap0 e
 have hcm:=grownCap_le_maxLen w (n+k) cap0 e h63
 refine ⟨by rw [List.length_append,List.length_replicate,hxs,Nat.mul_one],.inr ⟨w.heap.size,_,_,rfl,hbase,heap_alloc_new w.drew _,hge,hcm,?_,?_⟩⟩
 ·simp only [Array.size_append,List.size_toArray,zdJ,List.length_replicate,hxs];omega
 ·rw [zdJ,zdJ]
  simp only [Array.toList_append,Nat.mul_one]
  rw [show n+k=(xs++List.replicate k (Value.int kd 0)).length from by rw [List.length_append,List.length_replicate,hxs]]
  exact List.take_left
theorem zfI {P:Program} (w:World) (base:Nat) (t tn ty e:TypeId) (i:TypeInfo) (kd kn kq:IntKind) (bytes:Nat) (ht:P.underlying t=some (.slice e)) (htn:P.underlying tn=some (.int kn)) (hi:P.info? e=some i)
  (hz:i.zero=some (.int kd 0)) (hsize:i.size=1) (hby:i.bytes=bytes) (v:Value) (n:Nat) (xs:List Value) (hown:w.ownsRow base e 1 v n xs) (k:Nat) (h0:0<k)
  (h63:n+k≤maxLen) (hbytes:(n+k)*bytes≤140737488355328) (hbase:base≤w.heap.size):
  ∃v' w',(Builtin.append_ #[t,tn] ty #[v,.int kq k]).run P w= .ok v' w'∧w'.ownsRow base e 1 v' (n+k) (xs++List.replicate k (.int kd 0))∧Below base w w'∧w.grownBy w' v.ownBlock:=by
 subst hby
 have hsmall:n+k≤9223372036854775807:=by simp only [maxLen] at h63;omega
 have hxs:xs.length=n:=by have:=hown.1;omega
 have hkb:k*i.bytes≤281474976710656:=by
  have:k*i.bytes≤(n+k)*i.bytes:=Nat.mul_le_mul_right _ (by omega)
  omega
 rcases hown.2 with ⟨rfl,rfl⟩|⟨g,cap,cur,rfl,hbg,hg,hnc,hcm,hcs,htake⟩
 ·have hx:xs=[]:=List.eq_nil_of_length_eq_zero hxs
  subst hx
  have hr:=Lib.run_append_nil_zeros (P:=P) w t tn ty e i (.int kd 0) kq kn ht htn hi hz k h0 (by omega) (by omega) hkb
  have ho:=zkM w base e kd 0 k 0 [] rfl h63 hbase
  simp only [Nat.zero_add,Array.empty_append] at ho ⊢
  exact ⟨_,_,hr,ho,(zzQ _ _).drew.alloc hbase _,⟨rfl,rfl,rfl,by simp,fun j hj _=>Below.heap_alloc w.drew _ j hj⟩⟩
 ·by_cases hroom:n+k≤cap
  ·have hfit:n+(List.replicate k (Value.int kd 0)).length≤cur.size:=by rw [List.length_replicate,hcs];omega
   have hst:=run_storeCells_at P g (n*1) e (List.replicate k (Value.int kd 0)) 0 cur w hg (by simpa using hfit) (fun u hu=>by rw [(List.mem_replicate.1 hu).2];rfl)
   simp only [Nat.add_zero] at hst
   have hw:IntKind.i64.wrap (k:Int)=k:=by rw [IntKind.wrap_i64];omega
   have h48i: ¬(281474976710656<(k:Int)*(i.bytes:Int)):=by
    rw [←Int.natCast_mul]
    omega
   have hneg: ¬((k:Int)<0):=by omega
   have hns: ¬(k=0):=by omega
   have hrun:(Builtin.append_ #[t,tn] ty #[.slice (some ⟨g,0,none⟩) n cap,.int kq k]).run P w= .ok (.slice (some ⟨g,0,none⟩) (n+k) cap) (w.setRow g (cur.toList.take (n*1)++List.replicate k (Value.int kd 0)++cur.toList.drop (n*1+(List.replicate k (Value.int kd 0)).length)).toArray):=by
    simp only [Nat.mul_one] at hst ⊢
    simp [Builtin.append_,run_underlying ht,run_underlying htn,sizeOf,typeInfo,zeroValue,hi,hz,hsize,asInt,asIntOf,hw,hneg,hns,h48i,hroom,Addr.add_lit,zdJ]
    simpa using congrArg (fun r=>Result.andThen r fun _ w'=>Result.ok (Value.slice (some ⟨g,0,none⟩) (n+k) cap) w') hst
   refine ⟨_,_,hrun,⟨by rw [List.length_append,List.length_replicate,hxs,Nat.mul_one],.inr ⟨g,cap,_,rfl,hbg,setRow_heap w g cur _ e _ hg,hroom,hcm,?_,?_⟩⟩,below_setRow (zzQ _ _) hbg _,⟨rfl,rfl,rfl,by simp,fun j _ hj=>setRow_other w g j _ (fun e=>hj (by simp [Value.ownBlock,e]))⟩⟩
   ·simp only [List.size_toArray,List.length_append,List.length_take,List.length_drop,Array.length_toList,List.length_replicate]
    omega
   ·simp only [Nat.mul_one] at htake ⊢
    rw [htake,show n+k=(xs++List.replicate k (Value.int kd 0)).length from by rw [List.length_append,List.length_replicate,hxs]]
    exact List.take_left
  ·have holds: ∀j u,xs[j]? =some u→w.cell? ((⟨g,0,none⟩:Addr).add j)=some u:=hown.cells (g:=g) rfl
   have hold:(Builtin.firstCells i.size n (.slice (some ⟨g,0,none⟩) n cap)).run P w.drew= .ok xs.toArray w.drew:=run_firstCells_some w.drew i.size n ⟨g,0,none⟩ n cap xs (by rw [hsize];omega) (by simpa using holds)
   have hr:=Lib.run_append_grow_zeros (P:=P) w t tn ty e i (.int kd 0) kq kn ht htn hi hz (some ⟨g,0,none⟩) n cap xs hold k h0 (by omega) (by omega) (by omega) hkb (growslice_fits (by omega) hbytes)
   exact ⟨_,_,hr,zkM w base e kd n k cap xs hxs h63 hbase,(zzQ _ _).drew.alloc hbase _,⟨rfl,rfl,rfl,by simp,fun j hj _=>Below.heap_alloc w.drew _ j hj⟩⟩
theorem zhZ {P:Program} (w:World) {ops:Array Oper} {rest:List Oper} {o:Oper} {a:Act} {Q:Exit→Act→World→Prop} (hgd:o.guard=none) (s x:Operand) (t tn:TypeId)
  (ho:o.op= .call {callee:= .builtin .append,args:= #[s,x],argTypes:= #[t,tn]})
  (base:Nat) (e:TypeId) (i:TypeInfo) (kd kn kq:IntKind) (bytes:Nat) (ht:P.underlying t=some (.slice e)) (htn:P.underlying tn=some (.int kn)) (hi:P.info? e=some i) (hz:i.zero=some (.int kd 0)) (hsize:i.size=1) (hby:i.bytes=bytes)
  (v:Value) (n:Nat) (xs:List Value) (hs:a.eval s=v) (hown:w.ownsRow base e 1 v n xs) (k:Nat) (hx:a.eval x= .int kq k) (h0:0<k)
  (h63:n+k≤maxLen) (hbytes:(n+k)*bytes≤140737488355328) (hbase:base≤w.heap.size)
  (h: ∀v' w',w'.ownsRow base e 1 v' (n+k) (xs++List.replicate k (.int kd 0))→Below base w w'→w.grownBy w' v.ownBlock→wpList P ops Q rest (a.put o.dst v') w'):wpList P ops Q (o::rest) a w:=by
 obtain ⟨v',w',hr,h2,h3,h4⟩:=zfI (P:=P) w base t tn o.type e i kd kn kq bytes ht htn hi hz hsize hby v n xs hown k h0 h63 hbytes hbase
 exact Lib.wpList_append_run w hgd s x t tn ho _ _ hs hx v' w' hr (h v' w' h2 h3 h4)
theorem zjW {P:Program} (w:World) {ops:Array Oper} {rest:List Oper} {o:Oper} {a:Act} {Q:Exit→Act→World→Prop} (hgd:o.guard=none) (s x:Operand) (t:TypeId)
  (ho:o.op= .call {callee:= .builtin .append,args:= #[s,x],argTypes:= #[t,t]})
  (base:Nat) (e:TypeId) (i:TypeInfo) (z:Value) (bytes:Nat) (ht:P.underlying t=some (.slice e)) (hi:P.info? e=some i) (hz:i.zero=some z)
  (hsize:i.size=1) (hby:i.bytes=bytes) (hzs:z.cells.size=1)
  (v:Value) (n:Nat) (xs:List Value) (hs:a.eval s=v) (hown:w.ownsRow base e 1 v n xs) (vx:Value) (ys:List Value) (hx:a.eval x=vx) (hrow:RowR w vx ys) (h1: ∀u∈ys,u.oneCell'=true)
  (hn0:0<n) (h63:n+ys.length≤maxLen) (hbytes:(n+ys.length)*bytes≤140737488355328) (hbase:base≤w.heap.size)
  (h: ∀v' w',w'.ownsRow base e 1 v' (n+ys.length) (xs++ys)→Below base w w'→wpList P ops Q rest (a.put o.dst v') w'):wpList P ops Q (o::rest) a w:=by
 obtain ⟨ao,c,rfl,hc⟩:=hrow
 cases ys with
 |nil=>
  rcases hown.2 with ⟨_,h0⟩|⟨g,cap,cur,rfl,hbg,hg,hnc,hcm,hcs,htake⟩
  ·omega
  ·have hrun:(Builtin.append_ #[t,t] o.type #[.slice (some ⟨g,0,none⟩) n cap,.slice ao ([]:List Value).length c]).run P w= .ok (.slice (some ⟨g,0,none⟩) n cap) w:=by
    cases ao with
    |none=>simp [Builtin.append_,run_underlying ht,sizeOf,typeInfo,hi,Builtin.lenOf,Builtin.firstCells,hnc,Addr.add_lit,storeCells]
    |some ad=>simp [Builtin.append_,run_underlying ht,sizeOf,typeInfo,hi,Builtin.lenOf,Builtin.firstCells,loadCells,loadCellsFrom,hnc,Addr.add_lit,storeCells]
   refine Lib.wpList_append_run w hgd s x t t ho _ _ hs hx _ _ hrun (h _ _ ?_ (zzQ _ _))
   simpa using hown
 |cons y ys=>
  obtain ⟨ad,rfl,_⟩:=hc 0 y rfl
  refine wpList_append_own w hgd s x t ho base e i z 1 bytes ht hi hz hsize hby hzs (by decide) v n xs hs hown ad (y::ys).length c (y::ys) hx (by rw [Nat.mul_one]) (fun j u hj=> ?_) h1 h63 hbytes hbase ?_
  ·obtain ⟨ad2,ha,hx⟩:=hc j u hj
   cases ha
   exact hx
  ·intro v' w1 hown' hgrow _
   exact h v' w1 hown' ((zzQ base w).grown hgrow hbase (fun k hk=>(hown.lt k hk).1))
def MaxVar (w:World):Prop:= ∃m,w.cell? ⟨2,0,none⟩=some (.int .i64 m)
theorem zaC {w w':World} (h:MaxVar w) (hb:Below w.heap.size w w'):MaxVar w':=by
 obtain ⟨m,hm⟩:=h
 exact ⟨m,(hb.cell (World.block_lt_of_cell? w _ hm)).trans hm⟩
def zlF (w:World) (x:(Int×Int)×Bool) (e:Ending) (w':World):Prop:=e= .returned (.tuple #[.agg #[.int .u64 x.1.1,.int .u64 x.1.2],.bool x.2])∧Below w.heap.size w w'
theorem zeX {w w':World} {l:List UInt8} (h:sixL l=([],false)) (hb:Below w.heap.size w w'):zlF w (sixZ l) (.returned (.tuple #[.agg #[.int .u64 0,.int .u64 0],.bool false])) w':=by
 unfold sixZ;rw [h];exact ⟨rfl,hb⟩
theorem zjC {w w':World} {l:List UInt8} {T:List Int} (h:sixL l=(T,true)) (hb:Below w.heap.size w w'):zlF w (sixZ l) (.returned (.tuple #[.agg #[.int .u64 (hi4 T),.int .u64 (lo4 T)],.bool true])) w':=by
 unfold sixZ;rw [h];exact ⟨rfl,hb⟩
theorem zlR {l:List UInt8} {T:List Int} {b:Bool} (h:ccAt l=none) (hr:rowZ l true=(T,b)):sixL l=if b=true∧T.length=8 then (T,true) else ([],false):=by
 unfold sixL;rw [h];simp only [hr]
theorem zkQ {l:List UInt8} {k:Nat} {T U:List Int} {b c:Bool} (h:ccAt l=some k) (hr:rowZ (l.take k) false=(T,b)) (hs:rowZ (l.drop (k+2)) true=(U,c)):
  sixL l=if b=true∧c=true∧T.length+U.length≤7 then (T++List.replicate (8 - (T.length+U.length)) 0++U,true) else ([],false):=by
 unfold sixL;rw [h];simp only [hr,hs]
theorem zfB (l:List UInt8) (last:Bool):(rowZ l last).1.length≤l.length+3:=by
 unfold rowZ
 split
 ·simp
 ·have h1:=zwM last (zaZ l) []
  have h2:=zbS (hasB [58]) l
  unfold zaZ at*
  simp at h1
  omega
theorem znE (s:ByteArray) (w:World) (hs:s.size≤1073741824) (hmax:MaxVar w) (hcc:ccAt s.data.toList=none):
  Calls Tryz.prog 151 #[.string s] w (zlF w (sixZ s.data.toList)):=by
 obtain ⟨m,hm⟩:=hmax
 have hgl:=World.block_lt_of_cell? w _ hm
 have HM:=zzN hm
 clear hm
 obtain ⟨T,b,hT⟩: ∃T b,rowZ s.data.toList true=(T,b):=⟨_,_,rfl⟩
 have HCUT:=zzN (zxN hcc)
 have HSL:=zzN (zlR hcc hT)
 have hTl:T.length≤1073741827:=by have:=zfB s.data.toList true;rw [hT,zaB] at this;simp at this;omega
 have HIN:Hid (In16 T):=by show In16 T;have:=zeL s.data.toList true;rw [hT] at this;exact this
 have HT:=zzN hT
 clear hcc hT
 have HM2:Hid ((w.alloc (.cells #[.int .u64 0,.int .u64 0] 144)).cell? ⟨2,0,none⟩=some (.int .i64 m)):=(((zzQ _ w).alloc (zzP _) _).cell hgl).trans HM.out
 go_enter Tryz.func151,Tryz.ntmps151
 go_wp2_with fail
 refine (Tryz.strings_Cut s ⟨#[58,58]⟩ m _ (by omega) HM2.out).mono ?_
 rw [show (ByteArray.mk #[58,58]).data.toList=[58,58] from rfl,HCUT.out]
 rintro e w1 ⟨rfl,n,rfl⟩
 have hb1:Below w.heap.size w ((w.alloc (.cells #[.int .u64 0,.int .u64 0] 144)).drewN n):=zaS ((zzQ _ w).alloc (zzP _) _) n
 have hr0:((w.alloc (.cells #[.int .u64 0,.int .u64 0] 144)).drewN n).heap[w.heap.size]? =some (.cells #[.int .u64 0,.int .u64 0] 144 (0,0)):=heap_alloc_new w _
 have hsz1:w.heap.size<((w.alloc (.cells #[.int .u64 0,.int .u64 0] 144)).drewN n).heap.size:=(Array.getElem?_eq_some_iff.1 hr0).1
 generalize (w.alloc (.cells #[.int .u64 0,.int .u64 0] 144)).drewN n=x1 at*
 have HR0:=zzN hr0
 clear hr0
 go_wp2_with fail
 refine (zfQ s true _ hs).mono ?_
 rw [HT.out]
 rintro e x2 ⟨v,rfl,hnum,hb2⟩
 have hrow:=hnum.row
 have HROW:=zzN hrow
 obtain ⟨ao,c,rfl,hcs⟩:=hrow
 rw [List.length_map] at HROW ⊢
 clear hcs hnum
 have hc2:Below w.heap.size w x2:=hb1.trans (hb2.mono hb1.size)
 have hsz2:w.heap.size<x2.heap.size:=Nat.lt_of_lt_of_le hsz1 hb2.size
 have HR2:Hid (x2.heap[w.heap.size]? =some (.cells #[.int .u64 0,.int .u64 0] 144 (0,0))):=(hb2.block w.heap.size hsz1).trans HR0.out
 have hk0:x2.cell? ⟨w.heap.size,0,none⟩=some (.int .u64 0):=by rw [cell_of_row x2 _ 0 _ _ _ HR2.out];rfl
 have hk1:x2.cell? ⟨w.heap.size,1,none⟩=some (.int .u64 0):=by rw [cell_of_row x2 _ 1 _ _ _ HR2.out];rfl
 have hf0:x2.frozen? ⟨w.heap.size,0,none⟩=false:=by simp [World.frozen?,HR2.out]
 have hf1:x2.frozen? ⟨w.heap.size,1,none⟩=false:=by simp [World.frozen?,HR2.out]
 clear hb2 hb1
 cases b with
 |false=>
  have HF:=zzN (HSL.out.trans (if_neg (fun h=>by cases h.1)))
  have hfin:Below w.heap.size w ((x2.setCell ⟨w.heap.size,0,none⟩ (.int .u64 0)).setCell ⟨w.heap.size,1,none⟩ (.int .u64 0)):=(hc2.setCell (zzP _) _).setCell (zzP _) _
  go_wp2
  exact bodyPost_ret (v:= .tuple #[.agg #[.int .u64 0,.int .u64 0],.bool false]) (by simp [results,Tryz.results151,go_sem,hk0,hk1]) rfl (zeX HF.out hfin)
 |true=>
  by_cases h8:T.length=8
  ·have HF:=zzN (HSL.out.trans (if_pos ⟨rfl,h8⟩))
   rw [h8]
   have hb8:((8:Int) !=8)=false:=by decide
   have HR8:Hid (RowR x2 (.slice ao 8 c) (T.map (Value.int .u16))):=by
    show RowR _ _ _
    have:=HROW.out;rw [h8] at this;exact this
   go_wp2_with fail
   refine (zlK (.slice ao 8 c) T _ HR8.out HIN.out (by omega)).mono ?_
   rintro e x3 ⟨rfl,hb3⟩
   have hc3:Below w.heap.size w x3:=hc2.trans (hb3.mono hc2.size)
   have hk0':x3.cell? ⟨w.heap.size,0,none⟩=some (.int .u64 0):=(hb3.cell (p:=⟨w.heap.size,0,none⟩) hsz2).trans hk0
   have hk1':x3.cell? ⟨w.heap.size,1,none⟩=some (.int .u64 0):=(hb3.cell (p:=⟨w.heap.size,1,none⟩) hsz2).trans hk1
   have hf0':x3.frozen? ⟨w.heap.size,0,none⟩=false:=(hb3.frozen (p:=⟨w.heap.size,0,none⟩) hsz2).trans hf0
   have hf1':x3.frozen? ⟨w.heap.size,1,none⟩=false:=(hb3.frozen (p:=⟨w.heap.size,1,none⟩) hsz2).trans hf1
   clear hk0 hk1 hf0 hf1 hb3
   have hfin:Below w.heap.size w ((x3.setCell ⟨w.heap.size,0,none⟩ (.int .u64 (hi4 T))).setCell ⟨w.heap.size,1,none⟩ (.int .u64 (lo4 T))):=(hc3.setCell (zzP _) _).setCell (zzP _) _
   go_wp2
   exact bodyPost_ret (v:= .tuple #[.agg #[.int .u64 (hi4 T),.int .u64 (lo4 T)],.bool true]) (by simp [results,Tryz.results151,go_sem,hk0',hk1']) rfl (zjC HF.out hfin)
  ·have HF:=zzN (HSL.out.trans (if_neg (fun h=>h8 h.2)))
   have hb8:((T.length:Int) !=8)=true:=by rw [bne_iff_ne];omega
   have hfin:Below w.heap.size w ((x2.setCell ⟨w.heap.size,0,none⟩ (.int .u64 0)).setCell ⟨w.heap.size,1,none⟩ (.int .u64 0)):=(hc2.setCell (zzP _) _).setCell (zzP _) _
   go_wp2
   exact bodyPost_ret (v:= .tuple #[.agg #[.int .u64 0,.int .u64 0],.bool false]) (by simp [results,Tryz.results151,go_sem,hk0,hk1]) rfl (zeX HF.out hfin)
theorem znW (s:ByteArray) (k:Nat) (w:World) (hs:s.size≤1073741824) (hmax:MaxVar w) (hcc:ccAt s.data.toList=some k):
  Calls Tryz.prog 151 #[.string s] w (zlF w (sixZ s.data.toList)):=by
 obtain ⟨m,hm⟩:=hmax
 have hgl:=World.block_lt_of_cell? w _ hm
 have HM:=zzN hm
 clear hm
 obtain ⟨i0,hi,hz0,hz1,hz2⟩:=info_parts Tryz.infoU16
 obtain ⟨p,hp⟩: ∃p,s.data.toList.take k=p:=⟨_,rfl⟩
 obtain ⟨q,hq⟩: ∃q,s.data.toList.drop (k+2)=q:=⟨_,rfl⟩
 have hpl:p.length≤1073741824:=by have:=List.length_take_le k s.data.toList;have h2:=List.length_take_le' k s.data.toList;rw [hp,zaB] at h2;omega
 have hql:q.length≤1073741824:=by rw [←hq,List.length_drop,zaB];omega
 obtain ⟨T,b,hT⟩: ∃T b,rowZ p false=(T,b):=⟨_,_,rfl⟩
 obtain ⟨U,d,hU⟩: ∃T b,rowZ q true=(T,b):=⟨_,_,rfl⟩
 have hcut:=zxH hcc
 rw [hp,hq] at hcut
 have HCUT:=zzN hcut
 have HSL:=zzN (zkQ (T:=T) (U:=U) (b:=b) (c:=d) hcc (by rw [hp,hT]) (by rw [hq,hU]))
 have hTl:T.length≤1073741827:=by have:=zfB p false;rw [hT] at this;simp at this;omega
 have hUl:U.length≤1073741827:=by have:=zfB q true;rw [hU] at this;simp at this;omega
 have HIN:Hid (In16 T):=by show In16 T;have:=zeL p false;rw [hT] at this;exact this
 have HIN2:Hid (In16 U):=by show In16 U;have:=zeL q true;rw [hU] at this;exact this
 have HT:=zzN hT
 have HU:=zzN hU
 clear hcc hT hU hcut hp hq
 have HM2:Hid ((w.alloc (.cells #[.int .u64 0,.int .u64 0] 144)).cell? ⟨2,0,none⟩=some (.int .i64 m)):=(((zzQ _ w).alloc (zzP _) _).cell hgl).trans HM.out
 go_enter Tryz.func151,Tryz.ntmps151
 go_wp2_with fail
 refine (Tryz.strings_Cut s ⟨#[58,58]⟩ m _ (by omega) HM2.out).mono ?_
 rw [show (ByteArray.mk #[58,58]).data.toList=[58,58] from rfl,HCUT.out]
 rintro e w1 ⟨rfl,n,rfl⟩
 have hb1:Below w.heap.size w ((w.alloc (.cells #[.int .u64 0,.int .u64 0] 144)).drewN n):=zaS ((zzQ _ w).alloc (zzP _) _) n
 have hr0:((w.alloc (.cells #[.int .u64 0,.int .u64 0] 144)).drewN n).heap[w.heap.size]? =some (.cells #[.int .u64 0,.int .u64 0] 144 (0,0)):=heap_alloc_new w _
 have hsz1:w.heap.size<((w.alloc (.cells #[.int .u64 0,.int .u64 0] 144)).drewN n).heap.size:=(Array.getElem?_eq_some_iff.1 hr0).1
 generalize (w.alloc (.cells #[.int .u64 0,.int .u64 0] 144)).drewN n=x1 at*
 have HR0:=zzN hr0
 clear hr0
 go_wp2_with fail
 refine (zfQ ⟨p.toArray⟩ false _ (by rw [zaA];exact hpl)).mono ?_
 rw [zaE,HT.out]
 rintro e x2 ⟨v,rfl,hnum,hb2⟩
 have HNUM:=zzN hnum
 clear hnum
 go_wp2_with fail
 refine (zfQ ⟨q.toArray⟩ true _ (by rw [zaA];exact hql)).mono ?_
 rw [zaE,HU.out]
 rintro e x3 ⟨v2,rfl,hnum2,hb3⟩
 have HOWN2:=zzN (show x3.ownsRow x2.heap.size 177 1 v2 U.length (U.map (Value.int .u16)) from hnum2)
 have HOWN:=zzN (show x3.ownsRow x1.heap.size 177 1 v T.length (T.map (Value.int .u16)) from HNUM.out.below hb3)
 have HLT:=zzN (World.ownsRow.lt (show x2.ownsRow x1.heap.size 177 1 v T.length (T.map (Value.int .u16)) from HNUM.out))
 obtain ⟨ao,c,hv,_⟩:=HNUM.out.row
 obtain ⟨ao2,c2,hv2,_⟩:=hnum2.row
 rw [List.length_map] at hv hv2
 subst hv hv2
 clear hnum2
 have hd2:Below x1.heap.size x1 x3:=hb2.trans (hb3.mono hb2.size)
 have hs3:x1.heap.size≤x3.heap.size:=hd2.size
 have hc2:Below w.heap.size w x3:=hb1.trans (hd2.mono hb1.size)
 have HR2:Hid (x3.heap[w.heap.size]? =some (.cells #[.int .u64 0,.int .u64 0] 144 (0,0))):=(hd2.block w.heap.size hsz1).trans HR0.out
 have HK:Hid (x3.cell? ⟨w.heap.size,0,none⟩=some (.int .u64 0)∧x3.cell? ⟨w.heap.size,1,none⟩=some (.int .u64 0)∧x3.frozen? ⟨w.heap.size,0,none⟩=false∧x3.frozen? ⟨w.heap.size,1,none⟩=false):=
  ⟨by rw [cell_of_row x3 _ 0 _ _ _ HR2.out];rfl,by rw [cell_of_row x3 _ 1 _ _ _ HR2.out];rfl,by simp [World.frozen?,HR2.out],by simp [World.frozen?,HR2.out]⟩
 have hb23:=hb2.size
 clear hb1 hb2 hb3 hd2
 by_cases hok:b=true∧d=true∧T.length+U.length≤7
 ·have HF:=zzN (HSL.out.trans (if_pos hok))
  obtain ⟨rfl,rfl,h7⟩:=hok
  obtain ⟨z,hz⟩: ∃z,8 - (T.length+U.length)=z:=⟨_,rfl⟩
  have hzn:0<z:=by omega
  have hze:(8:Int) - (T.length:Int) - (U.length:Int)=(z:Int):=by omega
  have hz1':decide ((z:Int)<1)=false:=decide_eq_false (by omega)
  rw [hz] at HF
  have hz7:T.length+z≤8:=by omega
  clear hz
  have HE8:Hid (T.length+z+U.length=8):=by show _=_;omega
  have hne:(Value.slice ao2 U.length c2).ownBlock=none∨(Value.slice ao2 U.length c2).ownBlock≠(Value.slice ao T.length c).ownBlock:=by
   cases h:(Value.slice ao2 U.length c2).ownBlock with
   |none=>exact .inl rfl
   |some j=>
    refine .inr fun e=> ?_
    have h1:=(World.ownsRow.lt HOWN2.out j h).1
    have h2:=(HLT.out j e.symm).2
    omega
  have HNE:=zzN hne
  clear hne
  go_wp2_with (first
   |(at_builtin;refine zhZ _ rfl _ _ 183 3 rfl x1.heap.size 177 i0 .u16 .i64 .i64 2 Tryz.underlying183 Tryz.underlying3 hi hz0 hz1 hz2 _ _ _ rfl HOWN.out z rfl hzn (by unfold maxLen;omega) (by omega) hs3 ?_;intro v' x4 hown4 hb4 hg4)
   |(at_builtin;refine zjW _ rfl _ _ 183 rfl x1.heap.size 177 i0 (.int .u16 0) 2 Tryz.underlying183 hi hz0 hz1 hz2 rfl _ _ _ rfl hown4 _ (U.map (Value.int .u16)) rfl (Nums.row (show Nums 177 .u16 x2.heap.size x4 (.slice ao2 U.length c2) U from World.ownsRow.kept HOWN2.out hg4 HNE.out)) (fun u hu=>by obtain ⟨y,_,rfl⟩:=List.mem_map.1 hu;rfl) (by omega) (by rw [List.length_map];unfold maxLen;omega) (by rw [List.length_map];omega) (Nat.le_trans hs3 hb4.size) ?_;intro v5 x5 hown5 hb5)
   |fail)
  have hs4:x1.heap.size≤x4.heap.size:=Nat.le_trans hs3 hb4.size
  have hall:Nums 177 .u16 x1.heap.size x5 v5 (T++List.replicate z 0++U):=by
   unfold Nums
   rw [List.length_map] at hown5
   rw [Nat.add_assoc] at hown5
   simpa [List.map_append,List.map_replicate,List.length_append,List.length_replicate] using hown5
  have HALL:=zzN hall.row
  have HIN3:=zzN ((HIN.out.append (In16.zeros z)).append HIN2.out)
  have hl8:(T++List.replicate z 0++U).length≤1073741824:=by
   simp only [List.length_append,List.length_replicate];omega
  have hd5:Below x1.heap.size x3 x5:=hb4.trans hb5
  have hc5:Below w.heap.size w x5:=hc2.trans (hd5.mono (by omega))
  have hsz5:w.heap.size<x5.heap.size:=Nat.lt_of_lt_of_le hsz1 (Nat.le_trans hs4 hb5.size)
  clear hall hown5 hown4
  generalize T++List.replicate z 0++U=Y at*
  refine (zlK _ Y _ HALL.out HIN3.out hl8).mono ?_
  rintro e x6 ⟨rfl,hb6⟩
  have hc6:Below w.heap.size w x6:=hc5.trans (hb6.mono hc5.size)
  have hk0':x6.cell? ⟨w.heap.size,0,none⟩=some (.int .u64 0):=(hb6.cell (p:=⟨w.heap.size,0,none⟩) hsz5).trans ((hd5.cell (p:=⟨w.heap.size,0,none⟩) hsz1).trans HK.out.1)
  have hk1':x6.cell? ⟨w.heap.size,1,none⟩=some (.int .u64 0):=(hb6.cell (p:=⟨w.heap.size,1,none⟩) hsz5).trans ((hd5.cell (p:=⟨w.heap.size,1,none⟩) hsz1).trans HK.out.2.1)
  have hf0':x6.frozen? ⟨w.heap.size,0,none⟩=false:=(hb6.frozen (p:=⟨w.heap.size,0,none⟩) hsz5).trans ((hd5.frozen (p:=⟨w.heap.size,0,none⟩) hsz1).trans HK.out.2.2.1)
  have hf1':x6.frozen? ⟨w.heap.size,1,none⟩=false:=(hb6.frozen (p:=⟨w.heap.size,1,none⟩) hsz5).trans ((hd5.frozen (p:=⟨w.heap.size,1,none⟩) hsz1).trans HK.out.2.2.2)
  clear hb6 hb4 hb5
  have hfin:Below w.heap.size w ((x6.setCell ⟨w.heap.size,0,none⟩ (.int .u64 (hi4 Y))).setCell ⟨w.heap.size,1,none⟩ (.int .u64 (lo4 Y))):=(hc6.setCell (zzP _) _).setCell (zzP _) _
  go_wp2
  exact bodyPost_ret (v:= .tuple #[.agg #[.int .u64 (hi4 Y),.int .u64 (lo4 Y)],.bool true]) (by simp [results,Tryz.results151,go_sem,hk0',hk1']) rfl (zjC HF.out hfin)
 ·have HF:=zzN (HSL.out.trans (if_neg hok))
  obtain ⟨hk0,hk1,hf0,hf1⟩:=HK.out
  have hfin:Below w.heap.size w ((x3.setCell ⟨w.heap.size,0,none⟩ (.int .u64 0)).setCell ⟨w.heap.size,1,none⟩ (.int .u64 0)):=(hc2.setCell (zzP _) _).setCell (zzP _) _
  cases b with
  |false=>
   clear hok
   go_wp2
   exact bodyPost_ret (v:= .tuple #[.agg #[.int .u64 0,.int .u64 0],.bool false]) (by simp [results,Tryz.results151,go_sem,hk0,hk1]) rfl (zeX HF.out hfin)
  |true=>
   cases d with
   |false=>
    clear hok
    go_wp2
    exact bodyPost_ret (v:= .tuple #[.agg #[.int .u64 0,.int .u64 0],.bool false]) (by simp [results,Tryz.results151,go_sem,hk0,hk1]) rfl (zeX HF.out hfin)
   |true=>
    have h7:7<T.length+U.length:=by
     rcases Nat.lt_or_ge 7 (T.length+U.length) with h|h
     ·exact h
     ·exact absurd ⟨rfl,rfl,h⟩ hok
    have hz1':decide ((8:Int) - (T.length:Int) - (U.length:Int)<1)=true:=decide_eq_true (by omega)
    clear hok
    go_wp2
    exact bodyPost_ret (v:= .tuple #[.agg #[.int .u64 0,.int .u64 0],.bool false]) (by simp [results,Tryz.results151,go_sem,hk0,hk1]) rfl (zeX HF.out hfin)
theorem zqU (s:ByteArray) (w:World) (hs:s.size≤1073741824) (hmax:MaxVar w):
  Calls Tryz.prog 151 #[.string s] w (zlF w (sixZ s.data.toList)):=by
 cases h:ccAt s.data.toList with
 |none=>exact znE s w hs hmax h
 |some k=>exact znW s k w hs hmax h
theorem zjU (g c:Nat) (l:List Int) (w:World) (hcs: ∀j,j<8→w.cell? ⟨g,j,none⟩=some (.int .i64 (l.getD j 0))) (hin:In16 l):
  Calls Tryz.prog 155 #[.slice (some ⟨g,0,none⟩) 8 c] w fun e w'=>e= .returned (.tuple #[.int .u64 (hi4 l),.int .u64 (lo4 l)])∧w=w':=by
 have HC:=zzN hcs
 have HIN:=zzN hin
 clear hcs hin
 go_enter Tryz.func155,Tryz.ntmps155
 go_wp2
 go_loop [4,5,6] (fun h o i=> ∃k:Nat,k≤4∧i= .int .i64 k∧h= .int .u64 (hiP 0 l k)∧o= .int .u64 (hiP 4 l k)) (fun _ _ i=>4 - (intOf i).toNat)
 case atStart=>exact ⟨0,by omega,rfl,rfl,rfl⟩
 case round=>
  obtain ⟨k,hk,rfl,rfl,rfl⟩:=hrel
  by_cases hk4:k<4
  ·have hHb:=zfE HIN.out 0 k (by omega)
   have hLb:=zfE HIN.out 4 k (by omega)
   have hxb:=HIN.out.getD (0+k)
   have hyb:=HIN.out.getD (4+k)
   have hcx:=HC.out (0+k) (by omega)
   have hcy:=HC.out (4+k) (by omega)
   have HHS:Hid (hiP 0 l (k+1)=hiP 0 l k*65536+l.getD (0+k) 0):=rfl
   have HLS:Hid (hiP 4 l (k+1)=hiP 4 l k*65536+l.getD (4+k) 0):=rfl
   generalize hiP 0 l k=H at*
   generalize hiP 4 l k=L at*
   generalize l.getD (0+k) 0=x at*
   generalize l.getD (4+k) 0=y at*
   obtain ⟨hH0,hH1⟩:=hHb
   obtain ⟨hL0,hL1⟩:=hLb
   obtain ⟨hx0,hx1⟩:=hxb
   obtain ⟨hy0,hy1⟩:=hyb
   rcases (show k=0∨k=1∨k=2∨k=3 from by omega) with rfl|rfl|rfl|rfl
   ·rw [show 0+0=0 from rfl] at hcx
    rw [show 4+0=4 from rfl] at hcy
    rw [show ((0:Nat):Int)=0 from rfl]
    go_wp2
    go_round
    case rel=>exact ⟨1,by omega,(by first|rfl|go_num),(by rw [HHS.out]),(by rw [HLS.out])⟩
    case measure=>first|(simp [intOf];done)|(simp [intOf];omega)
   ·rw [show 0+1=1 from rfl] at hcx
    rw [show 4+1=5 from rfl] at hcy
    rw [show ((1:Nat):Int)=1 from rfl]
    go_wp2
    go_round
    case rel=>exact ⟨2,by omega,(by first|rfl|go_num),(by rw [HHS.out]),(by rw [HLS.out])⟩
    case measure=>first|(simp [intOf];done)|(simp [intOf];omega)
   ·rw [show 0+2=2 from rfl] at hcx
    rw [show 4+2=6 from rfl] at hcy
    rw [show ((2:Nat):Int)=2 from rfl]
    go_wp2
    go_round
    case rel=>exact ⟨3,by omega,(by first|rfl|go_num),(by rw [HHS.out]),(by rw [HLS.out])⟩
    case measure=>first|(simp [intOf];done)|(simp [intOf];omega)
   ·rw [show 0+3=3 from rfl] at hcx
    rw [show 4+3=7 from rfl] at hcy
    rw [show ((3:Nat):Int)=3 from rfl]
    go_wp2
    go_round
    case rel=>exact ⟨4,by omega,(by first|rfl|go_num),(by rw [HHS.out]),(by rw [HLS.out])⟩
    case measure=>first|(simp [intOf];done)|(simp [intOf];omega)
  ·obtain rfl:k=4:=by omega
   rw [show ((4:Nat):Int)=4 from rfl,zxV,zxQ]
   go_wp2
   go_ret2
   exact ⟨rfl,rfl⟩
theorem make8 (W:World):(Instr.makeSlice 157 (.int .i64 8) (.int .i64 8)).run Tryz.prog W= .ok (.slice (some ⟨W.heap.size,0,none⟩) 8 8) (W.alloc (.cells #[.int .i64 0,.int .i64 0,.int .i64 0,.int .i64 0,.int .i64 0,.int .i64 0,.int .i64 0,.int .i64 0] 3)):=by
 obtain ⟨i0,hi,hz0,hz1,hz2⟩:=info_parts Tryz.infoInt
 rw [run_make W 157 3 i0 (.int .i64 0) Tryz.underlying157 hi hz0 .i64 .i64 8 8 (by decide) (by decide) (by rw [hz2];decide) (by decide),hz1]
 have e:madeCells (Value.int .i64 0).cells (Int.toNat 8*1)= #[.int .i64 0,.int .i64 0,.int .i64 0,.int .i64 0,.int .i64 0,.int .i64 0,.int .i64 0,.int .i64 0]:=by kernel_rfl
 rw [e]
 rfl
theorem zrX {w:World} {g:Nat} {t:TypeId} {a r:List Int} {y:Int} (k:IntKind) (x:Int) (h:w.heap[g]? =some (.cells ((a++y::r).map (Value.int k)).toArray t (0,0))):
  (w.setCell ⟨g,a.length,none⟩ (.int k x)).heap[g]? =some (.cells ((a++x::r).map (Value.int k)).toArray t (0,0)):=by
 have e:(((a++y::r).map (Value.int k)).toArray).setIfInBounds a.length (.int k x)=((a++x::r).map (Value.int k)).toArray:=by
  apply Array.ext'
  simp
 rw [←e]
 simp [World.setCell,Array.getElem?_modify,h]
theorem zkA {w:World} {g:Nat} {t:TypeId} {l:List Int} {k:IntKind} (h:w.heap[g]? =some (.cells (l.map (Value.int k)).toArray t (0,0))) (j:Nat) (hj:j<l.length):w.cell? ⟨g,j,none⟩=some (.int k (l.getD j 0)):=by
 rw [cell_of_row w g j _ _ _ h]
 simp [List.getD,hj]
theorem zjH {w:World} {g:Nat} {t:TypeId} {cs:Array Value} (h:w.heap[g]? =some (.cells cs t (0,0))) (j:Nat):w.frozen? ⟨g,j,none⟩=false:=by
 simp [World.frozen?,h]
theorem zlS (T:List Int) (k:Nat) (hk:k<T.length) (m:Nat):T.take (k+1)++List.replicate m 0=T.take k++T.getD k 0::List.replicate m 0:=by
 rw [List.take_succ_eq_append_getElem hk,List.getD,List.getElem?_eq_getElem hk,List.append_assoc]
 rfl
theorem Nums.form0 {t:TypeId} {k:IntKind} {B:Nat} {w:World} {v:Value} {l:List Int} (h:Nums t k B w v l):
  ∃ao cap,v= .slice ao l.length cap∧ ∀j,j<l.length→ ∃g,ao=some ⟨g,0,none⟩∧g<w.heap.size∧w.cell? ⟨g,j,none⟩=some (.int k (l.getD j 0)):=by
 unfold Nums at h
 rcases h.2 with ⟨hv,h0⟩|⟨g,cap,cur,hv,_,hg,hc,_,hs,ht⟩
 ·exact ⟨none,0,by rw [hv,h0],fun j hj=>by omega⟩
 ·refine ⟨_,cap,hv,fun j hj=>⟨g,rfl,(Array.getElem?_eq_some_iff.1 hg).1,?_⟩⟩
  rw [cell_of_row w g j cur _ _ hg]
  have h1:(l.map (Value.int k))[j]? =some (.int k (l.getD j 0)):=by
   simp [List.getD,List.getElem?_eq_getElem hj]
  rw [←ht,List.getElem?_take,if_pos (by omega)] at h1
  simpa using h1
theorem Nums.form {t:TypeId} {k:IntKind} {B:Nat} {w:World} {v:Value} {l:List Int} (h:Nums t k B w v l) (hn:0<l.length):
  ∃g cap,v= .slice (some ⟨g,0,none⟩) l.length cap∧l.length≤cap∧g<w.heap.size∧ ∀j,j<l.length→w.cell? ⟨g,j,none⟩=some (.int k (l.getD j 0)):=by
 unfold Nums at h
 rcases h.2 with ⟨_,h0⟩|⟨g,cap,cur,hv,_,hg,hc,_,hs,ht⟩
 ·omega
 ·refine ⟨g,cap,hv,hc,(Array.getElem?_eq_some_iff.1 hg).1,fun j hj=> ?_⟩
  rw [cell_of_row w g j cur _ _ hg]
  have h1:(l.map (Value.int k))[j]? =some (.int k (l.getD j 0)):=by
   simp [List.getD,List.getElem?_eq_getElem hj]
  rw [←ht,List.getElem?_take,if_pos (by omega)] at h1
  simpa using h1
theorem zqG {l:List UInt8} (h:ccAt l=none): ∀k,¬isCC l k:=by
 induction l with
 |nil=>intro k hk;exact absurd hk.1 (by simp)
 |cons a r ih=>
  unfold ccAt at h
  split at h
  ·cases h
  ·rename_i hc
   have hr:ccAt r=none:=by cases hr:ccAt r with|none=>rfl|some j=>rw [hr] at h;cases h
   intro k hk
   cases k with
   |zero=>exact hc ⟨by simpa using hk.1,by simpa [List.head?_eq_getElem?] using hk.2⟩
   |succ k=>exact ih hr k ⟨by simpa using hk.1,by simpa using hk.2⟩
theorem zqY {l:List UInt8}: ∀{k:Nat},ccAt l=some k→isCC l k∧ ∀j,j<k→ ¬isCC l j:=by
 induction l with
 |nil=>intro k h;cases h
 |cons a r ih=>
  intro k h
  unfold ccAt at h
  split at h
  ·rename_i hc
   cases h
   exact ⟨⟨by simp [hc.1],by simpa [List.head?_eq_getElem?] using hc.2⟩,fun j hj=>by omega⟩
  ·rename_i hc
   cases hr:ccAt r with
   |none=>rw [hr] at h;cases h
   |some j0=>
    rw [hr] at h
    cases h
    obtain ⟨h1,h2⟩:=ih hr
    refine ⟨⟨by simpa using h1.1,by simpa using h1.2⟩,fun j hj hk=> ?_⟩
    cases j with
    |zero=>exact hc ⟨by simpa using hk.1,by simpa [List.head?_eq_getElem?] using hk.2⟩
    |succ j=>exact h2 j (by have hj2:j+1<j0+1:=hj;omega) ⟨by simpa using hk.1,by simpa using hk.2⟩
theorem ztS (s:ByteArray) (k:Nat) (h:k+1<s.size) (h0:s[k].toNat=58) (h1:s[k+1].toNat=58):isCC s.data.toList k:=by
 refine ⟨?_,?_⟩
 ·rw [zcZ s k (by omega)];exact congrArg some (UInt8.toNat_inj.1 h0)
 ·rw [zcZ s (k+1) h];exact congrArg some (UInt8.toNat_inj.1 h1)
theorem zyQ (s:ByteArray) (k:Nat) (hk:isCC s.data.toList k): ∃(h:k+1<s.size),s[k].toNat=58∧s[k+1].toNat=58:=by
 have h:k+1<s.size:=by
  have:=(List.getElem?_eq_some_iff.1 hk.2).1
  rwa [zaB] at this
 refine ⟨h,?_,?_⟩
 ·have:=hk.1;rw [zcZ s k (by omega)] at this;rw [Option.some.inj this];rfl
 ·have:=hk.2;rw [zcZ s (k+1) h] at this;rw [Option.some.inj this];rfl
def ziK (w:World) (x:(Int×Int)×Bool) (e:Ending) (w':World):Prop:=e= .returned (.tuple #[.int .u64 x.1.1,.int .u64 x.1.2,.bool x.2])∧Below w.heap.size w w'
theorem zeI {w w':World} {l:List UInt8} (h:sixL l=([],false)) (hb:Below w.heap.size w w'):ziK w (sixZ l) (.returned (.tuple #[.int .u64 0,.int .u64 0,.bool false])) w':=by
 unfold sixZ;rw [h];exact ⟨rfl,hb⟩
theorem ziM {w w':World} {l:List UInt8} {T:List Int} (h:sixL l=(T,true)) (hb:Below w.heap.size w w'):ziK w (sixZ l) (.returned (.tuple #[.int .u64 (hi4 T),.int .u64 (lo4 T),.bool true])) w':=by
 unfold sixZ;rw [h];exact ⟨rfl,hb⟩
theorem ziV (s:ByteArray) (w:World) (hs:s.size≤1073741824) (hcc:ccAt s.data.toList=none):
  Calls Tryz.prog 103 #[.string s] w (ziK w (sixZ s.data.toList)):=by
 have HNC:=zzN (zqG hcc)
 obtain ⟨T,b,hT⟩: ∃T b,rowZ s.data.toList true=(T,b):=⟨_,_,rfl⟩
 have HSL:=zzN (zlR hcc hT)
 have hTl:T.length≤1073741827:=by have:=zfB s.data.toList true;rw [hT,zaB] at this;simp at this;omega
 have HIN:Hid (In16 T):=by show In16 T;have:=zeL s.data.toList true;rw [hT] at this;exact this
 have HT:=zzN hT
 clear hcc hT
 go_enter Tryz.func103,Tryz.ntmps103
 go_wp2
 go_loop [5,6] (fun a i=> ∃k:Nat,k≤s.size∧i= .int .i64 k∧a= .int .i64 (-1)) (fun _ i=>s.size - (intOf i).toNat)
 case atStart=>exact ⟨0,Nat.zero_le _,rfl,rfl⟩
 case round=>
  obtain ⟨k,hk,rfl,rfl⟩:=hrel
  by_cases hlt:k+1<s.size
  ·have hlt0:k<s.size:=by omega
   obtain ⟨c0,hc0⟩: ∃c,(s[k]'hlt0).toNat=c:=⟨_,rfl⟩
   obtain ⟨c1,hc1⟩: ∃c,(s[k+1]'hlt).toNat=c:=⟨_,rfl⟩
   by_cases e0:c0=58
   ·subst e0
    have e1:((c1:Int)==58)=false:=by
     rw [zzO]
     intro e
     exact HNC.out k (ztS s k hlt hc0 (by rw [hc1];omega))
    go_wp2
    go_round
    case rel=>exact ⟨k+1,by omega,by go_num,rfl⟩
    case measure=>simp [intOf];omega
   ·have e1:((c0:Int)==58)=false:=by
     rw [zzO];omega
    go_wp2
    go_round
    case rel=>exact ⟨k+1,by omega,by go_num,rfl⟩
    case measure=>simp [intOf];omega
  ·go_wp2_with fail
   refine (zfO s true _ hs).mono ?_
   rw [HT.out]
   rintro e x2 ⟨v,rfl,hnum,hb2⟩
   cases b with
   |false=>
    have HF:=zzN (HSL.out.trans (if_neg (fun h=>by cases h.1)))
    go_wp2
    exact bodyPost_ret (v:= .tuple #[.int .u64 0,.int .u64 0,.bool false]) (by simp [results,Tryz.results103,go_sem]) rfl (zeI HF.out hb2)
   |true=>
    by_cases h8:T.length=8
    ·have HF:=zzN (HSL.out.trans (if_pos ⟨rfl,h8⟩))
     obtain ⟨g,cap,rfl,hcap,hg,hcell⟩:=Nums.form (show Nums 3 .i64 w.heap.size x2 v T from hnum) (by omega)
     rw [h8] at hcell ⊢
     have HC:=zzN hcell
     clear hcell hnum hcap
     go_wp2_with fail
     refine (zjU g cap T _ HC.out HIN.out).mono ?_
     rintro e w' ⟨rfl,rfl⟩
     go_wp2
     exact bodyPost_ret (v:= .tuple #[.int .u64 (hi4 T),.int .u64 (lo4 T),.bool true]) (by simp [results,Tryz.results103,go_sem]) rfl (ziM HF.out hb2)
    ·have HF:=zzN (HSL.out.trans (if_neg (fun h=>h8 h.2)))
     have hb8:((T.length:Int) !=8)=true:=by rw [bne_iff_ne];omega
     obtain ⟨ao,c,hv,_⟩:=hnum.row
     rw [List.length_map] at hv
     subst hv
     clear hnum
     go_wp2
     exact bodyPost_ret (v:= .tuple #[.int .u64 0,.int .u64 0,.bool false]) (by simp [results,Tryz.results103,go_sem]) rfl (zeI HF.out hb2)
theorem ziX (s:ByteArray) (q:Nat) (w:World) (hs:s.size≤1073741824) (hcc:ccAt s.data.toList=some q):
  Calls Tryz.prog 103 #[.string s] w (ziK w (sixZ s.data.toList)):=by
 have HNC:=zzN (zqY hcc)
 obtain ⟨p,hp⟩: ∃p,s.data.toList.take q=p:=⟨_,rfl⟩
 obtain ⟨r,hr⟩: ∃r,s.data.toList.drop (q+2)=r:=⟨_,rfl⟩
 have hqs:q+2≤s.size:=by have:=zyY hcc;rwa [zaB] at this
 have hpl:p.length≤1073741824:=by have h2:=List.length_take_le' q s.data.toList;rw [hp,zaB] at h2;omega
 have hrl:r.length≤1073741824:=by rw [←hr,List.length_drop,zaB];omega
 obtain ⟨T,b,hT⟩: ∃T b,rowZ p false=(T,b):=⟨_,_,rfl⟩
 obtain ⟨U,d,hU⟩: ∃T b,rowZ r true=(T,b):=⟨_,_,rfl⟩
 have HSL:=zzN (zkQ (T:=T) (U:=U) (b:=b) (c:=d) hcc (by rw [hp,hT]) (by rw [hr,hU]))
 have hTl:T.length≤1073741827:=by have:=zfB p false;rw [hT] at this;simp at this;omega
 have hUl:U.length≤1073741827:=by have:=zfB r true;rw [hU] at this;simp at this;omega
 have HIN:Hid (In16 T):=by show In16 T;have:=zeL p false;rw [hT] at this;exact this
 have HIN2:Hid (In16 U):=by show In16 U;have:=zeL r true;rw [hU] at this;exact this
 have HT:=zzN hT
 have HU:=zzN hU
 have hex1:s.extract 0 q=⟨p.toArray⟩:=zdK s 0 q p (by rw [←hp];rfl)
 have hex2:s.extract (q+2) s.size=⟨r.toArray⟩:=by rw [zeZ,hr]
 clear hcc hT hU hp hr
 obtain ⟨i0,hi,hz0,hz1,hz2⟩:=info_parts Tryz.infoInt
 go_enter Tryz.func103,Tryz.ntmps103
 go_wp2
 go_loop [5,6] (fun a i=> ∃k:Nat,i= .int .i64 k∧((k≤q∧a= .int .i64 (-1))∨(k=q+1∧a= .int .i64 q))) (fun _ i=>s.size - (intOf i).toNat)
 case atStart=>exact ⟨0,rfl,.inl ⟨Nat.zero_le _,rfl⟩⟩
 case round=>
  obtain ⟨k,rfl,hor⟩:=hrel
  rcases hor with ⟨hkq,rfl⟩|⟨rfl,rfl⟩
  ·have hlt:k+1<s.size:=by omega
   have hlt0:k<s.size:=by omega
   obtain ⟨c0,hc0⟩: ∃c,(s[k]'hlt0).toNat=c:=⟨_,rfl⟩
   obtain ⟨c1,hc1⟩: ∃c,(s[k+1]'hlt).toNat=c:=⟨_,rfl⟩
   by_cases hk:k=q
   ·subst hk
    obtain ⟨_,h0,h1⟩:=zyQ s k HNC.out.1
    have e0:c0=58:=by rw [←hc0];exact h0
    have e1:c1=58:=by rw [←hc1];exact h1
    subst e0 e1
    clear h0 h1
    go_wp2
    go_round
    case rel=>exact ⟨k+1,by go_num,.inr ⟨rfl,rfl⟩⟩
    case measure=>simp [intOf];omega
   ·by_cases e0:c0=58
    ·subst e0
     have e1:((c1:Int)==58)=false:=by
      rw [zzO]
      intro e
      exact HNC.out.2 k (by omega) (ztS s k hlt hc0 (by rw [hc1];omega))
     have hkq2:k+1≤q:=by omega
     clear hk
     go_wp2
     go_round
     case rel=>exact ⟨k+1,by go_num,.inl ⟨hkq2,rfl⟩⟩
     case measure=>simp [intOf];omega
    ·have e1:((c0:Int)==58)=false:=by
      rw [zzO];omega
     have hkq2:k+1≤q:=by omega
     clear e0 hk
     go_wp2
     go_round
     case rel=>exact ⟨k+1,by go_num,.inl ⟨hkq2,rfl⟩⟩
     case measure=>simp [intOf];omega
  ·have hq0:decide ((q:Int)<0)=false:=decide_eq_false (by omega)
   by_cases hqq:q+1+1<s.size
   all_goals
    go_wp2_with fail
    refine (zfO ⟨p.toArray⟩ false _ (by rw [zaA];exact hpl)).mono ?_
    rw [zaE,HT.out]
    rintro e x2 ⟨v,rfl,hnum,hb2⟩
    have HNUM:=zzN (show Nums 3 .i64 w.heap.size x2 v T from hnum)
    clear hnum
    go_wp2_with fail
    refine (zfO ⟨r.toArray⟩ true _ (by rw [zaA];exact hrl)).mono ?_
    rw [zaE,HU.out]
    rintro e x3 ⟨v2,rfl,hnum2,hb3⟩
    have hc3:Below w.heap.size w x3:=hb2.trans (hb3.mono hb2.size)
    obtain ⟨ao,cap,rfl,hF1⟩:=Nums.form0 (HNUM.out.below hb3)
    obtain ⟨ao2,cap2,rfl,hF2⟩:=Nums.form0 (show Nums 3 .i64 x2.heap.size x3 v2 U from hnum2)
    have HF1:=zzN hF1
    have HF2:=zzN hF2
    clear hF1 hF2 hnum2 hb2 hb3
    by_cases hok:b=true∧d=true∧T.length+U.length≤7
    ·have HF:=zzN (HSL.out.trans (if_pos hok))
     obtain ⟨rfl,rfl,h7⟩:=hok
     obtain ⟨z,hz⟩: ∃z,8 - (T.length+U.length)=z:=⟨_,rfl⟩
     rw [hz] at HF
     have hzs:T.length+z+U.length≤8:=by omega
     have hzs2:8≤T.length+z+U.length:=by omega
     have hg7:decide ((7:Int)<(T.length:Int)+(U.length:Int))=false:=decide_eq_false (by omega)
     clear hz
     have hmk:=make8
     go_wp2
     clear hmk
     have HB0:Hid ((x3.alloc (.cells #[.int .i64 0,.int .i64 0,.int .i64 0,.int .i64 0,.int .i64 0,.int .i64 0,.int .i64 0,.int .i64 0] 3)).heap[x3.heap.size]? =some (.cells ((T.take 0++List.replicate (8 - 0) 0).map (Value.int .i64)).toArray 3 (0,0))):=heap_alloc_new x3 _
     have hbA:Below x3.heap.size x3 (x3.alloc (.cells #[.int .i64 0,.int .i64 0,.int .i64 0,.int .i64 0,.int .i64 0,.int .i64 0,.int .i64 0,.int .i64 0] 3)):=(zzQ _ x3).alloc (zzP _) _
     go_loopw [16] (fun i wr=> ∃k:Nat,k≤T.length∧i= .int .i64 k∧Hid (wr.heap[x3.heap.size]? =some (.cells ((T.take k++List.replicate (8 - k) 0).map (Value.int .i64)).toArray 3 (0,0)))∧Below x3.heap.size x3 wr) (fun i _=>T.length - (intOf i).toNat)
     case atStart=>exact ⟨0,by omega,rfl,HB0,hbA⟩
     case round=>
      obtain ⟨k,hk,rfl,HA,hbw⟩:=hrel
      by_cases hkT:k<T.length
      ·obtain ⟨g,rfl,hg,hcg⟩:=HF1.out k hkT
       have hcx:wr.cell? ⟨g,k,none⟩=some (.int .i64 (T.getD k 0)):=(hbw.cell (p:=⟨g,k,none⟩) hg).trans hcg
       have hput:=zrX (a:=T.take k) (r:=List.replicate (8 - (k+1)) 0) .i64 (T.getD k 0) (show wr.heap[x3.heap.size]? =some (.cells ((T.take k++0::List.replicate (8 - (k+1)) 0).map (Value.int .i64)).toArray 3 (0,0)) from by
        have:=HA.out
        rwa [show 8 - k=(8 - (k+1))+1 from by omega,List.replicate_succ] at this)
       rw [←zlS T k hkT,List.length_take,show min k T.length=k from by omega] at hput
       have HPUT:=zzN hput
       have hck:wr.cell? ⟨x3.heap.size,k,none⟩=some (.int .i64 ((T.take k++List.replicate (8 - k) 0).getD k 0)):=zkA HA.out k (by simp;omega)
       have hfk:wr.frozen? ⟨x3.heap.size,k,none⟩=false:=zjH HA.out k
       generalize (T.take k++List.replicate (8 - k) 0).getD k 0=old at hck
       have hbw2:=hbw.setCell (p:=⟨x3.heap.size,k,none⟩) (zzP _) (.int .i64 (T.getD k 0))
       have hk8:k<8:=by omega
       clear hput hcg
       generalize T.getD k 0=x at*
       go_wp2
       go_roundw
       case rel=>exact ⟨k+1,by omega,by go_num,HPUT,hbw2⟩
       case measure=>simp [intOf];omega
      ·obtain rfl:k=T.length:=by omega
       have HA0:Hid (wr.heap[x3.heap.size]? =some (.cells (((T++List.replicate z 0)++U.take 0++List.replicate (U.length - 0) 0).map (Value.int .i64)).toArray 3 (0,0))):=by
        show _=_
        have:=HA.out
        rw [List.take_of_length_le (zzP _),show 8 - T.length=z+U.length from by omega,←List.replicate_append_replicate,←List.append_assoc] at this
        simpa using this
       go_wp2
       go_loopw [17] (fun i wr2=> ∃k:Nat,k≤U.length∧i= .int .i64 k∧Hid (wr2.heap[x3.heap.size]? =some (.cells (((T++List.replicate z 0)++U.take k++List.replicate (U.length - k) 0).map (Value.int .i64)).toArray 3 (0,0)))∧Below x3.heap.size x3 wr2) (fun i _=>U.length - (intOf i).toNat)
       case atStart=>exact ⟨0,by omega,rfl,HA0,hbw⟩
       case round=>
        obtain ⟨k,hk,rfl,HA2,hbw⟩:=hrel
        by_cases hkU:k<U.length
        ·obtain ⟨g,rfl,hg,hcg⟩:=HF2.out k hkU
         have hcx:wr.cell? ⟨g,k,none⟩=some (.int .i64 (U.getD k 0)):=(hbw.cell (p:=⟨g,k,none⟩) hg).trans hcg
         obtain ⟨j,hj⟩: ∃j,T.length+z+k=j:=⟨_,rfl⟩
         have hjl:((T++List.replicate z 0)++U.take k).length=j:=by
          simp only [List.length_append,List.length_replicate,List.length_take];omega
         have hput:=zrX (a:=(T++List.replicate z 0)++U.take k) (r:=List.replicate (U.length - (k+1)) 0) .i64 (U.getD k 0) (show wr.heap[x3.heap.size]? =some (.cells (((T++List.replicate z 0)++U.take k++0::List.replicate (U.length - (k+1)) 0).map (Value.int .i64)).toArray 3 (0,0)) from by
          have:=HA2.out
          rwa [show U.length - k=(U.length - (k+1))+1 from by omega,List.replicate_succ] at this)
         rw [hjl,List.append_assoc (T++List.replicate z 0),←zlS U k hkU,←List.append_assoc (T++List.replicate z 0)] at hput
         have HPUT:=zzN hput
         have hck:wr.cell? ⟨x3.heap.size,j,none⟩=some (.int .i64 ((((T++List.replicate z 0)++U.take k++List.replicate (U.length - k) 0)).getD j 0)):=zkA HA2.out j (by simp only [List.length_append,List.length_replicate,List.length_take];omega)
         have hfk:wr.frozen? ⟨x3.heap.size,j,none⟩=false:=zjH HA2.out j
         generalize (((T++List.replicate z 0)++U.take k++List.replicate (U.length - k) 0)).getD j 0=old at hck
         have hbw2:=hbw.setCell (p:=⟨x3.heap.size,j,none⟩) (zzP _) (.int .i64 (U.getD k 0))
         have hj8:j<8:=by omega
         have hidx:(8:Int) - (U.length:Int)+(k:Int)=(j:Int):=by omega
         clear hput hcg hj hjl
         generalize U.getD k 0=x at*
         go_wp2
         go_roundw
         case rel=>exact ⟨k+1,by omega,by go_num,HPUT,hbw2⟩
         case measure=>simp [intOf];omega
        ·obtain rfl:k=U.length:=by omega
         have HY:Hid (wr.heap[x3.heap.size]? =some (.cells ((T++List.replicate z 0++U).map (Value.int .i64)).toArray 3 (0,0))):=by
          show _=_
          have:=HA2.out
          rw [List.take_of_length_le (zzP _),Nat.sub_self,List.replicate_zero,List.append_nil] at this
          exact this
         have HIN3:=zzN ((HIN.out.append (In16.zeros z)).append HIN2.out)
         have hl8:(T++List.replicate z 0++U).length=8:=by
          simp only [List.length_append,List.length_replicate];omega
         have HCELL:Hid (∀j,j<8→wr.cell? ⟨x3.heap.size,j,none⟩=some (.int .i64 ((T++List.replicate z 0++U).getD j 0))):=fun j hj=>zkA HY.out j (by rw [hl8];exact hj)
         have hfin:Below w.heap.size w wr:=hc3.trans (hbw.mono hc3.size)
         clear hl8
         generalize T++List.replicate z 0++U=Y at*
         go_wp2_with fail
         refine (zjU _ _ Y _ HCELL.out HIN3.out).mono ?_
         rintro e w' ⟨rfl,rfl⟩
         go_wp2
         exact bodyPost_ret (v:= .tuple #[.int .u64 (hi4 Y),.int .u64 (lo4 Y),.bool true]) (by simp [results,Tryz.results103,go_sem]) rfl (ziM HF.out hfin)
    ·have HF:=zzN (HSL.out.trans (if_neg hok))
     cases b with
     |false=>
      clear hok
      go_wp2
      exact bodyPost_ret (v:= .tuple #[.int .u64 0,.int .u64 0,.bool false]) (by simp [results,Tryz.results103,go_sem]) rfl (zeI HF.out hc3)
     |true=>
      cases d with
      |false=>
       clear hok
       go_wp2
       exact bodyPost_ret (v:= .tuple #[.int .u64 0,.int .u64 0,.bool false]) (by simp [results,Tryz.results103,go_sem]) rfl (zeI HF.out hc3)
      |true=>
       have h7:7<T.length+U.length:=by
        rcases Nat.lt_or_ge 7 (T.length+U.length) with h|h
        ·exact h
        ·exact absurd ⟨rfl,rfl,h⟩ hok
       have hz1':decide ((7:Int)<(T.length:Int)+(U.length:Int))=true:=decide_eq_true (by omega)
       clear hok
       go_wp2
       exact bodyPost_ret (v:= .tuple #[.int .u64 0,.int .u64 0,.bool false]) (by simp [results,Tryz.results103,go_sem]) rfl (zeI HF.out hc3)
theorem zkE (s:ByteArray) (w:World) (hs:s.size≤1073741824):
  Calls Tryz.prog 103 #[.string s] w (ziK w (sixZ s.data.toList)):=by
 cases h:ccAt s.data.toList with
 |none=>exact ziV s w hs h
 |some k=>exact ziX s k w hs h
theorem zaI {w:World} {g:Nat} {t:TypeId} {cs:Array Value} (h:w.heap[g]? =some (.cells cs t (0,0))) (j:Nat):w.frozen? ⟨g,j,none⟩=false:=by
 simp [World.frozen?,h]
theorem zcY (x:World):Below x.heap.size x x.drew:=(zzQ _ _).drew
end
end
end Go.Proofs.YtmjappnpedjlnaaGreatDoor
