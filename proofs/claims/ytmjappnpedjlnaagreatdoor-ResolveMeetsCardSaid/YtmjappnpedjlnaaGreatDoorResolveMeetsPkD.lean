/-
  What the law ResolveMeets leans on, and its walk (4 of 46).
-/
import Derived.Lib.IndexMore
import Derived.Deep.Onto
import Derived.Laws.CopyOwn
import Derived.Lib.AppendZerosOnto
import Derived.Laws.MakeOwn
import Derived.Test.YtmjappnpedjlnaaGreatDoorResolveMeetsPkC
namespace Go.Proofs.YtmjappnpedjlnaaGreatDoor
set_option maxRecDepth 100000
set_option maxHeartbeats 16000000
abbrev yoP := @Lib.hid
abbrev yoQ := @Nat.le_refl
abbrev yoR := @Nat.lt_of_lt_of_le
abbrev yoS := @decide_eq_false
abbrev yoT := @decide_eq_true
abbrev yoU := @Go.RowKit.Below.refl
section
section
open Go.RowKit Go.Sort Go.Lib
def hexD (u:Nat):List UInt8:=if _h:u<16 then [dgt u] else hexD (u/16)++[dgt (u % 16)]
termination_by u
decreasing_by omega
theorem zlO (u:Nat) (h:u<16):hexD u=[dgt u]:=by rw [hexD,dif_pos h]
theorem zoK (u:Nat) (h:16≤u):hexD u=hexD (u/16)++[dgt (u % 16)]:=by rw [hexD,dif_neg (by omega)]
def ylP (u:Nat) (w:World) (e:Ending) (w':World):Prop:=e= .returned (.tuple #[.slice none 0 0,.string ⟨(hexD u).toArray⟩])∧Below w.heap.size w w'
def z6S (u:Nat) (w:World) (e:Ending) (w':World):Prop:=e= .returned (.string ⟨(hexD u).toArray⟩)∧Below w.heap.size w w'
theorem yiY (u:Nat) (hu64:u<18446744073709551616) (w:World) (htab:BruTab w):
  Calls Tryz.prog 219 #[.slice none 0 0,.int .u64 u,.int .i64 16,.bool false,.bool false] w (ylP u w):=by
 have HT:=yoP htab
 clear htab
 have hal:Tryz.prog.arrayLen 218=65:=by simp [Program.arrayLen,Tryz.underlying218]
 have HAL:=yoP hal
 clear hal
 go_enter Tryz.func219,Tryz.ntmps219
 go_wp2_with (first
  |(go_at_call 237;refine (ynP _).mono ?_;rintro e w' ⟨rfl,rfl⟩)
  |(go_at_call 238;refine (tz_16 _ (tabIs_alloc HT.out _)).mono ?_;rintro e w' ⟨rfl,rfl⟩))
 go_loopw [1,13] (fun x i wr=> ∃(v n:Nat) (T:List UInt8),x= .int .u64 v∧i= .int .i64 n∧v≤u∧Hid (n+T.length=65)∧zfJ w.heap.size n T wr∧Hid (v<2^(64 - T.length))∧Hid ((v:Int)*(16:Nat)^T.length+valP (16:Nat) T=u)∧Hid (T.length≤64)∧Hid (hexD v++T=hexD u)∧Below w.heap.size w wr) (fun x _ _=>(RowKit.intOf x).toNat)
 case atStart=>exact ⟨u,65,[],rfl,rfl,yoQ _,rfl,zrI w,hu64,(by show (u:Int)*_^0+0=u;simp),(by show (0:Nat)≤64;omega),(by show hexD u++[]=hexD u;simp),(yoU _ w).alloc (yoQ _) _⟩
 case round=>
  obtain ⟨v,n,T,rfl,rfl,hvu,HN,hr,HP,HV,HK,HD,hbw⟩:=hrel
  have hTR:=yoP hr
  clear hr
  by_cases hv:16≤v
  ·have hl:=yeT v T.length HP.out (by omega)
   obtain ⟨i,rfl⟩: ∃i,n=i+1:=⟨n - 1,by have:=HN.out;omega⟩
   have hi:i<65:=by have:=HN.out;omega
   obtain ⟨d,hd⟩: ∃d,v % 16=d:=⟨_,rfl⟩
   have hdb:d<16:=by omega
   have hand:bits .and .u64 (v:Int) 15=(d:Int):=by
    have:=bits_mask .u64 64 (by decide) (fun n h0 h1=>by rw [IntKind.wrap_u64];omega) 4 (by decide) (v:Int) (by omega) (by omega)
    rw [show (2:Int)^4 - 1=15 from by decide] at this
    rw [this]
    omega
   obtain ⟨c0,hcell⟩:=hTR.out.cell i hi
   have hfr:=hTR.out.frozen i
   have hix:=fun W=>dig36 W d (by omega)
   have HTR2:=yoP (hTR.out.put (dgt d))
   have HP2:=yoP (ygX v T.length 16 HP.out hl (by decide))
   have HV2:=yoP (yaG 16 v T u (by omega) HV.out)
   rw [hd] at HV2
   have HD2:Hid (hexD (v/16)++(dgt d::T)=hexD u):=by
    show hexD (v/16)++(dgt d::T)=hexD u
    rw [←HD.out,zoK v hv,hd,List.append_assoc];rfl
   have hbw2:=hbw.setCell (p:=⟨w.heap.size,i,none⟩) (yoQ _) (.int .u8 ((dgt d).toNat:Int))
   have HDD:=yoP hd
   clear hd
   go_wp2
   go_roundw
   case rel=>exact ⟨v/16,i,dgt d::T,(by first|rfl|go_num|exact congrArg (Value.int .u64) (by omega)),(by first|rfl|go_num),by omega,(by have:=HN.out;show i+(T.length+1)=65;omega),HTR2.out,HP2,HV2,(by show T.length+1≤64;omega),HD2,hbw2⟩
   case measure=>simp [RowKit.intOf];omega
  ·have hlen:T.length≤64:=HK.out
   obtain ⟨i,rfl⟩: ∃i,n=i+1:=⟨n - 1,by have:=HN.out;omega⟩
   have hi:i<65:=by have:=HN.out;omega
   obtain ⟨c0,hcell⟩:=hTR.out.cell i hi
   have hfr:=hTR.out.frozen i
   have hix:=fun W=>dig36 W v (by omega)
   have htr2:=hTR.out.put (dgt v)
   have HNUM:Hid (dgt v::T=hexD u):=by
    show dgt v::T=hexD u
    rw [←HD.out,zlO v (by omega)];rfl
   have hbw2:=hbw.setCell (p:=⟨w.heap.size,i,none⟩) (yoQ _) (.int .u8 ((dgt v).toNat:Int))
   have hcv:=htr2.conv
   have hsl: ∀W,(Instr.sliceAt 218 (.pointer (some ⟨w.heap.size,0,none⟩)) (some (.int .i64 (i:Int))) none none).run Tryz.prog W= .ok (.slice (some ⟨w.heap.size,i,none⟩) (65 - i) (65 - i)) W:=fun W=>by
    rw [run_sliceAt_array_l W 218 ⟨w.heap.size,0,none⟩ (by simp [Program.arrayLen,Program.elem,Tryz.underlying218]) .i64 (i:Int) (by omega) (by rw [HAL.out];omega),HAL.out]
    go_simp
    omega
   clear htr2
   go_wp2
   go_ret2
   exact ⟨congrArg (fun l:List UInt8=>Ending.returned (.tuple #[.slice none 0 0,.string ⟨l.toArray⟩])) HNUM.out,hbw2⟩
theorem z5X (u:Nat) (hu64:u<18446744073709551616) (w:World) (htab:BruTab w):
  Calls Tryz.prog 233 #[.int .u64 u,.int .i64 16] w (z6S u w):=by
 have HT:=yoP htab
 clear htab
 go_enter Tryz.func233,Tryz.ntmps233
 go_wp2_with fail
 refine (yiY u hu64 _ HT.out).mono ?_
 rintro e w1 ⟨rfl,hb⟩
 go_wp2
 go_ret
 exact ⟨rfl,hb⟩
theorem z3Q (u:Nat) (hu64:u<18446744073709551616) (w:World) (htab:BruTab w):
  Calls Tryz.prog 215 #[.int .u64 u,.int .i64 16] w (z6S u w):=by
 have HT:=yoP htab
 clear htab
 go_enter Tryz.func215,Tryz.ntmps215
 go_wp2_with fail
 refine (z5X u hu64 _ HT.out).mono ?_
 rintro e w1 ⟨rfl,hb⟩
 go_wp2
 go_ret
 exact ⟨rfl,hb⟩
end
section
open Go.RowKit
def zeJ (l:List UInt8):Int×Bool:=if l.length<1∨4<l.length then (0,false) else if zbR 16 l then (valP 16 l,true) else (0,false)
def zdJ (l:List UInt8):List (List UInt8):=zbG (hasB [58]) l
def rowP (last:Bool):List Int→List (List UInt8)→List Int×Bool
 |acc,[]=>(acc,true)
 |acc,p::r=>if last=true∧r=[]∧(zbU p).2=true then (acc++[(zbU p).1/65536,(zbU p).1 % 65536],true)
  else if (zeJ p).2=true then rowP last (acc++[(zeJ p).1]) r else ([],false)
def rowZ (l:List UInt8) (last:Bool):List Int×Bool:=if l=[] then ([],true) else rowP last [] (zdJ l)
def ccAt:List UInt8→Option Nat
 |[]=>none
 |a::r=>if a=58∧r.head? =some 58 then some 0 else (ccAt r).map (· +1)
def sixL (l:List UInt8):List Int×Bool:=
 match ccAt l with
 |none=>if (rowZ l true).2=true∧(rowZ l true).1.length=8 then ((rowZ l true).1,true) else ([],false)
 |some k=>if (rowZ (l.take k) false).2=true∧(rowZ (l.drop (k+2)) true).2=true∧(rowZ (l.take k) false).1.length+(rowZ (l.drop (k+2)) true).1.length≤7 then
   ((rowZ (l.take k) false).1++List.replicate (8 - ((rowZ (l.take k) false).1.length+(rowZ (l.drop (k+2)) true).1.length)) 0++(rowZ (l.drop (k+2)) true).1,true)
  else ([],false)
def hi4 (l:List Int):Int:=((l.getD 0 0*65536+l.getD 1 0)*65536+l.getD 2 0)*65536+l.getD 3 0
def lo4 (l:List Int):Int:=((l.getD 4 0*65536+l.getD 5 0)*65536+l.getD 6 0)*65536+l.getD 7 0
def sixZ (l:List UInt8):(Int×Int)×Bool:=((hi4 (sixL l).1,lo4 (sixL l).1),(sixL l).2)
theorem yeJ (L:List UInt8) (hd:zbR 16 L=true):valP 16 L<16^L.length:=by
 induction L with
 |nil=>decide
 |cons c L ih=>
  have h2:digC 16 c=true∧zbR 16 L=true:=by simpa [zbR] using hd
  have h3:=of_decide_eq_true h2.1
  have h4:=ih h2.2
  rw [zuL,List.length_cons,Int.pow_succ]
  have hp:(0:Int)≤16^L.length:=Int.pow_nonneg (by decide)
  have hm:valZ (c.toNat:Int)*16^L.length≤15*16^L.length:=Int.mul_le_mul_of_nonneg_right (by omega) hp
  omega
theorem z4U (L:List UInt8) (hd:zbR 16 L=true) (h:L.length≤3):0≤valP 16 L∧valP 16 L≤4095:=by
 refine ⟨zoC 16 (by decide) L hd,?_⟩
 have h1:=yeJ L hd
 rcases (show L.length=0∨L.length=1∨L.length=2∨L.length=3 from by omega) with e|e|e|e<;>rw [e] at h1<;>omega
theorem yaK (L:List UInt8) (hd:zbR 16 L=true) (h:L.length≤4):0≤valP 16 L∧valP 16 L≤65535:=by
 refine ⟨zoC 16 (by decide) L hd,?_⟩
 have h1:=yeJ L hd
 rcases (show L.length=0∨L.length=1∨L.length=2∨L.length=3∨L.length=4 from by omega) with e|e|e|e|e<;>rw [e] at h1<;>omega
theorem yeA (b:Int) (s:ByteArray) (k:Nat) (h:k<s.size):valP b (s.data.toList.take (k+1))=valP b (s.data.toList.take k)*b+valZ (s[k].toNat:Int):=by
 rw [zdH s k h];simp [valP]
theorem zkU (l:List UInt8):0≤(zeJ l).1∧(zeJ l).1≤65535:=by
 unfold zeJ
 split
 ·exact ⟨Int.le_refl _,by show (0:Int)≤_;omega⟩
 ·split
  ·exact yaK l (by assumption) (by omega)
  ·exact ⟨Int.le_refl _,by show (0:Int)≤_;omega⟩
theorem z4C {l:List UInt8} (h:l.length<1∨4<l.length):zeJ l=(0,false):=by unfold zeJ;rw [if_pos h]
theorem ydS {l:List UInt8} (h:zbR 16 l=false):zeJ l=(0,false):=by
 unfold zeJ;split
 ·rfl
 ·rw [h];rfl
theorem z3O {l:List UInt8} (h: ¬(l.length<1∨4<l.length)) (hd:zbR 16 l=true):zeJ l=(valP 16 l,true):=by
 unfold zeJ;rw [if_neg h,hd];rfl
theorem zjH (l:List UInt8):0≤(zbU l).1∧(zbU l).1≤4294967295:=by
 obtain ⟨⟨x,b⟩,hx⟩: ∃x,zbU l=x:=⟨_,rfl⟩
 rw [hx]
 cases b with
 |true=>have h:=zyB l x hx;exact ⟨h.1,h.2.1⟩
 |false=>have h:=zvU l x hx;subst h;exact ⟨Int.le_refl _,by show (0:Int)≤_;omega⟩
theorem yiJ (last:Bool) (acc:List Int):rowP last acc []=(acc,true):=rfl
theorem ycO {last:Bool} {acc:List Int} {p:List UInt8} {r:List (List UInt8)} {x:Int} (h1:last=true) (h2:r=[]) (h3:zbU p=(x,true)):rowP last acc (p::r)=(acc++[x/65536,x % 65536],true):=by
 unfold rowP;rw [if_pos ⟨h1,h2,by rw [h3]⟩,h3]
theorem zsB {last:Bool} {acc:List Int} {p:List UInt8} {r:List (List UInt8)} {x:Int} (h: ¬(last=true∧r=[]∧(zbU p).2=true)) (h3:zeJ p=(x,false)):rowP last acc (p::r)=([],false):=by
 unfold rowP;rw [if_neg h,h3];rfl
theorem zmJ {last:Bool} {acc:List Int} {p:List UInt8} {r:List (List UInt8)} {x:Int} (h: ¬(last=true∧r=[]∧(zbU p).2=true)) (h3:zeJ p=(x,true)):rowP last acc (p::r)=rowP last (acc++[x]) r:=by
 rw [rowP,if_neg h,h3];rfl
def In16 (l:List Int):Prop:= ∀x∈l,0≤x∧x≤65535
theorem In16.nil:In16 []:=fun _ h=>by cases h
theorem In16.append {a b:List Int} (ha:In16 a) (hb:In16 b):In16 (a++b):=fun x hx=>(List.mem_append.1 hx).elim (ha x) (hb x)
theorem In16.zeros (n:Nat):In16 (List.replicate n 0):=fun x hx=>by rw [(List.mem_replicate.1 hx).2];exact ⟨by decide,by decide⟩
theorem In16.getD {l:List Int} (h:In16 l) (k:Nat):0≤l.getD k 0∧l.getD k 0≤65535:=by
 rw [List.getD_eq_getElem?_getD]
 cases e:l[k]? with
 |none=>exact ⟨Int.le_refl _,by show (0:Int)≤_;omega⟩
 |some x=>exact h x (List.mem_of_getElem? e)
theorem ymS (last:Bool) (ps:List (List UInt8)): ∀acc,In16 acc→In16 (rowP last acc ps).1:=by
 induction ps with
 |nil=>intro acc h;exact h
 |cons p r ih=>
  intro acc h
  unfold rowP
  split
  ·have hb:=zjH p
   refine h.append fun x hx=> ?_
   simp only [List.mem_cons,List.not_mem_nil,or_false] at hx
   rcases hx with rfl|rfl<;>omega
  ·split
   ·refine ih _ (h.append fun x hx=> ?_)
    simp only [List.mem_cons,List.not_mem_nil,or_false] at hx
    subst hx
    exact zkU p
   ·exact In16.nil
theorem zlE (l:List UInt8) (last:Bool):In16 (rowZ l last).1:=by
 unfold rowZ
 split
 ·exact In16.nil
 ·exact ymS _ _ _ In16.nil
theorem yfS (last:Bool) (ps:List (List UInt8)): ∀acc,(rowP last acc ps).1.length≤acc.length+ps.length+1:=by
 induction ps with
 |nil=>intro acc;simp [rowP]
 |cons p r ih=>
  intro acc
  unfold rowP
  split
  ·simp only [List.length_append,List.length_cons,List.length_nil];omega
  ·split
   ·have:=ih (acc++[(zeJ p).1])
    simp only [List.length_append,List.length_cons,List.length_nil] at this ⊢
    omega
   ·simp
theorem z7E (l:List UInt8):In16 (sixL l).1:=by
 unfold sixL
 split
 ·split
  ·exact zlE _ _
  ·exact In16.nil
 ·split
  ·exact ((zlE _ _).append (In16.zeros _)).append (zlE _ _)
  ·exact In16.nil
theorem z5F {l:List Int} (h:In16 l):0≤hi4 l∧hi4 l≤18446744073709551615:=by
 have h0:=h.getD 0
 have h1:=h.getD 1
 have h2:=h.getD 2
 have h3:=h.getD 3
 unfold hi4
 omega
theorem z5C {l:List Int} (h:In16 l):0≤lo4 l∧lo4 l≤18446744073709551615:=by
 have h0:=h.getD 4
 have h1:=h.getD 5
 have h2:=h.getD 6
 have h3:=h.getD 7
 unfold lo4
 omega
theorem z0O (l:List UInt8):Lib.index l [58,58]=match ccAt l with|some k=>(k:Int)|none=> -1:=by
 induction l with
 |nil=>rfl
 |cons a r ih=>
  have hp:([58,58]:List UInt8).isPrefixOf (a::r)=decide (a=58∧r.head? =some 58):=by
   rw [Bool.eq_iff_iff,decide_eq_true_iff]
   cases r with
   |nil=>simp [List.isPrefixOf]
   |cons b r=>
    rw [List.isPrefixOf,List.isPrefixOf,List.isPrefixOf,Bool.and_true,Bool.and_eq_true,beq_iff_eq,beq_iff_eq,List.head?_cons,Option.some.injEq]
    exact ⟨fun h=>⟨h.1.symm,h.2.symm⟩,fun h=>⟨h.1.symm,h.2.symm⟩⟩
  unfold Lib.index ccAt
  rw [hp]
  by_cases hc:a=58∧r.head? =some 58
  ·rw [if_pos (by simpa using hc),if_pos hc];rfl
  ·rw [if_neg (by simpa using hc),if_neg hc,ih]
   cases ccAt r with
   |none=>rfl
   |some k=>
    have:((k:Int)== -1)=false:=by rw [beq_eq_false_iff_ne];omega
    simp [this]
theorem yjT {l:List UInt8} (h:ccAt l=none):Lib.cut l [58,58]=(l,[],false):=by
 unfold Lib.cut
 rw [z0O,h]
 rfl
theorem yfU {l:List UInt8} {k:Nat} (h:ccAt l=some k):Lib.cut l [58,58]=(l.take k,l.drop (k+2),true):=by
 unfold Lib.cut
 rw [z0O,h]
 show (if (0:Int)≤(k:Int) then _ else _)=_
 rw [if_pos (by omega)]
 rfl
theorem yhX (x y:Int) (hx0:0≤x) (hx:x≤4095) (hy0:0≤y) (hy:y<16):bits .or .u16 (x*16) y=x*16+y:=
 bits_join .u16 16 (by decide) (fun n h0 h1=>by rw [IntKind.wrap_u16];omega) 4 (x*16) y (by omega) (by omega) (by omega) hy0 (by omega) (by omega)
def zzR (w:World) (x:Int×Bool) (e:Ending) (w':World):Prop:=e= .returned (.tuple #[.int .u16 x.1,.bool x.2])∧Below w.heap.size w w'
theorem zfP {w w':World} {x:Int×Bool} {n:Int} {b:Bool} (h:x=(n,b)) (hb:Below w.heap.size w w'):zzR w x (.returned (.tuple #[.int .u16 n,.bool b])) w':=by
 subst h;exact ⟨rfl,hb⟩
theorem zcA (s:ByteArray) (w:World) (hs:s.size≤1073741824):
  Calls Tryz.prog 225 #[.string s] w (zzR w (zeJ s.data.toList)):=by
 by_cases hn:s.size=0
 ·obtain rfl:=zdP s hn
  clear hn hs
  have HF:Hid (zeJ (ByteArray.mk #[]).data.toList=(0,false)):=rfl
  go_enter Tryz.func225,Tryz.ntmps225
  go_wp2
  go_ret2
  exact zfP HF.out (yoU _ _)
 ·have hse:=zdX s hn
  by_cases h4:4<s.size
  ·have HF:=yoP (z4C (l:=s.data.toList) (.inr (by rw [zaN];exact h4)))
   clear hn
   go_enter Tryz.func225,Tryz.ntmps225
   go_wp2
   go_ret2
   exact zfP HF.out (yoU _ _)
  ·have HNO:=yoP (ydS (l:=s.data.toList))
   have HYES:=yoP (z3O (l:=s.data.toList) (by rw [zaN];omega))
   clear hn
   go_enter Tryz.func225,Tryz.ntmps225
   go_wp2
   go_loopw [4] (fun n wr=> ∃(k:Nat) (A:Int),n= .int .u16 A∧k≤s.size∧wr.heap[w.heap.size]? =some (.stringIter s k)∧Below w.heap.size w wr∧w.heap.size+1≤wr.heap.size∧Hid (A=valP 16 (s.data.toList.take k))∧Hid (zbR 16 (s.data.toList.take k)=true)) (fun _ wr=>s.size - wr.iterPos w.heap.size)
   case atStart=>exact ⟨0,0,rfl,Nat.zero_le _,World.iter_heap w s 0,(yoU _ w).alloc (yoQ _) _,by simp [World.iter],rfl,rfl⟩
   case round=>
    obtain ⟨k,A,rfl,hk,hit,hbw,hsz,HA,HDG⟩:=hrel
    by_cases hp:k<s.size
    ·obtain ⟨c,hc⟩: ∃c,(s[k]'hp).toNat=c:=⟨_,rfl⟩
     have hnx: ∀ty,(Instr.next (.pointer (some ⟨w.heap.size,0,none⟩)) true ty).run Tryz.prog wr=_:=fun ty=>Lib.run_next_any_at wr w.heap.size s k ty hit hp
     have hAb:=z4U _ HDG.out (by rw [List.length_take];omega)
     rw [←HA.out] at hAb
     obtain ⟨hA0,hA1⟩:=hAb
     by_cases hc128:c<128
     ·have hdec:=decode_ascii s k hp (by omega)
      rw [hc] at hdec
      rw [hdec] at hnx
      have hit2:=Lib.iterAt_heap wr w.heap.size s k (k+1) hit
      have hbw2:=Lib.below_iterAt hbw (k:=w.heap.size) (yoQ _) s (k+1)
      have hsz2:w.heap.size+1≤(wr.iterAt w.heap.size s (k+1)).heap.size:=by rw [Lib.iterAt_size];exact hsz
      simp only at hnx
      generalize wr.iterAt w.heap.size s (k+1)=wi at*
      obtain ⟨v,hv⟩: ∃v,valZ (c:Int)=v:=⟨_,rfl⟩
      have hv16:v<16:=by rw [←hv];exact z1G _
      have HV:Hid (valZ (s[k].toNat:Int)=v):=by show valZ (s[k].toNat:Int)=v;rw [hc];exact hv
      have HIT:=yoP hit
      have HC:=yoP hc
      clear hit hc hdec
      by_cases h0:v<0
      ·have HF:=yoP (HNO.out (zeT 16 s k hp (zgN HV.out (.inl h0))))
       go_wp2_with (go_at_call 129;refine (zbW _ _).mono ?_;rintro e w' ⟨rfl,rfl⟩)
       go_ret2
       exact zfP HF.out hbw2
      ·have HF:=yoP (zmC 16 s k hp HDG.out (zxC HV.out (by omega) (by omega)))
       have hsn:=yeA 16 s k hp
       rw [←HA.out,HV.out] at hsn
       have HSN:=yoP hsn
       clear hsn
       have hor:=yhX A v hA0 hA1 (by omega) hv16
       go_wp2_with (go_at_call 129;refine (zbW _ _).mono ?_;rintro e w' ⟨rfl,rfl⟩)
       go_roundw
       case rel=>exact ⟨k+1,_,rfl,by omega,hit2,hbw2,hsz2,HSN.out.symm,HF⟩
       case measure=>
        simp only [World.iterPos,hit2,HIT.out]
        omega
     ·have hh:=decode_high s k hp (by omega)
      obtain ⟨r,hr⟩: ∃r,(Utf8.decode s k).1=r:=⟨_,rfl⟩
      obtain ⟨wd,hwd⟩: ∃r,(Utf8.decode s k).2=r:=⟨_,rfl⟩
      have hrl:=decode_le s k
      rw [hr,hwd] at hnx
      rw [hr,hwd] at hh
      rw [hr] at hrl
      have hbw2:=Lib.below_iterAt hbw (k:=w.heap.size) (yoQ _) s (k+wd)
      generalize wr.iterAt w.heap.size s (k+wd)=wi at*
      have hv:valZ (r:Int)= -1:=zkM _ (by omega)
      have HF:=yoP (HNO.out (zeT 16 s k hp (zgN (zkM _ (by omega)) (.inl (by omega)))))
      clear hc hr hwd
      go_wp2_with (go_at_call 129;refine (zbW _ _).mono ?_;rintro e w' ⟨rfl,rfl⟩)
      go_ret2
      exact zfP HF.out hbw2
    ·have hnx: ∀ty,(Instr.next (.pointer (some ⟨w.heap.size,0,none⟩)) true ty).run Tryz.prog wr=_:=fun ty=>Lib.run_next_end_at wr w.heap.size s k ty hit hp
     have hdt:=HDG.out
     rw [zeV s k hp] at hdt
     have hat:=HA.out
     rw [zeV s k hp] at hat
     have HF:=yoP (HYES.out hdt)
     have HAT:=yoP hat
     clear hdt hat
     go_wp2
     go_ret2
     exact zfP (by rw [HF.out,HAT.out]) hbw
theorem Tryz.infoU16:(Tryz.prog.info? 177).map (fun i=>(i.zero,i.size,i.bytes))=some (some (.int .u16 0),1,2):=by kernel_rfl
theorem ylL (w:World) (u1 u2:Value) (t:TypeId): ∀j x,[u1,u2][j]? =some x→(w.alloc (.cells #[u1,u2] t)).cell? ((⟨w.heap.size,0,none⟩:Addr).add j)=some x:=by
 intro j x hj
 match j,hj with
 |0,hj=>simp at hj;subst hj;simp [Addr.add]
 |1,hj=>simp at hj;subst hj;simp [Addr.add]
theorem z5O {P:Program} (w:World) {ops:Array Oper} {rest:List Oper} {o:Oper} {a:Act} {Q:Exit→Act→World→Prop} (hgd:o.guard=none) (s x:Operand) (t:TypeId)
  (ho:o.op= .call {callee:= .builtin .append,args:= #[s,x],argTypes:= #[t,t]})
  (base:Nat) (e:TypeId) (i:TypeInfo) (z:Value) (bytes:Nat) (ht:P.underlying t=some (.slice e)) (hi:P.info? e=some i) (hz:i.zero=some z)
  (hsize:i.size=1) (hby:i.bytes=bytes) (hzs:z.cells.size=1)
  (v:Value) (n:Nat) (xs:List Value) (hs:a.eval s=v) (hown:w.ownsRow base e 1 v n xs) (u1 u2:Value) (hx:a.eval x= .slice (some ⟨w.heap.size,0,none⟩) 2 2) (hu1:u1.oneCell'=true) (hu2:u2.oneCell'=true)
  (h63:n+2≤maxLen) (hbytes:(n+2)*bytes≤140737488355328) (hbase:base≤w.heap.size)
  (h: ∀v' w',w'.ownsRow base e 1 v' (n+2) (xs++[u1,u2])→Below base w w'→wpList P ops Q rest (a.put o.dst v') w'):wpList P ops Q (o::rest) a (w.alloc (.cells #[u1,u2] e)):=by
 refine wpList_append_own (w.alloc (.cells #[u1,u2] e)) hgd s x t ho base e i z 1 bytes ht hi hz hsize hby hzs (by decide) v n xs hs (hown.alloc _) ⟨w.heap.size,0,none⟩ 2 2 [u1,u2] hx rfl (ylL w u1 u2 e) ?_ h63 hbytes (by simp;omega) ?_
 ·intro y hy;simp at hy;rcases hy with rfl|rfl<;>assumption
 ·intro v' w1 hown' hgrow _
  exact h v' w1 hown' (((yoU base w).alloc hbase _).grown hgrow (by simp;omega) (fun k hk=>(hown.lt k hk).1))
def Nums (t:TypeId) (k:IntKind) (B:Nat) (w:World) (v:Value) (l:List Int):Prop:=w.ownsRow B t 1 v l.length (l.map (Value.int k))
theorem Nums.nil (t:TypeId) (k:IntKind) (B:Nat) (w:World):Nums t k B w (.slice none 0 0) []:=World.ownsRow_nil _ _ _ _
theorem Nums.below {t:TypeId} {k:IntKind} {B:Nat} {w w':World} {v:Value} {l:List Int} (h:Nums t k B w v l) (hb:Below w.heap.size w w'):Nums t k B w' v l:=zdO h hb
theorem Nums.mono {t:TypeId} {k:IntKind} {B B':Nat} {w:World} {v:Value} {l:List Int} (h:Nums t k B w v l) (hb:B'≤B):Nums t k B' w v l:=World.ownsRow.mono h hb
theorem Nums.snoc2 {t:TypeId} {k:IntKind} {B:Nat} {w:World} {v:Value} {l:List Int} {x y:Int} (h:w.ownsRow B t 1 v (l.length+2) (l.map (Value.int k)++[.int k x,.int k y])):Nums t k B w v (l++[x,y]):=by
 unfold Nums;rw [List.length_append,List.map_append];exact h
theorem Nums.row {t:TypeId} {k:IntKind} {B:Nat} {w:World} {v:Value} {l:List Int} (h:Nums t k B w v l):RowR w v (l.map (Value.int k)):=by
 refine RowR.of_own (base:=B) (e:=t) ?_
 rw [List.length_map];exact h
def yeK (t:TypeId) (k:IntKind) (w:World) (x:List Int×Bool) (e:Ending) (w':World):Prop:= ∃v,e= .returned (.tuple #[v,.bool x.2])∧Nums t k w.heap.size w' v x.1∧Below w.heap.size w w'
theorem zdY {t:TypeId} {k:IntKind} {w w':World} {x:List Int×Bool} {v:Value} {l:List Int} {b:Bool} (h:x=(l,b)) (hn:Nums t k w.heap.size w' v l) (hb:Below w.heap.size w w'):yeK t k w x (.returned (.tuple #[v,.bool b])) w':=by
 subst h;exact ⟨v,rfl,hn,hb⟩
theorem ymQ {l:List UInt8} {last:Bool} (h:l≠[]):rowZ l last=rowP last [] ((zdJ l).drop 0):=by unfold rowZ;rw [if_neg h];rfl
theorem z4F (k:Nat) (ps:List (List UInt8)) (h:k<ps.length):ps.drop k=ps.getD k []::ps.drop (k+1):=by
 rw [List.drop_eq_getElem_cons h,List.getD,List.getElem?_eq_getElem h];rfl
theorem zwB (k:Nat) (ps:List (List UInt8)) (h:ps.length≤k):ps.drop k=[]:=List.drop_eq_nil_of_le h
theorem z3X (k:Nat) (ps:List (List UInt8)) (h:k<ps.length):ps.drop k≠[]:=by intro e;have:=congrArg List.length e;simp at this;omega
theorem zjU (s:ByteArray) (last:Bool) (w:World) (hs:s.size≤1073741824):
  Calls Tryz.prog 197 #[.string s,.bool last] w (yeK 177 .u16 w (rowZ s.data.toList last)):=by
 by_cases hn:s.size=0
 ·obtain rfl:=zdP s hn
  clear hn hs
  have HF:Hid (rowZ (ByteArray.mk #[]).data.toList last=([],true)):=rfl
  go_enter Tryz.func197,Tryz.ntmps197
  go_wp2
  go_ret2
  exact zdY HF.out (Nums.nil _ _ _ _) (yoU _ _)
 ·have hse:=zdX s hn
  obtain ⟨i0,hi,hz0,hz1,hz2⟩:=info_parts Tryz.infoU16
  have HZ:=yoP (ymQ (last:=last) (zgX s hn))
  clear hn
  obtain ⟨m,hm⟩: ∃m,(zdJ s.data.toList).length=m:=⟨_,rfl⟩
  have h0:0<(zdJ s.data.toList).length:=zkH _ _
  rw [hm] at h0
  have hmb:m≤1073741825:=by
   have h1:=zdK (hasB [58]) s.data.toList
   rw [zaN] at h1
   have h2:=hm
   unfold zdJ at h2
   omega
  have HM:=yoP hm
  clear hm
  go_enter Tryz.func197,Tryz.ntmps197
  go_wp2_with fail
  refine (zdN s _ _ hs).mono ?_
  rintro e w1 ⟨v,rfl,hp,hb1⟩
  have hp':zbA w.heap.size w1 v (zdJ s.data.toList):=hp
  obtain ⟨g,cap,rfl,hcap,hg,hcell⟩:=hp'.form2 (by rw [HM.out];exact h0)
  rw [HM.out] at hcap hcell ⊢
  have HCELL:=yoP hcell
  clear hp hp' hcell
  have HCAP:=yoP hcap
  go_wp2
  go_loopw [7,20] (fun v i wr=> ∃(k:Nat) (T:List Int),k≤m∧i= .int .i64 k∧wr.ownsRow w1.heap.size 177 1 v k (T.map (Value.int .u16))∧Hid (T.length=k)∧Hid (rowP last T ((zdJ s.data.toList).drop k)=rowZ s.data.toList last)∧Below w1.heap.size w1 wr) (fun _ i _=>m - (intOf i).toNat)
  case atStart=>exact ⟨0,[],by omega,rfl,World.ownsRow_nil _ _ _ _,rfl,HZ.out.symm,yoU _ _⟩
  case round=>
   obtain ⟨k,T,hk,rfl,hown,HTL,HG,hbw⟩:=hrel
   by_cases hkm:k<m
   ·obtain ⟨p,hpk⟩: ∃p,(zdJ s.data.toList).getD k []=p:=⟨_,rfl⟩
    have hcx:=HCELL.out k hkm
    rw [hpk] at hcx
    have hcx2:wr.cell? ⟨g,k,none⟩=some (.string ⟨p.toArray⟩):=(hbw.cell (p:=⟨g,k,none⟩) hg).trans hcx
    have hpl:p.length≤s.size:=by rw [←hpk,←zaN];exact ziU _ _ _
    have hdr:=z4F k (zdJ s.data.toList) (by rw [HM.out];exact hkm)
    rw [hpk] at hdr
    have HDR:=yoP hdr
    have HG1:Hid (rowP last T (p::(zdJ s.data.toList).drop (k+1))=rowZ s.data.toList last):=by
     show rowP last T (p::(zdJ s.data.toList).drop (k+1))=rowZ s.data.toList last
     rw [←HDR.out];exact HG.out
    clear hdr hcx HDR
    have HP:=yoP hpk
    clear hpk
    obtain ⟨x,b,hpz⟩: ∃x b,zeJ p=(x,b):=⟨_,_,rfl⟩
    have hx:0≤x∧x≤65535:=by have h9:=zkU p;rw [hpz] at h9;exact h9
    obtain ⟨hx0,hx1⟩:=hx
    have HPZ:=yoP hpz
    clear hpz
    obtain ⟨y,b4,hsz4⟩: ∃x b,zbU p=(x,b):=⟨_,_,rfl⟩
    have hy:0≤y∧y≤4294967295:=by have h9:=zjH p;rw [hsz4] at h9;exact h9
    obtain ⟨hy0,hy1⟩:=hy
    have HS4:=yoP hsz4
    clear hsz4
    by_cases hlast:k+1=m
    ·have hq1:((k:Int)==(m:Int) - 1)=true:=by rw [beq_iff_eq];omega
     have HLAST:=yoP (zwB (k+1) (zdJ s.data.toList) (by rw [HM.out];omega))
     have hlo:m - 1≤k:=by omega
     clear hlast
     cases last with
     |true=>
      cases b4 with
      |true=>
       have HF:=yoP (HG1.out.symm.trans (ycO rfl HLAST.out HS4.out))
       go_wp2_with fail
       refine (zlK ⟨p.toArray⟩ _ (by rw [zaB];omega)).mono ?_
       rw [zaL,HS4.out]
       rintro e w2 ⟨rfl,hb2⟩
       have hc2:Below w1.heap.size w1 w2:=hbw.trans (hb2.mono hbw.size)
       have hown2:=zdO hown hb2
       have hsz2:=hc2.size
       clear hb2 hown
       go_wp2_with (at_builtin;refine z5O _ rfl _ _ 183 rfl w1.heap.size 177 i0 (.int .u16 0) 2 Tryz.underlying183 hi hz0 hz1 hz2 rfl _ _ _ rfl hown2 (.int .u16 (y/65536)) (.int .u16 (y % 65536)) rfl rfl rfl (by unfold maxLen;omega) (by omega) hsz2 ?_;intro v' w3 hown' hk')
       go_ret2
       exact zdY HF.out ((Nums.snoc2 (by rw [HTL.out];exact hown')).mono hb1.size) (hb1.trans ((hc2.trans hk').mono hb1.size))
      |false=>
       have HNOT:Hid (¬(true=true∧(zdJ s.data.toList).drop (k+1)=[]∧(zbU p).2=true)):=by
        show ¬_
        rintro ⟨h1,h2,h3⟩
        first|exact HNE.out h2|exact absurd h1 (by decide)|(rw [HS4.out] at h3;exact absurd (show false=true from h3) (by decide))
       cases b with
       |true=>
        have hgo:=HG1.out
        rw [zmJ HNOT.out HPZ.out] at hgo
        have HG2:=yoP hgo
        clear hgo
        go_wp2_with fail
        refine (zlK ⟨p.toArray⟩ _ (by rw [zaB];omega)).mono ?_
        rw [zaL,HS4.out]
        rintro e w2 ⟨rfl,hb2⟩
        have hc2:Below w1.heap.size w1 w2:=hbw.trans (hb2.mono hbw.size)
        have hown2:=zdO hown hb2
        clear hb2 hown
        go_wp2_with fail
        refine (zcA ⟨p.toArray⟩ _ (by rw [zaB];omega)).mono ?_
        rw [zaL,HPZ.out]
        rintro e w3 ⟨rfl,hb3⟩
        have hc3:Below w1.heap.size w1 w3:=hc2.trans (hb3.mono hc2.size)
        have hown3:=zdO hown2 hb3
        have hsz3:=hc3.size
        clear hb3 hown2
        go_wp2_with (at_builtin;refine zeC _ rfl _ _ 183 rfl w1.heap.size 177 i0 (.int .u16 0) 2 Tryz.underlying183 hi hz0 hz1 hz2 rfl _ _ _ rfl hown3 (.int .u16 x) rfl rfl (by omega) (by omega) hsz3 ?_;intro v' w4 hown' hk')
        go_roundw
        case rel=>exact ⟨k+1,T++[x],by omega,by go_num,(by rw [List.map_append];exact hown'),(by show (T++[x]).length=k+1;rw [List.length_append,HTL.out];rfl),HG2,hc3.trans hk'⟩
        case measure=>simp [intOf];omega
       |false=>
        have HF:=yoP (HG1.out.symm.trans (zsB HNOT.out HPZ.out))
        go_wp2_with fail
        refine (zlK ⟨p.toArray⟩ _ (by rw [zaB];omega)).mono ?_
        rw [zaL,HS4.out]
        rintro e w2 ⟨rfl,hb2⟩
        have hc2:Below w1.heap.size w1 w2:=hbw.trans (hb2.mono hbw.size)
        have hown2:=zdO hown hb2
        clear hb2 hown
        go_wp2_with fail
        refine (zcA ⟨p.toArray⟩ _ (by rw [zaB];omega)).mono ?_
        rw [zaL,HPZ.out]
        rintro e w3 ⟨rfl,hb3⟩
        have hc3:Below w1.heap.size w1 w3:=hc2.trans (hb3.mono hc2.size)
        clear hb3
        go_wp2
        go_ret2
        exact zdY HF.out (Nums.nil _ _ _ _) (hb1.trans (hc3.mono hb1.size))
     |false=>
      have HNOT:Hid (¬(false=true∧(zdJ s.data.toList).drop (k+1)=[]∧(zbU p).2=true)):=by
       show ¬_
       rintro ⟨h1,h2,h3⟩
       first|exact HNE.out h2|exact absurd h1 (by decide)|(rw [HS4.out] at h3;exact absurd (show false=true from h3) (by decide))
      cases b with
      |true=>
       have hgo:=HG1.out
       rw [zmJ HNOT.out HPZ.out] at hgo
       have HG2:=yoP hgo
       clear hgo
       go_wp2_with fail
       refine (zcA ⟨p.toArray⟩ _ (by rw [zaB];omega)).mono ?_
       rw [zaL,HPZ.out]
       rintro e w3 ⟨rfl,hb3⟩
       have hc3:Below w1.heap.size w1 w3:=hbw.trans (hb3.mono hbw.size)
       have hown3:=zdO hown hb3
       have hsz3:=hc3.size
       clear hb3 hown
       go_wp2_with (at_builtin;refine zeC _ rfl _ _ 183 rfl w1.heap.size 177 i0 (.int .u16 0) 2 Tryz.underlying183 hi hz0 hz1 hz2 rfl _ _ _ rfl hown3 (.int .u16 x) rfl rfl (by omega) (by omega) hsz3 ?_;intro v' w4 hown' hk')
       go_roundw
       case rel=>exact ⟨k+1,T++[x],by omega,by go_num,(by rw [List.map_append];exact hown'),(by show (T++[x]).length=k+1;rw [List.length_append,HTL.out];rfl),HG2,hc3.trans hk'⟩
       case measure=>simp [intOf];omega
      |false=>
       have HF:=yoP (HG1.out.symm.trans (zsB HNOT.out HPZ.out))
       go_wp2_with fail
       refine (zcA ⟨p.toArray⟩ _ (by rw [zaB];omega)).mono ?_
       rw [zaL,HPZ.out]
       rintro e w3 ⟨rfl,hb3⟩
       have hc3:Below w1.heap.size w1 w3:=hbw.trans (hb3.mono hbw.size)
       clear hb3
       go_wp2
       go_ret2
       exact zdY HF.out (Nums.nil _ _ _ _) (hb1.trans (hc3.mono hb1.size))
    ·have hq1:((k:Int)==(m:Int) - 1)=false:=by rw [beq_eq_false_iff_ne];omega
     have HNE:=yoP (z3X (k+1) (zdJ s.data.toList) (by rw [HM.out];omega))
     clear hlast
     cases last with
     |true=>
      have HNOT:Hid (¬(true=true∧(zdJ s.data.toList).drop (k+1)=[]∧(zbU p).2=true)):=by
       show ¬_
       rintro ⟨h1,h2,h3⟩
       first|exact HNE.out h2|exact absurd h1 (by decide)|(rw [HS4.out] at h3;exact absurd (show false=true from h3) (by decide))
      cases b with
      |true=>
       have hgo:=HG1.out
       rw [zmJ HNOT.out HPZ.out] at hgo
       have HG2:=yoP hgo
       clear hgo
       go_wp2_with fail
       refine (zcA ⟨p.toArray⟩ _ (by rw [zaB];omega)).mono ?_
       rw [zaL,HPZ.out]
       rintro e w3 ⟨rfl,hb3⟩
       have hc3:Below w1.heap.size w1 w3:=hbw.trans (hb3.mono hbw.size)
       have hown3:=zdO hown hb3
       have hsz3:=hc3.size
       clear hb3 hown
       go_wp2_with (at_builtin;refine zeC _ rfl _ _ 183 rfl w1.heap.size 177 i0 (.int .u16 0) 2 Tryz.underlying183 hi hz0 hz1 hz2 rfl _ _ _ rfl hown3 (.int .u16 x) rfl rfl (by omega) (by omega) hsz3 ?_;intro v' w4 hown' hk')
       go_roundw
       case rel=>exact ⟨k+1,T++[x],by omega,by go_num,(by rw [List.map_append];exact hown'),(by show (T++[x]).length=k+1;rw [List.length_append,HTL.out];rfl),HG2,hc3.trans hk'⟩
       case measure=>simp [intOf];omega
      |false=>
       have HF:=yoP (HG1.out.symm.trans (zsB HNOT.out HPZ.out))
       go_wp2_with fail
       refine (zcA ⟨p.toArray⟩ _ (by rw [zaB];omega)).mono ?_
       rw [zaL,HPZ.out]
       rintro e w3 ⟨rfl,hb3⟩
       have hc3:Below w1.heap.size w1 w3:=hbw.trans (hb3.mono hbw.size)
       clear hb3
       go_wp2
       go_ret2
       exact zdY HF.out (Nums.nil _ _ _ _) (hb1.trans (hc3.mono hb1.size))
     |false=>
      have HNOT:Hid (¬(false=true∧(zdJ s.data.toList).drop (k+1)=[]∧(zbU p).2=true)):=by
       show ¬_
       rintro ⟨h1,h2,h3⟩
       first|exact HNE.out h2|exact absurd h1 (by decide)|(rw [HS4.out] at h3;exact absurd (show false=true from h3) (by decide))
      cases b with
      |true=>
       have hgo:=HG1.out
       rw [zmJ HNOT.out HPZ.out] at hgo
       have HG2:=yoP hgo
       clear hgo
       go_wp2_with fail
       refine (zcA ⟨p.toArray⟩ _ (by rw [zaB];omega)).mono ?_
       rw [zaL,HPZ.out]
       rintro e w3 ⟨rfl,hb3⟩
       have hc3:Below w1.heap.size w1 w3:=hbw.trans (hb3.mono hbw.size)
       have hown3:=zdO hown hb3
       have hsz3:=hc3.size
       clear hb3 hown
       go_wp2_with (at_builtin;refine zeC _ rfl _ _ 183 rfl w1.heap.size 177 i0 (.int .u16 0) 2 Tryz.underlying183 hi hz0 hz1 hz2 rfl _ _ _ rfl hown3 (.int .u16 x) rfl rfl (by omega) (by omega) hsz3 ?_;intro v' w4 hown' hk')
       go_roundw
       case rel=>exact ⟨k+1,T++[x],by omega,by go_num,(by rw [List.map_append];exact hown'),(by show (T++[x]).length=k+1;rw [List.length_append,HTL.out];rfl),HG2,hc3.trans hk'⟩
       case measure=>simp [intOf];omega
      |false=>
       have HF:=yoP (HG1.out.symm.trans (zsB HNOT.out HPZ.out))
       go_wp2_with fail
       refine (zcA ⟨p.toArray⟩ _ (by rw [zaB];omega)).mono ?_
       rw [zaL,HPZ.out]
       rintro e w3 ⟨rfl,hb3⟩
       have hc3:Below w1.heap.size w1 w3:=hbw.trans (hb3.mono hbw.size)
       clear hb3
       go_wp2
       go_ret2
       exact zdY HF.out (Nums.nil _ _ _ _) (hb1.trans (hc3.mono hb1.size))
   ·obtain rfl:k=m:=by omega
    have hfin:=HG.out
    rw [zwB k _ (by rw [HM.out];omega),yiJ] at hfin
    have HF:=yoP hfin.symm
    clear hfin
    go_wp2
    go_ret2
    exact zdY HF.out (Nums.mono (show Nums _ _ _ _ _ _ from by unfold Nums;rw [HTL.out];exact hown) hb1.size) (hb1.trans (hbw.mono hb1.size))
theorem z4W (w:World) (cs:Array Value) (t:TypeId) (j:Nat):(w.alloc (.cells cs t)).frozen? ⟨w.heap.size,j,none⟩=false:=by
 have h:=heap_alloc_new w (.cells cs t)
 simp only [World.frozen?,h]
 simp
def hiP (o:Nat) (l:List Int):Nat→Int
 |0=>0
 |k+1=>hiP o l k*65536+l.getD (o+k) 0
theorem hiP_hi (l:List Int):hiP 0 l 4=hi4 l:=by simp [hiP,hi4]
theorem hiP_lo (l:List Int):hiP 4 l 4=lo4 l:=by simp [hiP,lo4]
theorem zqG {l:List Int} (h:In16 l) (o k:Nat) (hk:k≤3):0≤hiP o l k∧hiP o l k≤281474976710655:=by
 have h0:=h.getD o
 have h1:=h.getD (o+1)
 have h2:=h.getD (o+2)
 rcases (show k=0∨k=1∨k=2∨k=3 from by omega) with rfl|rfl|rfl|rfl<;>simp only [hiP,Nat.add_zero]<;>omega
theorem zpI (x y:Int) (hx0:0≤x) (hx:x≤281474976710655) (hy0:0≤y) (hy:y≤65535):bits .or .u64 (x*65536) y=x*65536+y:=
 bits_join .u64 64 (by decide) (fun n h0 h1=>by rw [IntKind.wrap_u64];omega) 16 (x*65536) y (by omega) (by omega) (by omega) hy0 (by omega) (by omega)
abbrev z0P:List Value:=[.int .u16 0,.int .u16 0,.int .u16 0,.int .u16 0,.int .u16 0,.int .u16 0,.int .u16 0,.int .u16 0]
theorem ylY (l:List Int) (j:Nat) (hj:j<8):(splice z0P 0 ((l.map (Value.int .u16)).take 8))[j]? =some (.int .u16 (l.getD j 0)):=by
 unfold splice
 simp only [List.take_zero,List.nil_append,Nat.zero_add,List.length_take,List.length_map]
 by_cases h:j<l.length
 ·rw [List.getElem?_append_left (by simp;omega),List.getElem?_take,if_pos hj,List.getElem?_map,List.getElem?_eq_getElem h,List.getD,List.getElem?_eq_getElem h]
  rfl
 ·rw [List.getElem?_append_right (by simp;omega),List.getElem?_drop,List.getD,List.getElem?_eq_none (by omega:l.length≤j)]
  simp only [List.length_take,List.length_map]
  rw [show min 8 l.length+(j - min 8 l.length)=j from by omega]
  rcases (show j=0∨j=1∨j=2∨j=3∨j=4∨j=5∨j=6∨j=7 from by omega) with rfl|rfl|rfl|rfl|rfl|rfl|rfl|rfl<;>rfl
theorem ztG (v:Value) (l:List Int) (w:World) (hr:RowR w v (l.map (Value.int .u16))) (hin:In16 l) (hlen:l.length≤1073741824):
  Calls Tryz.prog 198 #[v] w fun e w'=>e= .returned (.agg #[.int .u64 (hi4 l),.int .u64 (lo4 l)])∧Below w.heap.size w w':=by
 obtain ⟨ao,c,rfl,hcs⟩:=hr
 rw [List.length_map]
 have HCS:=yoP hcs
 have HIN:=yoP hin
 clear hcs hin
 have hU:(Tryz.prog.info? 177).map (·.size)=some 1:=by
  obtain ⟨i0,hi,hz0,hz1,hz2⟩:=info_parts Tryz.infoU16
  rw [hi];simp [hz1]
 have hW0s:(w.alloc (.cells #[.int .u64 0,.int .u64 0] 144)).heap.size=w.heap.size+1:=by simp
 have hW0s:(w.alloc (.cells #[.int .u64 0,.int .u64 0] 144)).heap.size=w.heap.size+1:=by simp
 have hb0:Below (w.heap.size+1) (w.alloc (.cells #[.int .u64 0,.int .u64 0] 144)) ((w.alloc (.cells #[.int .u64 0,.int .u64 0] 144)).alloc (.cells #[.int .u16 0,.int .u16 0,.int .u16 0,.int .u16 0,.int .u16 0,.int .u16 0,.int .u16 0,.int .u16 0] 178)):=(yoU _ _).alloc (by rw [hW0s];exact yoQ _) _
 have HPOS:Hid (0<((l.map (Value.int .u16)).take 8).length→(some (⟨w.heap.size+1,0,none⟩:Addr))=some ⟨w.heap.size+1,0,none⟩∧ ∃ad,ao=some ad∧ ∀j v,((l.map (Value.int .u16)).take 8)[j]? =some v→((w.alloc (.cells #[.int .u64 0,.int .u64 0] 144)).alloc (.cells #[.int .u16 0,.int .u16 0,.int .u16 0,.int .u16 0,.int .u16 0,.int .u16 0,.int .u16 0,.int .u16 0] 178)).cell? (ad.add j)=some v):=fun hp=>by
  have hl:0<l.length:=by simp at hp;omega
  obtain ⟨ad,ha,_⟩:=HCS.out 0 (.int .u16 l[0]) (by simp [hl])
  refine ⟨rfl,ad,ha,fun j v hj=> ?_⟩
  rw [List.getElem?_take] at hj
  split at hj
  ·obtain ⟨ad2,ha2,hc2⟩:=HCS.out j v hj
   rw [ha] at ha2
   cases ha2
   exact ((((yoU _ w).alloc (yoQ _) _).alloc (by simp) _).cell (World.block_lt_of_cell? w _ hc2)).trans hc2
  ·cases hj
 have hfit:0+((l.map (Value.int .u16)).take 8).length≤z0P.length:=by simp [z0P];omega
 have hone: ∀v∈(l.map (Value.int .u16)).take 8,v.oneCell'=true:=by
  intro v hv
  obtain ⟨x,_,rfl⟩:=List.mem_map.1 (List.mem_of_mem_take hv)
  rfl
 have hcl:((l.map (Value.int .u16)).take 8).length=Nat.min l.length 8:=by
  rw [List.length_take,List.length_map];exact Nat.min_comm _ _
 have HONE:=yoP hone
 have HCL:=yoP hcl
 clear hone hcl hW0s
 go_enter Tryz.func198,Tryz.ntmps198
 go_wp2_with (refine wpList_copy_splice (o:=⟨some 8,_,_,_,_,_⟩) rfl (.tmp 6) (.tmp 7) 183 183 rfl 177 Tryz.underlying183 hU (some ⟨w.heap.size+1,0,none⟩) ao 8 8 l.length c rfl rfl (w.heap.size+1) 0 z0P 178 (by rw [show w.heap.size+1=(w.alloc (.cells #[.int .u64 0,.int .u64 0] 144)).heap.size from by simp];exact heap_alloc_new _ _) ((l.map (Value.int .u16)).take 8) HCL.out HPOS.out hfit HONE.out (w.heap.size+1) _ hb0 (by omega) ?_;intro w1 HB hb1)
 have hsz1:w.heap.size+1<w1.heap.size:=(Array.getElem?_eq_some_iff.1 HB.out).1
 have HARR:Hid (∀j,j<8→w1.cell? ⟨w.heap.size+1,j,none⟩=some (.int .u16 (l.getD j 0))):=fun j hj=>by
  rw [cell_of_row w1 _ j _ _ _ HB.out]
  have:=ylY l j hj
  simpa using this
 have hres: ∀j u,(#[Value.int .u64 0,Value.int .u64 0]:Array Value)[j]? =some u→w1.cell? ⟨w.heap.size,j,none⟩=some u:=fun j u hj=>by
  rw [hb1.cell (p:=⟨w.heap.size,j,none⟩) (by show w.heap.size<w.heap.size+1;omega),cell_of_row _ _ j _ _ _ (heap_alloc_new w _)]
  exact hj
 have hresf: ∀j,w1.frozen? ⟨w.heap.size,j,none⟩=false:=fun j=>by
  rw [hb1.frozen (p:=⟨w.heap.size,j,none⟩) (by show w.heap.size<w.heap.size+1;omega)]
  exact z4W w _ _ j
 have HRES:=yoP (And.intro (hres 0 _ rfl) (And.intro (hres 1 _ rfl) (And.intro (hresf 0) (hresf 1))))
 have hbw1:Below w.heap.size w w1:=((yoU _ w).alloc (yoQ _) _).trans (hb1.mono (by omega))
 clear hres hresf hb1 hb0 hfit HPOS HONE HCL HCS hU
 have HB2:=yoP (heap_alloc_new w1 (.cells #[.int .u64 0,.int .u64 0] 144))
 have hbA:Below w1.heap.size w1 (w1.alloc (.cells #[.int .u64 0,.int .u64 0] 144)):=(yoU _ w1).alloc (yoQ _) _
 go_loopw [9] (fun i wr=> ∃k:Nat,k≤4∧i= .int .i64 k∧Hid (wr.heap[w1.heap.size]? =some (.cells #[.int .u64 (hiP 0 l k),.int .u64 (hiP 4 l k)] 144 (0,0)))∧Below w1.heap.size w1 wr) (fun i _=>4 - (intOf i).toNat)
 case atStart=>exact ⟨0,by omega,rfl,HB2,hbA⟩
 case round=>
  obtain ⟨k,hk,rfl,HA,hbw⟩:=hrel
  by_cases hk4:k<4
  ·have hHb:=zqG HIN.out 0 k (by omega)
   have hLb:=zqG HIN.out 4 k (by omega)
   have hxb:=HIN.out.getD (0+k)
   have hyb:=HIN.out.getD (4+k)
   have hcx:wr.cell? ⟨w.heap.size+1,0+k,none⟩=some (.int .u16 (l.getD (0+k) 0)):=(hbw.cell (p:=⟨w.heap.size+1,0+k,none⟩) hsz1).trans (HARR.out (0+k) (by omega))
   have hcy:wr.cell? ⟨w.heap.size+1,4+k,none⟩=some (.int .u16 (l.getD (4+k) 0)):=(hbw.cell (p:=⟨w.heap.size+1,4+k,none⟩) hsz1).trans (HARR.out (4+k) (by omega))
   have HHS:Hid (hiP 0 l (k+1)=hiP 0 l k*65536+l.getD (0+k) 0):=rfl
   have HLS:Hid (hiP 4 l (k+1)=hiP 4 l k*65536+l.getD (4+k) 0):=rfl
   generalize hiP 0 l k=H at*
   generalize hiP 4 l k=L at*
   generalize l.getD (0+k) 0=x at*
   generalize l.getD (4+k) 0=y at*
   obtain ⟨hH0,hH1⟩:=hHb
   obtain ⟨hL0,hL1⟩:=hLb
   obtain ⟨hx0,hx1⟩:=hxb
   obtain ⟨hy0,hy1⟩:=hyb
   have hor1:=zpI H x hH0 hH1 hx0 hx1
   have hor2:=zpI L y hL0 hL1 hy0 hy1
   have hc0:wr.cell? ⟨w1.heap.size,0,none⟩=some (.int .u64 H):=by rw [cell_of_row wr _ 0 _ _ _ HA.out];rfl
   have hc1:wr.cell? ⟨w1.heap.size,1,none⟩=some (.int .u64 L):=by rw [cell_of_row wr _ 1 _ _ _ HA.out];rfl
   have hf0:wr.frozen? ⟨w1.heap.size,0,none⟩=false:=by simp [World.frozen?,HA.out]
   have hf1:wr.frozen? ⟨w1.heap.size,1,none⟩=false:=by simp [World.frozen?,HA.out]
   have hne:w.heap.size+1≠w1.heap.size:=by omega
   have HA2:Hid (((wr.setCell ⟨w1.heap.size,0,none⟩ (.int .u64 (H*65536+x))).setCell ⟨w1.heap.size,1,none⟩ (.int .u64 (L*65536+y))).heap[w1.heap.size]? =some (.cells #[.int .u64 (H*65536+x),.int .u64 (L*65536+y)] 144 (0,0))):=by
    show _=_
    simp [World.setCell,Array.getElem?_modify,HA.out]
   have hbw2:Below w1.heap.size w1 ((wr.setCell ⟨w1.heap.size,0,none⟩ (.int .u64 (H*65536+x))).setCell ⟨w1.heap.size,1,none⟩ (.int .u64 (L*65536+y))):=(hbw.setCell (yoQ _) _).setCell (yoQ _) _
   rcases (show k=0∨k=1∨k=2∨k=3 from by omega) with rfl|rfl|rfl|rfl
   ·rw [show 0+0=0 from rfl] at hcx
    rw [show 4+0=4 from rfl] at hcy
    rw [show ((0:Nat):Int)=0 from rfl]
    go_wp2
    go_region
    go_wp2
    go_region
    go_wp2
    go_roundw
    case rel=>exact ⟨1,by omega,(by first|rfl|go_num),(by show _=_;rw [HHS.out,HLS.out];exact HA2.out),(hbw2.drew).drew⟩
    case measure=>first|(simp [intOf];done)|(simp [intOf];omega)
   ·rw [show 0+1=1 from rfl] at hcx
    rw [show 4+1=5 from rfl] at hcy
    rw [show ((1:Nat):Int)=1 from rfl]
    go_wp2
    go_region
    go_wp2
    go_region
    go_wp2
    go_roundw
    case rel=>exact ⟨2,by omega,(by first|rfl|go_num),(by show _=_;rw [HHS.out,HLS.out];exact HA2.out),(hbw2.drew).drew⟩
    case measure=>first|(simp [intOf];done)|(simp [intOf];omega)
   ·rw [show 0+2=2 from rfl] at hcx
    rw [show 4+2=6 from rfl] at hcy
    rw [show ((2:Nat):Int)=2 from rfl]
    go_wp2
    go_region
    go_wp2
    go_region
    go_wp2
    go_roundw
    case rel=>exact ⟨3,by omega,(by first|rfl|go_num),(by show _=_;rw [HHS.out,HLS.out];exact HA2.out),(hbw2.drew).drew⟩
    case measure=>first|(simp [intOf];done)|(simp [intOf];omega)
   ·rw [show 0+3=3 from rfl] at hcx
    rw [show 4+3=7 from rfl] at hcy
    rw [show ((3:Nat):Int)=3 from rfl]
    go_wp2
    go_region
    go_wp2
    go_region
    go_wp2
    go_roundw
    case rel=>exact ⟨4,by omega,(by first|rfl|go_num),(by show _=_;rw [HHS.out,HLS.out];exact HA2.out),(hbw2.drew).drew⟩
    case measure=>first|(simp [intOf];done)|(simp [intOf];omega)
  ·obtain rfl:k=4:=by omega
   rw [show ((4:Nat):Int)=4 from rfl]
   have ha:=HA.out
   rw [hiP_hi,hiP_lo] at ha
   have HA3:=yoP ha
   clear ha
   have hc0:wr.cell? ⟨w1.heap.size,0,none⟩=some (.int .u64 (hi4 l)):=by rw [cell_of_row wr _ 0 _ _ _ HA3.out];rfl
   have hc1:wr.cell? ⟨w1.heap.size,1,none⟩=some (.int .u64 (lo4 l)):=by rw [cell_of_row wr _ 1 _ _ _ HA3.out];rfl
   have hr0:wr.cell? ⟨w.heap.size,0,none⟩=some (.int .u64 0):=(hbw.cell (p:=⟨w.heap.size,0,none⟩) (by show w.heap.size<_;omega)).trans HRES.out.1
   have hr1:wr.cell? ⟨w.heap.size,1,none⟩=some (.int .u64 0):=(hbw.cell (p:=⟨w.heap.size,1,none⟩) (by show w.heap.size<_;omega)).trans HRES.out.2.1
   have hf0:wr.frozen? ⟨w.heap.size,0,none⟩=false:=(hbw.frozen (p:=⟨w.heap.size,0,none⟩) (by show w.heap.size<_;omega)).trans HRES.out.2.2.1
   have hf1:wr.frozen? ⟨w.heap.size,1,none⟩=false:=(hbw.frozen (p:=⟨w.heap.size,1,none⟩) (by show w.heap.size<_;omega)).trans HRES.out.2.2.2
   have hfin:Below w.heap.size w ((wr.setCell ⟨w.heap.size,0,none⟩ (.int .u64 (hi4 l))).setCell ⟨w.heap.size,1,none⟩ (.int .u64 (lo4 l))):=((hbw1.trans (hbw.mono (by omega))).setCell (yoQ _) _).setCell (yoQ _) _
   go_wp2
   exact bodyPost_ret (v:= .agg #[.int .u64 (hi4 l),.int .u64 (lo4 l)]) (by simp [results,Tryz.results198,go_sem,hr0,hr1]) rfl ⟨rfl,hfin⟩
theorem zeP (k:IntKind) (n:Nat):Builtin.zeroCells (Value.int k 0).cells n=(List.replicate n (Value.int k 0)).toArray:=by
 unfold Builtin.zeroCells
 have e:(Value.int k 0).cells= #[.int k 0]:=rfl
 rw [e]
 apply Array.ext'
 simp only [Array.toList_map]
 apply List.ext_getElem
 ·simp
 ·intro i h1 h2
  simp [Nat.mod_one]
theorem ztI (w:World) (base:Nat) (e:TypeId) (kd:IntKind) (n k cap0:Nat) (xs:List Value) (hxs:xs.length=n) (h63:n+k≤maxLen) (hbase:base≤w.heap.size):
  (w.drew.alloc (.cells (xs.toArray++Builtin.zeroCells (Value.int kd 0).cells k++Builtin.zeroCells (Value.int kd 0).cells (grownCap w (n+k) cap0 e - (n+k))) e)).ownsRow base e 1
   (.slice (some ⟨w.heap.size,0,none⟩) (n+k) (grownCap w (n+k) cap0 e)) (n+k) (xs++List.replicate k (.int kd 0)):=by
 have hge:=grownCap_ge w (n+k) cap0 e
 have hcm:=grownCap_le_maxLen w (n+k) cap0 e h63
 refine ⟨by rw [List.length_append,List.length_replicate,hxs,Nat.mul_one],.inr ⟨w.heap.size,_,_,rfl,hbase,heap_alloc_new w.drew _,hge,hcm,?_,?_⟩⟩
 ·simp only [Array.size_append,List.size_toArray,zeP,List.length_replicate,hxs];omega
 ·rw [zeP,zeP]
  simp only [Array.toList_append,Nat.mul_one]
  rw [show n+k=(xs++List.replicate k (Value.int kd 0)).length from by rw [List.length_append,List.length_replicate,hxs]]
  exact List.take_left
theorem zjC {P:Program} (w:World) (base:Nat) (t tn ty e:TypeId) (i:TypeInfo) (kd kn kq:IntKind) (bytes:Nat) (ht:P.underlying t=some (.slice e)) (htn:P.underlying tn=some (.int kn)) (hi:P.info? e=some i)
  (hz:i.zero=some (.int kd 0)) (hsize:i.size=1) (hby:i.bytes=bytes) (v:Value) (n:Nat) (xs:List Value) (hown:w.ownsRow base e 1 v n xs) (k:Nat) (h0:0<k)
  (h63:n+k≤maxLen) (hbytes:(n+k)*bytes≤140737488355328) (hbase:base≤w.heap.size):
  ∃v' w',(Builtin.append_ #[t,tn] ty #[v,.int kq k]).run P w= .ok v' w'∧w'.ownsRow base e 1 v' (n+k) (xs++List.replicate k (.int kd 0))∧Below base w w'∧w.grownBy w' v.ownBlock:=by
 subst hby
 have hsmall:n+k≤9223372036854775807:=by simp only [maxLen] at h63;omega
 have hxs:xs.length=n:=by have:=hown.1;omega
 have hkb:k*i.bytes≤281474976710656:=by
  have:k*i.bytes≤(n+k)*i.bytes:=Nat.mul_le_mul_right _ (by omega)
  omega
 rcases hown.2 with ⟨rfl,rfl⟩|⟨g,cap,cur,rfl,hbg,hg,hnc,hcm,hcs,htake⟩
 ·have hx:xs=[]:=List.eq_nil_of_length_eq_zero hxs
  subst hx
  have hr:=Lib.run_append_nil_zeros (P:=P) w t tn ty e i (.int kd 0) kq kn ht htn hi hz k h0 (by omega) (by omega) hkb
  have ho:=ztI w base e kd 0 k 0 [] rfl h63 hbase
  simp only [Nat.zero_add,Array.empty_append] at ho ⊢
  exact ⟨_,_,hr,ho,(yoU _ _).drew.alloc hbase _,⟨rfl,rfl,rfl,by simp,fun j hj _=>Below.heap_alloc w.drew _ j hj⟩⟩
 ·by_cases hroom:n+k≤cap
  ·have hfit:n+(List.replicate k (Value.int kd 0)).length≤cur.size:=by rw [List.length_replicate,hcs];omega
   have hst:=run_storeCells_at P g (n*1) e (List.replicate k (Value.int kd 0)) 0 cur w hg (by simpa using hfit) (fun u hu=>by rw [(List.mem_replicate.1 hu).2];rfl)
   simp only [Nat.add_zero] at hst
   have hw:IntKind.i64.wrap (k:Int)=k:=by rw [IntKind.wrap_i64];omega
   have h48i: ¬(281474976710656<(k:Int)*(i.bytes:Int)):=by
    rw [←Int.natCast_mul]
    omega
   have hneg: ¬((k:Int)<0):=by omega
   have hns: ¬(k=0):=by omega
   have hrun:(Builtin.append_ #[t,tn] ty #[.slice (some ⟨g,0,none⟩) n cap,.int kq k]).run P w= .ok (.slice (some ⟨g,0,none⟩) (n+k) cap) (w.setRow g (cur.toList.take (n*1)++List.replicate k (Value.int kd 0)++cur.toList.drop (n*1+(List.replicate k (Value.int kd 0)).length)).toArray):=by
    simp only [Nat.mul_one] at hst ⊢
    simp [Builtin.append_,run_underlying ht,run_underlying htn,sizeOf,typeInfo,zeroValue,hi,hz,hsize,asInt,asIntOf,hw,hneg,hns,h48i,hroom,Addr.add_lit,zeP]
    simpa using congrArg (fun r=>Result.andThen r fun _ w'=>Result.ok (Value.slice (some ⟨g,0,none⟩) (n+k) cap) w') hst
   refine ⟨_,_,hrun,⟨by rw [List.length_append,List.length_replicate,hxs,Nat.mul_one],.inr ⟨g,cap,_,rfl,hbg,setRow_heap w g cur _ e _ hg,hroom,hcm,?_,?_⟩⟩,below_setRow (yoU _ _) hbg _,⟨rfl,rfl,rfl,by simp,fun j _ hj=>setRow_other w g j _ (fun e=>hj (by simp [Value.ownBlock,e]))⟩⟩
   ·simp only [List.size_toArray,List.length_append,List.length_take,List.length_drop,Array.length_toList,List.length_replicate]
    omega
   ·simp only [Nat.mul_one] at htake ⊢
    rw [htake,show n+k=(xs++List.replicate k (Value.int kd 0)).length from by rw [List.length_append,List.length_replicate,hxs]]
    exact List.take_left
  ·have holds: ∀j u,xs[j]? =some u→w.cell? ((⟨g,0,none⟩:Addr).add j)=some u:=hown.cells (g:=g) rfl
   have hold:(Builtin.firstCells i.size n (.slice (some ⟨g,0,none⟩) n cap)).run P w.drew= .ok xs.toArray w.drew:=run_firstCells_some w.drew i.size n ⟨g,0,none⟩ n cap xs (by rw [hsize];omega) (by simpa using holds)
   have hr:=Lib.run_append_grow_zeros (P:=P) w t tn ty e i (.int kd 0) kq kn ht htn hi hz (some ⟨g,0,none⟩) n cap xs hold k h0 (by omega) (by omega) (by omega) hkb (growslice_fits (by omega) hbytes)
   exact ⟨_,_,hr,ztI w base e kd n k cap xs hxs h63 hbase,(yoU _ _).drew.alloc hbase _,⟨rfl,rfl,rfl,by simp,fun j hj _=>Below.heap_alloc w.drew _ j hj⟩⟩
theorem zoQ {P:Program} (w:World) {ops:Array Oper} {rest:List Oper} {o:Oper} {a:Act} {Q:Exit→Act→World→Prop} (hgd:o.guard=none) (s x:Operand) (t tn:TypeId)
  (ho:o.op= .call {callee:= .builtin .append,args:= #[s,x],argTypes:= #[t,tn]})
  (base:Nat) (e:TypeId) (i:TypeInfo) (kd kn kq:IntKind) (bytes:Nat) (ht:P.underlying t=some (.slice e)) (htn:P.underlying tn=some (.int kn)) (hi:P.info? e=some i) (hz:i.zero=some (.int kd 0)) (hsize:i.size=1) (hby:i.bytes=bytes)
  (v:Value) (n:Nat) (xs:List Value) (hs:a.eval s=v) (hown:w.ownsRow base e 1 v n xs) (k:Nat) (hx:a.eval x= .int kq k) (h0:0<k)
  (h63:n+k≤maxLen) (hbytes:(n+k)*bytes≤140737488355328) (hbase:base≤w.heap.size)
  (h: ∀v' w',w'.ownsRow base e 1 v' (n+k) (xs++List.replicate k (.int kd 0))→Below base w w'→w.grownBy w' v.ownBlock→wpList P ops Q rest (a.put o.dst v') w'):wpList P ops Q (o::rest) a w:=by
 obtain ⟨v',w',hr,h2,h3,h4⟩:=zjC (P:=P) w base t tn o.type e i kd kn kq bytes ht htn hi hz hsize hby v n xs hown k h0 h63 hbytes hbase
 exact Lib.wpList_append_run w hgd s x t tn ho _ _ hs hx v' w' hr (h v' w' h2 h3 h4)
theorem zsZ {P:Program} (w:World) {ops:Array Oper} {rest:List Oper} {o:Oper} {a:Act} {Q:Exit→Act→World→Prop} (hgd:o.guard=none) (s x:Operand) (t:TypeId)
  (ho:o.op= .call {callee:= .builtin .append,args:= #[s,x],argTypes:= #[t,t]})
  (base:Nat) (e:TypeId) (i:TypeInfo) (z:Value) (bytes:Nat) (ht:P.underlying t=some (.slice e)) (hi:P.info? e=some i) (hz:i.zero=some z)
  (hsize:i.size=1) (hby:i.bytes=bytes) (hzs:z.cells.size=1)
  (v:Value) (n:Nat) (xs:List Value) (hs:a.eval s=v) (hown:w.ownsRow base e 1 v n xs) (vx:Value) (ys:List Value) (hx:a.eval x=vx) (hrow:RowR w vx ys) (h1: ∀u∈ys,u.oneCell'=true)
  (hn0:0<n) (h63:n+ys.length≤maxLen) (hbytes:(n+ys.length)*bytes≤140737488355328) (hbase:base≤w.heap.size)
  (h: ∀v' w',w'.ownsRow base e 1 v' (n+ys.length) (xs++ys)→Below base w w'→wpList P ops Q rest (a.put o.dst v') w'):wpList P ops Q (o::rest) a w:=by
 obtain ⟨ao,c,rfl,hc⟩:=hrow
 cases ys with
 |nil=>
  rcases hown.2 with ⟨_,h0⟩|⟨g,cap,cur,rfl,hbg,hg,hnc,hcm,hcs,htake⟩
  ·omega
  ·have hrun:(Builtin.append_ #[t,t] o.type #[.slice (some ⟨g,0,none⟩) n cap,.slice ao ([]:List Value).length c]).run P w= .ok (.slice (some ⟨g,0,none⟩) n cap) w:=by
    cases ao with
    |none=>simp [Builtin.append_,run_underlying ht,sizeOf,typeInfo,hi,Builtin.lenOf,Builtin.firstCells,hnc,Addr.add_lit,storeCells]
    |some ad=>simp [Builtin.append_,run_underlying ht,sizeOf,typeInfo,hi,Builtin.lenOf,Builtin.firstCells,loadCells,loadCellsFrom,hnc,Addr.add_lit,storeCells]
   refine Lib.wpList_append_run w hgd s x t t ho _ _ hs hx _ _ hrun (h _ _ ?_ (yoU _ _))
   simpa using hown
 |cons y ys=>
  obtain ⟨ad,rfl,_⟩:=hc 0 y rfl
  refine wpList_append_own w hgd s x t ho base e i z 1 bytes ht hi hz hsize hby hzs (by decide) v n xs hs hown ad (y::ys).length c (y::ys) hx (by rw [Nat.mul_one]) (fun j u hj=> ?_) h1 h63 hbytes hbase ?_
  ·obtain ⟨ad2,ha,hx⟩:=hc j u hj
   cases ha
   exact hx
  ·intro v' w1 hown' hgrow _
   exact h v' w1 hown' ((yoU base w).grown hgrow hbase (fun k hk=>(hown.lt k hk).1))
def MaxVar (w:World):Prop:= ∃m,w.cell? ⟨2,0,none⟩=some (.int .i64 m)
theorem zaA {w w':World} (h:MaxVar w) (hb:Below w.heap.size w w'):MaxVar w':=by
 obtain ⟨m,hm⟩:=h
 exact ⟨m,(hb.cell (World.block_lt_of_cell? w _ hm)).trans hm⟩
def zwN (w:World) (x:(Int×Int)×Bool) (e:Ending) (w':World):Prop:=e= .returned (.tuple #[.agg #[.int .u64 x.1.1,.int .u64 x.1.2],.bool x.2])∧Below w.heap.size w w'
theorem ziH {w w':World} {l:List UInt8} (h:sixL l=([],false)) (hb:Below w.heap.size w w'):zwN w (sixZ l) (.returned (.tuple #[.agg #[.int .u64 0,.int .u64 0],.bool false])) w':=by
 unfold sixZ;rw [h];exact ⟨rfl,hb⟩
theorem zqW {w w':World} {l:List UInt8} {T:List Int} (h:sixL l=(T,true)) (hb:Below w.heap.size w w'):zwN w (sixZ l) (.returned (.tuple #[.agg #[.int .u64 (hi4 T),.int .u64 (lo4 T)],.bool true])) w':=by
 unfold sixZ;rw [h];exact ⟨rfl,hb⟩
theorem ycV {l:List UInt8} {T:List Int} {b:Bool} (h:ccAt l=none) (hr:rowZ l true=(T,b)):sixL l=if b=true∧T.length=8 then (T,true) else ([],false):=by
 unfold sixL;rw [h];simp only [hr]
theorem z7Q {l:List UInt8} {k:Nat} {T U:List Int} {b c:Bool} (h:ccAt l=some k) (hr:rowZ (l.take k) false=(T,b)) (hs:rowZ (l.drop (k+2)) true=(U,c)):
  sixL l=if b=true∧c=true∧T.length+U.length≤7 then (T++List.replicate (8 - (T.length+U.length)) 0++U,true) else ([],false):=by
 unfold sixL;rw [h];simp only [hr,hs]
theorem zsX (l:List UInt8) (last:Bool):(rowZ l last).1.length≤l.length+3:=by
 unfold rowZ
 split
 ·simp
 ·have h1:=yfS last (zdJ l) []
  have h2:=zdK (hasB [58]) l
  unfold zdJ at*
  simp at h1
  omega
theorem zxL (s:ByteArray) (w:World) (hs:s.size≤1073741824) (hmax:MaxVar w) (hcc:ccAt s.data.toList=none):
  Calls Tryz.prog 151 #[.string s] w (zwN w (sixZ s.data.toList)):=by
 obtain ⟨m,hm⟩:=hmax
 have hgl:=World.block_lt_of_cell? w _ hm
 have HM:=yoP hm
 clear hm
 obtain ⟨T,b,hT⟩: ∃T b,rowZ s.data.toList true=(T,b):=⟨_,_,rfl⟩
 have HCUT:=yoP (yjT hcc)
 have HSL:=yoP (ycV hcc hT)
 have hTl:T.length≤1073741827:=by have:=zsX s.data.toList true;rw [hT,zaN] at this;simp at this;omega
 have HIN:Hid (In16 T):=by show In16 T;have:=zlE s.data.toList true;rw [hT] at this;exact this
 have HT:=yoP hT
 clear hcc hT
 have HM2:Hid ((w.alloc (.cells #[.int .u64 0,.int .u64 0] 144)).cell? ⟨2,0,none⟩=some (.int .i64 m)):=(((yoU _ w).alloc (yoQ _) _).cell hgl).trans HM.out
 go_enter Tryz.func151,Tryz.ntmps151
 go_wp2_with fail
 refine (Tryz.strings_Cut s ⟨#[58,58]⟩ m _ (by omega) HM2.out).mono ?_
 rw [show (ByteArray.mk #[58,58]).data.toList=[58,58] from rfl,HCUT.out]
 rintro e w1 ⟨rfl,n,rfl⟩
 have hb1:Below w.heap.size w ((w.alloc (.cells #[.int .u64 0,.int .u64 0] 144)).drewN n):=zcG ((yoU _ w).alloc (yoQ _) _) n
 have hr0:((w.alloc (.cells #[.int .u64 0,.int .u64 0] 144)).drewN n).heap[w.heap.size]? =some (.cells #[.int .u64 0,.int .u64 0] 144 (0,0)):=heap_alloc_new w _
 have hsz1:w.heap.size<((w.alloc (.cells #[.int .u64 0,.int .u64 0] 144)).drewN n).heap.size:=(Array.getElem?_eq_some_iff.1 hr0).1
 generalize (w.alloc (.cells #[.int .u64 0,.int .u64 0] 144)).drewN n=x1 at*
 have HR0:=yoP hr0
 clear hr0
 go_wp2_with fail
 refine (zjU s true _ hs).mono ?_
 rw [HT.out]
 rintro e x2 ⟨v,rfl,hnum,hb2⟩
 have hrow:=hnum.row
 have HROW:=yoP hrow
 obtain ⟨ao,c,rfl,hcs⟩:=hrow
 rw [List.length_map] at HROW ⊢
 clear hcs hnum
 have hc2:Below w.heap.size w x2:=hb1.trans (hb2.mono hb1.size)
 have hsz2:w.heap.size<x2.heap.size:=yoR hsz1 hb2.size
 have HR2:Hid (x2.heap[w.heap.size]? =some (.cells #[.int .u64 0,.int .u64 0] 144 (0,0))):=(hb2.block w.heap.size hsz1).trans HR0.out
 have hk0:x2.cell? ⟨w.heap.size,0,none⟩=some (.int .u64 0):=by rw [cell_of_row x2 _ 0 _ _ _ HR2.out];rfl
 have hk1:x2.cell? ⟨w.heap.size,1,none⟩=some (.int .u64 0):=by rw [cell_of_row x2 _ 1 _ _ _ HR2.out];rfl
 have hf0:x2.frozen? ⟨w.heap.size,0,none⟩=false:=by simp [World.frozen?,HR2.out]
 have hf1:x2.frozen? ⟨w.heap.size,1,none⟩=false:=by simp [World.frozen?,HR2.out]
 clear hb2 hb1
 cases b with
 |false=>
  have HF:=yoP (HSL.out.trans (if_neg (fun h=>by cases h.1)))
  have hfin:Below w.heap.size w ((x2.setCell ⟨w.heap.size,0,none⟩ (.int .u64 0)).setCell ⟨w.heap.size,1,none⟩ (.int .u64 0)):=(hc2.setCell (yoQ _) _).setCell (yoQ _) _
  go_wp2
  exact bodyPost_ret (v:= .tuple #[.agg #[.int .u64 0,.int .u64 0],.bool false]) (by simp [results,Tryz.results151,go_sem,hk0,hk1]) rfl (ziH HF.out hfin)
 |true=>
  by_cases h8:T.length=8
  ·have HF:=yoP (HSL.out.trans (if_pos ⟨rfl,h8⟩))
   rw [h8]
   have hb8:((8:Int) !=8)=false:=by decide
   have HR8:Hid (RowR x2 (.slice ao 8 c) (T.map (Value.int .u16))):=by
    show RowR _ _ _
    have:=HROW.out;rw [h8] at this;exact this
   go_wp2_with fail
   refine (ztG (.slice ao 8 c) T _ HR8.out HIN.out (by omega)).mono ?_
   rintro e x3 ⟨rfl,hb3⟩
   have hc3:Below w.heap.size w x3:=hc2.trans (hb3.mono hc2.size)
   have hk0':x3.cell? ⟨w.heap.size,0,none⟩=some (.int .u64 0):=(hb3.cell (p:=⟨w.heap.size,0,none⟩) hsz2).trans hk0
   have hk1':x3.cell? ⟨w.heap.size,1,none⟩=some (.int .u64 0):=(hb3.cell (p:=⟨w.heap.size,1,none⟩) hsz2).trans hk1
   have hf0':x3.frozen? ⟨w.heap.size,0,none⟩=false:=(hb3.frozen (p:=⟨w.heap.size,0,none⟩) hsz2).trans hf0
   have hf1':x3.frozen? ⟨w.heap.size,1,none⟩=false:=(hb3.frozen (p:=⟨w.heap.size,1,none⟩) hsz2).trans hf1
   clear hk0 hk1 hf0 hf1 hb3
   have hfin:Below w.heap.size w ((x3.setCell ⟨w.heap.size,0,none⟩ (.int .u64 (hi4 T))).setCell ⟨w.heap.size,1,none⟩ (.int .u64 (lo4 T))):=(hc3.setCell (yoQ _) _).setCell (yoQ _) _
   go_wp2
   exact bodyPost_ret (v:= .tuple #[.agg #[.int .u64 (hi4 T),.int .u64 (lo4 T)],.bool true]) (by simp [results,Tryz.results151,go_sem,hk0',hk1']) rfl (zqW HF.out hfin)
  ·have HF:=yoP (HSL.out.trans (if_neg (fun h=>h8 h.2)))
   have hb8:((T.length:Int) !=8)=true:=by rw [bne_iff_ne];omega
   have hfin:Below w.heap.size w ((x2.setCell ⟨w.heap.size,0,none⟩ (.int .u64 0)).setCell ⟨w.heap.size,1,none⟩ (.int .u64 0)):=(hc2.setCell (yoQ _) _).setCell (yoQ _) _
   go_wp2
   exact bodyPost_ret (v:= .tuple #[.agg #[.int .u64 0,.int .u64 0],.bool false]) (by simp [results,Tryz.results151,go_sem,hk0,hk1]) rfl (ziH HF.out hfin)
theorem zxF (s:ByteArray) (k:Nat) (w:World) (hs:s.size≤1073741824) (hmax:MaxVar w) (hcc:ccAt s.data.toList=some k):
  Calls Tryz.prog 151 #[.string s] w (zwN w (sixZ s.data.toList)):=by
 obtain ⟨m,hm⟩:=hmax
 have hgl:=World.block_lt_of_cell? w _ hm
 have HM:=yoP hm
 clear hm
 obtain ⟨i0,hi,hz0,hz1,hz2⟩:=info_parts Tryz.infoU16
 obtain ⟨p,hp⟩: ∃p,s.data.toList.take k=p:=⟨_,rfl⟩
 obtain ⟨q,hq⟩: ∃q,s.data.toList.drop (k+2)=q:=⟨_,rfl⟩
 have hpl:p.length≤1073741824:=by have:=List.length_take_le k s.data.toList;have h2:=List.length_take_le' k s.data.toList;rw [hp,zaN] at h2;omega
 have hql:q.length≤1073741824:=by rw [←hq,List.length_drop,zaN];omega
 obtain ⟨T,b,hT⟩: ∃T b,rowZ p false=(T,b):=⟨_,_,rfl⟩
 obtain ⟨U,d,hU⟩: ∃T b,rowZ q true=(T,b):=⟨_,_,rfl⟩
 have hcut:=yfU hcc
 rw [hp,hq] at hcut
 have HCUT:=yoP hcut
 have HSL:=yoP (z7Q (T:=T) (U:=U) (b:=b) (c:=d) hcc (by rw [hp,hT]) (by rw [hq,hU]))
 have hTl:T.length≤1073741827:=by have:=zsX p false;rw [hT] at this;simp at this;omega
 have hUl:U.length≤1073741827:=by have:=zsX q true;rw [hU] at this;simp at this;omega
 have HIN:Hid (In16 T):=by show In16 T;have:=zlE p false;rw [hT] at this;exact this
 have HIN2:Hid (In16 U):=by show In16 U;have:=zlE q true;rw [hU] at this;exact this
 have HT:=yoP hT
 have HU:=yoP hU
 clear hcc hT hU hcut hp hq
 have HM2:Hid ((w.alloc (.cells #[.int .u64 0,.int .u64 0] 144)).cell? ⟨2,0,none⟩=some (.int .i64 m)):=(((yoU _ w).alloc (yoQ _) _).cell hgl).trans HM.out
 go_enter Tryz.func151,Tryz.ntmps151
 go_wp2_with fail
 refine (Tryz.strings_Cut s ⟨#[58,58]⟩ m _ (by omega) HM2.out).mono ?_
 rw [show (ByteArray.mk #[58,58]).data.toList=[58,58] from rfl,HCUT.out]
 rintro e w1 ⟨rfl,n,rfl⟩
 have hb1:Below w.heap.size w ((w.alloc (.cells #[.int .u64 0,.int .u64 0] 144)).drewN n):=zcG ((yoU _ w).alloc (yoQ _) _) n
 have hr0:((w.alloc (.cells #[.int .u64 0,.int .u64 0] 144)).drewN n).heap[w.heap.size]? =some (.cells #[.int .u64 0,.int .u64 0] 144 (0,0)):=heap_alloc_new w _
 have hsz1:w.heap.size<((w.alloc (.cells #[.int .u64 0,.int .u64 0] 144)).drewN n).heap.size:=(Array.getElem?_eq_some_iff.1 hr0).1
 generalize (w.alloc (.cells #[.int .u64 0,.int .u64 0] 144)).drewN n=x1 at*
 have HR0:=yoP hr0
 clear hr0
 go_wp2_with fail
 refine (zjU ⟨p.toArray⟩ false _ (by rw [zaB];exact hpl)).mono ?_
 rw [zaL,HT.out]
 rintro e x2 ⟨v,rfl,hnum,hb2⟩
 have HNUM:=yoP hnum
 clear hnum
 go_wp2_with fail
 refine (zjU ⟨q.toArray⟩ true _ (by rw [zaB];exact hql)).mono ?_
 rw [zaL,HU.out]
 rintro e x3 ⟨v2,rfl,hnum2,hb3⟩
 have HOWN2:=yoP (show x3.ownsRow x2.heap.size 177 1 v2 U.length (U.map (Value.int .u16)) from hnum2)
 have HOWN:=yoP (show x3.ownsRow x1.heap.size 177 1 v T.length (T.map (Value.int .u16)) from HNUM.out.below hb3)
 have HLT:=yoP (World.ownsRow.lt (show x2.ownsRow x1.heap.size 177 1 v T.length (T.map (Value.int .u16)) from HNUM.out))
 obtain ⟨ao,c,hv,_⟩:=HNUM.out.row
 obtain ⟨ao2,c2,hv2,_⟩:=hnum2.row
 rw [List.length_map] at hv hv2
 subst hv hv2
 clear hnum2
 have hd2:Below x1.heap.size x1 x3:=hb2.trans (hb3.mono hb2.size)
 have hs3:x1.heap.size≤x3.heap.size:=hd2.size
 have hc2:Below w.heap.size w x3:=hb1.trans (hd2.mono hb1.size)
 have HR2:Hid (x3.heap[w.heap.size]? =some (.cells #[.int .u64 0,.int .u64 0] 144 (0,0))):=(hd2.block w.heap.size hsz1).trans HR0.out
 have HK:Hid (x3.cell? ⟨w.heap.size,0,none⟩=some (.int .u64 0)∧x3.cell? ⟨w.heap.size,1,none⟩=some (.int .u64 0)∧x3.frozen? ⟨w.heap.size,0,none⟩=false∧x3.frozen? ⟨w.heap.size,1,none⟩=false):=
  ⟨by rw [cell_of_row x3 _ 0 _ _ _ HR2.out];rfl,by rw [cell_of_row x3 _ 1 _ _ _ HR2.out];rfl,by simp [World.frozen?,HR2.out],by simp [World.frozen?,HR2.out]⟩
 have hb23:=hb2.size
 clear hb1 hb2 hb3 hd2
 by_cases hok:b=true∧d=true∧T.length+U.length≤7
 ·have HF:=yoP (HSL.out.trans (if_pos hok))
  obtain ⟨rfl,rfl,h7⟩:=hok
  obtain ⟨z,hz⟩: ∃z,8 - (T.length+U.length)=z:=⟨_,rfl⟩
  have hzn:0<z:=by omega
  have hze:(8:Int) - (T.length:Int) - (U.length:Int)=(z:Int):=by omega
  have hz1':decide ((z:Int)<1)=false:=yoS (by omega)
  rw [hz] at HF
  have hz7:T.length+z≤8:=by omega
  clear hz
  have HE8:Hid (T.length+z+U.length=8):=by show _=_;omega
  have hne:(Value.slice ao2 U.length c2).ownBlock=none∨(Value.slice ao2 U.length c2).ownBlock≠(Value.slice ao T.length c).ownBlock:=by
   cases h:(Value.slice ao2 U.length c2).ownBlock with
   |none=>exact .inl rfl
   |some j=>
    refine .inr fun e=> ?_
    have h1:=(World.ownsRow.lt HOWN2.out j h).1
    have h2:=(HLT.out j e.symm).2
    omega
  have HNE:=yoP hne
  clear hne
  go_wp2_with (first
   |(at_builtin;refine zoQ _ rfl _ _ 183 3 rfl x1.heap.size 177 i0 .u16 .i64 .i64 2 Tryz.underlying183 Tryz.underlying3 hi hz0 hz1 hz2 _ _ _ rfl HOWN.out z rfl hzn (by unfold maxLen;omega) (by omega) hs3 ?_;intro v' x4 hown4 hb4 hg4)
   |(at_builtin;refine zsZ _ rfl _ _ 183 rfl x1.heap.size 177 i0 (.int .u16 0) 2 Tryz.underlying183 hi hz0 hz1 hz2 rfl _ _ _ rfl hown4 _ (U.map (Value.int .u16)) rfl (Nums.row (show Nums 177 .u16 x2.heap.size x4 (.slice ao2 U.length c2) U from World.ownsRow.kept HOWN2.out hg4 HNE.out)) (fun u hu=>by obtain ⟨y,_,rfl⟩:=List.mem_map.1 hu;rfl) (by omega) (by rw [List.length_map];unfold maxLen;omega) (by rw [List.length_map];omega) (Nat.le_trans hs3 hb4.size) ?_;intro v5 x5 hown5 hb5)
   |fail)
  have hs4:x1.heap.size≤x4.heap.size:=Nat.le_trans hs3 hb4.size
  have hall:Nums 177 .u16 x1.heap.size x5 v5 (T++List.replicate z 0++U):=by
   unfold Nums
   rw [List.length_map] at hown5
   rw [Nat.add_assoc] at hown5
   simpa [List.map_append,List.map_replicate,List.length_append,List.length_replicate] using hown5
  have HALL:=yoP hall.row
  have HIN3:=yoP ((HIN.out.append (In16.zeros z)).append HIN2.out)
  have hl8:(T++List.replicate z 0++U).length≤1073741824:=by
   simp only [List.length_append,List.length_replicate];omega
  have hd5:Below x1.heap.size x3 x5:=hb4.trans hb5
  have hc5:Below w.heap.size w x5:=hc2.trans (hd5.mono (by omega))
  have hsz5:w.heap.size<x5.heap.size:=yoR hsz1 (Nat.le_trans hs4 hb5.size)
  clear hall hown5 hown4
  generalize T++List.replicate z 0++U=Y at*
  refine (ztG _ Y _ HALL.out HIN3.out hl8).mono ?_
  rintro e x6 ⟨rfl,hb6⟩
  have hc6:Below w.heap.size w x6:=hc5.trans (hb6.mono hc5.size)
  have hk0':x6.cell? ⟨w.heap.size,0,none⟩=some (.int .u64 0):=(hb6.cell (p:=⟨w.heap.size,0,none⟩) hsz5).trans ((hd5.cell (p:=⟨w.heap.size,0,none⟩) hsz1).trans HK.out.1)
  have hk1':x6.cell? ⟨w.heap.size,1,none⟩=some (.int .u64 0):=(hb6.cell (p:=⟨w.heap.size,1,none⟩) hsz5).trans ((hd5.cell (p:=⟨w.heap.size,1,none⟩) hsz1).trans HK.out.2.1)
  have hf0':x6.frozen? ⟨w.heap.size,0,none⟩=false:=(hb6.frozen (p:=⟨w.heap.size,0,none⟩) hsz5).trans ((hd5.frozen (p:=⟨w.heap.size,0,none⟩) hsz1).trans HK.out.2.2.1)
  have hf1':x6.frozen? ⟨w.heap.size,1,none⟩=false:=(hb6.frozen (p:=⟨w.heap.size,1,none⟩) hsz5).trans ((hd5.frozen (p:=⟨w.heap.size,1,none⟩) hsz1).trans HK.out.2.2.2)
  clear hb6 hb4 hb5
  have hfin:Below w.heap.size w ((x6.setCell ⟨w.heap.size,0,none⟩ (.int .u64 (hi4 Y))).setCell ⟨w.heap.size,1,none⟩ (.int .u64 (lo4 Y))):=(hc6.setCell (yoQ _) _).setCell (yoQ _) _
  go_wp2
  exact bodyPost_ret (v:= .tuple #[.agg #[.int .u64 (hi4 Y),.int .u64 (lo4 Y)],.bool true]) (by simp [results,Tryz.results151,go_sem,hk0',hk1']) rfl (zqW HF.out hfin)
 ·have HF:=yoP (HSL.out.trans (if_neg hok))
  obtain ⟨hk0,hk1,hf0,hf1⟩:=HK.out
  have hfin:Below w.heap.size w ((x3.setCell ⟨w.heap.size,0,none⟩ (.int .u64 0)).setCell ⟨w.heap.size,1,none⟩ (.int .u64 0)):=(hc2.setCell (yoQ _) _).setCell (yoQ _) _
  cases b with
  |false=>
   clear hok
   go_wp2
   exact bodyPost_ret (v:= .tuple #[.agg #[.int .u64 0,.int .u64 0],.bool false]) (by simp [results,Tryz.results151,go_sem,hk0,hk1]) rfl (ziH HF.out hfin)
  |true=>
   cases d with
   |false=>
    clear hok
    go_wp2
    exact bodyPost_ret (v:= .tuple #[.agg #[.int .u64 0,.int .u64 0],.bool false]) (by simp [results,Tryz.results151,go_sem,hk0,hk1]) rfl (ziH HF.out hfin)
   |true=>
    have h7:7<T.length+U.length:=by
     rcases Nat.lt_or_ge 7 (T.length+U.length) with h|h
     ·exact h
     ·exact absurd ⟨rfl,rfl,h⟩ hok
    have hz1':decide ((8:Int) - (T.length:Int) - (U.length:Int)<1)=true:=yoT (by omega)
    clear hok
    go_wp2
    exact bodyPost_ret (v:= .tuple #[.agg #[.int .u64 0,.int .u64 0],.bool false]) (by simp [results,Tryz.results151,go_sem,hk0,hk1]) rfl (ziH HF.out hfin)
theorem zqA (s:ByteArray) (w:World) (hs:s.size≤1073741824) (hmax:MaxVar w):
  Calls Tryz.prog 151 #[.string s] w (zwN w (sixZ s.data.toList)):=by
 cases h:ccAt s.data.toList with
 |none=>exact zxL s w hs hmax h
 |some k=>exact zxF s k w hs hmax h
def pcs (hi lo:Int):List Int:=[hi/281474976710656,hi/4294967296 % 65536,hi/65536 % 65536,hi % 65536,lo/281474976710656,lo/4294967296 % 65536,lo/65536 % 65536,lo % 65536]
theorem ykD {hi lo:Int} (h0:0≤hi) (h1:hi≤18446744073709551615) (l0:0≤lo) (l1:lo≤18446744073709551615):In16 (pcs hi lo):=by
 intro x hx
 simp only [pcs,List.mem_cons,List.not_mem_nil,or_false] at hx
 rcases hx with rfl|rfl|rfl|rfl|rfl|rfl|rfl|rfl<;>omega
theorem zgD (x:Int):IntKind.u16.wrap x=x % 65536:=by rw [IntKind.wrap_u16]
theorem zbB {w:World} {g:Nat} {t:TypeId} {cs:Array Value} (h:w.heap[g]? =some (.cells cs t (0,0))) (j:Nat):w.frozen? ⟨g,j,none⟩=false:=by
 simp [World.frozen?,h]
def arrV (a0 a1 a2 a3 a4 a5 a6 a7:Int):Nat→Array Value
 |0=> #[.int .u16 0,.int .u16 0,.int .u16 0,.int .u16 0,.int .u16 0,.int .u16 0,.int .u16 0,.int .u16 0]
 |1=> #[.int .u16 a0,.int .u16 0,.int .u16 0,.int .u16 0,.int .u16 a4,.int .u16 0,.int .u16 0,.int .u16 0]
 |2=> #[.int .u16 a0,.int .u16 a1,.int .u16 0,.int .u16 0,.int .u16 a4,.int .u16 a5,.int .u16 0,.int .u16 0]
 |3=> #[.int .u16 a0,.int .u16 a1,.int .u16 a2,.int .u16 0,.int .u16 a4,.int .u16 a5,.int .u16 a6,.int .u16 0]
 |_=> #[.int .u16 a0,.int .u16 a1,.int .u16 a2,.int .u16 a3,.int .u16 a4,.int .u16 a5,.int .u16 a6,.int .u16 a7]
theorem zyD (hi lo:Int) (w:World) (h0:0≤hi) (h1:hi≤18446744073709551615) (l0:0≤lo) (l1:lo≤18446744073709551615):
  Calls Tryz.prog 188 #[.agg #[.int .u64 hi,.int .u64 lo]] w fun e w'=>e= .returned (.agg #[.int .u16 (hi/281474976710656),.int .u16 (hi/4294967296 % 65536),.int .u16 (hi/65536 % 65536),.int .u16 (hi % 65536),.int .u16 (lo/281474976710656),.int .u16 (lo/4294967296 % 65536),.int .u16 (lo/65536 % 65536),.int .u16 (lo % 65536)])∧Below w.heap.size w w':=by
 obtain ⟨a0,ha0⟩: ∃a,hi/281474976710656=a:=⟨_,rfl⟩
 have e0:IntKind.u16.wrap (hi/281474976710656)=a0:=by rw [zgD];omega
 obtain ⟨a1,ha1⟩: ∃a,hi/4294967296 % 65536=a:=⟨_,rfl⟩
 have e1:IntKind.u16.wrap (hi/4294967296)=a1:=by rw [zgD];omega
 obtain ⟨a2,ha2⟩: ∃a,hi/65536 % 65536=a:=⟨_,rfl⟩
 have e2:IntKind.u16.wrap (hi/65536)=a2:=by rw [zgD];omega
 obtain ⟨a3,ha3⟩: ∃a,hi % 65536=a:=⟨_,rfl⟩
 have e3:IntKind.u16.wrap (hi/1)=a3:=by rw [zgD];omega
 obtain ⟨a4,ha4⟩: ∃a,lo/281474976710656=a:=⟨_,rfl⟩
 have e4:IntKind.u16.wrap (lo/281474976710656)=a4:=by rw [zgD];omega
 obtain ⟨a5,ha5⟩: ∃a,lo/4294967296 % 65536=a:=⟨_,rfl⟩
 have e5:IntKind.u16.wrap (lo/4294967296)=a5:=by rw [zgD];omega
 obtain ⟨a6,ha6⟩: ∃a,lo/65536 % 65536=a:=⟨_,rfl⟩
 have e6:IntKind.u16.wrap (lo/65536)=a6:=by rw [zgD];omega
 obtain ⟨a7,ha7⟩: ∃a,lo % 65536=a:=⟨_,rfl⟩
 have e7:IntKind.u16.wrap (lo/1)=a7:=by rw [zgD];omega
 rw [ha0,ha1,ha2,ha3,ha4,ha5,ha6,ha7]
 have E:=yoP (And.intro e0 (And.intro e1 (And.intro e2 (And.intro e3 (And.intro e4 (And.intro e5 (And.intro e6 e7)))))))
 clear ha0 ha1 ha2 ha3 ha4 ha5 ha6 ha7 e0 e1 e2 e3 e4 e5 e6 e7
 obtain ⟨x0,hx0⟩: ∃x,w.alloc (.cells #[.int .u64 hi,.int .u64 lo] 144)=x:=⟨_,rfl⟩
 have HX0:=yoP hx0
 have hs0:x0.heap.size=w.heap.size+1:=by rw [←hx0];simp
 have hb0:Below w.heap.size w x0:=by rw [←hx0];exact (yoU _ w).alloc (yoQ _) _
 have hB0:x0.heap[w.heap.size]? =some (.cells #[.int .u64 hi,.int .u64 lo] 144 (0,0)):=by rw [←hx0];exact heap_alloc_new w _
 obtain ⟨x1,hx1⟩: ∃x,x0.alloc (.cells #[.int .u16 0,.int .u16 0,.int .u16 0,.int .u16 0,.int .u16 0,.int .u16 0,.int .u16 0,.int .u16 0] 178)=x:=⟨_,rfl⟩
 have hs1:x1.heap.size=w.heap.size+2:=by rw [←hx1];simp [hs0]
 have hb1:Below x0.heap.size x0 x1:=by rw [←hx1];exact (yoU _ x0).alloc (yoQ _) _
 have hB1:x1.heap[w.heap.size+1]? =some (.cells #[.int .u16 0,.int .u16 0,.int .u16 0,.int .u16 0,.int .u16 0,.int .u16 0,.int .u16 0,.int .u16 0] 178 (0,0)):=by rw [←hx1,←hs0];exact heap_alloc_new x0 _
 have HX1:=yoP hx1
 have hC0:x1.heap[w.heap.size]? =some (.cells #[.int .u64 hi,.int .u64 lo] 144 (0,0)):=(hb1.block w.heap.size (by omega)).trans hB0
 have hbw1:Below w.heap.size w x1:=hb0.trans (hb1.mono (by omega))
 have HB:=yoP (And.intro hC0 hB1)
 have HS:=yoP hs1
 have HS0:=yoP hs0
 have HA0:Hid ((x1.alloc (.cells #[.int .u16 0,.int .u16 0,.int .u16 0,.int .u16 0,.int .u16 0,.int .u16 0,.int .u16 0,.int .u16 0] 178)).heap[x1.heap.size]? =some (.cells (arrV a0 a1 a2 a3 a4 a5 a6 a7 0) 178 (0,0))):=heap_alloc_new x1 _
 have hbA:Below x1.heap.size x1 (x1.alloc (.cells #[.int .u16 0,.int .u16 0,.int .u16 0,.int .u16 0,.int .u16 0,.int .u16 0,.int .u16 0,.int .u16 0] 178)):=(yoU _ x1).alloc (yoQ _) _
 clear hx0 hx1 hs0 hs1 hB0 hB1 hC0 hb0 hb1
 go_enter Tryz.func188,Tryz.ntmps188
 go_wp2
 rw [HX0.out,HX1.out]
 rw [show w.heap.size+1+1=x1.heap.size from HS.out.symm]
 go_loopw [6] (fun i wr=> ∃k:Nat,k≤4∧i= .int .i64 k∧Hid (wr.heap[x1.heap.size]? =some (.cells (arrV a0 a1 a2 a3 a4 a5 a6 a7 k) 178 (0,0)))∧Below x1.heap.size x1 wr) (fun i _=>4 - (intOf i).toNat)
 case atStart=>exact ⟨0,by omega,rfl,HA0,hbA⟩
 case round=>
  obtain ⟨k,hk,rfl,HA,hbw⟩:=hrel
  have hg0:w.heap.size<x1.heap.size:=by rw [HS.out];omega
  have hg1:w.heap.size+1<x1.heap.size:=by rw [HS.out];omega
  by_cases hk4:k<4
  ·have hch:wr.cell? ⟨w.heap.size,0,none⟩=some (.int .u64 hi):=by rw [hbw.cell (p:=⟨w.heap.size,0,none⟩) hg0,cell_of_row x1 _ 0 _ _ _ HB.out.1];rfl
   have hcl:wr.cell? ⟨w.heap.size,1,none⟩=some (.int .u64 lo):=by rw [hbw.cell (p:=⟨w.heap.size,1,none⟩) hg0,cell_of_row x1 _ 1 _ _ _ HB.out.1];rfl
   have hne:w.heap.size≠x1.heap.size:=by omega
   rcases (show k=0∨k=1∨k=2∨k=3 from by omega) with rfl|rfl|rfl|rfl
   ·rw [show ((0:Nat):Int)=0 from rfl]
    have hc1:wr.cell? ⟨x1.heap.size,0,none⟩=some (.int .u16 0):=by rw [cell_of_row wr _ 0 _ _ _ HA.out];rfl
    have hc2:wr.cell? ⟨x1.heap.size,4,none⟩=some (.int .u16 0):=by rw [cell_of_row wr _ 4 _ _ _ HA.out];rfl
    have hf1:wr.frozen? ⟨x1.heap.size,0,none⟩=false:=zbB HA.out 0
    have hf2:wr.frozen? ⟨x1.heap.size,4,none⟩=false:=zbB HA.out 4
    have HA2:Hid (((wr.setCell ⟨x1.heap.size,0,none⟩ (.int .u16 a0)).setCell ⟨x1.heap.size,4,none⟩ (.int .u16 a4)).heap[x1.heap.size]? =some (.cells (arrV a0 a1 a2 a3 a4 a5 a6 a7 1) 178 (0,0))):=by
     show _=_
     simp [World.setCell,Array.getElem?_modify,HA.out,arrV]
    have hbw2:Below x1.heap.size x1 ((wr.setCell ⟨x1.heap.size,0,none⟩ (.int .u16 a0)).setCell ⟨x1.heap.size,4,none⟩ (.int .u16 a4)):=(hbw.setCell (yoQ _) _).setCell (yoQ _) _
    have e0:=E.out.1
    have e4:=E.out.2.2.2.2.1
    skip
    go_wp2
    go_roundw
    case rel=>exact ⟨1,by omega,(by first|rfl|go_num),HA2,hbw2⟩
    case measure=>first|(simp [intOf];done)|(simp [intOf];omega)
   ·rw [show ((1:Nat):Int)=1 from rfl]
    have hc1:wr.cell? ⟨x1.heap.size,1,none⟩=some (.int .u16 0):=by rw [cell_of_row wr _ 1 _ _ _ HA.out];rfl
    have hc2:wr.cell? ⟨x1.heap.size,5,none⟩=some (.int .u16 0):=by rw [cell_of_row wr _ 5 _ _ _ HA.out];rfl
    have hf1:wr.frozen? ⟨x1.heap.size,1,none⟩=false:=zbB HA.out 1
    have hf2:wr.frozen? ⟨x1.heap.size,5,none⟩=false:=zbB HA.out 5
    have HA2:Hid (((wr.setCell ⟨x1.heap.size,1,none⟩ (.int .u16 a1)).setCell ⟨x1.heap.size,5,none⟩ (.int .u16 a5)).heap[x1.heap.size]? =some (.cells (arrV a0 a1 a2 a3 a4 a5 a6 a7 2) 178 (0,0))):=by
     show _=_
     simp [World.setCell,Array.getElem?_modify,HA.out,arrV]
    have hbw2:Below x1.heap.size x1 ((wr.setCell ⟨x1.heap.size,1,none⟩ (.int .u16 a1)).setCell ⟨x1.heap.size,5,none⟩ (.int .u16 a5)):=(hbw.setCell (yoQ _) _).setCell (yoQ _) _
    have e0:=E.out.2.1
    have e4:=E.out.2.2.2.2.2.1
    skip
    go_wp2
    go_roundw
    case rel=>exact ⟨2,by omega,(by first|rfl|go_num),HA2,hbw2⟩
    case measure=>first|(simp [intOf];done)|(simp [intOf];omega)
   ·rw [show ((2:Nat):Int)=2 from rfl]
    have hc1:wr.cell? ⟨x1.heap.size,2,none⟩=some (.int .u16 0):=by rw [cell_of_row wr _ 2 _ _ _ HA.out];rfl
    have hc2:wr.cell? ⟨x1.heap.size,6,none⟩=some (.int .u16 0):=by rw [cell_of_row wr _ 6 _ _ _ HA.out];rfl
    have hf1:wr.frozen? ⟨x1.heap.size,2,none⟩=false:=zbB HA.out 2
    have hf2:wr.frozen? ⟨x1.heap.size,6,none⟩=false:=zbB HA.out 6
    have HA2:Hid (((wr.setCell ⟨x1.heap.size,2,none⟩ (.int .u16 a2)).setCell ⟨x1.heap.size,6,none⟩ (.int .u16 a6)).heap[x1.heap.size]? =some (.cells (arrV a0 a1 a2 a3 a4 a5 a6 a7 3) 178 (0,0))):=by
     show _=_
     simp [World.setCell,Array.getElem?_modify,HA.out,arrV]
    have hbw2:Below x1.heap.size x1 ((wr.setCell ⟨x1.heap.size,2,none⟩ (.int .u16 a2)).setCell ⟨x1.heap.size,6,none⟩ (.int .u16 a6)):=(hbw.setCell (yoQ _) _).setCell (yoQ _) _
    have e0:=E.out.2.2.1
    have e4:=E.out.2.2.2.2.2.2.1
    skip
    go_wp2
    go_roundw
    case rel=>exact ⟨3,by omega,(by first|rfl|go_num),HA2,hbw2⟩
    case measure=>first|(simp [intOf];done)|(simp [intOf];omega)
   ·rw [show ((3:Nat):Int)=3 from rfl]
    have hc1:wr.cell? ⟨x1.heap.size,3,none⟩=some (.int .u16 0):=by rw [cell_of_row wr _ 3 _ _ _ HA.out];rfl
    have hc2:wr.cell? ⟨x1.heap.size,7,none⟩=some (.int .u16 0):=by rw [cell_of_row wr _ 7 _ _ _ HA.out];rfl
    have hf1:wr.frozen? ⟨x1.heap.size,3,none⟩=false:=zbB HA.out 3
    have hf2:wr.frozen? ⟨x1.heap.size,7,none⟩=false:=zbB HA.out 7
    have HA2:Hid (((wr.setCell ⟨x1.heap.size,3,none⟩ (.int .u16 a3)).setCell ⟨x1.heap.size,7,none⟩ (.int .u16 a7)).heap[x1.heap.size]? =some (.cells (arrV a0 a1 a2 a3 a4 a5 a6 a7 4) 178 (0,0))):=by
     show _=_
     simp [World.setCell,Array.getElem?_modify,HA.out,arrV]
    have hbw2:Below x1.heap.size x1 ((wr.setCell ⟨x1.heap.size,3,none⟩ (.int .u16 a3)).setCell ⟨x1.heap.size,7,none⟩ (.int .u16 a7)):=(hbw.setCell (yoQ _) _).setCell (yoQ _) _
    have e0:=E.out.2.2.2.1
    have e4:=E.out.2.2.2.2.2.2.2
    rw [Int.ediv_one] at e0 e4
    go_wp2
    go_roundw
    case rel=>exact ⟨4,by omega,(by first|rfl|go_num),HA2,hbw2⟩
    case measure=>first|(simp [intOf];done)|(simp [intOf];omega)
  ·obtain rfl:k=4:=by omega
   rw [show ((4:Nat):Int)=4 from rfl]
   have hc0:wr.cell? ⟨x1.heap.size,0,none⟩=some (.int .u16 a0):=by rw [cell_of_row wr _ 0 _ _ _ HA.out];rfl
   have hr0:wr.cell? ⟨w.heap.size+1,0,none⟩=some (.int .u16 0):=by rw [hbw.cell (p:=⟨w.heap.size+1,0,none⟩) hg1,cell_of_row x1 _ 0 _ _ _ HB.out.2];rfl
   have hf0:wr.frozen? ⟨w.heap.size+1,0,none⟩=false:=(hbw.frozen (p:=⟨w.heap.size+1,0,none⟩) hg1).trans (zbB HB.out.2 0)
   have hc1:wr.cell? ⟨x1.heap.size,1,none⟩=some (.int .u16 a1):=by rw [cell_of_row wr _ 1 _ _ _ HA.out];rfl
   have hr1:wr.cell? ⟨w.heap.size+1,1,none⟩=some (.int .u16 0):=by rw [hbw.cell (p:=⟨w.heap.size+1,1,none⟩) hg1,cell_of_row x1 _ 1 _ _ _ HB.out.2];rfl
   have hf1:wr.frozen? ⟨w.heap.size+1,1,none⟩=false:=(hbw.frozen (p:=⟨w.heap.size+1,1,none⟩) hg1).trans (zbB HB.out.2 1)
   have hc2:wr.cell? ⟨x1.heap.size,2,none⟩=some (.int .u16 a2):=by rw [cell_of_row wr _ 2 _ _ _ HA.out];rfl
   have hr2:wr.cell? ⟨w.heap.size+1,2,none⟩=some (.int .u16 0):=by rw [hbw.cell (p:=⟨w.heap.size+1,2,none⟩) hg1,cell_of_row x1 _ 2 _ _ _ HB.out.2];rfl
   have hf2:wr.frozen? ⟨w.heap.size+1,2,none⟩=false:=(hbw.frozen (p:=⟨w.heap.size+1,2,none⟩) hg1).trans (zbB HB.out.2 2)
   have hc3:wr.cell? ⟨x1.heap.size,3,none⟩=some (.int .u16 a3):=by rw [cell_of_row wr _ 3 _ _ _ HA.out];rfl
   have hr3:wr.cell? ⟨w.heap.size+1,3,none⟩=some (.int .u16 0):=by rw [hbw.cell (p:=⟨w.heap.size+1,3,none⟩) hg1,cell_of_row x1 _ 3 _ _ _ HB.out.2];rfl
   have hf3:wr.frozen? ⟨w.heap.size+1,3,none⟩=false:=(hbw.frozen (p:=⟨w.heap.size+1,3,none⟩) hg1).trans (zbB HB.out.2 3)
   have hc4:wr.cell? ⟨x1.heap.size,4,none⟩=some (.int .u16 a4):=by rw [cell_of_row wr _ 4 _ _ _ HA.out];rfl
   have hr4:wr.cell? ⟨w.heap.size+1,4,none⟩=some (.int .u16 0):=by rw [hbw.cell (p:=⟨w.heap.size+1,4,none⟩) hg1,cell_of_row x1 _ 4 _ _ _ HB.out.2];rfl
   have hf4:wr.frozen? ⟨w.heap.size+1,4,none⟩=false:=(hbw.frozen (p:=⟨w.heap.size+1,4,none⟩) hg1).trans (zbB HB.out.2 4)
   have hc5:wr.cell? ⟨x1.heap.size,5,none⟩=some (.int .u16 a5):=by rw [cell_of_row wr _ 5 _ _ _ HA.out];rfl
   have hr5:wr.cell? ⟨w.heap.size+1,5,none⟩=some (.int .u16 0):=by rw [hbw.cell (p:=⟨w.heap.size+1,5,none⟩) hg1,cell_of_row x1 _ 5 _ _ _ HB.out.2];rfl
   have hf5:wr.frozen? ⟨w.heap.size+1,5,none⟩=false:=(hbw.frozen (p:=⟨w.heap.size+1,5,none⟩) hg1).trans (zbB HB.out.2 5)
   have hc6:wr.cell? ⟨x1.heap.size,6,none⟩=some (.int .u16 a6):=by rw [cell_of_row wr _ 6 _ _ _ HA.out];rfl
   have hr6:wr.cell? ⟨w.heap.size+1,6,none⟩=some (.int .u16 0):=by rw [hbw.cell (p:=⟨w.heap.size+1,6,none⟩) hg1,cell_of_row x1 _ 6 _ _ _ HB.out.2];rfl
   have hf6:wr.frozen? ⟨w.heap.size+1,6,none⟩=false:=(hbw.frozen (p:=⟨w.heap.size+1,6,none⟩) hg1).trans (zbB HB.out.2 6)
   have hc7:wr.cell? ⟨x1.heap.size,7,none⟩=some (.int .u16 a7):=by rw [cell_of_row wr _ 7 _ _ _ HA.out];rfl
   have hr7:wr.cell? ⟨w.heap.size+1,7,none⟩=some (.int .u16 0):=by rw [hbw.cell (p:=⟨w.heap.size+1,7,none⟩) hg1,cell_of_row x1 _ 7 _ _ _ HB.out.2];rfl
   have hf7:wr.frozen? ⟨w.heap.size+1,7,none⟩=false:=(hbw.frozen (p:=⟨w.heap.size+1,7,none⟩) hg1).trans (zbB HB.out.2 7)
   have hbf:Below w.heap.size w wr:=hbw1.trans (hbw.mono (by omega))
   go_wp2
   exact bodyPost_ret (v:= .agg #[.int .u16 a0,.int .u16 a1,.int .u16 a2,.int .u16 a3,.int .u16 a4,.int .u16 a5,.int .u16 a6,.int .u16 a7]) (by simp [results,Tryz.results188,go_sem,hr0,hr1,hr2,hr3,hr4,hr5,hr6,hr7]) rfl ⟨rfl,(((((((hbf.setCell (by show _≤w.heap.size+1;omega) _).setCell (by show _≤w.heap.size+1;omega) _).setCell (by show _≤w.heap.size+1;omega) _).setCell (by show _≤w.heap.size+1;omega) _).setCell (by show _≤w.heap.size+1;omega) _).setCell (by show _≤w.heap.size+1;omega) _).setCell (by show _≤w.heap.size+1;omega) _).setCell (by show _≤w.heap.size+1;omega) _⟩
def z2D (st:Nat×Nat×Nat) (kx:Nat×Bool):Nat×Nat×Nat:=
 if kx.2=false then (kx.1+1,st.2) else if 1<kx.1+1 - st.1∧st.2.2 - st.2.1<kx.1+1 - st.1 then (st.1,st.1,kx.1+1) else st
def lrAt (bs:List Bool):Nat→Nat×Nat×Nat
 |0=>(0,0,0)
 |k+1=>z2D (lrAt bs k) (k,bs.getD k false)
theorem z7C (bs:List Bool) (k:Nat):(lrAt bs k).1≤k∧(lrAt bs k).2.1≤(lrAt bs k).2.2∧(lrAt bs k).2.2≤k:=by
 induction k with
 |zero=>exact ⟨yoQ _,yoQ _,yoQ _⟩
 |succ k ih=>
  obtain ⟨h1,h2,h3⟩:=ih
  unfold lrAt z2D
  split
  ·exact ⟨yoQ _,h2,by show (lrAt bs k).2.2≤k+1;omega⟩
  ·split
   ·exact ⟨by show (lrAt bs k).1≤k+1;omega,by show (lrAt bs k).1≤k+1;omega,yoQ _⟩
   ·exact ⟨by omega,h2,by omega⟩
def zdC (p:List Int):List Bool:=p.map fun x=>decide (x=0)
theorem lr_no {bs:List Bool} {k s f t:Nat} (h:lrAt bs k=(s,f,t)) (hb:bs.getD k false=false):lrAt bs (k+1)=(k+1,f,t):=by
 rw [lrAt,h,hb];rfl
theorem lr_yes {bs:List Bool} {k s f t:Nat} (h:lrAt bs k=(s,f,t)) (hb:bs.getD k false=true) (hc:1<k+1 - s∧t - f<k+1 - s):lrAt bs (k+1)=(s,s,k+1):=by
 rw [lrAt,h,hb];unfold z2D;rw [if_neg (by simp),if_pos hc]
theorem ynL {bs:List Bool} {k s f t:Nat} (h:lrAt bs k=(s,f,t)) (hb:bs.getD k false=true) (hc: ¬(1<k+1 - s∧t - f<k+1 - s)):lrAt bs (k+1)=(s,f,t):=by
 rw [lrAt,h,hb];unfold z2D;rw [if_neg (by simp),if_neg hc]
theorem index8 (W:World) (a0 a1 a2 a3 a4 a5 a6 a7:Int) (k:Nat) (hk:k<8):(Instr.index 178 (.agg #[.int .u16 a0,.int .u16 a1,.int .u16 a2,.int .u16 a3,.int .u16 a4,.int .u16 a5,.int .u16 a6,.int .u16 a7]) (.int .i64 (k:Int))).run Tryz.prog W= .ok (.int .u16 ([a0,a1,a2,a3,a4,a5,a6,a7].getD k 0)) W:=by
 rcases (show k=0∨k=1∨k=2∨k=3∨k=4∨k=5∨k=6∨k=7 from by omega) with rfl|rfl|rfl|rfl|rfl|rfl|rfl|rfl
 all_goals simp [Instr.index,run_underlying Tryz.underlying178,asIntOf,go_sem,Tryz.sizeOf177,Tryz.isAgg177]
theorem zyY (a0 a1 a2 a3 a4 a5 a6 a7:Int) (w:World):
  Calls Tryz.prog 189 #[.agg #[.int .u16 a0,.int .u16 a1,.int .u16 a2,.int .u16 a3,.int .u16 a4,.int .u16 a5,.int .u16 a6,.int .u16 a7]] w fun e w'=>
   e= .returned (.tuple #[.int .i64 ((lrAt (zdC [a0,a1,a2,a3,a4,a5,a6,a7]) 8).2.1:Int),.int .i64 ((lrAt (zdC [a0,a1,a2,a3,a4,a5,a6,a7]) 8).2.2:Int)])∧Below w.heap.size w w':=by
 obtain ⟨p,hp⟩: ∃p,[a0,a1,a2,a3,a4,a5,a6,a7]=p:=⟨_,rfl⟩
 have hpl:p.length=8:=by rw [←hp];rfl
 have HIX:Hid (∀(k:Nat) (_:k<8) (W:World),(Instr.index 178 (.agg #[.int .u16 a0,.int .u16 a1,.int .u16 a2,.int .u16 a3,.int .u16 a4,.int .u16 a5,.int .u16 a6,.int .u16 a7]) (.int .i64 (k:Int))).run Tryz.prog W= .ok (.int .u16 (p.getD k 0)) W):=fun k hk W=>by
  rw [←hp];exact index8 W a0 a1 a2 a3 a4 a5 a6 a7 k hk
 rw [hp]
 have HZ:Hid (∀k,k<8→(zdC p).getD k false=decide (p.getD k 0=0)):=fun k hk=>by
  simp [zdC,List.getD,hpl,hk]
 clear hp hpl
 have hb0:Below w.heap.size w (w.alloc (.cells #[.int .u16 a0,.int .u16 a1,.int .u16 a2,.int .u16 a3,.int .u16 a4,.int .u16 a5,.int .u16 a6,.int .u16 a7] 178)):=(yoU _ w).alloc (yoQ _) _
 go_enter Tryz.func189,Tryz.ntmps189
 go_wp2
 go_loop [2,3,4,9] (fun f t s i=> ∃(k S F T:Nat),k≤8∧i= .int .i64 k∧s= .int .i64 S∧f= .int .i64 F∧t= .int .i64 T∧S≤k∧F≤T∧T≤k∧Hid (lrAt (zdC p) k=(S,F,T))) (fun _ _ _ i=>8 - (intOf i).toNat)
 case atStart=>exact ⟨0,0,0,0,by omega,rfl,rfl,rfl,rfl,by omega,by omega,by omega,rfl⟩
 case round=>
  obtain ⟨k,S,F,T,hk,rfl,rfl,rfl,rfl,hS,hF,hT,HL⟩:=hrel
  by_cases hk8:k<8
  ·have hix:=HIX.out k hk8
   have hz:=HZ.out k hk8
   generalize p.getD k 0=x at*
   by_cases hx:x=0
   ·subst hx
    have HB:=yoP (show (zdC p).getD k false=true from by rw [hz];rfl)
    clear hz
    have hx0:((0:Int) !=0)=false:=by decide
    by_cases hc:1<k+1 - S∧T - F<k+1 - S
    ·have HL2:=yoP (lr_yes HL.out HB.out hc)
     have hc1:decide ((1:Int)<(k:Int)+1 - (S:Int))=true:=yoT (by omega)
     have hc2:decide ((T:Int) - (F:Int)<(k:Int)+1 - (S:Int))=true:=yoT (by omega)
     clear hc
     go_wp2
     go_round
     case rel=>exact ⟨k+1,S,S,k+1,by omega,by go_num,rfl,rfl,by go_num,by omega,by omega,by omega,HL2⟩
     case measure=>simp [intOf];omega
    ·have HL2:=yoP (ynL HL.out HB.out hc)
     by_cases hd:1<k+1 - S
     ·have hc1:decide ((1:Int)<(k:Int)+1 - (S:Int))=true:=yoT (by omega)
      have hc2:decide ((T:Int) - (F:Int)<(k:Int)+1 - (S:Int))=false:=yoS (by omega)
      clear hc hd
      go_wp2
      go_round
      case rel=>exact ⟨k+1,S,F,T,by omega,by go_num,rfl,rfl,rfl,by omega,by omega,by omega,HL2⟩
      case measure=>simp [intOf];omega
     ·have hc1:decide ((1:Int)<(k:Int)+1 - (S:Int))=false:=yoS (by omega)
      clear hc hd
      go_wp2
      go_round
      case rel=>exact ⟨k+1,S,F,T,by omega,by go_num,rfl,rfl,rfl,by omega,by omega,by omega,HL2⟩
      case measure=>simp [intOf];omega
   ·have HB:=yoP (show (zdC p).getD k false=false from by rw [hz];exact yoS hx)
    have HL2:=yoP (lr_no HL.out HB.out)
    have hx0:(x !=0)=true:=by rw [bne_iff_ne];exact hx
    clear hz
    go_wp2
    go_round
    case rel=>exact ⟨k+1,k+1,F,T,by omega,by go_num,by go_num,rfl,rfl,by omega,by omega,by omega,HL2⟩
    case measure=>simp [intOf];omega
  ·obtain rfl:k=8:=by omega
   go_wp2
   go_ret2
   exact ⟨by rw [HL.out];rfl,hb0⟩
def hexI (x:Int):List UInt8:=hexD x.toNat
def zfR (l:List Int):List UInt8:=Lib.join (l.map hexI) [58]
theorem yiA (u:Nat) (h:u<65536):(hexD u).length≤4:=by
 by_cases h1:u<16
 ·rw [zlO u h1];simp
 ·rw [zoK u (by omega),List.length_append,List.length_singleton]
  by_cases h2:u/16<16
  ·rw [zlO _ h2];simp
  ·rw [zoK _ (by omega),List.length_append,List.length_singleton]
   by_cases h3:u/16/16<16
   ·rw [zlO _ h3];simp
   ·rw [zoK _ (by omega),List.length_append,List.length_singleton,zlO _ (by omega)];simp
theorem z2V {x:Int} (h:0≤x∧x≤65535):(hexI x).length≤4:=yiA _ (by omega)
theorem yiS (sep:List UInt8) (hs:sep.length=1) (ps:List (List UInt8)) (h: ∀p∈ps,p.length≤4):(Lib.join ps sep).length≤5*ps.length:=by
 induction ps with
 |nil=>simp [Lib.join]
 |cons p r ih=>
  have h1:=h p (by simp)
  have h2:=ih fun q hq=>h q (by simp [hq])
  cases r with
  |nil=>simp [Lib.join];omega
  |cons q r=>
   have e:Lib.join (p::q::r) sep=p++sep++Lib.join (q::r) sep:=by simp [Lib.join,List.intercalate]
   rw [e,List.length_append,List.length_append,List.length_cons,hs]
   omega
theorem zhW {l:List Int} (h:In16 l):(zfR l).length≤5*l.length:=by
 have:=yiS [58] rfl (l.map hexI) (fun p hp=>by
  obtain ⟨x,hx,rfl⟩:=List.mem_map.1 hp
  exact z2V (h x hx))
 rwa [List.length_map] at this
theorem ygM {w:World} {g:Nat} {t:TypeId} {a r:List Value} {y:Value} (x:Value) (h:w.heap[g]? =some (.cells (a++y::r).toArray t (0,0))):
  (w.setCell ⟨g,a.length,none⟩ x).heap[g]? =some (.cells (a++x::r).toArray t (0,0)):=by
 have e:((a++y::r).toArray).setIfInBounds a.length x=(a++x::r).toArray:=by
  apply Array.ext'
  simp
 rw [←e]
 simp [World.setCell,Array.getElem?_modify,h]
theorem zsN (n:Nat):madeCells (Value.string ⟨#[]⟩).cells n=(List.replicate n (Value.string ⟨#[]⟩)).toArray:=by
 unfold madeCells
 have e:(Value.string ⟨#[]⟩).cells= #[.string ⟨#[]⟩]:=rfl
 rw [e]
 apply Array.ext'
 simp only [Array.toList_map]
 apply List.ext_getElem
 ·simp
 ·intro i h1 h2
  simp [Nat.mod_one]
theorem ynR (n:Nat) (hn:n≤1073741824) (W:World):(Instr.makeSlice 45 (.int .i64 (n:Int)) (.int .i64 (n:Int))).run Tryz.prog W= .ok (.slice (some ⟨W.heap.size,0,none⟩) n n) (W.alloc (.cells (List.replicate n (Value.string ⟨#[]⟩)).toArray 9)):=by
 obtain ⟨i0,hi,hz0,hz1,hz2⟩:=info_parts Tryz.infoStr
 rw [run_make W 45 9 i0 (.string ⟨#[]⟩) Tryz.underlying45 hi hz0 .i64 .i64 n n (by omega) (by omega) (by rw [hz2];omega) (by omega),hz1,Int.toNat_natCast,Nat.mul_one,zsN]
def zoX (w:World) (ao:Option Addr) (k:IntKind) (l:List Int):Prop:= ∀j,j<l.length→ ∃g o,ao=some ⟨g,o,none⟩∧w.cell? ⟨g,o+j,none⟩=some (.int k (l.getD j 0))
theorem z6D (T:List Int) (k:Nat) (hk:k<T.length) (r:List Value):(T.take (k+1)).map (fun x=>strC (hexI x))++r=(T.take k).map (fun x=>strC (hexI x))++strC (hexI (T.getD k 0))::r:=by
 rw [List.take_succ_eq_append_getElem hk,List.getD,List.getElem?_eq_getElem hk,List.map_append,List.append_assoc]
 rfl
theorem ziB (ao:Option Addr) (c:Nat) (l:List Int) (w:World) (hsl:zoX w ao .u16 l) (hin:In16 l) (hlen:l.length≤1000) (htab:BruTab w):
  Calls Tryz.prog 190 #[.slice ao l.length c] w (zdT w (zfR l)):=by
 have HSL:=yoP hsl
 have HIN:=yoP hin
 have HT:=yoP htab
 clear hsl hin htab
 have hmk:=ynR l.length (by omega)
 have HB0:Hid ((w.alloc (.cells (List.replicate l.length (Value.string ⟨#[]⟩)).toArray 9)).heap[w.heap.size]? =some (.cells ((l.take 0).map (fun x=>strC (hexI x))++List.replicate (l.length - 0) (Value.string ⟨#[]⟩)).toArray 9 (0,0))):=by
  show _=_
  simpa using heap_alloc_new w (.cells (List.replicate l.length (Value.string ⟨#[]⟩)).toArray 9)
 have hbA:Below w.heap.size w (w.alloc (.cells (List.replicate l.length (Value.string ⟨#[]⟩)).toArray 9)):=(yoU _ w).alloc (yoQ _) _
 go_enter Tryz.func190,Tryz.ntmps190
 go_wp2
 clear hmk
 go_loopw [11] (fun i wr=> ∃k:Nat,k≤l.length∧i= .int .i64 k∧Hid (wr.heap[w.heap.size]? =some (.cells ((l.take k).map (fun x=>strC (hexI x))++List.replicate (l.length - k) (Value.string ⟨#[]⟩)).toArray 9 (0,0)))∧Below w.heap.size w wr∧w.heap.size<wr.heap.size) (fun i _=>l.length - (intOf i).toNat)
 case atStart=>exact ⟨0,by omega,rfl,HB0,hbA,by simp⟩
 case round=>
  obtain ⟨k,hk,rfl,HA,hbw,hsz⟩:=hrel
  by_cases hkl:k<l.length
  ·obtain ⟨g,o,rfl,hc⟩:=HSL.out k hkl
   have hcx:wr.cell? ⟨g,o+k,none⟩=some (.int .u16 (l.getD k 0)):=(hbw.cell (World.block_lt_of_cell? w _ hc)).trans hc
   have hput0: ∀W:World,W.heap[w.heap.size]? =some (.cells ((l.take k).map (fun x=>strC (hexI x))++List.replicate (l.length - k) (Value.string ⟨#[]⟩)).toArray 9 (0,0))→
     (W.setCell ⟨w.heap.size,k,none⟩ (strC (hexI (l.getD k 0)))).heap[w.heap.size]? =some (.cells ((l.take (k+1)).map (fun x=>strC (hexI x))++List.replicate (l.length - (k+1)) (Value.string ⟨#[]⟩)).toArray 9 (0,0)):=fun W hW=>by
    have h2:=ygM (a:=(l.take k).map (fun x=>strC (hexI x))) (r:=List.replicate (l.length - (k+1)) (Value.string ⟨#[]⟩)) (strC (hexI (l.getD k 0))) (show W.heap[w.heap.size]? =some (.cells ((l.take k).map (fun x=>strC (hexI x))++(Value.string ⟨#[]⟩)::List.replicate (l.length - (k+1)) (Value.string ⟨#[]⟩)).toArray 9 (0,0)) from by
     rwa [show l.length - k=(l.length - (k+1))+1 from by omega,List.replicate_succ] at hW)
    rwa [←z6D l k hkl,List.length_map,List.length_take,show min k l.length=k from by omega] at h2
   have HPUT:=yoP hput0
   have hxb:=HIN.out.getD k
   have hold: ∃old,wr.cell? ⟨w.heap.size,k,none⟩=some old:=by
    rw [cell_of_row wr _ k _ _ _ HA.out]
    exact ⟨_,Array.getElem?_eq_getElem (by simp;omega)⟩
   obtain ⟨old,hold⟩:=hold
   have HOLD:=yoP hold
   have HFZ:=yoP (zbB HA.out k)
   clear hc hput0 hold
   obtain ⟨x,hx⟩: ∃x,l.getD k 0=x:=⟨_,rfl⟩
   rw [hx] at hcx hxb HPUT
   obtain ⟨hx0,hx1⟩:=hxb
   obtain ⟨u,rfl⟩: ∃u:Nat,x=(u:Int):=⟨x.toNat,by omega⟩
   clear hx
   go_wp2_with fail
   refine (z3Q u (by omega) _ (zaC HT.out hbw)).mono ?_
   rintro e w2 ⟨rfl,hb2⟩
   have hA2:w2.heap[w.heap.size]? =_:=(hb2.block w.heap.size hsz).trans HA.out
   have HA3:=yoP (HPUT.out w2 hA2)
   have hc2:w2.cell? ⟨w.heap.size,k,none⟩=some old:=(hb2.cell (p:=⟨w.heap.size,k,none⟩) hsz).trans HOLD.out
   have hf2:w2.frozen? ⟨w.heap.size,k,none⟩=false:=(hb2.frozen (p:=⟨w.heap.size,k,none⟩) hsz).trans HFZ.out
   have hbw2:Below w.heap.size w (w2.setCell ⟨w.heap.size,k,none⟩ (strC (hexI (u:Int)))):=(hbw.trans (hb2.mono hbw.size)).setCell (yoQ _) _
   have hsz2:w.heap.size<(w2.setCell ⟨w.heap.size,k,none⟩ (strC (hexI (u:Int)))).heap.size:=by simp [World.setCell];exact yoR hsz hb2.size
   clear hA2 hb2
   go_wp2
   go_roundw
   case rel=>exact ⟨k+1,by omega,by go_num,HA3,hbw2,hsz2⟩
   case measure=>simp [intOf];omega
  ·obtain rfl:k=l.length:=by omega
   have HXS:Hid (∀(j:Nat) x,(l.map (fun x=>ByteArray.mk (hexI x).toArray))[j]? =some x→wr.cell? ⟨w.heap.size,0+j,none⟩=some (.string x)):=fun j x hj=>by
    rw [Nat.zero_add,cell_of_row wr _ j _ _ _ HA.out]
    rw [List.take_of_length_le (yoQ _),Nat.sub_self,List.replicate_zero,List.append_nil]
    rw [List.getElem?_map] at hj
    simp only [Option.map_eq_some_iff] at hj
    obtain ⟨y,hy,rfl⟩:=hj
    simp [hy,strC]
   have hjl:=zhW HIN.out
   have hmap:(l.map (fun x=>ByteArray.mk (hexI x).toArray)).map (fun x=>x.data.toList)=l.map hexI:=by simp [Function.comp_def]
   have HMAP:=yoP hmap
   have hll:(l.map (fun x=>ByteArray.mk (hexI x).toArray)).length=l.length:=by simp
   have HLL:=yoP hll
   clear hmap hll
   have hjoin:=Tryz.strings_Join w.heap.size 0 l.length (l.map (fun x=>ByteArray.mk (hexI x).toArray)) ⟨#[58]⟩ wr HXS.out hsz (by rw [HLL.out];omega) (by rw [HLL.out];exact yoQ _) (by rw [HMAP.out];exact Nat.le_trans hjl (by omega))
   rw [HMAP.out,HLL.out] at hjoin
   have HJ:=yoP hjoin
   clear hjoin
   go_wp2_with fail
   refine HJ.out.mono ?_
   rintro e w3 ⟨rfl,hb3⟩
   go_wp2
   go_ret
   exact ⟨rfl,hbw.trans (hb3.mono hbw.size)⟩
def z3V (p:List Int):List UInt8:=
 if (lrAt (zdC p) 8).2.1=(lrAt (zdC p) 8).2.2 then zfR p else zfR (p.take (lrAt (zdC p) 8).2.1)++[58,58]++zfR (p.drop (lrAt (zdC p) 8).2.2)
def zfG (hi lo:Int):List UInt8:=z3V (pcs hi lo)
theorem z6T (B T:Nat) (hT:T≤8): ∃ao,(∀W,(Instr.sliceAt 178 (.pointer (some ⟨B,0,none⟩)) (some (.int .i64 (T:Int))) none none).run Tryz.prog W= .ok (.slice ao (8 - T) (8 - T)) W)∧(T<8→ao=some ⟨B,T,none⟩):=by
 have hal:Tryz.prog.arrayLen 178=8:=by simp [Program.arrayLen,Tryz.underlying178]
 by_cases h8:T=8
 ·subst h8
  refine ⟨some ⟨B,0,none⟩,fun W=> ?_,fun h=>by omega⟩
  rw [run_sliceAt_array_l W 178 ⟨B,0,none⟩ (by simp [Program.arrayLen,Program.elem,Tryz.underlying178]) .i64 _ (by omega) (by rw [hal];omega),hal]
  go_simp
 ·refine ⟨some ⟨B,T,none⟩,fun W=> ?_,fun _=>rfl⟩
  rw [run_sliceAt_array_l W 178 ⟨B,0,none⟩ (by simp [Program.arrayLen,Program.elem,Tryz.underlying178]) .i64 _ (by omega) (by rw [hal];omega),hal]
  go_simp
  omega
theorem z2X (B F:Nat) (hF:F≤8) (W:World):(Instr.sliceAt 178 (.pointer (some ⟨B,0,none⟩)) none (some (.int .i64 (F:Int))) none).run Tryz.prog W= .ok (.slice (some ⟨B,0,none⟩) F 8) W:=by
 have hal:Tryz.prog.arrayLen 178=8:=by simp [Program.arrayLen,Tryz.underlying178]
 rw [run_sliceAt_array_h W 178 ⟨B,0,none⟩ (by simp [Program.arrayLen,Program.elem,Tryz.underlying178]) .i64 _ (by omega) (by rw [hal];omega),hal]
 go_simp
theorem zoX.of_row {w:World} {g o:Nat} {k:IntKind} {l:List Int} (h: ∀j,j<l.length→w.cell? ⟨g,o+j,none⟩=some (.int k (l.getD j 0))):zoX w (some ⟨g,o,none⟩) k l:=fun j hj=>⟨g,o,rfl,h j hj⟩
theorem In16.take {l:List Int} (h:In16 l) (n:Nat):In16 (l.take n):=fun x hx=>h x (List.mem_of_mem_take hx)
theorem In16.drop {l:List Int} (h:In16 l) (n:Nat):In16 (l.drop n):=fun x hx=>h x (List.mem_of_mem_drop hx)
theorem z3F (l:List Int) (n j:Nat) (h:j<n):(l.take n).getD j 0=l.getD j 0:=by simp [List.getD,h]
theorem z3N (l:List Int) (n j:Nat):(l.drop n).getD j 0=l.getD (n+j) 0:=by simp [List.getD]
theorem zaG (x:World):Below x.heap.size x x.drew:=(yoU _ _).drew
theorem zhL {x w:World} (h:Below x.drew.heap.size x.drew w):Below x.heap.size x w:=(yoU _ _).drew.trans h
theorem ybP (p:List Int):(lrAt (zdC p) 8).2.1≤(lrAt (zdC p) 8).2.2∧(lrAt (zdC p) 8).2.2≤8:=(z7C _ 8).2
theorem ybB (hi lo:Int) (w:World) (h0:0≤hi) (h1:hi≤18446744073709551615) (l0:0≤lo) (l1:lo≤18446744073709551615) (htab:BruTab w):
  Calls Tryz.prog 136 #[.agg #[.int .u64 hi,.int .u64 lo]] w (zdT w (zfG hi lo)):=by
 have HT:=yoP htab
 clear htab
 have hb0:Below w.heap.size w (w.alloc (.cells #[.int .u64 hi,.int .u64 lo] 144)):=(yoU _ w).alloc (yoQ _) _
 have HT0:=yoP (zaC HT.out hb0)
 go_enter Tryz.func136,Tryz.ntmps136
 go_wp2_with fail
 refine (zyD hi lo _ h0 h1 l0 l1).mono ?_
 rintro e x1 ⟨rfl,hb1⟩
 have HT1:=yoP (zaC HT0.out hb1)
 have hc1:Below w.heap.size w x1:=hb0.trans (hb1.mono hb0.size)
 have HIN:=yoP (ykD h0 h1 l0 l1)
 clear hb0 hb1
 obtain ⟨p,hp⟩: ∃p,pcs hi lo=p:=⟨_,rfl⟩
 have HTX:Hid (zfG hi lo=z3V p):=by show zfG hi lo=z3V p;rw [zfG,hp]
 rw [hp] at HIN
 unfold pcs at hp
 obtain ⟨a0,ha0⟩: ∃a,hi/281474976710656=a:=⟨_,rfl⟩
 obtain ⟨a1,ha1⟩: ∃a,hi/4294967296 % 65536=a:=⟨_,rfl⟩
 obtain ⟨a2,ha2⟩: ∃a,hi/65536 % 65536=a:=⟨_,rfl⟩
 obtain ⟨a3,ha3⟩: ∃a,hi % 65536=a:=⟨_,rfl⟩
 obtain ⟨a4,ha4⟩: ∃a,lo/281474976710656=a:=⟨_,rfl⟩
 obtain ⟨a5,ha5⟩: ∃a,lo/4294967296 % 65536=a:=⟨_,rfl⟩
 obtain ⟨a6,ha6⟩: ∃a,lo/65536 % 65536=a:=⟨_,rfl⟩
 obtain ⟨a7,ha7⟩: ∃a,lo % 65536=a:=⟨_,rfl⟩
 rw [ha0,ha1,ha2,ha3,ha4,ha5,ha6,ha7] at hp ⊢
 clear ha0 ha1 ha2 ha3 ha4 ha5 ha6 ha7
 have hb2:Below x1.heap.size x1 (x1.alloc (.cells #[.int .u16 a0,.int .u16 a1,.int .u16 a2,.int .u16 a3,.int .u16 a4,.int .u16 a5,.int .u16 a6,.int .u16 a7] 178)):=(yoU _ x1).alloc (yoQ _) _
 have hB:(x1.alloc (.cells #[.int .u16 a0,.int .u16 a1,.int .u16 a2,.int .u16 a3,.int .u16 a4,.int .u16 a5,.int .u16 a6,.int .u16 a7] 178)).heap[x1.heap.size]? =some (.cells #[.int .u16 a0,.int .u16 a1,.int .u16 a2,.int .u16 a3,.int .u16 a4,.int .u16 a5,.int .u16 a6,.int .u16 a7] 178 (0,0)):=heap_alloc_new x1 _
 have HP:=yoP hp
 have hpl:p.length=8:=by rw [←hp];rfl
 have HPL:=yoP hpl
 have hcl: ∀j,j<8→(x1.alloc (.cells #[.int .u16 a0,.int .u16 a1,.int .u16 a2,.int .u16 a3,.int .u16 a4,.int .u16 a5,.int .u16 a6,.int .u16 a7] 178)).cell? ⟨x1.heap.size,j,none⟩=some (.int .u16 (p.getD j 0)):=fun j hj=>by
  rw [cell_of_row _ _ j _ _ _ hB,←hp]
  rcases (show j=0∨j=1∨j=2∨j=3∨j=4∨j=5∨j=6∨j=7 from by omega) with rfl|rfl|rfl|rfl|rfl|rfl|rfl|rfl<;>rfl
 have hsz2:x1.heap.size<(x1.alloc (.cells #[.int .u16 a0,.int .u16 a1,.int .u16 a2,.int .u16 a3,.int .u16 a4,.int .u16 a5,.int .u16 a6,.int .u16 a7] 178)).heap.size:=by simp
 have HCL:=yoP hcl
 have HT2:=yoP (zaC HT1.out hb2)
 have hc2:Below w.heap.size w (x1.alloc (.cells #[.int .u16 a0,.int .u16 a1,.int .u16 a2,.int .u16 a3,.int .u16 a4,.int .u16 a5,.int .u16 a6,.int .u16 a7] 178)):=hc1.trans (hb2.mono hc1.size)
 clear hp hpl hcl hB hb2
 go_wp2_with fail
 generalize x1.alloc (.cells #[.int .u16 a0,.int .u16 a1,.int .u16 a2,.int .u16 a3,.int .u16 a4,.int .u16 a5,.int .u16 a6,.int .u16 a7] 178)=x2 at*
 refine (zyY a0 a1 a2 a3 a4 a5 a6 a7 _).mono ?_
 rw [HP.out]
 rintro e x3 ⟨rfl,hb3⟩
 have hlr:=ybP p
 have HTP:Hid (z3V p=if (lrAt (zdC p) 8).2.1=(lrAt (zdC p) 8).2.2 then zfR p else zfR (p.take (lrAt (zdC p) 8).2.1)++[58,58]++zfR (p.drop (lrAt (zdC p) 8).2.2)):=rfl
 generalize (lrAt (zdC p) 8).2.1=F at*
 generalize (lrAt (zdC p) 8).2.2=T at*
 obtain ⟨hFT,hT8⟩:=hlr
 have HT3:=yoP (zaC HT2.out hb3)
 have hc3:Below w.heap.size w x3:=hc2.trans (hb3.mono hc2.size)
 have HCL3:Hid (∀j,j<8→x3.cell? ⟨x1.heap.size,j,none⟩=some (.int .u16 (p.getD j 0))):=fun j hj=>(hb3.cell (p:=⟨x1.heap.size,j,none⟩) hsz2).trans (HCL.out j hj)
 have hsz3:x1.heap.size<x3.heap.size:=yoR hsz2 hb3.size
 clear hb3 hc2 hc1 hsz2
 generalize x1.heap.size=B at*
 by_cases hFe:F=T
 ·subst hFe
  have HE:=yoP (HTX.out.trans (HTP.out.trans (if_pos rfl)))
  have HW:Hid (Calls Tryz.prog 190 #[.slice (some ⟨B,0,none⟩) 8 8] x3 (zdT x3 (zfR p))):=by
   show Calls _ _ _ _ _
   rw [show (8:Nat)=p.length from HPL.out.symm]
   exact ziB _ _ p x3 (zoX.of_row fun j hj=>by rw [Nat.zero_add];exact HCL3.out j (by rw [HPL.out] at hj;exact hj)) HIN.out (by rw [HPL.out];omega) HT3.out
  go_wp2_with fail
  refine HW.out.mono ?_
  rintro e x4 ⟨rfl,hb4⟩
  go_wp2
  go_ret
  exact ⟨congrArg (fun l:List UInt8=>Ending.returned (.string ⟨l.toArray⟩)) HE.out.symm,hc3.trans (hb4.mono hc3.size)⟩
 ·have HE:=yoP (HTX.out.trans (HTP.out.trans (if_neg hFe)))
  have hbe:((F:Int)==(T:Int))=false:=by rw [beq_eq_false_iff_ne];omega
  obtain ⟨ao,hs2,hao⟩:=z6T B T hT8
  have hs1:=z2X B F (by omega)
  have HWA:Hid (∀W,Below x3.heap.size x3 W→Calls Tryz.prog 190 #[.slice (some ⟨B,0,none⟩) F 8] W (zdT W (zfR (p.take F)))):=fun W hW=>by
   have hl:(p.take F).length=F:=by rw [List.length_take,HPL.out];omega
   have hq:=ziB (some ⟨B,0,none⟩) 8 (p.take F) W (zoX.of_row fun j hj=>by
    rw [Nat.zero_add,z3F p F j (by omega)]
    exact (hW.cell (p:=⟨B,j,none⟩) hsz3).trans (HCL3.out j (by omega))) (HIN.out.take F) (by omega) (zaC HT3.out hW)
   rwa [hl] at hq
  have HWB:Hid (∀W,Below x3.heap.size x3 W→Calls Tryz.prog 190 #[.slice ao (8 - T) (8 - T)] W (zdT W (zfR (p.drop T)))):=fun W hW=>by
   have hl:(p.drop T).length=8 - T:=by rw [List.length_drop,HPL.out]
   have hq:=ziB ao (8 - T) (p.drop T) W (fun j hj=>by
    rw [hl] at hj
    refine ⟨B,T,hao (by omega),?_⟩
    rw [z3N p T j]
    exact (hW.cell (p:=⟨B,T+j,none⟩) hsz3).trans (HCL3.out (T+j) (by omega))) (HIN.out.drop T) (by omega) (zaC HT3.out hW)
   rwa [hl] at hq
  clear hao hFe
  have hl1:(zfR (p.take F)).length≤40:=Nat.le_trans (zhW (HIN.out.take F)) (by rw [List.length_take];omega)
  have hl2:(zfR (p.drop T)).length≤40:=Nat.le_trans (zhW (HIN.out.drop T)) (by rw [List.length_drop,HPL.out];omega)
  generalize zfR (p.take F)=X at*
  generalize zfR (p.drop T)=Y at*
  have hadd1: ∀W,(Op.stringOp .add ⟨X.toArray⟩ ⟨#[58,58]⟩).run Tryz.prog W= .ok (.string ⟨(X++[58,58]).toArray⟩) W:=fun W=>by
   rw [run_string_add_sum W _ _ (by rw [zaB];show X.length+2≤_;omega),show (ByteArray.mk #[58,58])=ByteArray.mk [58,58].toArray from rfl,cat2]
  have hadd2: ∀W,(Op.stringOp .add ⟨(X++[58,58]).toArray⟩ ⟨Y.toArray⟩).run Tryz.prog W= .ok (.string ⟨(X++[58,58]++Y).toArray⟩) W:=fun W=>by
   rw [run_string_add_sum W _ _ (by rw [zaB,zaB,List.length_append];show X.length+2+Y.length≤_;omega),cat2]
  have hg1: ¬((ByteArray.mk X.toArray).size+(ByteArray.mk #[58,58]).size>9223372036854775807):=by rw [zaB];show ¬(X.length+2>_);omega
  have hg2: ¬((ByteArray.mk (X++[58,58]).toArray).size+(ByteArray.mk Y.toArray).size>9223372036854775807):=by rw [zaB,zaB,List.length_append];show ¬(X.length+2+Y.length>_);omega
  go_wp2
  go_region_held3 (fun _=>True) (exact trivial)
   (first
    |(go_simp;go_at_call 190;((with_reducible refine (HWA.out _ (zaG _)).mono ?_);rintro e w4 ⟨rfl,hb4⟩))
    |(go_simp;go_at_call 190;((with_reducible refine (HWB.out _ (zhL hb4)).mono ?_);rintro e w5 ⟨rfl,hb5⟩)))
  have hfin:Below w.heap.size w w5:=hc3.trans (((zhL hb4).trans (hb5.mono (zhL hb4).size)).mono hc3.size)
  have HE2:Hid (X++58::58::Y=zfG hi lo):=by show X++58::58::Y=zfG hi lo;rw [HE.out];simp
  go_wp2
  go_ret
  exact ⟨congrArg (fun l:List UInt8=>Ending.returned (.string ⟨l.toArray⟩)) HE2.out,hfin⟩
def zrB (p:List Int) (f n:Nat):Bool:=((p.drop f).take n).all fun x=>decide (x=0)
def zrBB (bs:List Bool) (f n:Nat):Bool:=((bs.drop f).take n).all id
theorem zr_BB (p:List Int) (f n:Nat):zrB p f n=zrBB (zdC p) f n:=by
 unfold zrB zrBB zdC
 rw [←List.map_drop,←List.map_take,List.all_map]
 rfl
def cands:List (Nat×Nat):=[(8,0),(7,0),(7,1),(6,0),(6,1),(6,2),(5,0),(5,1),(5,2),(5,3),(4,0),(4,1),(4,2),(4,3),(4,4),(3,0),(3,1),(3,2),(3,3),(3,4),(3,5),(2,0),(2,1),(2,2),(2,3),(2,4),(2,5),(2,6)]
def ylE (bs:List Bool):Bool:=
 cands.all (fun c=> !(zrBB bs c.2 c.1)||decide (c.1<(lrAt bs 8).2.2 - (lrAt bs 8).2.1)||(decide (c.1=(lrAt bs 8).2.2 - (lrAt bs 8).2.1)&&decide ((lrAt bs 8).2.1≤c.2)))&&
  (decide ((lrAt bs 8).2.1=(lrAt bs 8).2.2)||(decide (2≤(lrAt bs 8).2.2 - (lrAt bs 8).2.1)&&zrBB bs (lrAt bs 8).2.1 ((lrAt bs 8).2.2 - (lrAt bs 8).2.1)))
theorem spec8: ∀b0 b1 b2 b3 b4 b5 b6 b7:Bool,ylE [b0,b1,b2,b3,b4,b5,b6,b7]=true:=by decide+kernel
theorem ylS {p:List Int} (hp:p.length=8):ylE (zdC p)=true:=by
 match p,hp with
 |[x0,x1,x2,x3,x4,x5,x6,x7],_=>exact spec8 _ _ _ _ _ _ _ _
theorem lr_is {p:List Int} (hp:p.length=8) (h:(lrAt (zdC p) 8).2.1≠(lrAt (zdC p) 8).2.2):
  2≤(lrAt (zdC p) 8).2.2 - (lrAt (zdC p) 8).2.1∧zrB p (lrAt (zdC p) 8).2.1 ((lrAt (zdC p) 8).2.2 - (lrAt (zdC p) 8).2.1)=true:=by
 have hs:=ylS hp
 unfold ylE at hs
 rw [Bool.and_eq_true] at hs
 rw [zr_BB]
 have:=hs.2
 simp only [Bool.or_eq_true,Bool.and_eq_true,decide_eq_true_eq] at this
 rcases this with e|e
 ·exact absurd e h
 ·exact e
theorem join_cons (sep x y:List UInt8) (z:List (List UInt8)):Lib.join (x::y::z) sep=x++sep++Lib.join (y::z) sep:=by simp [Lib.join,List.intercalate]
theorem ydA (ps:List (List UInt8)) (h: ∀p∈ps,p.length≤4) (hn:ps≠[]):(Lib.join ps [58]).length+1≤5*ps.length:=by
 induction ps with
 |nil=>exact absurd rfl hn
 |cons p r ih=>
  have h1:=h p (by simp)
  cases r with
  |nil=>simp [Lib.join];omega
  |cons q r=>
   have h2:=ih (fun x hx=>h x (by simp [hx])) (by simp)
   rw [join_cons,List.length_append,List.length_append,List.length_cons (a:=p)]
   simp only [List.length_singleton]
   omega
theorem zwO {hi lo:Int} (h0:0≤hi) (h1:hi≤18446744073709551615) (l0:0≤lo) (l1:lo≤18446744073709551615):(zfG hi lo).length≤39:=by
 have hin:=ykD h0 h1 l0 l1
 have hp:(pcs hi lo).length=8:=rfl
 unfold zfG
 generalize pcs hi lo=p at*
 have hle:=ybP p
 unfold z3V
 split
 ·have:=ydA (p.map hexI) (fun q hq=>by
   obtain ⟨x,hx,rfl⟩:=List.mem_map.1 hq
   exact z2V (hin x hx)) (by intro e;rw [List.map_eq_nil_iff] at e;rw [e] at hp;cases hp)
  rw [List.length_map,hp] at this
  unfold zfR
  omega
 ·rename_i hne
  have his:=lr_is hp hne
  have a1:=zhW (hin.take (lrAt (zdC p) 8).2.1)
  have a2:=zhW (hin.drop (lrAt (zdC p) 8).2.2)
  rw [List.length_take,hp] at a1
  rw [List.length_drop,hp] at a2
  simp only [List.length_append,List.length_cons,List.length_nil]
  omega
end
end
end Go.Proofs.YtmjappnpedjlnaaGreatDoor
