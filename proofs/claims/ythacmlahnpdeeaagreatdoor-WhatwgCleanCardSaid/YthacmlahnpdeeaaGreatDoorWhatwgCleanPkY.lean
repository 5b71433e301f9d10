/-
  What the law WhatwgClean leans on, and its walk (24 of 31).
-/
import Derived.Deep.Slices
import Derived.Deep.Fields
import Derived.ChangeSame
import Derived.Test.YthacmlahnpdeeaaGreatDoorWhatwgCleanPkX
import Derived.Test.YthacmlahnpdeeaaGreatDoorWhatwgCleanPkW
namespace Go.Proofs.YthacmlahnpdeeaaGreatDoor
set_option maxRecDepth 100000
set_option maxHeartbeats 16000000
section
open Go.RowKit Go.ChangeShapes Go.WideShapes Go.Deep
/-- the slice holds these strings -/
def zuY (w:World) (a:Option Addr) (len _cap:Nat) (zs:List ByteArray):Prop:=
 zs.length=len∧ ∀(j:Nat) (x:ByteArray),zs[j]? =some x→(∃ad,a=some ad∧w.cell? (ad.add j)=some (.string x))∧x.size≤maxLen
theorem zuY.at {w wr:World} {a:Option Addr} {len cap:Nat} {zs:List ByteArray} (h:zuY w a len cap zs) (hb:Below w.heap.size w wr) {j:Nat} (hj:j<zs.length):
  ∃(ad:Addr) (_:a=some ad) (x:ByteArray),zs[j]? =some x∧wr.cell? (ad.add j)=some (.string x)∧x.size≤maxLen:=by
 obtain ⟨⟨ad,ha,c0⟩,w0⟩:=h.2 j zs[j] (List.getElem?_eq_getElem hj)
 exact ⟨ad,ha,zs[j],List.getElem?_eq_getElem hj,(hb.cell (World.block_lt_of_cell? w _ c0)).trans c0,w0⟩
theorem zuY.keep {w wr:World} {a:Option Addr} {len cap:Nat} {zs:List ByteArray} (h:zuY w a len cap zs) (hb:Below w.heap.size w wr):zuY wr a len cap zs:=
 ⟨h.1,fun j x hx=>by
  obtain ⟨⟨ad,ha,c0⟩,w0⟩:=h.2 j x hx
  exact ⟨⟨ad,ha,(hb.cell (World.block_lt_of_cell? w _ c0)).trans c0⟩,w0⟩⟩
/-- the slice holds these numbers -/
def zlC (w:World) (a:Option Addr) (len _cap:Nat) (zs:List Int):Prop:=
 zs.length=len∧ ∀(j:Nat) (x:Int),zs[j]? =some x→(∃ad,a=some ad∧w.cell? (ad.add j)=some (.int .i64 x))∧(-9223372036854775808≤x∧x≤9223372036854775807)
theorem zlC.at {w wr:World} {a:Option Addr} {len cap:Nat} {zs:List Int} (h:zlC w a len cap zs) (hb:Below w.heap.size w wr) {j:Nat} (hj:j<zs.length):
  ∃(ad:Addr) (_:a=some ad) (x:Int),zs[j]? =some x∧wr.cell? (ad.add j)=some (.int .i64 x)∧(-9223372036854775808≤x∧x≤9223372036854775807):=by
 obtain ⟨⟨ad,ha,c0⟩,w0⟩:=h.2 j zs[j] (List.getElem?_eq_getElem hj)
 exact ⟨ad,ha,zs[j],List.getElem?_eq_getElem hj,(hb.cell (World.block_lt_of_cell? w _ c0)).trans c0,w0⟩
theorem zlC.keep {w wr:World} {a:Option Addr} {len cap:Nat} {zs:List Int} (h:zlC w a len cap zs) (hb:Below w.heap.size w wr):zlC wr a len cap zs:=
 ⟨h.1,fun j x hx=>by
  obtain ⟨⟨ad,ha,c0⟩,w0⟩:=h.2 j x hx
  exact ⟨⟨ad,ha,(hb.cell (World.block_lt_of_cell? w _ c0)).trans c0⟩,w0⟩⟩
/-- a rule:a prefix (any numbers),and whether it is allowed -/
structure Ru where
 hi:Nat
 lo:Nat
 k:Int
 a:Bool
def Ru.cl (x:Ru):List Value:=[.int .u64 (x.hi:Nat),.int .u64 (x.lo:Nat),.int .i64 x.k,.bool x.a]
def Ru.Ok (x:Ru):Prop:=x.hi<18446744073709551616∧x.lo<18446744073709551616∧ -9223372036854775808≤x.k∧x.k≤9223372036854775807
/-- the slice holds these rules -/
def zmA (w:World) (a:Option Addr) (len _cap:Nat) (zs:List Ru):Prop:=
 zs.length=len∧ ∀(j:Nat) (x:Ru),zs[j]? =some x→(∃ad,a=some ad∧ ∀i,i<4→w.cell? (ad.add (j*4+i))=x.cl[i]?)∧x.Ok
theorem zmA.keep {w wr:World} {a:Option Addr} {len cap:Nat} {zs:List Ru} (h:zmA w a len cap zs) (hb:Below w.heap.size w wr):zmA wr a len cap zs:=
 ⟨h.1,fun j x hx=>by
  obtain ⟨⟨ad,ha,hc⟩,w0⟩:=h.2 j x hx
  refine ⟨⟨ad,ha,fun i hi=> ?_⟩,w0⟩
  rw [←hc i hi]
  have: ∃u,w.cell? (ad.add (j*4+i))=some u:=by
   rw [hc i hi]
   exact ⟨_,List.getElem?_eq_getElem (by simp [Ru.cl];omega)⟩
  obtain ⟨u,hu⟩:=this
  exact hb.cell (World.block_lt_of_cell? w _ hu)⟩
theorem zmA.at {wr:World} {a:Option Addr} {len cap:Nat} {zs:List Ru} (h:zmA wr a len cap zs) {j:Nat} (hj:j<zs.length):
  ∃(ad:Addr) (_:a=some ad) (x:Ru),zs[j]? =some x∧(wr.cell? (ad.add (j*4))=some (.int .u64 (x.hi:Nat))∧wr.cell? ⟨(ad.add (j*4)).block,(ad.add (j*4)).off+1,none⟩=some (.int .u64 (x.lo:Nat))∧wr.cell? ⟨(ad.add (j*4)).block,(ad.add (j*4)).off+2,none⟩=some (.int .i64 x.k)∧wr.cell? ⟨(ad.add (j*4)).block,(ad.add (j*4)).off+3,none⟩=some (.bool x.a))∧x.Ok:=by
 obtain ⟨⟨ad,ha,hc⟩,w0⟩:=h.2 j zs[j] (List.getElem?_eq_getElem hj)
 have s1:ad.add (j*4+1)=⟨(ad.add (j*4)).block,(ad.add (j*4)).off+1,none⟩:=by rw [←Go.Deep.add_add];rfl
 have s2:ad.add (j*4+2)=⟨(ad.add (j*4)).block,(ad.add (j*4)).off+2,none⟩:=by rw [←Go.Deep.add_add];rfl
 have s3:ad.add (j*4+3)=⟨(ad.add (j*4)).block,(ad.add (j*4)).off+3,none⟩:=by rw [←Go.Deep.add_add];rfl
 refine ⟨ad,ha,zs[j],List.getElem?_eq_getElem hj,⟨?_,?_,?_,?_⟩,w0⟩
 ·exact hc 0 (by omega)
 ·rw [←s1];exact hc 1 (by omega)
 ·rw [←s2];exact hc 2 (by omega)
 ·rw [←s3];exact hc 3 (by omega)
end

section
open Go.RowKit
def Ru.W (x:Ru):Nat:=zaH x.hi x.lo
def Ru.v (x:Ru):Int:=if x.a=true then 1 else 0
theorem Ru.W_lt {x:Ru} (h:x.Ok):x.W<2^128:=znH h.1 h.2.1
def zkG (rs:List Ru):Bool:=rs.all fun x=>zaM x.W x.k
def z0M (p:Int):Bool:=decide (1≤p∧p≤65535)
def zwG (ps:List Int):Bool:=ps.all z0M
/-- may a policy be? -/
def zgS (rs:List Ru) (ps:List Int):Int:=if 256<rs.length∨16<ps.length then 19 else if zkG rs=true then (if zwG ps=true then 0 else 8) else 2
theorem zrT {α:Type} {p:α→Bool} {l:List α} (h: ∀(i:Nat) (x:α),l[i]? =some x→p x=true):l.all p=true:=by
 rw [List.all_eq_true]
 intro x hx
 obtain ⟨i,hi,e⟩:=List.getElem_of_mem hx
 exact h i x (by rw [List.getElem?_eq_getElem hi,e])
theorem zoM {α:Type} {p:α→Bool} {l:List α} {i:Nat} {x:α} (hx:l[i]? =some x) (h:p x=false):l.all p=false:=by
 rw [List.all_eq_false]
 exact ⟨x,List.mem_of_getElem? hx,by rw [h];simp⟩
theorem z1S {α:Type} {p:α→Bool} {l:List α} (h:l.all p=true) {i:Nat} {x:α} (hx:l[i]? =some x):p x=true:=by
 rw [List.all_eq_true] at h
 exact h x (List.mem_of_getElem? hx)
theorem z6G {rs:List Ru} {ps:List Int} (h:zgS rs ps=0):rs.length≤256∧ps.length≤16∧zkG rs=true∧zwG ps=true:=by
 unfold zgS at h
 split at h
 ·cases h
 ·split at h
  ·split at h
   ·exact ⟨by omega,by omega,by assumption,by assumption⟩
   ·cases h
  ·cases h
/-- the tree,rule by rule -/
def zgL (rs:List Ru) (j:Nat) (t:PT):PT:=(rs.take j).foldl (fun t r=>t.put r.W r.k.toNat r.v) t
theorem ziV {rs:List Ru} {j:Nat} {t:PT} {x:Ru} (h:rs[j]? =some x):zgL rs (j+1) t=(zgL rs j t).put x.W x.k.toNat x.v:=by
 unfold zgL
 rw [List.take_add_one,h,List.foldl_append];rfl
theorem zkA {x:Ru} (h:zaM x.W x.k=true):x.k.toNat≤128∧rt x.W x.k.toNat∧(x.k.toNat:Int)=x.k:=by
 have hb:=zqW h
 have e:(x.k.toNat:Int)=x.k:=by omega
 rw [←e] at h
 exact ⟨(zcE.1 h).1,(zcE.1 h).2,e⟩
theorem zuU {rs:List Ru} {t:PT} (ho: ∀x∈rs,x.Ok) (hr:zkG rs=true) (h:t.Inv 0 0): ∀j,(zgL rs j t).Inv 0 0:=fun j=>by
 induction j with
 |zero=>exact h
 |succ j ih=>
  cases e:rs[j]? with
  |none=>unfold zgL at ih ⊢;rw [List.take_add_one,e];simpa using ih
  |some x=>
   rw [ziV e]
   obtain ⟨h1,h2,_⟩:=zkA (z1S hr e)
   exact PT.put_inv ih h1 h2 (zxE (Ru.W_lt (ho x (List.mem_of_getElem? e)))) (Nat.zero_le _)
theorem z5W {rs:List Ru} {t:PT} (ho: ∀x∈rs,x.Ok) (hr:zkG rs=true) (h:t.Inv 0 0) {j:Nat} {x:Ru} (e:rs[j]? =some x):(zgL rs (j+1) t).list=putL (zgL rs j t).list x.W x.k.toNat x.v:=by
 rw [ziV e]
 obtain ⟨h1,h2,_⟩:=zkA (z1S hr e)
 exact PT.put_list (zuU ho hr h j) h1 h2 (Ru.W_lt (ho x (List.mem_of_getElem? e)))
theorem zwY {rs:List Ru} {t:PT} (ho: ∀x∈rs,x.Ok) (hr:zkG rs=true) (h:t.Inv 0 0): ∀j,(zgL rs j t).list.length≤t.list.length+j:=fun j=>by
 induction j with
 |zero=>exact Nat.le_refl _
 |succ j ih=>
  cases e:rs[j]? with
  |none=>unfold zgL at ih ⊢;rw [List.take_add_one,e];simp at ih ⊢;omega
  |some x=>
   rw [z5W ho hr h e]
   have:=z7Z (PT.sorted (zuU ho hr h j)) x.W x.k.toNat x.v
   omega
noncomputable def zeQ (bare:Bool):PT:=if bare=true then .nil else lay9 0 .nil
theorem zqT (bare:Bool):(zeQ bare).Inv 0 0:=by
 unfold zeQ;split
 ·exact z7H
 ·exact yjF z7H
theorem zqO (bare:Bool):(zeQ bare).list.length≤27:=by
 unfold zeQ;split
 ·exact Nat.zero_le _
 ·rw [yhY];exact Nat.le_refl _
/-- a policy's tree -/
noncomputable def polZ (rs:List Ru) (bare:Bool):PT:=zgL rs rs.length (zeQ bare)
/-- the verdict of a wide number -/
def zjO (t:PT) (A:Nat):Bool:=match t.find A none with
 |none=>false
 |some y=>decide (y.v=1)
def innB (t:PT) (a:AZ):Bool:=(zeR a).all fun n=>zjO t (AZ.four n).wd
def zhR (t:PT) (a:AZ):Bool:=zjO t a.wd&&innB t a
end

section
open Go.RowKit
def neB (x:List UInt8):Bool:= !x.isEmpty
/-- what stands between blanks -/
def zhS (l:List UInt8):List (List UInt8):=(splitB (hasB [32]) l).filter neB
theorem ykJ (c:UInt8):hasB [32] c=decide (c=32):=by
 unfold hasB
 rw [Bool.eq_iff_iff,decide_eq_true_iff];simp only [List.any_cons,List.any_nil,Bool.or_false,beq_iff_eq]
 exact ⟨fun e=>e.symm,fun e=>e.symm⟩
theorem ylW (s:ByteArray) (p:Nat) (h:p<s.size):p+(Utf8.decode s p).2≤s.size:=by
 rw [zcQ]
 repeat' split
 all_goals simp only
 all_goals omega
theorem dec_sp (s:ByteArray) (p:Nat) (hr:(Utf8.decode s p).1=32):zbE s p=32∧(Utf8.decode s p).2=1:=by
 have hb:=ztG s p
 rw [zcQ] at hr ⊢
 repeat' split at hr
 all_goals simp only at hr
 all_goals first
  |(exfalso;omega)
  |(rename_i c;rw [if_pos c];exact ⟨hr,rfl⟩)
theorem dec_no (s:ByteArray) (p:Nat) (hr:(Utf8.decode s p).1≠32): ∀i,p≤i→i<p+(Utf8.decode s p).2→zbE s i≠32:=by
 by_cases c0:zbE s p<128
 ·rw [zcQ,if_pos c0] at hr ⊢
  intro i h1 h2
  simp only at hr h2
  obtain rfl:i=p:=by omega
  exact hr
 ·clear hr
  rw [zcQ,if_neg c0]
  intro i h1
  repeat' split
  all_goals simp only
  all_goals intro h2 h3
  all_goals
   have hi:i=p∨i=p+1∨i=p+2∨i=p+3:=by omega
   rcases hi with rfl|rfl|rfl|rfl
  all_goals omega
theorem ybU (s:ByteArray) (k:Nat) (h:k<s.size):hasB [32] s[k]=decide (zbE s k=32):=by
 rw [ykJ,zmZ s k h]
 rw [Bool.eq_iff_iff,decide_eq_true_iff,decide_eq_true_iff]
 constructor
 ·intro e;rw [e];rfl
 ·intro e;exact UInt8.toNat_inj.1 e
/-- a row of bytes that are no blanks -/
theorem ylG (s:ByteArray) (a k:Nat) (qs:List (List UInt8)) (ha:a≤k) (h:spl (hasB [32]) (s.data.toList.take k)=(qs,(s.data.toList.drop a).take (k - a))): ∀m,k+m≤s.size→(∀i,k≤i→i<k+m→zbE s i≠32)→spl (hasB [32]) (s.data.toList.take (k+m))=(qs,(s.data.toList.drop a).take (k+m - a)):=fun m=>by
 induction m with
 |zero=>intro _ _;exact h
 |succ m ih=>
  intro hm hn
  have h1:=ih (by omega) (fun i h1 h2=>hn i h1 (by omega))
  have hp:hasB [32] (s[k+m]'(by omega))=false:=by
   rw [ybU s (k+m) (by omega),decide_eq_false_iff_not]
   exact hn (k+m) (by omega) (by omega)
  have h2:=yiP (hasB [32]) s (k+m) (by omega) hp
  rw [h1] at h2
  rw [←Nat.add_assoc,h2,z1X s a (k+m) (by omega) (by omega)]
theorem zpM {qs:List (List UInt8)} {x:List UInt8} (h:x≠[]):(qs++[x]).filter neB=qs.filter neB++[x]:=by
 rw [List.filter_append]
 congr 1
 cases x with
 |nil=>exact absurd rfl h
 |cons c x=>rfl
theorem zlN {qs:List (List UInt8)}:(qs++[([]:List UInt8)]).filter neB=qs.filter neB:=by
 rw [List.filter_append]
 show qs.filter neB++[]=_
 rw [List.append_nil]
theorem z8E {s:ByteArray} {a k:Nat} (h:a<k) (hk:k≤s.size):(s.data.toList.drop a).take (k - a)≠[]:=fun e=>by
 have:=congrArg List.length e
 simp at this
 omega
theorem ymE:(Tryz.prog.info? 9).map (fun i=>(i.zero,i.size,i.bytes))=some (some (.string ⟨#[]⟩),1,16):=by kernel_rfl
theorem zbA.keepI {B:Nat} {w:World} {v:Value} {ps:List (List UInt8)} (h:zbA B w v ps) {k:Nat} (hk:k<B) (s:ByteArray) (p:Nat):zbA B (w.iterAt k s p) v ps:=zqI h hk s p
theorem zyL (s:ByteArray) (w:World) (hs:s.size≤1073741824):
  Calls Tryz.prog 235 #[.string s] w (ztL w.heap.size (zhS s.data.toList) w):=by
 obtain ⟨i0,hi,hz0,hz1,hz2⟩:=info_parts ymE
 go_enter Tryz.func235,Tryz.ntmps235
 go_wp2
 go_loopw [3,4] (fun v fr wr=> ∃(k a:Nat) (qs:List (List UInt8)),k≤s.size∧a≤k∧fr= .int .i64 a∧zbA (w.heap.size+1) wr v (qs.filter neB)∧(qs.filter neB).length≤k∧wr.heap[w.heap.size]? =some (.stringIter s k)∧Hid (spl (hasB [32]) (s.data.toList.take k)=(qs,(s.data.toList.drop a).take (k - a)))∧Below w.heap.size w wr∧w.heap.size+1≤wr.heap.size) (fun _ _ wr=>s.size - wr.iterPos w.heap.size)
 case atStart=>exact ⟨0,0,[],Nat.zero_le _,Nat.zero_le _,rfl,zbA.nil _ _,by simp,World.iter_heap w s 0,rfl,(Below.refl _ w).alloc (Nat.le_refl _) _,by simp [World.iter]⟩
 case round=>
  obtain ⟨k,a,qs,hk,ha,rfl,hown,hpl,hit,HS,hbw,hsz⟩:=hrel
  by_cases hp:k<s.size
  ·have hnx: ∀ty,(Instr.next (.pointer (some ⟨w.heap.size,0,none⟩)) true ty).run Tryz.prog wr=_:=fun ty=>Lib.run_next_any_at wr w.heap.size s k ty hit hp
   have hfit:=ylW s k hp
   have hwd:=zkU s k hp
   have hown2:=hown.keepI (by omega:w.heap.size<w.heap.size+1) s (k+(Utf8.decode s k).2)
   have hit2:=Lib.iterAt_heap wr w.heap.size s k (k+(Utf8.decode s k).2) hit
   have hbw2:=Lib.below_iterAt hbw (k:=w.heap.size) (Nat.le_refl _) s (k+(Utf8.decode s k).2)
   have hsz2:w.heap.size+1≤(wr.iterAt w.heap.size s (k+(Utf8.decode s k).2)).heap.size:=by rw [Lib.iterAt_size];exact hsz
   have HIP:Hid (wr.iterPos w.heap.size=k):=by show _=_;simp only [World.iterPos,hit]
   by_cases hr:(Utf8.decode s k).1=32
   ·obtain ⟨hb,h1⟩:=dec_sp s k hr
    have hsn:=ycI (hasB [32]) s k hp (by rw [ybU s k hp];exact decide_eq_true hb)
    rw [HS.out] at hsn
    have HSN:=Lib.hid hsn
    rw [h1] at hown2 hit2 hbw2 hsz2
    rw [h1,hr] at hnx
    clear hsn hb hr h1 hwd hfit hown hbw hsz hit
    generalize wr.iterAt w.heap.size s (k+1)=wi at*
    by_cases hak:a<k
    ·have hd:decide ((a:Int)<k)=true:=by simp;omega
     unfold zbA at hown2
     go_wp2_with (at_builtin;refine zaX _ rfl _ _ 25 rfl (w.heap.size+1) 9 i0 (.string ⟨#[]⟩) 16 Tryz.underlying25 hi hz0 hz1 hz2 rfl _ _ _ rfl hown2 (.string (s.extract a k)) rfl rfl (by omega) (by omega) hsz2 ?_;intro v' w1 hown' hk')
     have hit3:w1.heap[w.heap.size]? =some (.stringIter s (k+1)):=(hk'.block _ (by omega)).trans hit2
     go_roundw
     case rel=>
      refine ⟨k+1,k+1,qs++[(s.data.toList.drop a).take (k - a)],by omega,by omega,by go_num,?_,?_,hit3,?_,hbw2.trans (hk'.mono (by omega)),Nat.le_trans hsz2 hk'.size⟩
      ·rw [zpM (z8E hak (by omega))];exact zbA.snoc hown' (zgX s a k _ rfl)
      ·rw [zpM (z8E hak (by omega))];simp;omega
      ·show _=_
       rw [HSN.out,Nat.sub_self,List.take_zero]
     case measure=>
      rw [HIP.out]
      simp only [World.iterPos,hit3]
      omega
    ·obtain rfl:a=k:=by omega
     have hd:decide ((a:Int)<a)=false:=by simp
     have hsn:=HSN.out
     rw [Nat.sub_self,List.take_zero] at hsn
     have HSN2:=Lib.hid hsn
     clear hsn HSN
     go_wp2
     go_roundw
     case rel=>
      refine ⟨a+1,a+1,qs++[[]],by omega,by omega,by go_num,?_,?_,hit2,?_,hbw2,hsz2⟩
      ·rw [zlN];exact hown2
      ·rw [zlN];omega
      ·show _=_
       rw [HSN2.out,Nat.sub_self,List.take_zero]
     case measure=>
      rw [HIP.out]
      simp only [World.iterPos,hit2]
      omega
   ·have HSN:=Lib.hid (ylG s a k qs ha HS.out _ hfit (dec_no s k hr))
    have hr1:(((Utf8.decode s k).1:Int)==32)=false:=by rw [beq_eq_false_iff_ne];omega
    clear hown hbw hsz hit
    generalize (Utf8.decode s k).1=r at*
    generalize (Utf8.decode s k).2=m at*
    generalize wr.iterAt w.heap.size s (k+m)=wi at*
    go_wp2
    go_roundw
    case rel=>exact ⟨k+m,a,qs,by omega,by omega,rfl,hown2,by omega,hit2,HSN,hbw2,hsz2⟩
    case measure=>
     rw [HIP.out]
     simp only [World.iterPos,hit2]
     omega
  ·have hnx: ∀ty,(Instr.next (.pointer (some ⟨w.heap.size,0,none⟩)) true ty).run Tryz.prog wr=_:=fun ty=>Lib.run_next_end_at wr w.heap.size s k ty hit hp
   obtain rfl:k=s.size:=by omega
   have hfin:splitB (hasB [32]) s.data.toList=qs++[(s.data.toList.drop a).take (s.size - a)]:=by
    have:=HS.out
    rw [zeG s s.size hp] at this
    unfold splitB
    rw [this]
   have HF:=Lib.hid hfin
   clear hfin hit
   by_cases hak:a<s.size
   ·have hd:decide ((a:Int)<s.size)=true:=by simp;omega
    unfold zbA at hown
    go_wp2_with (at_builtin;refine zaX _ rfl _ _ 25 rfl (w.heap.size+1) 9 i0 (.string ⟨#[]⟩) 16 Tryz.underlying25 hi hz0 hz1 hz2 rfl _ _ _ rfl hown (.string (s.extract a s.size)) rfl rfl (by omega) (by omega) hsz ?_;intro v' w1 hown' hk')
    go_ret
    refine ⟨v',rfl,?_,hbw.trans (hk'.mono (by omega))⟩
    unfold zhS
    rw [HF.out,zpM (z8E hak (Nat.le_refl _))]
    exact zrY (zbA.snoc hown' (zgX s a s.size _ rfl)) (by omega)
   ·obtain rfl:a=s.size:=by omega
    have hd:decide ((s.size:Int)<s.size)=false:=by simp
    go_wp2
    go_ret
    refine ⟨_,rfl,?_,hbw⟩
    unfold zhS
    rw [HF.out,Nat.sub_self,List.take_zero,zlN]
    exact zrY hown (by omega)
end

section
open Go.RowKit
theorem z2H {rs:List Ru} {ps:List Int} (h:256<rs.length∨16<ps.length):zgS rs ps=19:=by unfold zgS;rw [if_pos h]
theorem yjN {rs:List Ru} {ps:List Int} (h1: ¬256<rs.length) (h2: ¬16<ps.length) {j:Nat} {x:Ru} (hx:rs[j]? =some x) (h:zaM x.W x.k=false):zgS rs ps=2:=by
 unfold zgS
 rw [if_neg (by omega),if_neg (by unfold zkG;rw [zoM hx h];simp)]
theorem z2B {rs:List Ru} {ps:List Int} (h1: ¬256<rs.length) (h2: ¬16<ps.length) (h3:zkG rs=true) {j:Nat} {x:Int} (hx:ps[j]? =some x) (h:z0M x=false):zgS rs ps=8:=by
 unfold zgS
 rw [if_neg (by omega),if_pos h3,if_neg (by unfold zwG;rw [zoM hx h];simp)]
theorem chk_ok {rs:List Ru} {ps:List Int} (h1: ¬256<rs.length) (h2: ¬16<ps.length) (h3:zkG rs=true) (h4:zwG ps=true):zgS rs ps=0:=by
 unfold zgS
 rw [if_neg (by omega),if_pos h3,if_pos h4]
theorem zyH (ra pa:Option Addr) (rc pc:Nat) (bare:Bool) (rs:List Ru) (ps:List Int) (w:World) (hr:zmA w ra rs.length rc rs) (hp:zlC w pa ps.length pc ps):
  Calls Tryz.prog 236 #[.agg #[.slice ra rs.length rc,.slice pa ps.length pc,.bool bare]] w fun e w'=>e= .returned (.int .i64 (zgS rs ps))∧Below w.heap.size w w':=by
 have HRO:=Lib.hid hr
 have HPO:=Lib.hid hp
 clear hr hp
 have HB0:=Lib.hid ((Blks.empty w).new #[.slice ra rs.length rc,.slice pa ps.length pc,.bool bare] 218)
 have HW0:Hid (Below w.heap.size w (w.alloc (.cells #[.slice ra rs.length rc,.slice pa ps.length pc,.bool bare] 218))):=(Below.refl _ _).alloc (Nat.le_refl _) _
 by_cases h1:256<rs.length
 ·have hd:decide (256<(rs.length:Int))=true:=by simp;omega
  rw [z2H (.inl h1)]
  go_enter Tryz.func236,Tryz.ntmps236
  go_wp2
  go_ret
  exact ⟨rfl,HW0.out⟩
 have hd:decide (256<(rs.length:Int))=false:=by simp;omega
 by_cases h2:16<ps.length
 ·have hd2:decide (16<(ps.length:Int))=true:=by simp;omega
  rw [z2H (.inr h2)]
  go_enter Tryz.func236,Tryz.ntmps236
  go_wp2
  go_ret
  exact ⟨rfl,HW0.out⟩
 have hd2:decide (16<(ps.length:Int))=false:=by simp;omega
 go_enter Tryz.func236,Tryz.ntmps236
 go_wp2
 generalize w.alloc (.cells #[.slice ra rs.length rc,.slice pa ps.length pc,.bool bare] 218)=x0 at*
 go_loopw [20] (fun i wr=> ∃j:Nat,j≤rs.length∧i= .int .i64 j∧Hid (Below x0.heap.size x0 wr)∧Hid (∀i y,i<j→rs[i]? =some y→zaM y.W y.k=true)) (fun i _=>rs.length - (intOf i).toNat)
 case atStart=>exact ⟨0,Nat.zero_le _,rfl,Below.refl _ _,fun i y hi=>absurd hi (Nat.not_lt_zero _)⟩
 case round=>
  obtain ⟨j,hj,rfl,hbw,hok⟩:=hrel
  have HWW:=Lib.hid (HW0.out.trans (hbw.out.mono HW0.out.size))
  by_cases hlt:j<rs.length
  ·obtain ⟨ad,rfl,x,hx,⟨c0,c1,c2,c3⟩,hx1,hx2,_⟩:=(HRO.out.keep HWW.out).at hlt
   have hjl:(j:Int)<rs.length:=by omega
   have HL:Hid (Below wr.heap.size wr (wr.alloc (.cells #[.int .u64 (x.hi:Nat),.int .u64 (x.lo:Nat),.int .i64 x.k,.bool x.a] 237))):=(Below.refl _ _).alloc (Nat.le_refl _) _
   have HC:Hid (∀W,Calls Tryz.prog 249 #[.agg #[.int .u64 (x.hi:Nat),.int .u64 (x.lo:Nat),.int .i64 x.k]] W fun e w'=>e= .returned (.bool (zaM x.W x.k))∧Below W.heap.size W w'):=fun W=>zcA x.hi x.lo x.k W hx1 hx2
   clear hx1 hx2
   go_wp2_with fail
   refine (HC.out _).mono ?_
   rintro e x2 ⟨rfl,hb2⟩
   have HB2:=Lib.hid (HL.out.trans (hb2.mono HL.out.size))
   clear hb2 HL HC c0 c1 c2 c3
   cases hp:zaM x.W x.k with
   |false=>
    go_wp2
    go_ret
    rw [yjN h1 h2 hx hp]
    exact ⟨rfl,HWW.out.trans (HB2.out.mono HWW.out.size)⟩
   |true=>
    have HOK:Hid (∀i y,i<j+1→rs[i]? =some y→zaM y.W y.k=true):=fun i y hi hy=>by
     by_cases c:i<j
     ·exact hok.out i y c hy
     ·rw [show i=j from by omega,hx] at hy
      exact Option.some.inj hy▸hp
    go_wp2
    go_roundw
    case rel=>exact ⟨j+1,by omega,by go_num,hbw.out.trans (HB2.out.mono hbw.out.size),HOK⟩
    case measure=>simp [intOf];omega
  ·have hj':j=rs.length:=by omega
   subst hj'
   have h3:zkG rs=true:=zrT (fun i y hy=>hok.out i y (List.getElem?_eq_some_iff.1 hy).1 hy)
   obtain ⟨lg,g0,g1,g2⟩:=(HB0.out.keep hbw.out).r3 (.head _)
   clear hok
   go_wp2
   go_loopw [32] (fun i wr2=> ∃k:Nat,k≤ps.length∧i= .int .i64 k∧wr2=wr∧Hid (∀i y,i<k→ps[i]? =some y→z0M y=true)) (fun i _=>ps.length - (intOf i).toNat)
   case atStart=>exact ⟨0,Nat.zero_le _,rfl,rfl,fun i y hi=>absurd hi (Nat.not_lt_zero _)⟩
   case round=>
    obtain ⟨k,hk,rfl,rfl,hokp⟩:=hrel
    by_cases hkt:k<ps.length
    ·obtain ⟨ad,rfl,n,hn,r0,_⟩:=HPO.out.at (wr:=wr) HWW.out hkt
     have hkl:(k:Int)<ps.length:=by omega
     cases hp:z0M n with
     |false=>
      by_cases hn1:n<1
      ·have hd3:decide (n<1)=true:=decide_eq_true hn1
       go_wp2
       go_ret
       rw [z2B h1 h2 h3 hn hp]
       exact ⟨rfl,HWW.out⟩
      ·have hd3:decide (n<1)=false:=decide_eq_false hn1
       have hd4:decide (65535<n)=true:=by
        unfold z0M at hp
        rw [decide_eq_false_iff_not] at hp
        exact decide_eq_true (by omega)
       go_wp2
       go_ret
       rw [z2B h1 h2 h3 hn hp]
       exact ⟨rfl,HWW.out⟩
     |true=>
      have hp':=hp
      unfold z0M at hp'
      rw [decide_eq_true_iff] at hp'
      have hd3:decide (n<1)=false:=decide_eq_false (by omega)
      have hd4:decide (65535<n)=false:=decide_eq_false (by omega)
      have HOK:Hid (∀i y,i<k+1→ps[i]? =some y→z0M y=true):=fun i y hi hy=>by
       by_cases c:i<k
       ·exact hokp.out i y c hy
       ·rw [show i=k from by omega,hn] at hy
        injection hy with hy
        rw [←hy];exact hp
      go_wp2
      go_roundw
      case rel=>exact ⟨k+1,by omega,by go_num,by trivial,HOK⟩
      case measure=>simp [intOf];omega
    ·have hk':k=ps.length:=by omega
     subst hk'
     have h4:zwG ps=true:=zrT (fun i y hy=>hokp.out i y (List.getElem?_eq_some_iff.1 hy).1 hy)
     go_wp2
     go_ret
     rw [chk_ok h1 h2 h3 h4]
     exact ⟨rfl,HWW.out⟩
end

end Go.Proofs.YthacmlahnpdeeaaGreatDoor
