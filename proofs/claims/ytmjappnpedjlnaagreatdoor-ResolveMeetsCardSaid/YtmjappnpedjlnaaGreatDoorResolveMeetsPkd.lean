/-
  What the law ResolveMeets leans on, and its walk (29 of 46).
-/
import Derived.Test.YtmjappnpedjlnaaGreatDoorResolveMeetsPkY
import Derived.Test.YtmjappnpedjlnaaGreatDoorResolveMeetsPkc
import Derived.Test.YtmjappnpedjlnaaGreatDoorResolveMeetsPkT
import Derived.Test.YtmjappnpedjlnaaGreatDoorResolveMeetsPkU
namespace Go.Proofs.YtmjappnpedjlnaaGreatDoor
set_option maxRecDepth 100000
set_option maxHeartbeats 16000000
abbrev ypS := @Lib.hid
abbrev ypT := @decide_eq_false
abbrev ypU := @decide_eq_true
section
open Go.RowKit
theorem mkf (fn:Fn) (first cap:Array Value) (w:World):(Instr.makeFunc fn first cap).run Tryz.prog w= .ok (.func fn first cap) w:=rfl
theorem zoG (of_:List UInt8) (w:World):
  Calls Tryz.prog 120 #[.string ⟨of_.toArray⟩] w fun e w'=>e= .returned (.func (.func 170) #[] #[.pointer (some ⟨w.heap.size,0,none⟩)])∧w'=w.alloc (.cells #[.string ⟨of_.toArray⟩] 9):=by
 have hmf:=mkf
 go_enter Tryz.func120,Tryz.ntmps120
 go_wp2
 go_ret
 exact ⟨rfl,rfl⟩
theorem zhV (of_:List UInt8) (h: ∀c∈of_,c.toNat<128) (M:Nat) (l:List UInt8) (w:World) (hm:MB w M l):
  Calls Tryz.prog 69 #[.pointer (some ⟨M,0,none⟩),.func (.func 170) #[] #[.pointer (some ⟨w.heap.size,0,none⟩)]] (w.alloc (.cells #[.string ⟨of_.toArray⟩] 9)) (RetU w [] M (l.take (l.findIdx (hasB of_))) (l.drop (l.findIdx (hasB of_)))):=by
 have hb:Below w.heap.size w (w.alloc (.cells #[.string ⟨of_.toArray⟩] 9)):=(Below.refl _ w).alloc (Nat.le_refl _) _
 have hblk:=heap_alloc_new w (.cells #[.string ⟨of_.toArray⟩] 9)
 have:=zkS (yfM h) [] (fun (_:Unit) _=>True) 170 #[.pointer (some ⟨w.heap.size,0,none⟩)] (enters_of Tryz.func170 (by kernel_rfl) rfl) M l () _ (hm.below hb) (by simp) (fun b hb=>by cases hb) trivial (fun _ _ _ _ _=>trivial) (ykY of_ h w.heap.size _ (by simp) (zaH hblk 0))
 rw [yjL] at this
 exact this.mono fun e w' ⟨h1,h2,h3⟩=>⟨h1,h2,(Only.of_below (F:=[M]) hb).trans h3 (fun x hx=> .inl hx)⟩
theorem zhF (M:Nat) (l:List UInt8) (w:World) (hm:MB w M l):
  Calls Tryz.prog 69 #[.pointer (some ⟨M,0,none⟩),.func (.func 70) #[] #[]] w (RetU w [] M (l.take (zbE l)) (zeO l)):=by
 have:=zkS z6Y [] (fun (_:Unit) _=>True) 70 #[] (enters_of Tryz.func70 (by kernel_rfl) rfl) M l () w hm (by simp) (fun b hb=>by cases hb) trivial (fun _ _ _ _ _=>trivial) (yfF w)
 rw [←zjV]
 exact this
theorem zwI (B:Nat): ∀(s:Bool) (W W':World),CapB B s W→(∀b∈[B],W'.heap[b]? =W.heap[b]?)→CapB B s W':=fun _ _ _ h k=>(k B (by simp)).trans h
theorem yeX {w:World} {M:Nat} {l:List UInt8} (hm:MB w M l):Below w.heap.size w (w.alloc (.cells #[.bool false] 4))∧CapB w.heap.size false (w.alloc (.cells #[.bool false] 4))∧MB (w.alloc (.cells #[.bool false] 4)) M l∧M∉[w.heap.size]:=
 have hb:Below w.heap.size w (w.alloc (.cells #[.bool false] 4)):=(Below.refl _ w).alloc (Nat.le_refl _) _
 ⟨hb,heap_alloc_new w _,hm.below hb,fun h=>by have:=zaM hm;simp at h;omega⟩
theorem zzW {w x y:World} {M:Nat} (hb:Below w.heap.size w x) (h:Only (M::[w.heap.size]) x y):Only [M] w y:=
 (Only.of_below (F:=[M]) hb).trans h (fun x hx=>by
  rcases List.mem_cons.1 hx with e|e
  ·exact .inl (by rw [e];exact List.mem_cons_self ..)
  ·rw [List.mem_singleton] at e;exact .inr (by omega))
def RetSch (w:World) (M:Nat) (o:Option (List UInt8×List UInt8)) (l:List UInt8) (e:Ending) (w':World):Prop:=
 e= .returned (.tuple #[.string ⟨((o.map Prod.fst).getD []).toArray⟩,.bool o.isSome])∧MB w' M ((o.map Prod.snd).getD l)∧Only [M] w w'
theorem zpT (M:Nat) (l:List UInt8) (w:World) (hl:l.length≤1073741824) (hm:MB w M l):
  Calls Tryz.prog 67 #[.pointer (some ⟨M,0,none⟩)] w (RetSch w M (schW l) l):=by
 have hmf:=mkf
 obtain ⟨hb,hcp,hm1,hMn⟩:=yeX hm
 have c0:=hm.cell
 have c1:=hm1.cell
 have HU:=ypS (zkS yhA [w.heap.size] (CapB w.heap.size) 116 #[.pointer (some ⟨w.heap.size,0,none⟩)] (enters_of Tryz.func116 (by kernel_rfl) rfl) M l false _ hm1 hMn (fun b hb=>by simp at hb;subst hb;simp) hcp (zwI _) (ylQ _ _))
 have HO:=ypS (fun y (h:Only (M::[w.heap.size]) (w.alloc (.cells #[.bool false] 4)) y)=>zzW hb h)
 have HF:=ypS (zvP l)
 have HNL:Hid (schN l≤l.length):=zsP schS l false
 rw [show zbY schS false l=schN l from rfl] at HU
 clear hm hm1 hcp hMn hb
 go_enter Tryz.func67,Tryz.ntmps67
 go_wp2_with fail
 refine HU.out.mono ?_
 rintro e x1 ⟨rfl,hm1,ho⟩
 have ho1:=HO.out _ ho
 clear ho HU HO
 obtain ⟨n,hn⟩: ∃n,schN l=n:=⟨_,rfl⟩
 rw [hn] at hm1 HF HNL
 rw [hn]
 by_cases h0:n=0
 ·subst h0
  rw [List.drop_zero] at hm1
  rw [List.take_zero]
  have d1:=hm1.cell
  have f1:=zaP hm1 0
  have HF2:Hid (schW l=none):=by show _=_;rw [HF.out,if_neg (fun g=>g.1 rfl)]
  have HE:Hid (MB (x1.setCell ⟨M,0,none⟩ (.string ⟨l.toArray⟩)) M l∧Only [M] w (x1.setCell ⟨M,0,none⟩ (.string ⟨l.toArray⟩))):=⟨hm1.set _,ho1.setCell (p:=⟨M,0,none⟩) (.inl (List.mem_cons_self ..)) _⟩
  clear hm1 ho1 hn
  go_wp2
  go_ret2
  rw [HF2.out]
  exact ⟨rfl,HE.out⟩
 ·have HK:=ypS (zhI M (l.drop n) [58] x1 hm1)
  have hne:(l.take n).isEmpty=false:=by
   rw [Bool.eq_false_iff]
   intro g
   have:=HNL.out
   have h2:(l.take n).length=0:=by rw [List.isEmpty_iff.1 g];rfl
   rw [List.length_take] at h2
   omega
  have hlt:(l.take n).length≤1073741824:=by rw [List.length_take];omega
  have HLW:=ypS (fun W=>zmV ⟨(l.take n).toArray⟩ W (by rw [zaB];exact hlt))
  rw [zaL] at HLW
  have hd:hd1 [58] (l.drop n)=decide (l[n]? =some 58):=by
   cases e:l[n]? with
   |none=>rw [List.drop_eq_nil_of_le (by simpa using e)];rfl
   |some c=>
    obtain ⟨h1,h2⟩:=List.getElem?_eq_some_iff.1 e
    rw [List.drop_eq_getElem_cons h1,h2]
    show hasB [58] c=_
    by_cases g:c=58
    ·subst g;rfl
    ·rw [ypT (by simpa using g)]
     simp [hasB,Ne.symm g]
  rw [hd] at HK
  clear hd
  generalize hq:l.take n=q at*
  by_cases h58:l[n]? =some 58
  ·have HF2:Hid (schW l=some (zaI q,l.drop (n+1))):=by show _=_;rw [HF.out,if_pos ⟨h0,h58⟩]
   rw [ypU h58,if_pos rfl,List.drop_drop] at HK
   clear h58 HF hq h0 hn
   go_wp2_with fail
   refine HK.out.mono ?_
   rintro e x2 ⟨rfl,hm2,ho2⟩
   have HO2:=ypS (ho1.trans ho2 (fun x hx=> .inl hx))
   have HM2:=ypS hm2
   clear HK ho1 ho2 hm1 hm2
   go_wp2_with fail
   refine (HLW.out _).mono ?_
   rintro e x3 ⟨rfl,hb3⟩
   go_wp2
   go_ret2
   rw [HF2.out]
   exact ⟨rfl,HM2.out.below hb3,HO2.out.then_below hb3⟩
  ·have HF2:Hid (schW l=none):=by show _=_;rw [HF.out,if_neg (fun g=>h58 g.2)]
   rw [ypT h58,if_neg (by decide)] at HK
   clear h58 HF hq h0 hn
   go_wp2_with fail
   refine HK.out.mono ?_
   rintro e x2 ⟨rfl,hm2,ho2⟩
   have d1:=hm2.cell
   have f1:=zaP hm2 0
   have HE:Hid (MB (x2.setCell ⟨M,0,none⟩ (.string ⟨l.toArray⟩)) M l∧Only [M] w (x2.setCell ⟨M,0,none⟩ (.string ⟨l.toArray⟩))):=⟨hm2.set _,(ho1.trans ho2 (fun x hx=> .inl hx)).setCell (p:=⟨M,0,none⟩) (.inl (List.mem_cons_self ..)) _⟩
   clear HK ho1 ho2 hm1 hm2 HLW
   go_wp2
   go_ret2
   rw [HF2.out]
   exact ⟨rfl,HE.out⟩
theorem z9B (M:Nat) (l:List UInt8) (w:World) (hm:MB w M l):
  Calls Tryz.prog 167 #[.pointer (some ⟨M,0,none⟩)] w (RetU w [] M (hpW false l).1 (l.drop (zbY zhP false l))):=by
 have hmf:=mkf
 obtain ⟨hb,hcp,hm1,hMn⟩:=yeX hm
 have HU:=ypS (zkS z7H [w.heap.size] (CapB w.heap.size) 206 #[.pointer (some ⟨w.heap.size,0,none⟩)] (enters_of Tryz.func206 (by kernel_rfl) rfl) M l false _ hm1 hMn (fun b hb=>by simp at hb;subst hb;simp) hcp (zwI _) (yhE _ _))
 have HO:=ypS (fun y (h:Only (M::[w.heap.size]) (w.alloc (.cells #[.bool false] 4)) y)=>zzW hb h)
 rw [(zgL l false).1] at HU
 clear hm hm1 hcp hMn hb
 go_enter Tryz.func167,Tryz.ntmps167
 go_wp2_with fail
 refine HU.out.mono ?_
 rintro e x1 ⟨rfl,hm1,ho⟩
 have HOO:=ypS (HO.out _ ho)
 have HMM:=ypS hm1
 clear ho hm1 HU HO
 go_wp2
 go_ret
 exact ⟨rfl,HMM.out,HOO.out⟩
theorem zfK (s:List UInt8) (w:World):Calls Tryz.prog 68 #[.string ⟨s.toArray⟩] w fun e w'=>e= .returned (.int .i64 (ownZ s))∧w=w':=by
 by_cases h1:s=zjL
 ·subst h1
  go_enter Tryz.func68,Tryz.ntmps68
  go_wp2
  go_ret
  exact ⟨rfl,rfl⟩
 ·by_cases h2:s=zfH
  ·subst h2
   go_enter Tryz.func68,Tryz.ntmps68
   go_wp2
   go_ret
   exact ⟨rfl,rfl⟩
  ·have HF:Hid (ownZ s=0):=by show _=_;unfold ownZ;rw [if_neg h1,if_neg h2]
   have e1:(s==[104,116,116,112])=false:=by rw [beq_eq_false_iff_ne];exact h1
   have e2:(s==[104,116,116,112,115])=false:=by rw [beq_eq_false_iff_ne];exact h2
   clear h1 h2
   go_enter Tryz.func68,Tryz.ntmps68
   go_wp2
   go_ret
   exact ⟨by rw [HF.out];rfl,rfl⟩
theorem zoU (s:ByteArray) (k:Nat) (h:k<s.size) (hc: ¬s[k].toNat<128):128≤(Utf8.decode s k).1:=(decode_high s k h (by omega)).1
theorem z5I {name l:List UInt8} (h:digP 0 l=none):zhJ name l=(0,false):=by unfold zhJ;rw [h]
theorem ydT {name l:List UInt8} {n:Int} (h:digP 0 l=some n) (hn:65535<n):zhJ name l=(0,false):=by unfold zhJ;rw [h];exact if_pos hn
theorem ydD {name l:List UInt8} {n:Int} (h:digP 0 l=some n) (hn: ¬65535<n) (ho:l=[]∨n=ownZ name):zhJ name l=(-1,true):=by unfold zhJ;rw [h];exact (if_neg hn).trans (if_pos ho)
theorem ymI {name l:List UInt8} {n:Int} (h:digP 0 l=some n) (hn: ¬65535<n) (ho: ¬(l=[]∨n=ownZ name)):zhJ name l=(n,true):=by unfold zhJ;rw [h];exact (if_neg hn).trans (if_neg ho)
theorem ymP {c:Nat} (h:zbC (c:Int)=true):valZ (c:Int)=(c:Int) - 48∧48≤c∧c≤57:=by
 have h48:48≤(c:Int)∧(c:Int)≤57:=by simpa [zbC] using h
 refine ⟨?_,by omega,by omega⟩
 unfold valZ
 (repeat' split)<;>omega
theorem zxB (name l:List UInt8) (w:World):
  Calls Tryz.prog 168 #[.string ⟨l.toArray⟩,.string ⟨name.toArray⟩] w fun e w'=>e= .returned (.tuple #[.int .i64 (zhJ name l).1,.bool (zhJ name l).2])∧Below w.heap.size w w':=by
 have hz:(ByteArray.mk l.toArray).size=l.length:=by simp [ByteArray.size]
 have HP1:=ypS (z5I (name:=name) (l:=l))
 have HP2:=ypS (fun n=>ydT (name:=name) (l:=l) (n:=n))
 have HP3:=ypS (fun n=>ydD (name:=name) (l:=l) (n:=n))
 have HP4:=ypS (fun n=>ymI (name:=name) (l:=l) (n:=n))
 have HOW:=ypS (fun W=>zfK name W)
 obtain ⟨res,hres⟩: ∃r,zhJ name l=r:=⟨_,rfl⟩
 rw [hres] at HP1 HP2 HP3 HP4 ⊢
 clear hres
 generalize ownZ name=own at*
 go_enter Tryz.func168,Tryz.ntmps168
 go_wp2
 go_loopg [6] l.length (fun gf o wx=> ∃(pos:Nat) (n:Int),o= .int .i64 n∧0≤n∧n≤65536∧wx.heap[w.heap.size]? =some (.stringIter ⟨l.toArray⟩ pos)∧Below w.heap.size w wx∧pos≤l.length∧Hid (digP 0 l=digP n (l.drop pos))∧l.length≤pos+gf)
 case atStart=>exact ⟨0,0,rfl,by omega,by omega,World.iter_heap w _ 0,(Below.refl _ w).alloc (Nat.le_refl _) _,Nat.zero_le _,rfl,by omega⟩
 case round=>
  obtain ⟨pos,n,rfl,hn0,hn1,hit,hbw,hpl,HS,hgf⟩:=hrel
  by_cases hps:pos<l.length
  ·obtain ⟨g',rfl⟩: ∃g',gk=g'+1:=⟨gk - 1,by omega⟩
   have hps':pos<(ByteArray.mk l.toArray).size:=by rw [hz];exact hps
   have hnx: ∀ty,(Instr.next (.pointer (some ⟨w.heap.size,0,none⟩)) true ty).run Tryz.prog wr=_:=fun ty=>Lib.run_next_any_at wr w.heap.size _ pos ty hit hps'
   have hdr:l.drop pos=l[pos]::l.drop (pos+1):=List.drop_eq_getElem_cons hps
   have hba:(ByteArray.mk l.toArray)[pos]=l[pos]:=rfl
   by_cases hlow:(ByteArray.mk l.toArray)[pos].toNat<128
   ·rw [decode_ascii _ pos hps' hlow,hba] at hnx
    rw [hba] at hlow
    have hit2:=Lib.iterAt_heap wr w.heap.size _ pos (pos+1) hit
    have hbw2:=Lib.below_iterAt hbw (k:=w.heap.size) (Nat.le_refl _) ⟨l.toArray⟩ (pos+1)
    simp only at hnx
    generalize wr.iterAt w.heap.size ⟨l.toArray⟩ (pos+1)=wi at*
    obtain ⟨c,hc⟩: ∃c,l[pos]=c:=⟨_,rfl⟩
    rw [hc] at hnx hlow hdr
    have HSS:Hid (digP 0 l=if zbC c.toNat=true then digP (min (10*n+((c.toNat:Int) - 48)) 65536) (l.drop (pos+1)) else none):=by show _=_;rw [HS.out,hdr,digP]
    have hvd:=ymP (c:=c.toNat)
    clear hc hdr hba hit hbw hps'
    generalize c.toNat=cn at*
    have HD:=ypS (fun W=>zbZ (cn:Int) W)
    have HV:=ypS (fun W=>zbW (cn:Int) W)
    cases hd:zbC (cn:Int) with
    |false=>
     rw [hd] at HD HSS
     have HF:=ypS (HP1.out HSS.out)
     go_wp2_with fail
     refine (HD.out _).mono ?_
     rintro e w' ⟨rfl,rfl⟩
     go_wp2
     go_ret2
     exact ⟨by rw [HF.out];rfl,hbw2⟩
    |true=>
     rw [hd] at HD HSS
     obtain ⟨v1,v2,v3⟩:=hvd hd
     rw [v1] at HV
     have HF:Hid (digP 0 l=digP (min (10*n+((cn:Int) - 48)) 65536) (l.drop (pos+1))):=HSS.out.trans (if_pos rfl)
     clear HSS hd v1 hvd
     by_cases hbig:65536<10*n+((cn:Int) - 48)
     ·have hm:min (10*n+((cn:Int) - 48)) 65536=65536:=by omega
      rw [hm] at HF
      go_wp2_with (first|(go_at_call 100;refine (HD.out _).mono ?_;rintro e w' ⟨rfl,rfl⟩)|(go_at_call 129;refine (HV.out _).mono ?_;rintro e w' ⟨rfl,rfl⟩))
      go_roundg g'
      case measure=>omega
      case rel=>exact ⟨pos+1,65536,rfl,by omega,by omega,hit2,hbw2,by omega,HF.out,by omega⟩
     ·have hm:min (10*n+((cn:Int) - 48)) 65536=10*n+((cn:Int) - 48):=by omega
      rw [hm] at HF
      go_wp2_with (first|(go_at_call 100;refine (HD.out _).mono ?_;rintro e w' ⟨rfl,rfl⟩)|(go_at_call 129;refine (HV.out _).mono ?_;rintro e w' ⟨rfl,rfl⟩))
      go_roundg g'
      case measure=>omega
      case rel=>exact ⟨pos+1,10*n+((cn:Int) - 48),rfl,by omega,by omega,hit2,hbw2,by omega,HF.out,by omega⟩
   ·have hhi:=zoU _ pos hps' hlow
    have hdg:zbC (l[pos].toNat:Int)=false:=ypT (by rw [hba] at hlow;omega)
    have HF:=ypS (HP1.out (by rw [HS.out,hdr,digP,if_neg (by rw [hdg];decide)]))
    obtain ⟨R,hR⟩: ∃R,(Utf8.decode ⟨l.toArray⟩ pos).1=R:=⟨_,rfl⟩
    rw [hR] at hhi hnx
    have hbw2:=Lib.below_iterAt hbw (k:=w.heap.size) (Nat.le_refl _) ⟨l.toArray⟩ (pos+(Utf8.decode ⟨l.toArray⟩ pos).2)
    generalize wr.iterAt w.heap.size ⟨l.toArray⟩ (pos+(Utf8.decode ⟨l.toArray⟩ pos).2)=wi at*
    have HD:=ypS (fun W=>zbZ (R:Int) W)
    rw [show zbC (R:Int)=false from ypT (by omega)] at HD
    clear hR hdg hdr hba hlow
    go_wp2_with fail
    refine (HD.out _).mono ?_
    rintro e w' ⟨rfl,rfl⟩
    go_wp2
    go_ret2
    exact ⟨by rw [HF.out];rfl,hbw2⟩
  ·have hps': ¬pos<(ByteArray.mk l.toArray).size:=by rw [hz];exact hps
   have hnx: ∀ty,(Instr.next (.pointer (some ⟨w.heap.size,0,none⟩)) true ty).run Tryz.prog wr=_:=fun ty=>Lib.run_next_end_at wr w.heap.size _ pos ty hit hps'
   have HE:Hid (digP 0 l=some n):=by show _=_;rw [HS.out,List.drop_eq_nil_of_le (by omega)];rfl
   by_cases hbig:65535<n
   ·have HF:=ypS (HP2.out n HE.out hbig)
    have hd:decide (65535<n)=true:=ypU hbig
    go_wp2
    go_ret2
    exact ⟨by rw [HF.out];rfl,hbw⟩
   ·have hd:decide (65535<n)=false:=ypT hbig
    have HQ3:=ypS (HP3.out n HE.out (by omega))
    have HQ4:=ypS (HP4.out n HE.out (by omega))
    cases hq:l with
    |nil=>
     have HF:=ypS (HQ3.out (.inl hq))
     subst hq
     go_wp2
     go_ret2
     exact ⟨by rw [HF.out];rfl,hbw⟩
    |cons c r=>
     have hqe:l.isEmpty=false:=by rw [hq];rfl
     have hl0:l≠[]:=by rw [hq];simp
     rw [←hq]
     clear hq
     by_cases ho:n=own
     ·have HF:=ypS (HQ3.out (.inr ho))
      subst ho
      go_wp2_with fail
      refine (HOW.out _).mono ?_
      rintro e w' ⟨rfl,rfl⟩
      go_wp2
      go_ret2
      exact ⟨by rw [HF.out];rfl,hbw⟩
     ·have HF:=ypS (HQ4.out (by rintro (g|g);exact hl0 g;exact ho g))
      have hno:(n==own)=false:=beq_eq_false_iff_ne.2 ho
      go_wp2_with fail
      refine (HOW.out _).mono ?_
      rintro e w' ⟨rfl,rfl⟩
      go_wp2
      go_ret2
      exact ⟨by rw [HF.out];rfl,hbw⟩
def UZ.cells (u:UZ) (pv:Value):Array Value:= #[.string ⟨u.scheme.toArray⟩,.string ⟨u.user.toArray⟩,.string ⟨u.pass.toArray⟩,u.host.val,.int .i64 u.port,pv,.string ⟨u.query.toArray⟩,.bool u.hasQ,.string ⟨u.frag.toArray⟩,.bool u.hasF]
def UB (w:World) (U:Nat) (u:UZ) (pv:Value):Prop:=w.heap[U]? =some (.cells (u.cells pv) 47)
theorem UB.only {w w':World} {F:List Nat} {U:Nat} {u:UZ} {pv:Value} (h:UB w U u pv) (ho:Only F w w') (hU:U∉F):UB w' U u pv:=(ho.block U (zaM h) hU).trans h
theorem UB.below {w w':World} {U:Nat} {u:UZ} {pv:Value} (h:UB w U u pv) (hb:Below w.heap.size w w'):UB w' U u pv:=(hb.block U (zaM h)).trans h
theorem UB.qry {w:World} {U:Nat} {u:UZ} {pv:Value} (h:UB w U u pv) (q:List UInt8):UB ((w.setCell ⟨U,6,none⟩ (.string ⟨q.toArray⟩)).setCell ⟨U,7,none⟩ (.bool true)) U {u with query:=q,hasQ:=true} pv:=zaJ (zaJ h 6 _) 7 _
theorem UB.frg {w:World} {U:Nat} {u:UZ} {pv:Value} (h:UB w U u pv) (q:List UInt8):UB ((w.setCell ⟨U,8,none⟩ (.string ⟨q.toArray⟩)).setCell ⟨U,9,none⟩ (.bool true)) U {u with frag:=q,hasF:=true} pv:=zaJ (zaJ h 8 _) 9 _
theorem UB.ne {w:World} {U M:Nat} {u:UZ} {pv:Value} {l:List UInt8} (h:UB w U u pv) (hm:MB w M l):U≠M:=fun e=>by
 subst e
 unfold UB at h
 rw [hm] at h
 injection h with h
 injection h with _ h
 revert h
 decide
theorem MB.set2 {w:World} {M U:Nat} {l:List UInt8} (h:MB w M l) (hne:U≠M) (i j:Nat) (a b:Value):MB ((w.setCell ⟨U,i,none⟩ a).setCell ⟨U,j,none⟩ b) M l:=by
 unfold MB
 rw [zbV hne.symm,zbV hne.symm]
 exact h
theorem zoO {w x:World} {M U:Nat} (h:Only [M,U] w x) (i j:Nat) (a b:Value):Only [M,U] w ((x.setCell ⟨U,i,none⟩ a).setCell ⟨U,j,none⟩ b):=
 (h.setCell (p:=⟨U,i,none⟩) (.inl (by simp)) _).setCell (p:=⟨U,j,none⟩) (.inl (by simp)) _
theorem znG {w x y:World} {M U:Nat} (h:Only [M,U] w x) (k:Only [M] x y):Only [M,U] w y:=h.trans k (fun z hz=> .inl (by rw [List.mem_singleton.1 hz];simp))
theorem UB.st6 {w:World} {U:Nat} {u:UZ} {pv:Value} (h:UB w U u pv) (a:Value):(w.cell? ⟨U,6,none⟩=some (.string ⟨u.query.toArray⟩)∧w.frozen? ⟨U,6,none⟩=false)∧(w.setCell ⟨U,6,none⟩ a).cell? ⟨U,7,none⟩=some (.bool u.hasQ)∧(w.setCell ⟨U,6,none⟩ a).frozen? ⟨U,7,none⟩=false:=⟨⟨zaH h 6,zaP h 6⟩,zaH (zaJ h 6 a) 7,zaP (zaJ h 6 a) 7⟩
theorem UB.st8 {w:World} {U:Nat} {u:UZ} {pv:Value} (h:UB w U u pv) (a:Value):(w.cell? ⟨U,8,none⟩=some (.string ⟨u.frag.toArray⟩)∧w.frozen? ⟨U,8,none⟩=false)∧(w.setCell ⟨U,8,none⟩ a).cell? ⟨U,9,none⟩=some (.bool u.hasF)∧(w.setCell ⟨U,8,none⟩ a).frozen? ⟨U,9,none⟩=false:=⟨⟨zaH h 8,zaP h 8⟩,zaH (zaJ h 8 a) 9,zaP (zaJ h 8 a) 9⟩
theorem znZ (c:UInt8) (l:List UInt8):hd1 [c] l=decide (l.head? =some c):=by
 match l with
 |[]=>rfl
 |d::r=>
  show hasB [c] d=_
  by_cases g:d=c
  ·subst g;simp [hasB]
  ·rw [ypT (by simpa using g)]
   simp [hasB,Ne.symm g]
theorem zgG (st:Int) (l:List UInt8) (w:World) (h0:0≤st) (hl:l.length≤67108864):Calls Tryz.prog 169 #[.int .u8 st,.string ⟨l.toArray⟩] w fun e w'=>e= .returned (.string ⟨(encW st l).toArray⟩)∧Below w.heap.size w w':=
 z5N st ⟨l.toArray⟩ w h0 (by rw [zaB];exact hl)
theorem ybN (M U:Nat) (l:List UInt8) (u:UZ) (pv:Value) (w:World) (hl:l.length≤67108864) (hm:MB w M l) (hu:UB w U u pv) (h63:l.head? ≠some 63):
  Calls Tryz.prog 122 #[.pointer (some ⟨M,0,none⟩),.pointer (some ⟨U,0,none⟩)] w fun e w'=>e= .returned (.tuple #[])∧UB w' U (finC u l) pv∧Only [M,U] w w':=by
 have HNE:=ypS (hu.ne hm)
 have HUW:=ypS hu
 have HK:=ypS (zhI M l [63] w hm)
 rw [znZ,ypT h63,if_neg (by decide)] at HK
 have HF:Hid (finC u l=if l.head? =some 35 then {u with frag:=encW 1 (l.drop 1),hasF:=true} else u):=if_neg h63
 clear hm hu h63
 go_enter Tryz.func122,Tryz.ntmps122
 go_wp2_with fail
 refine HK.out.mono ?_
 rintro e x1 ⟨rfl,hm1,ho1⟩
 have HUX:=ypS (HUW.out.only ho1 (by simp [HNE.out]))
 have HOX:=ypS (ho1.mono (G:=[M,U]) (fun x hx=>by rw [List.mem_singleton.1 hx];simp))
 have HK2:=ypS (zhI M l [35] x1 hm1)
 rw [znZ] at HK2
 clear HK ho1 hm1
 by_cases h35:l.head? =some 35
 ·rw [ypU h35,if_pos rfl] at HK2
  have HF2:=HF.out.trans (if_pos h35)
  clear HF
  have HF:=ypS HF2
  have hll:(l.drop 1).length≤l.length:=by rw [List.length_drop];omega
  generalize l.drop 1=m at*
  clear h35 HF2
  go_wp2_with fail
  refine (HK2.out).mono ?_
  rintro e xa ⟨rfl,hma,hoa⟩
  have HUA:=ypS (HUX.out.only hoa (by simp [HNE.out]))
  have HOA:=ypS (znG HOX.out hoa)
  have ca:=hma.cell
  have HMA:=ypS hma
  clear hma hoa
  have HEN:=ypS (fun W=>zgG 1 m W (by decide) (by omega))
  go_wp2_with fail
  refine (HEN.out _).mono ?_
  rintro e xb ⟨rfl,hbb⟩
  have HUB:=ypS (HUA.out.below hbb)
  have HOB:=ypS (HOA.out.then_below hbb)
  obtain ⟨⟨e8,f8⟩,e9,f9⟩:=HUB.out.st8 (.string ⟨(encW 1 m).toArray⟩)
  have HFR:=ypS (HUB.out.frg (encW 1 m))
  have HON:=ypS (zoO HOB.out 8 9 (.string ⟨(encW 1 m).toArray⟩) (.bool true))
  clear HEN hbb
  go_wp2
  go_end0
  exact ⟨rfl,by rw [HF.out];exact HFR.out,HON.out⟩
 ·rw [ypT h35,if_neg (by decide)] at HK2
  have HF2:=HF.out.trans (if_neg h35)
  clear HF
  have HF:=ypS HF2
  clear h35 HF2
  go_wp2_with fail
  refine (HK2.out).mono ?_
  rintro e xa ⟨rfl,hma,hoa⟩
  have HUA:=ypS (HUX.out.only hoa (by simp [HNE.out]))
  have HOA:=ypS (znG HOX.out hoa)
  clear hma hoa
  go_wp2
  go_end0
  exact ⟨rfl,by rw [HF.out];exact HUA.out,HOA.out⟩
theorem z4H (M U:Nat) (l:List UInt8) (u:UZ) (pv:Value) (w:World) (hl:l.length≤67108864) (hm:MB w M l) (hu:UB w U u pv) (h63:l.head? =some 63):
  Calls Tryz.prog 122 #[.pointer (some ⟨M,0,none⟩),.pointer (some ⟨U,0,none⟩)] w fun e w'=>e= .returned (.tuple #[])∧UB w' U (finC u l) pv∧Only [M,U] w w':=by
 have HNE:=ypS (hu.ne hm)
 have HUW:=ypS hu
 have HK:=ypS (zhI M l [63] w hm)
 rw [znZ,ypU h63,if_pos rfl] at HK
 have HF0:Hid (finC u l=_):=if_pos h63
 have hll:(l.drop 1).length≤l.length:=by rw [List.length_drop];omega
 clear hm hu h63
 generalize l.drop 1=r at*
 have ht1:(r.take (r.findIdx (hasB [35]))).length≤r.length:=by rw [List.length_take];omega
 have ht2:(r.drop (r.findIdx (hasB [35]))).length≤r.length:=by rw [List.length_drop];omega
 have HU1:=ypS (fun W (h:MB W M r)=>zhV [35] (by decide) M r W h)
 have HEQ:=ypS (fun W=>zgG 3 (r.take (r.findIdx (hasB [35]))) W (by decide) (by omega))
 generalize r.take (r.findIdx (hasB [35]))=qt at*
 generalize r.drop (r.findIdx (hasB [35]))=l1 at*
 go_enter Tryz.func122,Tryz.ntmps122
 go_wp2_with fail
 refine HK.out.mono ?_
 rintro e x1 ⟨rfl,hm1,ho1⟩
 have HUA:=ypS (HUW.out.only ho1 (by simp [HNE.out]))
 have HOA:=ypS (ho1.mono (G:=[M,U]) (fun x hx=>by rw [List.mem_singleton.1 hx];simp))
 have HU2:=ypS (HU1.out _ hm1)
 clear HK ho1 hm1 HU1
 go_wp2_with fail
 refine (zoG [35] _).mono ?_
 rintro e x2 ⟨rfl,rfl⟩
 go_wp2_with fail
 refine HU2.out.mono ?_
 rintro e x3 ⟨rfl,hm3,ho3⟩
 have HUC:=ypS (HUA.out.only ho3 (by simp [HNE.out]))
 have HOC:=ypS (znG HOA.out ho3)
 have HMC:=ypS hm3
 clear HU2 hm3 ho3 HUA HOA
 go_wp2_with fail
 refine (HEQ.out _).mono ?_
 rintro e x4 ⟨rfl,hb4⟩
 have HUD:=ypS (HUC.out.below hb4)
 have HOD:=ypS (HOC.out.then_below hb4)
 have HMD:=ypS (HMC.out.below hb4)
 clear HUC HOC HMC hb4 HEQ
 obtain ⟨⟨e6,f6⟩,e7,f7⟩:=HUD.out.st6 (.string ⟨(encW 3 qt).toArray⟩)
 have HUX:=ypS (HUD.out.qry (encW 3 qt))
 have HOX:=ypS (zoO HOD.out 6 7 (.string ⟨(encW 3 qt).toArray⟩) (.bool true))
 have HMX:=ypS (HMD.out.set2 HNE.out 6 7 (.string ⟨(encW 3 qt).toArray⟩) (.bool true))
 clear HUD HOD HMD
 have HK2:=ypS (zhI M l1 [35] _ HMX.out)
 rw [znZ] at HK2
 by_cases h35:l1.head? =some 35
 ·rw [ypU h35,if_pos rfl] at HK2
  have HF2:=HF0.out.trans (if_pos h35)
  have HF:=ypS HF2
  have hll2:(l1.drop 1).length≤l1.length:=by rw [List.length_drop];omega
  generalize l1.drop 1=m at*
  clear h35 HF2 HF0 HMX
  go_wp2_with fail
  refine (HK2.out).mono ?_
  rintro e xa ⟨rfl,hma,hoa⟩
  have HUA:=ypS (HUX.out.only hoa (by simp [HNE.out]))
  have HOA:=ypS (znG HOX.out hoa)
  have ca:=hma.cell
  have HMA:=ypS hma
  clear hma hoa
  have HEN:=ypS (fun W=>zgG 1 m W (by decide) (by omega))
  go_wp2_with fail
  refine (HEN.out _).mono ?_
  rintro e xb ⟨rfl,hbb⟩
  have HUB:=ypS (HUA.out.below hbb)
  have HOB:=ypS (HOA.out.then_below hbb)
  obtain ⟨⟨e8,f8⟩,e9,f9⟩:=HUB.out.st8 (.string ⟨(encW 1 m).toArray⟩)
  have HFR:=ypS (HUB.out.frg (encW 1 m))
  have HON:=ypS (zoO HOB.out 8 9 (.string ⟨(encW 1 m).toArray⟩) (.bool true))
  clear HEN hbb
  go_wp2
  go_end0
  exact ⟨rfl,by rw [HF.out];exact HFR.out,HON.out⟩
 ·rw [ypT h35,if_neg (by decide)] at HK2
  have HF2:=HF0.out.trans (if_neg h35)
  have HF:=ypS HF2
  clear h35 HF2 HF0 HMX
  go_wp2_with fail
  refine (HK2.out).mono ?_
  rintro e xa ⟨rfl,hma,hoa⟩
  have HUA:=ypS (HUX.out.only hoa (by simp [HNE.out]))
  have HOA:=ypS (znG HOX.out hoa)
  clear hma hoa
  go_wp2
  go_end0
  exact ⟨rfl,by rw [HF.out];exact HUA.out,HOA.out⟩
theorem zeZ (M U:Nat) (l:List UInt8) (u:UZ) (pv:Value) (w:World) (hl:l.length≤67108864) (hm:MB w M l) (hu:UB w U u pv):
  Calls Tryz.prog 122 #[.pointer (some ⟨M,0,none⟩),.pointer (some ⟨U,0,none⟩)] w fun e w'=>e= .returned (.tuple #[])∧UB w' U (finC u l) pv∧Only [M,U] w w':=by
 by_cases h:l.head? =some 63
 ·exact z4H M U l u pv w hl hm hu h
 ·exact ybN M U l u pv w hl hm hu h
end
end Go.Proofs.YtmjappnpedjlnaaGreatDoor
