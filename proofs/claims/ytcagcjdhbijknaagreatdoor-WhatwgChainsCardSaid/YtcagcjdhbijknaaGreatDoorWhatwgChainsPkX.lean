/-
  What the law WhatwgChains leans on, and its walk (23 of 33).
-/
import Derived.Test.YtcagcjdhbijknaaGreatDoorWhatwgChainsPkU
import Derived.Test.YtcagcjdhbijknaaGreatDoorWhatwgChainsPkW
import Derived.Test.YtcagcjdhbijknaaGreatDoorWhatwgChainsPkO
import Derived.Test.YtcagcjdhbijknaaGreatDoorWhatwgChainsPkP
namespace Go.Proofs.YtcagcjdhbijknaaGreatDoor
set_option maxRecDepth 100000
set_option maxHeartbeats 16000000
abbrev yiA := @Lib.hid
abbrev yiB := @beq_eq_false_iff_ne
abbrev yiC := @Nat.le_refl
abbrev yiD := @decide_eq_false
abbrev yiE := @decide_eq_true
section
open Go.RowKit
theorem mkf (fn:Fn) (first cap:Array Value) (w:World):(Instr.makeFunc fn first cap).run Tryz.prog w= .ok (.func fn first cap) w:=rfl
theorem zoL (of_:List UInt8) (w:World):
  Calls Tryz.prog 47 #[.string ⟨of_.toArray⟩] w fun e w'=>e= .returned (.func (.func 91) #[] #[.pointer (some ⟨w.heap.size,0,none⟩)])∧w'=w.alloc (.cells #[.string ⟨of_.toArray⟩] 9):=by
 have hmf:=mkf
 go_enter Tryz.func47,Tryz.ntmps47
 go_wp2
 go_ret
 exact ⟨rfl,rfl⟩
theorem ziD (of_:List UInt8) (h: ∀c∈of_,c.toNat<128) (M:Nat) (l:List UInt8) (w:World) (hm:MB w M l):
  Calls Tryz.prog 22 #[.pointer (some ⟨M,0,none⟩),.func (.func 91) #[] #[.pointer (some ⟨w.heap.size,0,none⟩)]] (w.alloc (.cells #[.string ⟨of_.toArray⟩] 9)) (RetU w [] M (l.take (l.findIdx (hasB of_))) (l.drop (l.findIdx (hasB of_)))):=by
 have hb:Below w.heap.size w (w.alloc (.cells #[.string ⟨of_.toArray⟩] 9)):=(Below.refl _ w).alloc (yiC _) _
 have hblk:=heap_alloc_new w (.cells #[.string ⟨of_.toArray⟩] 9)
 have:=zkU (ybY h) [] (fun (_:Unit) _=>True) 91 #[.pointer (some ⟨w.heap.size,0,none⟩)] (enters_of Tryz.func91 (by kernel_rfl) rfl) M l () _ (hm.below hb) (by simp) (fun b hb=>by cases hb) trivial (fun _ _ _ _ _=>trivial) (yeV of_ h w.heap.size _ (by simp) (zaE hblk 0))
 rw [ybQ] at this
 exact this.mono fun e w' ⟨h1,h2,h3⟩=>⟨h1,h2,(Only.of_below (F:=[M]) hb).trans h3 (fun x hx=> .inl hx)⟩
theorem zhW (M:Nat) (l:List UInt8) (w:World) (hm:MB w M l):
  Calls Tryz.prog 22 #[.pointer (some ⟨M,0,none⟩),.func (.func 23) #[] #[]] w (RetU w [] M (l.take (zbM l)) (zbW l)):=by
 have:=zkU z3U [] (fun (_:Unit) _=>True) 23 #[] (enters_of Tryz.func23 (by kernel_rfl) rfl) M l () w hm (by simp) (fun b hb=>by cases hb) trivial (fun _ _ _ _ _=>trivial) (ycH w)
 rw [←zjR]
 exact this
theorem zvB (B:Nat): ∀(s:Bool) (W W':World),CapB B s W→(∀b∈[B],W'.heap[b]? =W.heap[b]?)→CapB B s W':=fun _ _ _ h k=>(k B (by simp)).trans h
theorem z5F {w:World} {M:Nat} {l:List UInt8} (hm:MB w M l):Below w.heap.size w (w.alloc (.cells #[.bool false] 4))∧CapB w.heap.size false (w.alloc (.cells #[.bool false] 4))∧MB (w.alloc (.cells #[.bool false] 4)) M l∧M∉[w.heap.size]:=
 have hb:Below w.heap.size w (w.alloc (.cells #[.bool false] 4)):=(Below.refl _ w).alloc (yiC _) _
 ⟨hb,heap_alloc_new w _,hm.below hb,fun h=>by have:=zaO hm;simp at h;omega⟩
theorem zyN {w x y:World} {M:Nat} (hb:Below w.heap.size w x) (h:Only (M::[w.heap.size]) x y):Only [M] w y:=
 (Only.of_below (F:=[M]) hb).trans h (fun x hx=>by
  rcases List.mem_cons.1 hx with e|e
  ·exact .inl (by rw [e];exact List.mem_cons_self ..)
  ·rw [List.mem_singleton] at e;exact .inr (by omega))
def RetSch (w:World) (M:Nat) (o:Option (List UInt8×List UInt8)) (l:List UInt8) (e:Ending) (w':World):Prop:=
 e= .returned (.tuple #[.string ⟨((o.map Prod.fst).getD []).toArray⟩,.bool o.isSome])∧MB w' M ((o.map Prod.snd).getD l)∧Only [M] w w'
theorem zqQ (M:Nat) (l:List UInt8) (w:World) (hl:l.length≤1073741824) (hm:MB w M l):
  Calls Tryz.prog 20 #[.pointer (some ⟨M,0,none⟩)] w (RetSch w M (schW l) l):=by
 have hmf:=mkf
 obtain ⟨hb,hcp,hm1,hMn⟩:=z5F hm
 have c0:=hm.cell
 have c1:=hm1.cell
 have HU:=yiA (zkU ybA [w.heap.size] (CapB w.heap.size) 40 #[.pointer (some ⟨w.heap.size,0,none⟩)] (enters_of Tryz.func40 (by kernel_rfl) rfl) M l false _ hm1 hMn (fun b hb=>by simp at hb;subst hb;simp) hcp (zvB _) (yeX _ _))
 have HO:=yiA (fun y (h:Only (M::[w.heap.size]) (w.alloc (.cells #[.bool false] 4)) y)=>zyN hb h)
 have HF:=yiA (zuI l)
 have HNL:Hid (schN l≤l.length):=zsF schS l false
 rw [show zdJ schS false l=schN l from rfl] at HU
 clear hm hm1 hcp hMn hb
 go_enter Tryz.func20,Tryz.ntmps20
 go_wp2_with fail
 refine HU.out.mono ?_
 rintro e x1 ⟨rfl,hm1,ho⟩
 have ho1:=HO.out _ ho
 clear ho HU HO
 obtain ⟨n,hn⟩: ∃n,schN l=n:=⟨_,rfl⟩
 rw [hn] at hm1 HF HNL
 rw [hn]
 by_cases h0:n=0
 ·subst h0
  rw [List.drop_zero] at hm1
  rw [List.take_zero]
  have d1:=hm1.cell
  have f1:=zaW hm1 0
  have HF2:Hid (schW l=none):=by show _=_;rw [HF.out,if_neg (fun g=>g.1 rfl)]
  have HE:Hid (MB (x1.setCell ⟨M,0,none⟩ (.string ⟨l.toArray⟩)) M l∧Only [M] w (x1.setCell ⟨M,0,none⟩ (.string ⟨l.toArray⟩))):=⟨hm1.set _,ho1.setCell (p:=⟨M,0,none⟩) (.inl (List.mem_cons_self ..)) _⟩
  clear hm1 ho1 hn
  go_wp2
  go_ret2
  rw [HF2.out]
  exact ⟨rfl,HE.out⟩
 ·have HK:=yiA (zhT M (l.drop n) [58] x1 hm1)
  have hne:(l.take n).isEmpty=false:=by
   rw [Bool.eq_false_iff]
   intro g
   have:=HNL.out
   have h2:(l.take n).length=0:=by rw [List.isEmpty_iff.1 g];rfl
   rw [List.length_take] at h2
   omega
  have hlt:(l.take n).length≤1073741824:=by rw [List.length_take];omega
  have HLW:=yiA (fun W=>zuK ⟨(l.take n).toArray⟩ W (by rw [zaA];exact hlt))
  rw [zaB] at HLW
  have hd:hd1 [58] (l.drop n)=decide (l[n]? =some 58):=by
   cases e:l[n]? with
   |none=>rw [List.drop_eq_nil_of_le (by simpa using e)];rfl
   |some c=>
    obtain ⟨h1,h2⟩:=List.getElem?_eq_some_iff.1 e
    rw [List.drop_eq_getElem_cons h1,h2]
    show hasB [58] c=_
    by_cases g:c=58
    ·subst g;rfl
    ·rw [yiD (by simpa using g)]
     simp [hasB,Ne.symm g]
  rw [hd] at HK
  clear hd
  generalize hq:l.take n=q at*
  by_cases h58:l[n]? =some 58
  ·have HF2:Hid (schW l=some (zaX q,l.drop (n+1))):=by show _=_;rw [HF.out,if_pos ⟨h0,h58⟩]
   rw [yiE h58,if_pos rfl,List.drop_drop] at HK
   clear h58 HF hq h0 hn
   go_wp2_with fail
   refine HK.out.mono ?_
   rintro e x2 ⟨rfl,hm2,ho2⟩
   have HO2:=yiA (ho1.trans ho2 (fun x hx=> .inl hx))
   have HM2:=yiA hm2
   clear HK ho1 ho2 hm1 hm2
   go_wp2_with fail
   refine (HLW.out _).mono ?_
   rintro e x3 ⟨rfl,hb3⟩
   go_wp2
   go_ret2
   rw [HF2.out]
   exact ⟨rfl,HM2.out.below hb3,HO2.out.then_below hb3⟩
  ·have HF2:Hid (schW l=none):=by show _=_;rw [HF.out,if_neg (fun g=>h58 g.2)]
   rw [yiD h58,if_neg (by decide)] at HK
   clear h58 HF hq h0 hn
   go_wp2_with fail
   refine HK.out.mono ?_
   rintro e x2 ⟨rfl,hm2,ho2⟩
   have d1:=hm2.cell
   have f1:=zaW hm2 0
   have HE:Hid (MB (x2.setCell ⟨M,0,none⟩ (.string ⟨l.toArray⟩)) M l∧Only [M] w (x2.setCell ⟨M,0,none⟩ (.string ⟨l.toArray⟩))):=⟨hm2.set _,(ho1.trans ho2 (fun x hx=> .inl hx)).setCell (p:=⟨M,0,none⟩) (.inl (List.mem_cons_self ..)) _⟩
   clear HK ho1 ho2 hm1 hm2 HLW
   go_wp2
   go_ret2
   rw [HF2.out]
   exact ⟨rfl,HE.out⟩
theorem z5M (M:Nat) (l:List UInt8) (w:World) (hm:MB w M l):
  Calls Tryz.prog 88 #[.pointer (some ⟨M,0,none⟩)] w (RetU w [] M (hpW false l).1 (l.drop (zdJ zhZ false l))):=by
 have hmf:=mkf
 obtain ⟨hb,hcp,hm1,hMn⟩:=z5F hm
 have HU:=yiA (zkU z4B [w.heap.size] (CapB w.heap.size) 131 #[.pointer (some ⟨w.heap.size,0,none⟩)] (enters_of Tryz.func131 (by kernel_rfl) rfl) M l false _ hm1 hMn (fun b hb=>by simp at hb;subst hb;simp) hcp (zvB _) (ycT _ _))
 have HO:=yiA (fun y (h:Only (M::[w.heap.size]) (w.alloc (.cells #[.bool false] 4)) y)=>zyN hb h)
 rw [(zhE l false).1] at HU
 clear hm hm1 hcp hMn hb
 go_enter Tryz.func88,Tryz.ntmps88
 go_wp2_with fail
 refine HU.out.mono ?_
 rintro e x1 ⟨rfl,hm1,ho⟩
 have HOO:=yiA (HO.out _ ho)
 have HMM:=yiA hm1
 clear ho hm1 HU HO
 go_wp2
 go_ret
 exact ⟨rfl,HMM.out,HOO.out⟩
theorem zfT (s:List UInt8) (w:World):Calls Tryz.prog 21 #[.string ⟨s.toArray⟩] w fun e w'=>e= .returned (.int .i64 (ownZ s))∧w=w':=by
 by_cases h1:s=zdV
 ·subst h1
  go_enter Tryz.func21,Tryz.ntmps21
  go_wp2
  go_ret
  exact ⟨rfl,rfl⟩
 ·by_cases h2:s=zcX
  ·subst h2
   go_enter Tryz.func21,Tryz.ntmps21
   go_wp2
   go_ret
   exact ⟨rfl,rfl⟩
  ·have HF:Hid (ownZ s=0):=by show _=_;unfold ownZ;rw [if_neg h1,if_neg h2]
   have e1:(s==[104,116,116,112])=false:=by rw [yiB];exact h1
   have e2:(s==[104,116,116,112,115])=false:=by rw [yiB];exact h2
   clear h1 h2
   go_enter Tryz.func21,Tryz.ntmps21
   go_wp2
   go_ret
   exact ⟨by rw [HF.out];rfl,rfl⟩
theorem z7Z (s:ByteArray) (k:Nat) (h:k<s.size) (hc: ¬s[k].toNat<128):128≤(Utf8.decode s k).1:=(decode_high s k h (by omega)).1
theorem z2A {name l:List UInt8} (h:digP 0 l=none):zhO name l=(0,false):=by unfold zhO;rw [h]
theorem z5G {name l:List UInt8} {n:Int} (h:digP 0 l=some n) (hn:65535<n):zhO name l=(0,false):=by unfold zhO;rw [h];exact if_pos hn
theorem z9H {name l:List UInt8} {n:Int} (h:digP 0 l=some n) (hn: ¬65535<n) (ho:l=[]∨n=ownZ name):zhO name l=(-1,true):=by unfold zhO;rw [h];exact (if_neg hn).trans (if_pos ho)
theorem ygA {name l:List UInt8} {n:Int} (h:digP 0 l=some n) (hn: ¬65535<n) (ho: ¬(l=[]∨n=ownZ name)):zhO name l=(n,true):=by unfold zhO;rw [h];exact (if_neg hn).trans (if_neg ho)
theorem yeE {c:Nat} (h:zbD (c:Int)=true):valZ (c:Int)=(c:Int) - 48∧48≤c∧c≤57:=by
 have h48:48≤(c:Int)∧(c:Int)≤57:=by simpa [zbD] using h
 refine ⟨?_,by omega,by omega⟩
 unfold valZ
 (repeat' split)<;>omega
theorem ztV (name l:List UInt8) (w:World):
  Calls Tryz.prog 89 #[.string ⟨l.toArray⟩,.string ⟨name.toArray⟩] w fun e w'=>e= .returned (.tuple #[.int .i64 (zhO name l).1,.bool (zhO name l).2])∧Below w.heap.size w w':=by
 have hz:(ByteArray.mk l.toArray).size=l.length:=by simp [ByteArray.size]
 have HP1:=yiA (z2A (name:=name) (l:=l))
 have HP2:=yiA (fun n=>z5G (name:=name) (l:=l) (n:=n))
 have HP3:=yiA (fun n=>z9H (name:=name) (l:=l) (n:=n))
 have HP4:=yiA (fun n=>ygA (name:=name) (l:=l) (n:=n))
 have HOW:=yiA (fun W=>zfT name W)
 obtain ⟨res,hres⟩: ∃r,zhO name l=r:=⟨_,rfl⟩
 rw [hres] at HP1 HP2 HP3 HP4 ⊢
 clear hres
 generalize ownZ name=own at*
 go_enter Tryz.func89,Tryz.ntmps89
 go_wp2
 go_loopg [6] l.length (fun gf o wx=> ∃(pos:Nat) (n:Int),o= .int .i64 n∧0≤n∧n≤65536∧wx.heap[w.heap.size]? =some (.stringIter ⟨l.toArray⟩ pos)∧Below w.heap.size w wx∧pos≤l.length∧Hid (digP 0 l=digP n (l.drop pos))∧l.length≤pos+gf)
 case atStart=>exact ⟨0,0,rfl,by omega,by omega,World.iter_heap w _ 0,(Below.refl _ w).alloc (yiC _) _,Nat.zero_le _,rfl,by omega⟩
 case round=>
  obtain ⟨pos,n,rfl,hn0,hn1,hit,hbw,hpl,HS,hgf⟩:=hrel
  by_cases hps:pos<l.length
  ·obtain ⟨g',rfl⟩: ∃g',gk=g'+1:=⟨gk - 1,by omega⟩
   have hps':pos<(ByteArray.mk l.toArray).size:=by rw [hz];exact hps
   have hnx: ∀ty,(Instr.next (.pointer (some ⟨w.heap.size,0,none⟩)) true ty).run Tryz.prog wr=_:=fun ty=>Lib.run_next_any_at wr w.heap.size _ pos ty hit hps'
   have hdr:l.drop pos=l[pos]::l.drop (pos+1):=List.drop_eq_getElem_cons hps
   have hba:(ByteArray.mk l.toArray)[pos]=l[pos]:=rfl
   by_cases hlow:(ByteArray.mk l.toArray)[pos].toNat<128
   ·rw [decode_ascii _ pos hps' hlow,hba] at hnx
    rw [hba] at hlow
    have hit2:=Lib.iterAt_heap wr w.heap.size _ pos (pos+1) hit
    have hbw2:=Lib.below_iterAt hbw (k:=w.heap.size) (yiC _) ⟨l.toArray⟩ (pos+1)
    simp only at hnx
    generalize wr.iterAt w.heap.size ⟨l.toArray⟩ (pos+1)=wi at*
    obtain ⟨c,hc⟩: ∃c,l[pos]=c:=⟨_,rfl⟩
    rw [hc] at hnx hlow hdr
    have HSS:Hid (digP 0 l=if zbD c.toNat=true then digP (min (10*n+((c.toNat:Int) - 48)) 65536) (l.drop (pos+1)) else none):=by show _=_;rw [HS.out,hdr,digP]
    have hvd:=yeE (c:=c.toNat)
    clear hc hdr hba hit hbw hps'
    generalize c.toNat=cn at*
    have HD:=yiA (fun W=>zdX (cn:Int) W)
    have HV:=yiA (fun W=>zdH (cn:Int) W)
    cases hd:zbD (cn:Int) with
    |false=>
     rw [hd] at HD HSS
     have HF:=yiA (HP1.out HSS.out)
     go_wp2_with fail
     refine (HD.out _).mono ?_
     rintro e w' ⟨rfl,rfl⟩
     go_wp2
     go_ret2
     exact ⟨by rw [HF.out];rfl,hbw2⟩
    |true=>
     rw [hd] at HD HSS
     obtain ⟨v1,v2,v3⟩:=hvd hd
     rw [v1] at HV
     have HF:Hid (digP 0 l=digP (min (10*n+((cn:Int) - 48)) 65536) (l.drop (pos+1))):=HSS.out.trans (if_pos rfl)
     clear HSS hd v1 hvd
     by_cases hbig:65536<10*n+((cn:Int) - 48)
     ·have hm:min (10*n+((cn:Int) - 48)) 65536=65536:=by omega
      rw [hm] at HF
      go_wp2_with (first|(go_at_call 42;refine (HD.out _).mono ?_;rintro e w' ⟨rfl,rfl⟩)|(go_at_call 132;refine (HV.out _).mono ?_;rintro e w' ⟨rfl,rfl⟩))
      go_roundg g'
      case measure=>omega
      case rel=>exact ⟨pos+1,65536,rfl,by omega,by omega,hit2,hbw2,by omega,HF.out,by omega⟩
     ·have hm:min (10*n+((cn:Int) - 48)) 65536=10*n+((cn:Int) - 48):=by omega
      rw [hm] at HF
      go_wp2_with (first|(go_at_call 42;refine (HD.out _).mono ?_;rintro e w' ⟨rfl,rfl⟩)|(go_at_call 132;refine (HV.out _).mono ?_;rintro e w' ⟨rfl,rfl⟩))
      go_roundg g'
      case measure=>omega
      case rel=>exact ⟨pos+1,10*n+((cn:Int) - 48),rfl,by omega,by omega,hit2,hbw2,by omega,HF.out,by omega⟩
   ·have hhi:=z7Z _ pos hps' hlow
    have hdg:zbD (l[pos].toNat:Int)=false:=yiD (by rw [hba] at hlow;omega)
    have HF:=yiA (HP1.out (by rw [HS.out,hdr,digP,if_neg (by rw [hdg];decide)]))
    obtain ⟨R,hR⟩: ∃R,(Utf8.decode ⟨l.toArray⟩ pos).1=R:=⟨_,rfl⟩
    rw [hR] at hhi hnx
    have hbw2:=Lib.below_iterAt hbw (k:=w.heap.size) (yiC _) ⟨l.toArray⟩ (pos+(Utf8.decode ⟨l.toArray⟩ pos).2)
    generalize wr.iterAt w.heap.size ⟨l.toArray⟩ (pos+(Utf8.decode ⟨l.toArray⟩ pos).2)=wi at*
    have HD:=yiA (fun W=>zdX (R:Int) W)
    rw [show zbD (R:Int)=false from yiD (by omega)] at HD
    clear hR hdg hdr hba hlow
    go_wp2_with fail
    refine (HD.out _).mono ?_
    rintro e w' ⟨rfl,rfl⟩
    go_wp2
    go_ret2
    exact ⟨by rw [HF.out];rfl,hbw2⟩
  ·have hps': ¬pos<(ByteArray.mk l.toArray).size:=by rw [hz];exact hps
   have hnx: ∀ty,(Instr.next (.pointer (some ⟨w.heap.size,0,none⟩)) true ty).run Tryz.prog wr=_:=fun ty=>Lib.run_next_end_at wr w.heap.size _ pos ty hit hps'
   have HE:Hid (digP 0 l=some n):=by show _=_;rw [HS.out,List.drop_eq_nil_of_le (by omega)];rfl
   by_cases hbig:65535<n
   ·have HF:=yiA (HP2.out n HE.out hbig)
    have hd:decide (65535<n)=true:=yiE hbig
    go_wp2
    go_ret2
    exact ⟨by rw [HF.out];rfl,hbw⟩
   ·have hd:decide (65535<n)=false:=yiD hbig
    have HQ3:=yiA (HP3.out n HE.out (by omega))
    have HQ4:=yiA (HP4.out n HE.out (by omega))
    cases hq:l with
    |nil=>
     have HF:=yiA (HQ3.out (.inl hq))
     subst hq
     go_wp2
     go_ret2
     exact ⟨by rw [HF.out];rfl,hbw⟩
    |cons c r=>
     have hqe:l.isEmpty=false:=by rw [hq];rfl
     have hl0:l≠[]:=by rw [hq];simp
     rw [←hq]
     clear hq
     by_cases ho:n=own
     ·have HF:=yiA (HQ3.out (.inr ho))
      subst ho
      go_wp2_with fail
      refine (HOW.out _).mono ?_
      rintro e w' ⟨rfl,rfl⟩
      go_wp2
      go_ret2
      exact ⟨by rw [HF.out];rfl,hbw⟩
     ·have HF:=yiA (HQ4.out (by rintro (g|g);exact hl0 g;exact ho g))
      have hno:(n==own)=false:=beq_eq_false_iff_ne.2 ho
      go_wp2_with fail
      refine (HOW.out _).mono ?_
      rintro e w' ⟨rfl,rfl⟩
      go_wp2
      go_ret2
      exact ⟨by rw [HF.out];rfl,hbw⟩
def UZ.cells (u:UZ) (pv:Value):Array Value:= #[.string ⟨u.scheme.toArray⟩,.string ⟨u.user.toArray⟩,.string ⟨u.pass.toArray⟩,u.host.val,.int .i64 u.port,pv,.string ⟨u.query.toArray⟩,.bool u.hasQ,.string ⟨u.frag.toArray⟩,.bool u.hasF]
def UB (w:World) (U:Nat) (u:UZ) (pv:Value):Prop:=w.heap[U]? =some (.cells (u.cells pv) 28)
theorem UB.only {w w':World} {F:List Nat} {U:Nat} {u:UZ} {pv:Value} (h:UB w U u pv) (ho:Only F w w') (hU:U∉F):UB w' U u pv:=(ho.block U (zaO h) hU).trans h
theorem UB.below {w w':World} {U:Nat} {u:UZ} {pv:Value} (h:UB w U u pv) (hb:Below w.heap.size w w'):UB w' U u pv:=(hb.block U (zaO h)).trans h
theorem UB.qry {w:World} {U:Nat} {u:UZ} {pv:Value} (h:UB w U u pv) (q:List UInt8):UB ((w.setCell ⟨U,6,none⟩ (.string ⟨q.toArray⟩)).setCell ⟨U,7,none⟩ (.bool true)) U {u with query:=q,hasQ:=true} pv:=zaF (zaF h 6 _) 7 _
theorem UB.frg {w:World} {U:Nat} {u:UZ} {pv:Value} (h:UB w U u pv) (q:List UInt8):UB ((w.setCell ⟨U,8,none⟩ (.string ⟨q.toArray⟩)).setCell ⟨U,9,none⟩ (.bool true)) U {u with frag:=q,hasF:=true} pv:=zaF (zaF h 8 _) 9 _
theorem UB.ne {w:World} {U M:Nat} {u:UZ} {pv:Value} {l:List UInt8} (h:UB w U u pv) (hm:MB w M l):U≠M:=fun e=>by
 subst e
 unfold UB at h
 rw [hm] at h
 injection h with h
 injection h with _ h
 revert h
 decide
theorem MB.set2 {w:World} {M U:Nat} {l:List UInt8} (h:MB w M l) (hne:U≠M) (i j:Nat) (a b:Value):MB ((w.setCell ⟨U,i,none⟩ a).setCell ⟨U,j,none⟩ b) M l:=by
 unfold MB
 rw [zaZ hne.symm,zaZ hne.symm]
 exact h
theorem znV {w x:World} {M U:Nat} (h:Only [M,U] w x) (i j:Nat) (a b:Value):Only [M,U] w ((x.setCell ⟨U,i,none⟩ a).setCell ⟨U,j,none⟩ b):=
 (h.setCell (p:=⟨U,i,none⟩) (.inl (by simp)) _).setCell (p:=⟨U,j,none⟩) (.inl (by simp)) _
theorem zoQ {w x y:World} {M U:Nat} (h:Only [M,U] w x) (k:Only [M] x y):Only [M,U] w y:=h.trans k (fun z hz=> .inl (by rw [List.mem_singleton.1 hz];simp))
theorem UB.st6 {w:World} {U:Nat} {u:UZ} {pv:Value} (h:UB w U u pv) (a:Value):(w.cell? ⟨U,6,none⟩=some (.string ⟨u.query.toArray⟩)∧w.frozen? ⟨U,6,none⟩=false)∧(w.setCell ⟨U,6,none⟩ a).cell? ⟨U,7,none⟩=some (.bool u.hasQ)∧(w.setCell ⟨U,6,none⟩ a).frozen? ⟨U,7,none⟩=false:=⟨⟨zaE h 6,zaW h 6⟩,zaE (zaF h 6 a) 7,zaW (zaF h 6 a) 7⟩
theorem UB.st8 {w:World} {U:Nat} {u:UZ} {pv:Value} (h:UB w U u pv) (a:Value):(w.cell? ⟨U,8,none⟩=some (.string ⟨u.frag.toArray⟩)∧w.frozen? ⟨U,8,none⟩=false)∧(w.setCell ⟨U,8,none⟩ a).cell? ⟨U,9,none⟩=some (.bool u.hasF)∧(w.setCell ⟨U,8,none⟩ a).frozen? ⟨U,9,none⟩=false:=⟨⟨zaE h 8,zaW h 8⟩,zaE (zaF h 8 a) 9,zaW (zaF h 8 a) 9⟩
theorem zoB (c:UInt8) (l:List UInt8):hd1 [c] l=decide (l.head? =some c):=by
 match l with
 |[]=>rfl
 |d::r=>
  show hasB [c] d=_
  by_cases g:d=c
  ·subst g;simp [hasB]
  ·rw [yiD (by simpa using g)]
   simp [hasB,Ne.symm g]
theorem zhF (st:Int) (l:List UInt8) (w:World) (h0:0≤st) (hl:l.length≤67108864):Calls Tryz.prog 90 #[.int .u8 st,.string ⟨l.toArray⟩] w fun e w'=>e= .returned (.string ⟨(encW st l).toArray⟩)∧Below w.heap.size w w':=
 z0U st ⟨l.toArray⟩ w h0 (by rw [zaA];exact hl)
theorem z7M (M U:Nat) (l:List UInt8) (u:UZ) (pv:Value) (w:World) (hl:l.length≤67108864) (hm:MB w M l) (hu:UB w U u pv) (h63:l.head? ≠some 63):
  Calls Tryz.prog 49 #[.pointer (some ⟨M,0,none⟩),.pointer (some ⟨U,0,none⟩)] w fun e w'=>e= .returned (.tuple #[])∧UB w' U (finC u l) pv∧Only [M,U] w w':=by
 have HNE:=yiA (hu.ne hm)
 have HUW:=yiA hu
 have HK:=yiA (zhT M l [63] w hm)
 rw [zoB,yiD h63,if_neg (by decide)] at HK
 have HF:Hid (finC u l=if l.head? =some 35 then {u with frag:=encW 1 (l.drop 1),hasF:=true} else u):=if_neg h63
 clear hm hu h63
 go_enter Tryz.func49,Tryz.ntmps49
 go_wp2_with fail
 refine HK.out.mono ?_
 rintro e x1 ⟨rfl,hm1,ho1⟩
 have HUX:=yiA (HUW.out.only ho1 (by simp [HNE.out]))
 have HOX:=yiA (ho1.mono (G:=[M,U]) (fun x hx=>by rw [List.mem_singleton.1 hx];simp))
 have HK2:=yiA (zhT M l [35] x1 hm1)
 rw [zoB] at HK2
 clear HK ho1 hm1
 by_cases h35:l.head? =some 35
 ·rw [yiE h35,if_pos rfl] at HK2
  have HF2:=HF.out.trans (if_pos h35)
  clear HF
  have HF:=yiA HF2
  have hll:(l.drop 1).length≤l.length:=by rw [List.length_drop];omega
  generalize l.drop 1=m at*
  clear h35 HF2
  go_wp2_with fail
  refine (HK2.out).mono ?_
  rintro e xa ⟨rfl,hma,hoa⟩
  have HUA:=yiA (HUX.out.only hoa (by simp [HNE.out]))
  have HOA:=yiA (zoQ HOX.out hoa)
  have ca:=hma.cell
  have HMA:=yiA hma
  clear hma hoa
  have HEN:=yiA (fun W=>zhF 1 m W (by decide) (by omega))
  go_wp2_with fail
  refine (HEN.out _).mono ?_
  rintro e xb ⟨rfl,hbb⟩
  have HUB:=yiA (HUA.out.below hbb)
  have HOB:=yiA (HOA.out.then_below hbb)
  obtain ⟨⟨e8,f8⟩,e9,f9⟩:=HUB.out.st8 (.string ⟨(encW 1 m).toArray⟩)
  have HFR:=yiA (HUB.out.frg (encW 1 m))
  have HON:=yiA (znV HOB.out 8 9 (.string ⟨(encW 1 m).toArray⟩) (.bool true))
  clear HEN hbb
  go_wp2
  go_end0
  exact ⟨rfl,by rw [HF.out];exact HFR.out,HON.out⟩
 ·rw [yiD h35,if_neg (by decide)] at HK2
  have HF2:=HF.out.trans (if_neg h35)
  clear HF
  have HF:=yiA HF2
  clear h35 HF2
  go_wp2_with fail
  refine (HK2.out).mono ?_
  rintro e xa ⟨rfl,hma,hoa⟩
  have HUA:=yiA (HUX.out.only hoa (by simp [HNE.out]))
  have HOA:=yiA (zoQ HOX.out hoa)
  clear hma hoa
  go_wp2
  go_end0
  exact ⟨rfl,by rw [HF.out];exact HUA.out,HOA.out⟩
theorem z1W (M U:Nat) (l:List UInt8) (u:UZ) (pv:Value) (w:World) (hl:l.length≤67108864) (hm:MB w M l) (hu:UB w U u pv) (h63:l.head? =some 63):
  Calls Tryz.prog 49 #[.pointer (some ⟨M,0,none⟩),.pointer (some ⟨U,0,none⟩)] w fun e w'=>e= .returned (.tuple #[])∧UB w' U (finC u l) pv∧Only [M,U] w w':=by
 have HNE:=yiA (hu.ne hm)
 have HUW:=yiA hu
 have HK:=yiA (zhT M l [63] w hm)
 rw [zoB,yiE h63,if_pos rfl] at HK
 have HF0:Hid (finC u l=_):=if_pos h63
 have hll:(l.drop 1).length≤l.length:=by rw [List.length_drop];omega
 clear hm hu h63
 generalize l.drop 1=r at*
 have ht1:(r.take (r.findIdx (hasB [35]))).length≤r.length:=by rw [List.length_take];omega
 have ht2:(r.drop (r.findIdx (hasB [35]))).length≤r.length:=by rw [List.length_drop];omega
 have HU1:=yiA (fun W (h:MB W M r)=>ziD [35] (by decide) M r W h)
 have HEQ:=yiA (fun W=>zhF 3 (r.take (r.findIdx (hasB [35]))) W (by decide) (by omega))
 generalize r.take (r.findIdx (hasB [35]))=qt at*
 generalize r.drop (r.findIdx (hasB [35]))=l1 at*
 go_enter Tryz.func49,Tryz.ntmps49
 go_wp2_with fail
 refine HK.out.mono ?_
 rintro e x1 ⟨rfl,hm1,ho1⟩
 have HUA:=yiA (HUW.out.only ho1 (by simp [HNE.out]))
 have HOA:=yiA (ho1.mono (G:=[M,U]) (fun x hx=>by rw [List.mem_singleton.1 hx];simp))
 have HU2:=yiA (HU1.out _ hm1)
 clear HK ho1 hm1 HU1
 go_wp2_with fail
 refine (zoL [35] _).mono ?_
 rintro e x2 ⟨rfl,rfl⟩
 go_wp2_with fail
 refine HU2.out.mono ?_
 rintro e x3 ⟨rfl,hm3,ho3⟩
 have HUC:=yiA (HUA.out.only ho3 (by simp [HNE.out]))
 have HOC:=yiA (zoQ HOA.out ho3)
 have HMC:=yiA hm3
 clear HU2 hm3 ho3 HUA HOA
 go_wp2_with fail
 refine (HEQ.out _).mono ?_
 rintro e x4 ⟨rfl,hb4⟩
 have HUD:=yiA (HUC.out.below hb4)
 have HOD:=yiA (HOC.out.then_below hb4)
 have HMD:=yiA (HMC.out.below hb4)
 clear HUC HOC HMC hb4 HEQ
 obtain ⟨⟨e6,f6⟩,e7,f7⟩:=HUD.out.st6 (.string ⟨(encW 3 qt).toArray⟩)
 have HUX:=yiA (HUD.out.qry (encW 3 qt))
 have HOX:=yiA (znV HOD.out 6 7 (.string ⟨(encW 3 qt).toArray⟩) (.bool true))
 have HMX:=yiA (HMD.out.set2 HNE.out 6 7 (.string ⟨(encW 3 qt).toArray⟩) (.bool true))
 clear HUD HOD HMD
 have HK2:=yiA (zhT M l1 [35] _ HMX.out)
 rw [zoB] at HK2
 by_cases h35:l1.head? =some 35
 ·rw [yiE h35,if_pos rfl] at HK2
  have HF2:=HF0.out.trans (if_pos h35)
  have HF:=yiA HF2
  have hll2:(l1.drop 1).length≤l1.length:=by rw [List.length_drop];omega
  generalize l1.drop 1=m at*
  clear h35 HF2 HF0 HMX
  go_wp2_with fail
  refine (HK2.out).mono ?_
  rintro e xa ⟨rfl,hma,hoa⟩
  have HUA:=yiA (HUX.out.only hoa (by simp [HNE.out]))
  have HOA:=yiA (zoQ HOX.out hoa)
  have ca:=hma.cell
  have HMA:=yiA hma
  clear hma hoa
  have HEN:=yiA (fun W=>zhF 1 m W (by decide) (by omega))
  go_wp2_with fail
  refine (HEN.out _).mono ?_
  rintro e xb ⟨rfl,hbb⟩
  have HUB:=yiA (HUA.out.below hbb)
  have HOB:=yiA (HOA.out.then_below hbb)
  obtain ⟨⟨e8,f8⟩,e9,f9⟩:=HUB.out.st8 (.string ⟨(encW 1 m).toArray⟩)
  have HFR:=yiA (HUB.out.frg (encW 1 m))
  have HON:=yiA (znV HOB.out 8 9 (.string ⟨(encW 1 m).toArray⟩) (.bool true))
  clear HEN hbb
  go_wp2
  go_end0
  exact ⟨rfl,by rw [HF.out];exact HFR.out,HON.out⟩
 ·rw [yiD h35,if_neg (by decide)] at HK2
  have HF2:=HF0.out.trans (if_neg h35)
  have HF:=yiA HF2
  clear h35 HF2 HF0 HMX
  go_wp2_with fail
  refine (HK2.out).mono ?_
  rintro e xa ⟨rfl,hma,hoa⟩
  have HUA:=yiA (HUX.out.only hoa (by simp [HNE.out]))
  have HOA:=yiA (zoQ HOX.out hoa)
  clear hma hoa
  go_wp2
  go_end0
  exact ⟨rfl,by rw [HF.out];exact HUA.out,HOA.out⟩
theorem zfR (M U:Nat) (l:List UInt8) (u:UZ) (pv:Value) (w:World) (hl:l.length≤67108864) (hm:MB w M l) (hu:UB w U u pv):
  Calls Tryz.prog 49 #[.pointer (some ⟨M,0,none⟩),.pointer (some ⟨U,0,none⟩)] w fun e w'=>e= .returned (.tuple #[])∧UB w' U (finC u l) pv∧Only [M,U] w w':=by
 by_cases h:l.head? =some 63
 ·exact z1W M U l u pv w hl hm hu h
 ·exact z7M M U l u pv w hl hm hu h
theorem ztQ (s:List UInt8) (w:World):Calls Tryz.prog 60 #[.string ⟨s.toArray⟩] w fun e w'=>e= .returned (.int .i64 (ownZ s))∧w=w':=by
 by_cases h1:s=zdV
 ·subst h1
  go_enter Tryz.func60,Tryz.ntmps60
  go_wp2
  go_ret
  exact ⟨rfl,rfl⟩
 ·by_cases h2:s=zcX
  ·subst h2
   go_enter Tryz.func60,Tryz.ntmps60
   go_wp2
   go_ret
   exact ⟨rfl,rfl⟩
  ·have HF:Hid (ownZ s=0):=by show _=_;unfold ownZ;rw [if_neg h1,if_neg h2]
   have e1:(s==[104,116,116,112])=false:=by rw [yiB];exact h1
   have e2:(s==[104,116,116,112,115])=false:=by rw [yiB];exact h2
   clear h1 h2
   go_enter Tryz.func60,Tryz.ntmps60
   go_wp2
   go_ret
   exact ⟨by rw [HF.out];rfl,rfl⟩
theorem z1U (c:UInt8):zcB c=(((c.toNat:Int)==47)||((c.toNat:Int)==92)):=by
 unfold zcB
 rw [Bool.eq_iff_iff]
 simp only [Bool.or_eq_true,beq_iff_eq,←UInt8.toNat_inj]
 have e1:(47:UInt8).toNat=47:=rfl
 have e2:(92:UInt8).toNat=92:=rfl
 omega
theorem zbI (c:UInt8) (w:World):Calls Tryz.prog 61 #[.int .u8 (c.toNat:Int)] w fun e w'=>e= .returned (.bool (zcB c))∧w=w':=by
 have HF:=yiA (z1U c)
 obtain ⟨n,hn⟩: ∃n,(c.toNat:Int)=n:=⟨_,rfl⟩
 rw [hn] at HF ⊢
 clear hn
 cases e1:(n==47) with
 |true=>
  go_enter Tryz.func61,Tryz.ntmps61
  go_wp2
  go_ret
  exact ⟨by rw [HF.out,e1];rfl,rfl⟩
 |false=>
  go_enter Tryz.func61,Tryz.ntmps61
  go_wp2
  go_ret
  exact ⟨by rw [HF.out,e1];rfl,rfl⟩
theorem z8H {q:UInt8→Bool} {l:List UInt8} {k:Nat} (hk:k<l.length) (h: ∀j (hj:j<l.length),j<k→q l[j]=false) (hq:q l[k]=true):l.findIdx q=k:=by
 have h1:=List.findIdx_lt_length_of_exists (p:=q) (xs:=l) ⟨l[k],List.getElem_mem hk,hq⟩
 rcases Nat.lt_trichotomy (l.findIdx q) k with g|g|g
 ·have:=List.findIdx_getElem (w:=h1)
  rw [h _ h1 g] at this;cases this
 ·exact g
 ·have:=List.not_of_lt_findIdx g
  rw [hq] at this;cases this
theorem zzL {q:UInt8→Bool} {l:List UInt8} (h: ∀j (hj:j<l.length),q l[j]=false):l.findIdx q=l.length:=by
 refine List.findIdx_eq_length.2 (fun x hx=> ?_)
 obtain ⟨j,hj,rfl⟩:=List.getElem_of_mem hx
 simpa using h j hj
theorem zdU (l of_:List UInt8) (w:World) (hl:l.length≤1073741824) (ho:of_.length≤1073741824):
  Calls Tryz.prog 55 #[.string ⟨l.toArray⟩,.string ⟨of_.toArray⟩] w fun e w'=>e= .returned (.int .i64 (l.findIdx (hasB of_):Nat))∧w=w':=by
 have hz:=zaA l
 have HH:=yiA (fun c W=>znO ⟨of_.toArray⟩ c W (by rw [zaA];exact ho))
 rw [zaB] at HH
 go_enter Tryz.func55,Tryz.ntmps55
 go_wp2
 go_loopw [5] (fun i wr=> ∃k:Nat,k≤l.length∧i= .int .i64 k∧Hid (∀j (hj:j<l.length),j<k→hasB of_ l[j]=false)∧wr=w) (fun i _=>l.length - (intOf i).toNat)
 case atStart=>exact ⟨0,Nat.zero_le _,rfl,fun j _ h=>absurd h (Nat.not_lt_zero j),rfl⟩
 case round=>
  obtain ⟨k,hk,rfl,H,rfl⟩:=hrel
  by_cases hlt:k<l.length
  ·have hks:k<(ByteArray.mk l.toArray).size:=by rw [hz];exact hlt
   have hba:(ByteArray.mk l.toArray)[k]=l[k]:=rfl
   obtain ⟨c,hc⟩: ∃c,l[k]=c:=⟨_,rfl⟩
   rw [hc] at hba
   have HC:=yiA hc
   cases hb:hasB of_ c with
   |true=>
    have HF:Hid (l.findIdx (hasB of_)=k):=z8H hlt H.out (by rw [hc];exact hb)
    have HQ:=yiA (fun W=>HH.out c W)
    rw [hb] at HQ
    clear hc HH
    go_wp2_with fail
    refine (HQ.out _).mono ?_
    rintro e w' ⟨rfl,rfl⟩
    go_wp2
    go_ret
    exact ⟨by rw [HF.out];rfl,rfl⟩
   |false=>
    have HQ:=yiA (fun W=>HH.out c W)
    rw [hb] at HQ
    have HB:=yiA hb
    clear hc HH hb
    go_wp2_with fail
    refine (HQ.out _).mono ?_
    rintro e w' ⟨rfl,rfl⟩
    go_wp2
    go_roundw
    case rel=>
     refine ⟨k+1,by omega,by go_num,fun j hj hjk=> ?_,by trivial⟩
     by_cases e:j=k
     ·subst e;rw [HC.out];exact HB.out
     ·exact H.out j hj (by omega)
    case measure=>simp [intOf];omega
  ·have HF:Hid (l.findIdx (hasB of_)=l.length):=zzL (fun j hj=>H.out j hj (by omega))
   go_wp2
   go_ret
   exact ⟨by rw [HF.out];rfl,rfl⟩
theorem z1S (c:UInt8) (r:List UInt8):zbW (c::r)=if zcB c=true then zbW r else c::r:=by
 unfold zbW;rw [List.dropWhile_cons]
theorem zeN (l:List UInt8) (w:World):
  Calls Tryz.prog 31 #[.string ⟨l.toArray⟩] w fun e w'=>e= .returned (.string ⟨(zbW l).toArray⟩)∧w=w':=by
 go_enter Tryz.func31,Tryz.ntmps31
 go_wp2
 go_loopg [0] l.length (fun gf s wr=> ∃m:List UInt8,s= .string ⟨m.toArray⟩∧m.length≤gf∧Hid (zbW l=zbW m)∧wr=w)
 case atStart=>exact ⟨l,rfl,yiC _,rfl,rfl⟩
 case round=>
  obtain ⟨m,rfl,hm,HB,rfl⟩:=hrel
  match m,hm,HB with
  |[],hm,HB=>
   go_wp2
   go_ret
   exact ⟨by rw [HB.out];rfl,rfl⟩
  |c::r,hm,HB=>
   obtain ⟨g',rfl⟩: ∃g',gk=g'+1:=⟨gk - 1,by simp at hm;omega⟩
   have hz:(ByteArray.mk (c::r).toArray).size=r.length+1:=by simp [ByteArray.size]
   have h0:0<(ByteArray.mk (c::r).toArray).size:=by rw [hz];omega
   have hb0:(ByteArray.mk (c::r).toArray)[0]=c:=rfl
   have hs: ∀W,(Instr.slice 9 (.string ⟨(c::r).toArray⟩) (some (.int .i64 1)) none none).run Tryz.prog W= .ok (.string ⟨r.toArray⟩) W:=fun W=>by
    rw [zlP W 9 _ 1 1 rfl (by omega) Tryz.underlying9]
    have:(ByteArray.mk (c::r).toArray).extract 1 (ByteArray.mk (c::r).toArray).size=⟨r.toArray⟩:=by
     apply ByteArray.ext;rw [hz];simp [List.take_of_length_le]
    rw [this]
   have hd0:decide (0<((r.length:Int)+1))=true:=yiE (by omega)
   have hrl:r.length≤g':=by simp at hm;omega
   have HSL:=yiA (zbI c wr)
   have HB2:Hid (zbW l=if zcB c=true then zbW r else c::r):=by show _=_;rw [HB.out,z1S]
   clear HB hm
   cases hb:zcB c with
   |true=>
    rw [hb] at HSL HB2
    go_wp2_with fail
    refine HSL.out.mono ?_
    rintro e w' ⟨rfl,rfl⟩
    go_wp2
    go_roundg g'
    case measure=>omega
    case rel=>exact ⟨r,rfl,hrl,by show _=_;have:=HB2.out;simpa using this,by trivial⟩
   |false=>
    rw [hb] at HSL HB2
    go_wp2_with fail
    refine HSL.out.mono ?_
    rintro e w' ⟨rfl,rfl⟩
    go_wp2
    go_ret
    exact ⟨by rw [show zbW l=c::r by have:=HB2.out;simpa using this];rfl,rfl⟩
theorem zwS (l:List UInt8) (k:Nat) (h:k<l.length): ∃(hk:k<(ByteArray.mk l.toArray).size) (c:UInt8),(ByteArray.mk l.toArray)[k]=c∧l.drop k=c::l.drop (k+1)∧c∈l:=
 ⟨by rw [zaA];exact h,l[k],rfl,List.drop_eq_getElem_cons h,List.getElem_mem h⟩
theorem ybS {l:List UInt8} (h:l≠[]):zfX l=match zhX 0 l with|none=> -2|some n=>if n>65535 then -2 else n:=by
 unfold zfX;rw [if_neg h];cases zhX 0 l<;>rfl
theorem ybJ {c:UInt8} (h:zbD (c.toNat:Int)=true):48≤(c.toNat:Int)∧(c.toNat:Int)≤57:=by simpa [zbD] using h
theorem zwF (l:List UInt8) (w:World) (hl:l.length≤1073741824):
  Calls Tryz.prog 59 #[.string ⟨l.toArray⟩] w fun e w'=>e= .returned (.int .i64 (zfX l))∧w=w':=by
 cases hq:l with
 |nil=>
  go_enter Tryz.func59,Tryz.ntmps59
  go_wp2
  go_ret
  exact ⟨rfl,rfl⟩
 |cons c0 r0=>
  have hqe:l.isEmpty=false:=by rw [hq];rfl
  have hl0:l≠[]:=by rw [hq];simp
  have HPW:=yiA (ybS hl0)
  rw [←hq]
  clear hq hl0
  go_enter Tryz.func59,Tryz.ntmps59
  go_wp2
  go_loopw [3,4] (fun v i wr=> ∃(k:Nat) (n:Int),k≤l.length∧i= .int .i64 k∧v= .int .i64 n∧0≤n∧n≤655360∧Hid (zhX 0 l=zhX n (l.drop k))∧wr=w) (fun _ i _=>l.length - (intOf i).toNat)
  case atStart=>exact ⟨0,0,Nat.zero_le _,rfl,rfl,by omega,by omega,rfl,rfl⟩
  case round=>
   obtain ⟨k,n,hk,rfl,rfl,hn0,hn1,HS,rfl⟩:=hrel
   by_cases hlt:k<l.length
   ·obtain ⟨hks,c,hba,hdr,-⟩:=zwS l k hlt
    have HS2:Hid (zhX 0 l=if zbD c.toNat=true then zhX (if n≤65535 then 10*n+(c.toNat:Int) - 48 else n) (l.drop (k+1)) else none):=by show _=_;rw [HS.out,hdr,zhX]
    have HD:=yiA (zmF (c.toNat:Int) wr)
    have hdb:=ybJ (c:=c)
    have hcn:(c.toNat:Int)<256:=by have:=c.toNat_lt;omega
    have hcn0:0≤(c.toNat:Int):=by omega
    clear HS hdr
    cases hd:zbD (c.toNat:Int) with
    |false=>
     rw [hd] at HD HS2
     have HF:Hid (zfX l= -2):=by show _=_;rw [HPW.out,HS2.out,if_neg (by decide)]
     go_wp2_with fail
     refine HD.out.mono ?_
     rintro e w' ⟨rfl,rfl⟩
     go_wp2
     go_ret
     exact ⟨by rw [HF.out];rfl,rfl⟩
    |true=>
     rw [hd] at HD HS2
     obtain ⟨v1,v2⟩:=hdb hd
     have HS3:=HS2.out.trans (if_pos rfl)
     clear HS2 hd hdb
     by_cases hb:n≤65535
     ·rw [if_pos hb] at HS3
      have HF:=yiA HS3
      have hd1:decide (n≤65535)=true:=yiE hb
      clear HS3
      go_wp2_with fail
      refine HD.out.mono ?_
      rintro e w' ⟨rfl,rfl⟩
      go_wp2
      go_roundw
      case rel=>exact ⟨k+1,10*n+(c.toNat:Int) - 48,by omega,by go_num,by go_num,by omega,by omega,HF.out,by trivial⟩
      case measure=>simp [intOf];omega
     ·rw [if_neg hb] at HS3
      have HF:=yiA HS3
      have hd1:decide (n≤65535)=false:=yiD hb
      clear HS3
      go_wp2_with fail
      refine HD.out.mono ?_
      rintro e w' ⟨rfl,rfl⟩
      go_wp2
      go_roundw
      case rel=>exact ⟨k+1,n,by omega,by go_num,rfl,by omega,by omega,HF.out,by trivial⟩
      case measure=>simp [intOf];omega
   ·have HE:Hid (zhX 0 l=some n):=by show _=_;rw [HS.out,List.drop_eq_nil_of_le (by omega)];rfl
    by_cases hb:65535<n
    ·have HF:Hid (zfX l= -2):=by show _=_;rw [HPW.out,HE.out];exact if_pos hb
     have hd1:decide (65535<n)=true:=yiE hb
     go_wp2
     go_ret
     exact ⟨by rw [HF.out];rfl,rfl⟩
    ·have HF:Hid (zfX l=n):=by show _=_;rw [HPW.out,HE.out];exact if_neg hb
     have hd1:decide (65535<n)=false:=yiD hb
     go_wp2
     go_ret
     exact ⟨by rw [HF.out];rfl,rfl⟩
theorem hp_at {l:List UInt8} {k:Nat} {i:Bool} (h:(hpW false l).1=l.take k++(hpW i (l.drop k)).1∧(hpW false l).2=(hpW i (l.drop k)).2) {c:UInt8} (hdr:l.drop k=c::l.drop (k+1)):
  (c=58∧i=false→hpW false l=(l.take k,l.drop (k+1)))∧(¬(c=58∧i=false)→(hpW false l).1=l.take (k+1)++(hpW (if c=91 then true else if c=93 then false else i) (l.drop (k+1))).1∧(hpW false l).2=(hpW (if c=91 then true else if c=93 then false else i) (l.drop (k+1))).2):=by
 rw [hdr,zhG] at h
 constructor
 ·intro g
  rw [if_pos g] at h
  exact Prod.ext (by rw [h.1];simp) h.2
 ·intro g
  rw [if_neg g] at h
  refine ⟨?_,h.2⟩
  have hlt:k<l.length:=by
   rcases Nat.lt_or_ge k l.length with q|q
   ·exact q
   ·rw [List.drop_eq_nil_of_le q] at hdr;cases hdr
  have e:l.take (k+1)=l.take k++[c]:=by
   rw [List.take_succ_eq_append_getElem hlt]
   congr 2
   have:=List.drop_eq_getElem_cons hlt
   rw [hdr] at this
   exact (List.cons.inj this).1.symm
  rw [h.1,e];simp
theorem hp_end {l:List UInt8} {i:Bool} (h:(hpW false l).1=l.take l.length++(hpW i (l.drop l.length)).1∧(hpW false l).2=(hpW i (l.drop l.length)).2):hpW false l=(l,[]):=by
 rw [List.drop_length,List.take_length] at h
 exact Prod.ext (by rw [h.1];simp [hpW]) (by rw [h.2];simp [hpW])
theorem zlJ {c:UInt8} {n:Nat} (hn:n<256):(((c.toNat:Int))==(n:Int))=decide (c=UInt8.ofNat n):=by
 rw [Bool.eq_iff_iff,beq_iff_eq,decide_eq_true_eq,←UInt8.toNat_inj,UInt8.toNat_ofNat_of_lt' (by simpa using hn)]
 omega
theorem zpE (l:List UInt8) (w:World) (hl:l.length≤1073741824):
  Calls Tryz.prog 57 #[.string ⟨l.toArray⟩] w fun e w'=>e= .returned (.tuple #[.string ⟨(hpW false l).1.toArray⟩,.string ⟨(hpW false l).2.toArray⟩])∧Below w.heap.size w w':=by
 go_enter Tryz.func57,Tryz.ntmps57
 go_wp2
 go_loopw [4,5] (fun v i wr=> ∃(k:Nat) (b:Bool),k≤l.length∧i= .int .i64 k∧v= .bool b∧Hid ((hpW false l).1=l.take k++(hpW b (l.drop k)).1∧(hpW false l).2=(hpW b (l.drop k)).2)∧wr=w) (fun _ i _=>l.length - (intOf i).toNat)
 case atStart=>exact ⟨0,false,Nat.zero_le _,rfl,rfl,⟨rfl,rfl⟩,rfl⟩
 case round=>
  obtain ⟨k,b,hk,rfl,rfl,HS,rfl⟩:=hrel
  by_cases hlt:k<l.length
  ·obtain ⟨hks,c,hba,hdr,-⟩:=zwS l k hlt
   obtain ⟨hy,hno⟩:=hp_at HS.out hdr
   have e91:((c.toNat:Int)==91)=decide (c=91):=zlJ (c:=c) (n:=91) (by omega)
   have e93:((c.toNat:Int)==93)=decide (c=93):=zlJ (c:=c) (n:=93) (by omega)
   have e58:((c.toNat:Int)==58)=decide (c=58):=zlJ (c:=c) (n:=58) (by omega)
   have hs1:=zkE l k hk
   have hs2:=zhA l k hlt
   clear HS hdr
   by_cases h91:c=91
   ·have HF:=yiA (hno (by rw [h91];exact fun g=>absurd g.1 (by decide)))
    rw [if_pos h91] at HF
    subst h91
    clear hy hno
    go_wp2
    go_roundw
    case rel=>exact ⟨k+1,true,by omega,by go_num,rfl,HF.out,by trivial⟩
    case measure=>simp [intOf];omega
   ·by_cases h93:c=93
    ·have HF:=yiA (hno (by rw [h93];exact fun g=>absurd g.1 (by decide)))
     rw [if_neg h91,if_pos h93] at HF
     subst h93
     clear hy hno
     go_wp2
     go_roundw
     case rel=>exact ⟨k+1,false,by omega,by go_num,rfl,HF.out,by trivial⟩
     case measure=>simp [intOf];omega
    ·rw [yiD h91] at e91
     rw [yiD h93] at e93
     by_cases h58:c=58
     ·rw [yiE h58] at e58
      cases b with
      |false=>
       have HF:=yiA (hy ⟨h58,rfl⟩)
       clear hy hno h91 h93 h58
       go_wp2_with fail
       all_goals
        try go_quiet (fail)
       go_wp2
       go_ret2
       exact ⟨by rw [HF.out];rfl,zaU (Below.refl _ _) _⟩
      |true=>
       have HF:=yiA (hno (fun g=>absurd g.2 (by decide)))
       rw [if_neg h91,if_neg h93] at HF
       clear hy hno h91 h93 h58
       go_wp2
       go_roundw
       case rel=>exact ⟨k+1,true,by omega,by go_num,rfl,HF.out,by trivial⟩
       case measure=>simp [intOf];omega
     ·rw [yiD h58] at e58
      have HF:=yiA (hno (fun g=>h58 g.1))
      rw [if_neg h91,if_neg h93] at HF
      clear hy hno h91 h93 h58
      go_wp2
      go_roundw
      case rel=>exact ⟨k+1,b,by omega,by go_num,rfl,HF.out,by trivial⟩
      case measure=>simp [intOf];omega
  ·obtain rfl:k=l.length:=by omega
   have HF:=yiA (hp_end HS.out)
   go_wp2
   go_ret2
   exact ⟨by rw [HF.out];rfl,Below.refl _ _⟩
theorem ptsN_1:ptsN []=some 0:=rfl
theorem yfA (r:List UInt8):ptsN (46::r)=(ptsN r).map (· +1):=by
 match r with
 |[]=>rfl
 |[d]=>
  show (if (46:UInt8)=46∧d=46 then some 2 else none)=(if d=46 then some 1 else none).map (· +1)
  by_cases h:d=46<;>simp [h]
 |d::e::r=>rw [ptsN,if_pos rfl]
theorem yeO {e:UInt8} (r:List UInt8) (h:e=101∨e=69):ptsN (37::50::e::r)=(ptsN r).map (· +1):=by
 rw [ptsN,if_neg (by decide),if_pos ⟨rfl,rfl,h⟩]
theorem z3R {c:UInt8} {r:List UInt8} (h:c≠46) (h2: ¬ ∃e s,c=37∧r=50::e::s∧(e=101∨e=69)):ptsN (c::r)=none:=by
 match r,h2 with
 |[],_=>show (if c=46 then some 1 else none)=none;rw [if_neg h]
 |[d],_=>show (if c=46∧d=46 then some 2 else none)=none;rw [if_neg (fun g=>h g.1)]
 |d::e::r,h2=>
  rw [ptsN,if_neg h,if_neg]
  rintro ⟨g1,g2,g3⟩
  exact h2 ⟨e,r,g1,by rw [g2],g3⟩
theorem z5Z {q m:List UInt8} {n:Nat} (h:ptsN q=(ptsN m).map (· +n)) {s:List UInt8} (hs:ptsN m=(ptsN s).map (· +1)):ptsN q=(ptsN s).map (· +(n+1)):=by
 rw [h,hs]
 cases ptsN s with
 |none=>rfl
 |some k=>simp;omega
theorem ztY {q:List UInt8} (h:ptsN q=none):ptsW q=0:=by unfold ptsW;rw [h]
theorem zsQ {q:List UInt8} {n:Nat} (h:ptsN q=some n):ptsW q=if 2<n then 0 else n:=by unfold ptsW;rw [h]
theorem zrB (l:List UInt8) (w:World) (hl:l.length≤1073741824):
  Calls Tryz.prog 153 #[.string ⟨l.toArray⟩] w fun e w'=>e= .returned (.int .i64 (ptsW l:Nat))∧w=w':=by
 go_enter Tryz.func153,Tryz.ntmps153
 go_wp2
 go_loopg [0,3] l.length (fun gf s v wr=> ∃(m:List UInt8) (n:Nat),s= .string ⟨m.toArray⟩∧v= .int .i64 n∧m.length≤gf∧n+m.length≤l.length∧Hid (ptsN l=(ptsN m).map (· +n))∧wr=w)
 case atStart=>exact ⟨l,0,rfl,rfl,yiC _,by omega,by show _=_;cases ptsN l<;>simp,rfl⟩
 case round=>
  obtain ⟨m,n,rfl,rfl,hm,hmn,HP,rfl⟩:=hrel
  match m,hm,hmn,HP with
  |[],hm,hmn,HP=>
   have HS:Hid (ptsN l=some n):=by show _=_;rw [HP.out,ptsN_1];simp
   by_cases h2:2<n
   ·have HF:Hid (ptsW l=0):=(zsQ HS.out).trans (if_pos h2)
    have hd:decide (2<(n:Int))=true:=yiE (by omega)
    go_wp2
    go_ret
    exact ⟨by rw [HF.out];rfl,rfl⟩
   ·have HF:Hid (ptsW l=n):=(zsQ HS.out).trans (if_neg h2)
    have hd:decide (2<(n:Int))=false:=yiD (by omega)
    go_wp2
    go_ret
    exact ⟨by rw [HF.out];rfl,rfl⟩
  |c::r,hm,hmn,HP=>
   obtain ⟨g',rfl⟩: ∃g',gk=g'+1:=⟨gk - 1,by simp at hm;omega⟩
   have hz:(ByteArray.mk (c::r).toArray).size=r.length+1:=by simp [ByteArray.size]
   have h0:0<(ByteArray.mk (c::r).toArray).size:=by rw [hz];omega
   have hb0:(ByteArray.mk (c::r).toArray)[0]=c:=rfl
   have hs1: ∀W,(Instr.slice 9 (.string ⟨(c::r).toArray⟩) (some (.int .i64 1)) none none).run Tryz.prog W= .ok (.string ⟨r.toArray⟩) W:=zfD (c::r) 1 (by simp)
   have hd0:decide (0<((r.length:Int)+1))=true:=yiE (by omega)
   have hrl:r.length≤g':=by simp at hm;omega
   have hrn:n+1+r.length≤l.length:=by simp at hmn;omega
   have e46:((c.toNat:Int)==46)=decide (c=46):=zlJ (c:=c) (n:=46) (by omega)
   have e37:((c.toNat:Int)==37)=decide (c=37):=zlJ (c:=c) (n:=37) (by omega)
   clear hm hmn
   by_cases h46:c=46
   ·subst h46
    have HF:=yiA (z5Z HP.out (yfA r))
    clear e37
    go_wp2
    go_roundg g'
    case measure=>omega
    case rel=>exact ⟨r,n+1,rfl,by go_num,hrl,hrn,HF.out,by trivial⟩
   ·rw [yiD h46] at e46
    by_cases h3:3≤r.length+1
    ·obtain ⟨d,e,s,rfl⟩: ∃d e s,r=d::e::s:=by
      match r,h3 with
      |d::e::s,_=>exact ⟨d,e,s,rfl⟩
     have h1':1<(ByteArray.mk (c::d::e::s).toArray).size:=by rw [hz];simp
     have h2':2<(ByteArray.mk (c::d::e::s).toArray).size:=by rw [hz];simp
     have hb1:(ByteArray.mk (c::d::e::s).toArray)[1]=d:=rfl
     have hb2:(ByteArray.mk (c::d::e::s).toArray)[2]=e:=rfl
     have hs3: ∀W,(Instr.slice 9 (.string ⟨(c::d::e::s).toArray⟩) (some (.int .i64 3)) none none).run Tryz.prog W= .ok (.string ⟨s.toArray⟩) W:=zfD (c::d::e::s) 3 (by simp)
     have e50:((d.toNat:Int)==50)=decide (d=50):=zlJ (c:=d) (n:=50) (by omega)
     have e101:((e.toNat:Int)==101)=decide (e=101):=zlJ (c:=e) (n:=101) (by omega)
     have e69:((e.toNat:Int)==69)=decide (e=69):=zlJ (c:=e) (n:=69) (by omega)
     have hlen:((d::e::s).length:Int)=(s.length:Int)+2:=by simp;omega
     have hd3:decide ((3:Int)≤(s.length:Int)+1+1+1)=true:=yiE (by omega)
     have hsl:s.length+2≤g':=by simpa using hrl
     have hsn:n+1+s.length≤l.length:=by simp at hrn;omega
     by_cases hy:c=37∧d=50∧(e=101∨e=69)
     ·obtain ⟨hc,hd,he⟩:=hy
      have HF:=yiA (z5Z HP.out (by rw [hc,hd];exact yeO s he))
      rw [yiE hc] at e37
      rw [yiE hd] at e50
      by_cases h101:e=101
      ·rw [yiE h101] at e101
       clear hc hd he h101 h46
       go_wp2
       go_roundg g'
       case measure=>omega
       case rel=>exact ⟨s,n+1,rfl,by go_num,by omega,hsn,HF.out,by trivial⟩
      ·have h69:e=69:=he.resolve_left h101
       rw [yiD h101] at e101
       rw [yiE h69] at e69
       clear hc hd he h101 h69 h46
       go_wp2
       go_roundg g'
       case measure=>omega
       case rel=>exact ⟨s,n+1,rfl,by go_num,by omega,hsn,HF.out,by trivial⟩
     ·have HF:Hid (ptsW l=0):=ztY (by
       rw [HP.out,z3R h46]
       ·rfl
       ·rintro ⟨e',s',g1,g2,g3⟩
        have g4:=List.cons.inj g2
        have g5:=List.cons.inj g4.2
        exact hy ⟨g1,g4.1,by rw [g5.1];exact g3⟩)
      by_cases hc:c=37
      ·rw [yiE hc] at e37
       by_cases hd:d=50
       ·rw [yiE hd] at e50
        have h101: ¬e=101:=fun g=>hy ⟨hc,hd,.inl g⟩
        have h69: ¬e=69:=fun g=>hy ⟨hc,hd,.inr g⟩
        rw [yiD h101] at e101
        rw [yiD h69] at e69
        clear hc hd h101 h69 h46 hy
        go_wp2
        go_ret
        exact ⟨by rw [HF.out];rfl,rfl⟩
       ·rw [yiD hd] at e50
        clear hc hd h46 hy
        go_wp2
        go_ret
        exact ⟨by rw [HF.out];rfl,rfl⟩
      ·rw [yiD hc] at e37
       clear hc h46 hy
       go_wp2
       go_ret
       exact ⟨by rw [HF.out];rfl,rfl⟩
    ·have HF:Hid (ptsW l=0):=ztY (by
      rw [HP.out,z3R h46]
      ·rfl
      ·rintro ⟨e',s',g1,g2,g3⟩
       rw [g2] at h3
       simp at h3)
     have hd3:decide ((3:Int)≤(r.length:Int)+1)=false:=yiD (by omega)
     go_wp2
     go_ret
     exact ⟨by rw [HF.out];rfl,rfl⟩
end
end Go.Proofs.YtcagcjdhbijknaaGreatDoor
