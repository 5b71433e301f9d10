/-
  What the law WhatwgReads leans on, and its walk (23 of 29).
-/
import Derived.Test.YthacmlahnpdeeaaGreatDoorWhatwgReadsPkU
import Derived.Test.YthacmlahnpdeeaaGreatDoorWhatwgReadsPkW
import Derived.Test.YthacmlahnpdeeaaGreatDoorWhatwgReadsPkO
import Derived.Test.YthacmlahnpdeeaaGreatDoorWhatwgReadsPkP
namespace Go.Proofs.YthacmlahnpdeeaaGreatDoor
set_option maxRecDepth 100000
set_option maxHeartbeats 16000000
abbrev ydV := @Lib.hid
abbrev ydW := @beq_eq_false_iff_ne
abbrev ydX := @Nat.le_refl
abbrev ydY := @decide_eq_false
abbrev ydZ := @decide_eq_true
section
open Go.RowKit
theorem mkf (fn:Fn) (first cap:Array Value) (w:World):(Instr.makeFunc fn first cap).run Tryz.prog w= .ok (.func fn first cap) w:=rfl
theorem zmD (of_:List UInt8) (w:World):
  Calls Tryz.prog 75 #[.string ⟨of_.toArray⟩] w fun e w'=>e= .returned (.func (.func 120) #[] #[.pointer (some ⟨w.heap.size,0,none⟩)])∧w'=w.alloc (.cells #[.string ⟨of_.toArray⟩] 9):=by
 have hmf:=mkf
 go_enter Tryz.func75,Tryz.ntmps75
 go_wp2
 go_ret
 exact ⟨rfl,rfl⟩
theorem zgQ (of_:List UInt8) (h: ∀c∈of_,c.toNat<128) (M:Nat) (l:List UInt8) (w:World) (hm:MB w M l):
  Calls Tryz.prog 38 #[.pointer (some ⟨M,0,none⟩),.func (.func 120) #[] #[.pointer (some ⟨w.heap.size,0,none⟩)]] (w.alloc (.cells #[.string ⟨of_.toArray⟩] 9)) (RetU w [] M (l.take (l.findIdx (hasB of_))) (l.drop (l.findIdx (hasB of_)))):=by
 have hb:Below w.heap.size w (w.alloc (.cells #[.string ⟨of_.toArray⟩] 9)):=(Below.refl _ w).alloc (ydX _) _
 have hblk:=heap_alloc_new w (.cells #[.string ⟨of_.toArray⟩] 9)
 have:=ziX (z7J h) [] (fun (_:Unit) _=>True) 120 #[.pointer (some ⟨w.heap.size,0,none⟩)] (enters_of Tryz.func120 (by kernel_rfl) rfl) M l () _ (hm.below hb) (by simp) (fun b hb=>by cases hb) trivial (fun _ _ _ _ _=>trivial) (ybA of_ h w.heap.size _ (by simp) (zaE hblk 0))
 rw [z7W] at this
 exact this.mono fun e w' ⟨h1,h2,h3⟩=>⟨h1,h2,(Only.of_below (F:=[M]) hb).trans h3 (fun x hx=> .inl hx)⟩
theorem zpW (M:Nat) (l:List UInt8) (w:World) (hm:MB w M l):
  Calls Tryz.prog 38 #[.pointer (some ⟨M,0,none⟩),.func (.func 39) #[] #[]] w (RetU w [] M (l.take (zeJ l)) (zcW l)):=by
 have:=ziX z4I [] (fun (_:Unit) _=>True) 39 #[] (enters_of Tryz.func39 (by kernel_rfl) rfl) M l () w hm (by simp) (fun b hb=>by cases hb) trivial (fun _ _ _ _ _=>trivial) (z8F w)
 rw [←ziB]
 exact this
theorem zsP (B:Nat): ∀(s:Bool) (W W':World),CapB B s W→(∀b∈[B],W'.heap[b]? =W.heap[b]?)→CapB B s W':=fun _ _ _ h k=>(k B (by simp)).trans h
theorem z3C {w:World} {M:Nat} {l:List UInt8} (hm:MB w M l):Below w.heap.size w (w.alloc (.cells #[.bool false] 4))∧CapB w.heap.size false (w.alloc (.cells #[.bool false] 4))∧MB (w.alloc (.cells #[.bool false] 4)) M l∧M∉[w.heap.size]:=
 have hb:Below w.heap.size w (w.alloc (.cells #[.bool false] 4)):=(Below.refl _ w).alloc (ydX _) _
 ⟨hb,heap_alloc_new w _,hm.below hb,fun h=>by have:=zaT hm;simp at h;omega⟩
theorem zvA {w x y:World} {M:Nat} (hb:Below w.heap.size w x) (h:Only (M::[w.heap.size]) x y):Only [M] w y:=
 (Only.of_below (F:=[M]) hb).trans h (fun x hx=>by
  rcases List.mem_cons.1 hx with e|e
  ·exact .inl (by rw [e];exact List.mem_cons_self ..)
  ·rw [List.mem_singleton] at e;exact .inr (by omega))
def RetSch (w:World) (M:Nat) (o:Option (List UInt8×List UInt8)) (l:List UInt8) (e:Ending) (w':World):Prop:=
 e= .returned (.tuple #[.string ⟨((o.map Prod.fst).getD []).toArray⟩,.bool o.isSome])∧MB w' M ((o.map Prod.snd).getD l)∧Only [M] w w'
theorem zyT (M:Nat) (l:List UInt8) (w:World) (hl:l.length≤1073741824) (hm:MB w M l):
  Calls Tryz.prog 36 #[.pointer (some ⟨M,0,none⟩)] w (RetSch w M (schW l) l):=by
 have hmf:=mkf
 obtain ⟨hb,hcp,hm1,hMn⟩:=z3C hm
 have c0:=hm.cell
 have c1:=hm1.cell
 have HU:=ydV (ziX z7A [w.heap.size] (CapB w.heap.size) 68 #[.pointer (some ⟨w.heap.size,0,none⟩)] (enters_of Tryz.func68 (by kernel_rfl) rfl) M l false _ hm1 hMn (fun b hb=>by simp at hb;subst hb;simp) hcp (zsP _) (yaQ _ _))
 have HO:=ydV (fun y (h:Only (M::[w.heap.size]) (w.alloc (.cells #[.bool false] 4)) y)=>zvA hb h)
 have HF:=ydV (zsH l)
 have HNL:Hid (schN l≤l.length):=zuA schS l false
 rw [show zcE schS false l=schN l from rfl] at HU
 clear hm hm1 hcp hMn hb
 go_enter Tryz.func36,Tryz.ntmps36
 go_wp2_with fail
 refine HU.out.mono ?_
 rintro e x1 ⟨rfl,hm1,ho⟩
 have ho1:=HO.out _ ho
 clear ho HU HO
 obtain ⟨n,hn⟩: ∃n,schN l=n:=⟨_,rfl⟩
 rw [hn] at hm1 HF HNL
 rw [hn]
 by_cases h0:n=0
 ·subst h0
  rw [List.drop_zero] at hm1
  rw [List.take_zero]
  have d1:=hm1.cell
  have f1:=zbA hm1 0
  have HF2:Hid (schW l=none):=by show _=_;rw [HF.out,if_neg (fun g=>g.1 rfl)]
  have HE:Hid (MB (x1.setCell ⟨M,0,none⟩ (.string ⟨l.toArray⟩)) M l∧Only [M] w (x1.setCell ⟨M,0,none⟩ (.string ⟨l.toArray⟩))):=⟨hm1.set _,ho1.setCell (p:=⟨M,0,none⟩) (.inl (List.mem_cons_self ..)) _⟩
  clear hm1 ho1 hn
  go_wp2
  go_ret2
  rw [HF2.out]
  exact ⟨rfl,HE.out⟩
 ·have HK:=ydV (zgI M (l.drop n) [58] x1 hm1)
  have hne:(l.take n).isEmpty=false:=by
   rw [Bool.eq_false_iff]
   intro g
   have:=HNL.out
   have h2:(l.take n).length=0:=by rw [List.isEmpty_iff.1 g];rfl
   rw [List.length_take] at h2
   omega
  have hlt:(l.take n).length≤1073741824:=by rw [List.length_take];omega
  have HLW:=ydV (fun W=>zrA ⟨(l.take n).toArray⟩ W (by rw [zaA];exact hlt))
  rw [zaC] at HLW
  have hd:hd1 [58] (l.drop n)=decide (l[n]? =some 58):=by
   cases e:l[n]? with
   |none=>rw [List.drop_eq_nil_of_le (by simpa using e)];rfl
   |some c=>
    obtain ⟨h1,h2⟩:=List.getElem?_eq_some_iff.1 e
    rw [List.drop_eq_getElem_cons h1,h2]
    show hasB [58] c=_
    by_cases g:c=58
    ·subst g;rfl
    ·rw [ydY (by simpa using g)]
     simp [hasB,Ne.symm g]
  rw [hd] at HK
  clear hd
  generalize hq:l.take n=q at*
  by_cases h58:l[n]? =some 58
  ·have HF2:Hid (schW l=some (zaQ q,l.drop (n+1))):=by show _=_;rw [HF.out,if_pos ⟨h0,h58⟩]
   rw [ydZ h58,if_pos rfl,List.drop_drop] at HK
   clear h58 HF hq h0 hn
   go_wp2_with fail
   refine HK.out.mono ?_
   rintro e x2 ⟨rfl,hm2,ho2⟩
   have HO2:=ydV (ho1.trans ho2 (fun x hx=> .inl hx))
   have HM2:=ydV hm2
   clear HK ho1 ho2 hm1 hm2
   go_wp2_with fail
   refine (HLW.out _).mono ?_
   rintro e x3 ⟨rfl,hb3⟩
   go_wp2
   go_ret2
   rw [HF2.out]
   exact ⟨rfl,HM2.out.below hb3,HO2.out.then_below hb3⟩
  ·have HF2:Hid (schW l=none):=by show _=_;rw [HF.out,if_neg (fun g=>h58 g.2)]
   rw [ydY h58,if_neg (by decide)] at HK
   clear h58 HF hq h0 hn
   go_wp2_with fail
   refine HK.out.mono ?_
   rintro e x2 ⟨rfl,hm2,ho2⟩
   have d1:=hm2.cell
   have f1:=zbA hm2 0
   have HE:Hid (MB (x2.setCell ⟨M,0,none⟩ (.string ⟨l.toArray⟩)) M l∧Only [M] w (x2.setCell ⟨M,0,none⟩ (.string ⟨l.toArray⟩))):=⟨hm2.set _,(ho1.trans ho2 (fun x hx=> .inl hx)).setCell (p:=⟨M,0,none⟩) (.inl (List.mem_cons_self ..)) _⟩
   clear HK ho1 ho2 hm1 hm2 HLW
   go_wp2
   go_ret2
   rw [HF2.out]
   exact ⟨rfl,HE.out⟩
theorem z3R (M:Nat) (l:List UInt8) (w:World) (hm:MB w M l):
  Calls Tryz.prog 117 #[.pointer (some ⟨M,0,none⟩)] w (RetU w [] M (hpW false l).1 (l.drop (zcE zgO false l))):=by
 have hmf:=mkf
 obtain ⟨hb,hcp,hm1,hMn⟩:=z3C hm
 have HU:=ydV (ziX z0J [w.heap.size] (CapB w.heap.size) 165 #[.pointer (some ⟨w.heap.size,0,none⟩)] (enters_of Tryz.func165 (by kernel_rfl) rfl) M l false _ hm1 hMn (fun b hb=>by simp at hb;subst hb;simp) hcp (zsP _) (z7Z _ _))
 have HO:=ydV (fun y (h:Only (M::[w.heap.size]) (w.alloc (.cells #[.bool false] 4)) y)=>zvA hb h)
 rw [(zfN l false).1] at HU
 clear hm hm1 hcp hMn hb
 go_enter Tryz.func117,Tryz.ntmps117
 go_wp2_with fail
 refine HU.out.mono ?_
 rintro e x1 ⟨rfl,hm1,ho⟩
 have HOO:=ydV (HO.out _ ho)
 have HMM:=ydV hm1
 clear ho hm1 HU HO
 go_wp2
 go_ret
 exact ⟨rfl,HMM.out,HOO.out⟩
theorem ziY (s:List UInt8) (w:World):Calls Tryz.prog 37 #[.string ⟨s.toArray⟩] w fun e w'=>e= .returned (.int .i64 (ownZ s))∧w=w':=by
 by_cases h1:s=zlA
 ·subst h1
  go_enter Tryz.func37,Tryz.ntmps37
  go_wp2
  go_ret
  exact ⟨rfl,rfl⟩
 ·by_cases h2:s=zgN
  ·subst h2
   go_enter Tryz.func37,Tryz.ntmps37
   go_wp2
   go_ret
   exact ⟨rfl,rfl⟩
  ·have HF:Hid (ownZ s=0):=by show _=_;unfold ownZ;rw [if_neg h1,if_neg h2]
   have e1:(s==[104,116,116,112])=false:=by rw [ydW];exact h1
   have e2:(s==[104,116,116,112,115])=false:=by rw [ydW];exact h2
   clear h1 h2
   go_enter Tryz.func37,Tryz.ntmps37
   go_wp2
   go_ret
   exact ⟨by rw [HF.out];rfl,rfl⟩
theorem z3T (s:ByteArray) (k:Nat) (h:k<s.size) (hc: ¬s[k].toNat<128):128≤(Utf8.decode s k).1:=(decode_high s k h (by omega)).1
theorem zzC {name l:List UInt8} (h:digP 0 l=none):zgG name l=(0,false):=by unfold zgG;rw [h]
theorem z5X {name l:List UInt8} {n:Int} (h:digP 0 l=some n) (hn:65535<n):zgG name l=(0,false):=by unfold zgG;rw [h];exact if_pos hn
theorem z5O {name l:List UInt8} {n:Int} (h:digP 0 l=some n) (hn: ¬65535<n) (ho:l=[]∨n=ownZ name):zgG name l=(-1,true):=by unfold zgG;rw [h];exact (if_neg hn).trans (if_pos ho)
theorem ybT {name l:List UInt8} {n:Int} (h:digP 0 l=some n) (hn: ¬65535<n) (ho: ¬(l=[]∨n=ownZ name)):zgG name l=(n,true):=by unfold zgG;rw [h];exact (if_neg hn).trans (if_neg ho)
theorem ybD {c:Nat} (h:zaS (c:Int)=true):valZ (c:Int)=(c:Int) - 48∧48≤c∧c≤57:=by
 have h48:48≤(c:Int)∧(c:Int)≤57:=by simpa [zaS] using h
 refine ⟨?_,by omega,by omega⟩
 unfold valZ
 (repeat' split)<;>omega
theorem zqW (name l:List UInt8) (w:World):
  Calls Tryz.prog 118 #[.string ⟨l.toArray⟩,.string ⟨name.toArray⟩] w fun e w'=>e= .returned (.tuple #[.int .i64 (zgG name l).1,.bool (zgG name l).2])∧Below w.heap.size w w':=by
 have hz:(ByteArray.mk l.toArray).size=l.length:=by simp [ByteArray.size]
 have HP1:=ydV (zzC (name:=name) (l:=l))
 have HP2:=ydV (fun n=>z5X (name:=name) (l:=l) (n:=n))
 have HP3:=ydV (fun n=>z5O (name:=name) (l:=l) (n:=n))
 have HP4:=ydV (fun n=>ybT (name:=name) (l:=l) (n:=n))
 have HOW:=ydV (fun W=>ziY name W)
 obtain ⟨res,hres⟩: ∃r,zgG name l=r:=⟨_,rfl⟩
 rw [hres] at HP1 HP2 HP3 HP4 ⊢
 clear hres
 generalize ownZ name=own at*
 go_enter Tryz.func118,Tryz.ntmps118
 go_wp2
 go_loopg [6] l.length (fun gf o wx=> ∃(pos:Nat) (n:Int),o= .int .i64 n∧0≤n∧n≤65536∧wx.heap[w.heap.size]? =some (.stringIter ⟨l.toArray⟩ pos)∧Below w.heap.size w wx∧pos≤l.length∧Hid (digP 0 l=digP n (l.drop pos))∧l.length≤pos+gf)
 case atStart=>exact ⟨0,0,rfl,by omega,by omega,World.iter_heap w _ 0,(Below.refl _ w).alloc (ydX _) _,Nat.zero_le _,rfl,by omega⟩
 case round=>
  obtain ⟨pos,n,rfl,hn0,hn1,hit,hbw,hpl,HS,hgf⟩:=hrel
  by_cases hps:pos<l.length
  ·obtain ⟨g',rfl⟩: ∃g',gk=g'+1:=⟨gk - 1,by omega⟩
   have hps':pos<(ByteArray.mk l.toArray).size:=by rw [hz];exact hps
   have hnx: ∀ty,(Instr.next (.pointer (some ⟨w.heap.size,0,none⟩)) true ty).run Tryz.prog wr=_:=fun ty=>Lib.run_next_any_at wr w.heap.size _ pos ty hit hps'
   have hdr:l.drop pos=l[pos]::l.drop (pos+1):=List.drop_eq_getElem_cons hps
   have hba:(ByteArray.mk l.toArray)[pos]=l[pos]:=rfl
   by_cases hlow:(ByteArray.mk l.toArray)[pos].toNat<128
   ·rw [decode_ascii _ pos hps' hlow,hba] at hnx
    rw [hba] at hlow
    have hit2:=Lib.iterAt_heap wr w.heap.size _ pos (pos+1) hit
    have hbw2:=Lib.below_iterAt hbw (k:=w.heap.size) (ydX _) ⟨l.toArray⟩ (pos+1)
    simp only at hnx
    generalize wr.iterAt w.heap.size ⟨l.toArray⟩ (pos+1)=wi at*
    obtain ⟨c,hc⟩: ∃c,l[pos]=c:=⟨_,rfl⟩
    rw [hc] at hnx hlow hdr
    have HSS:Hid (digP 0 l=if zaS c.toNat=true then digP (min (10*n+((c.toNat:Int) - 48)) 65536) (l.drop (pos+1)) else none):=by show _=_;rw [HS.out,hdr,digP]
    have hvd:=ybD (c:=c.toNat)
    clear hc hdr hba hit hbw hps'
    generalize c.toNat=cn at*
    have HD:=ydV (fun W=>zcS (cn:Int) W)
    have HV:=ydV (fun W=>zcD (cn:Int) W)
    cases hd:zaS (cn:Int) with
    |false=>
     rw [hd] at HD HSS
     have HF:=ydV (HP1.out HSS.out)
     go_wp2_with fail
     refine (HD.out _).mono ?_
     rintro e w' ⟨rfl,rfl⟩
     go_wp2
     go_ret2
     exact ⟨by rw [HF.out];rfl,hbw2⟩
    |true=>
     rw [hd] at HD HSS
     obtain ⟨v1,v2,v3⟩:=hvd hd
     rw [v1] at HV
     have HF:Hid (digP 0 l=digP (min (10*n+((cn:Int) - 48)) 65536) (l.drop (pos+1))):=HSS.out.trans (if_pos rfl)
     clear HSS hd v1 hvd
     by_cases hbig:65536<10*n+((cn:Int) - 48)
     ·have hm:min (10*n+((cn:Int) - 48)) 65536=65536:=by omega
      rw [hm] at HF
      go_wp2_with (first|(go_at_call 70;refine (HD.out _).mono ?_;rintro e w' ⟨rfl,rfl⟩)|(go_at_call 166;refine (HV.out _).mono ?_;rintro e w' ⟨rfl,rfl⟩))
      go_roundg g'
      case measure=>omega
      case rel=>exact ⟨pos+1,65536,rfl,by omega,by omega,hit2,hbw2,by omega,HF.out,by omega⟩
     ·have hm:min (10*n+((cn:Int) - 48)) 65536=10*n+((cn:Int) - 48):=by omega
      rw [hm] at HF
      go_wp2_with (first|(go_at_call 70;refine (HD.out _).mono ?_;rintro e w' ⟨rfl,rfl⟩)|(go_at_call 166;refine (HV.out _).mono ?_;rintro e w' ⟨rfl,rfl⟩))
      go_roundg g'
      case measure=>omega
      case rel=>exact ⟨pos+1,10*n+((cn:Int) - 48),rfl,by omega,by omega,hit2,hbw2,by omega,HF.out,by omega⟩
   ·have hhi:=z3T _ pos hps' hlow
    have hdg:zaS (l[pos].toNat:Int)=false:=ydY (by rw [hba] at hlow;omega)
    have HF:=ydV (HP1.out (by rw [HS.out,hdr,digP,if_neg (by rw [hdg];decide)]))
    obtain ⟨R,hR⟩: ∃R,(Utf8.decode ⟨l.toArray⟩ pos).1=R:=⟨_,rfl⟩
    rw [hR] at hhi hnx
    have hbw2:=Lib.below_iterAt hbw (k:=w.heap.size) (ydX _) ⟨l.toArray⟩ (pos+(Utf8.decode ⟨l.toArray⟩ pos).2)
    generalize wr.iterAt w.heap.size ⟨l.toArray⟩ (pos+(Utf8.decode ⟨l.toArray⟩ pos).2)=wi at*
    have HD:=ydV (fun W=>zcS (R:Int) W)
    rw [show zaS (R:Int)=false from ydY (by omega)] at HD
    clear hR hdg hdr hba hlow
    go_wp2_with fail
    refine (HD.out _).mono ?_
    rintro e w' ⟨rfl,rfl⟩
    go_wp2
    go_ret2
    exact ⟨by rw [HF.out];rfl,hbw2⟩
  ·have hps': ¬pos<(ByteArray.mk l.toArray).size:=by rw [hz];exact hps
   have hnx: ∀ty,(Instr.next (.pointer (some ⟨w.heap.size,0,none⟩)) true ty).run Tryz.prog wr=_:=fun ty=>Lib.run_next_end_at wr w.heap.size _ pos ty hit hps'
   have HE:Hid (digP 0 l=some n):=by show _=_;rw [HS.out,List.drop_eq_nil_of_le (by omega)];rfl
   by_cases hbig:65535<n
   ·have HF:=ydV (HP2.out n HE.out hbig)
    have hd:decide (65535<n)=true:=ydZ hbig
    go_wp2
    go_ret2
    exact ⟨by rw [HF.out];rfl,hbw⟩
   ·have hd:decide (65535<n)=false:=ydY hbig
    have HQ3:=ydV (HP3.out n HE.out (by omega))
    have HQ4:=ydV (HP4.out n HE.out (by omega))
    cases hq:l with
    |nil=>
     have HF:=ydV (HQ3.out (.inl hq))
     subst hq
     go_wp2
     go_ret2
     exact ⟨by rw [HF.out];rfl,hbw⟩
    |cons c r=>
     have hqe:l.isEmpty=false:=by rw [hq];rfl
     have hl0:l≠[]:=by rw [hq];simp
     rw [←hq]
     clear hq
     by_cases ho:n=own
     ·have HF:=ydV (HQ3.out (.inr ho))
      subst ho
      go_wp2_with fail
      refine (HOW.out _).mono ?_
      rintro e w' ⟨rfl,rfl⟩
      go_wp2
      go_ret2
      exact ⟨by rw [HF.out];rfl,hbw⟩
     ·have HF:=ydV (HQ4.out (by rintro (g|g);exact hl0 g;exact ho g))
      have hno:(n==own)=false:=beq_eq_false_iff_ne.2 ho
      go_wp2_with fail
      refine (HOW.out _).mono ?_
      rintro e w' ⟨rfl,rfl⟩
      go_wp2
      go_ret2
      exact ⟨by rw [HF.out];rfl,hbw⟩
def UZ.cells (u:UZ) (pv:Value):Array Value:= #[.string ⟨u.scheme.toArray⟩,.string ⟨u.user.toArray⟩,.string ⟨u.pass.toArray⟩,u.host.val,.int .i64 u.port,pv,.string ⟨u.query.toArray⟩,.bool u.hasQ,.string ⟨u.frag.toArray⟩,.bool u.hasF]
def UB (w:World) (U:Nat) (u:UZ) (pv:Value):Prop:=w.heap[U]? =some (.cells (u.cells pv) 27)
theorem UB.only {w w':World} {F:List Nat} {U:Nat} {u:UZ} {pv:Value} (h:UB w U u pv) (ho:Only F w w') (hU:U∉F):UB w' U u pv:=(ho.block U (zaT h) hU).trans h
theorem UB.below {w w':World} {U:Nat} {u:UZ} {pv:Value} (h:UB w U u pv) (hb:Below w.heap.size w w'):UB w' U u pv:=(hb.block U (zaT h)).trans h
theorem UB.qry {w:World} {U:Nat} {u:UZ} {pv:Value} (h:UB w U u pv) (q:List UInt8):UB ((w.setCell ⟨U,6,none⟩ (.string ⟨q.toArray⟩)).setCell ⟨U,7,none⟩ (.bool true)) U {u with query:=q,hasQ:=true} pv:=zaL (zaL h 6 _) 7 _
theorem UB.frg {w:World} {U:Nat} {u:UZ} {pv:Value} (h:UB w U u pv) (q:List UInt8):UB ((w.setCell ⟨U,8,none⟩ (.string ⟨q.toArray⟩)).setCell ⟨U,9,none⟩ (.bool true)) U {u with frag:=q,hasF:=true} pv:=zaL (zaL h 8 _) 9 _
theorem UB.ne {w:World} {U M:Nat} {u:UZ} {pv:Value} {l:List UInt8} (h:UB w U u pv) (hm:MB w M l):U≠M:=fun e=>by
 subst e
 unfold UB at h
 rw [hm] at h
 injection h with h
 injection h with _ h
 revert h
 decide
theorem MB.set2 {w:World} {M U:Nat} {l:List UInt8} (h:MB w M l) (hne:U≠M) (i j:Nat) (a b:Value):MB ((w.setCell ⟨U,i,none⟩ a).setCell ⟨U,j,none⟩ b) M l:=by
 unfold MB
 rw [zbC hne.symm,zbC hne.symm]
 exact h
theorem zmW {w x:World} {M U:Nat} (h:Only [M,U] w x) (i j:Nat) (a b:Value):Only [M,U] w ((x.setCell ⟨U,i,none⟩ a).setCell ⟨U,j,none⟩ b):=
 (h.setCell (p:=⟨U,i,none⟩) (.inl (by simp)) _).setCell (p:=⟨U,j,none⟩) (.inl (by simp)) _
theorem zmZ {w x y:World} {M U:Nat} (h:Only [M,U] w x) (k:Only [M] x y):Only [M,U] w y:=h.trans k (fun z hz=> .inl (by rw [List.mem_singleton.1 hz];simp))
theorem UB.st6 {w:World} {U:Nat} {u:UZ} {pv:Value} (h:UB w U u pv) (a:Value):(w.cell? ⟨U,6,none⟩=some (.string ⟨u.query.toArray⟩)∧w.frozen? ⟨U,6,none⟩=false)∧(w.setCell ⟨U,6,none⟩ a).cell? ⟨U,7,none⟩=some (.bool u.hasQ)∧(w.setCell ⟨U,6,none⟩ a).frozen? ⟨U,7,none⟩=false:=⟨⟨zaE h 6,zbA h 6⟩,zaE (zaL h 6 a) 7,zbA (zaL h 6 a) 7⟩
theorem UB.st8 {w:World} {U:Nat} {u:UZ} {pv:Value} (h:UB w U u pv) (a:Value):(w.cell? ⟨U,8,none⟩=some (.string ⟨u.frag.toArray⟩)∧w.frozen? ⟨U,8,none⟩=false)∧(w.setCell ⟨U,8,none⟩ a).cell? ⟨U,9,none⟩=some (.bool u.hasF)∧(w.setCell ⟨U,8,none⟩ a).frozen? ⟨U,9,none⟩=false:=⟨⟨zaE h 8,zbA h 8⟩,zaE (zaL h 8 a) 9,zbA (zaL h 8 a) 9⟩
theorem zmU (c:UInt8) (l:List UInt8):hd1 [c] l=decide (l.head? =some c):=by
 match l with
 |[]=>rfl
 |d::r=>
  show hasB [c] d=_
  by_cases g:d=c
  ·subst g;simp [hasB]
  ·rw [ydY (by simpa using g)]
   simp [hasB,Ne.symm g]
theorem zfZ (st:Int) (l:List UInt8) (w:World) (h0:0≤st) (hl:l.length≤67108864):Calls Tryz.prog 119 #[.int .u8 st,.string ⟨l.toArray⟩] w fun e w'=>e= .returned (.string ⟨(encW st l).toArray⟩)∧Below w.heap.size w w':=
 zyS st ⟨l.toArray⟩ w h0 (by rw [zaA];exact hl)
theorem zzV (M U:Nat) (l:List UInt8) (u:UZ) (pv:Value) (w:World) (hl:l.length≤67108864) (hm:MB w M l) (hu:UB w U u pv) (h63:l.head? ≠some 63):
  Calls Tryz.prog 77 #[.pointer (some ⟨M,0,none⟩),.pointer (some ⟨U,0,none⟩)] w fun e w'=>e= .returned (.tuple #[])∧UB w' U (finC u l) pv∧Only [M,U] w w':=by
 have HNE:=ydV (hu.ne hm)
 have HUW:=ydV hu
 have HK:=ydV (zgI M l [63] w hm)
 rw [zmU,ydY h63,if_neg (by decide)] at HK
 have HF:Hid (finC u l=if l.head? =some 35 then {u with frag:=encW 1 (l.drop 1),hasF:=true} else u):=if_neg h63
 clear hm hu h63
 go_enter Tryz.func77,Tryz.ntmps77
 go_wp2_with fail
 refine HK.out.mono ?_
 rintro e x1 ⟨rfl,hm1,ho1⟩
 have HUX:=ydV (HUW.out.only ho1 (by simp [HNE.out]))
 have HOX:=ydV (ho1.mono (G:=[M,U]) (fun x hx=>by rw [List.mem_singleton.1 hx];simp))
 have HK2:=ydV (zgI M l [35] x1 hm1)
 rw [zmU] at HK2
 clear HK ho1 hm1
 by_cases h35:l.head? =some 35
 ·rw [ydZ h35,if_pos rfl] at HK2
  have HF2:=HF.out.trans (if_pos h35)
  clear HF
  have HF:=ydV HF2
  have hll:(l.drop 1).length≤l.length:=by rw [List.length_drop];omega
  generalize l.drop 1=m at*
  clear h35 HF2
  go_wp2_with fail
  refine (HK2.out).mono ?_
  rintro e xa ⟨rfl,hma,hoa⟩
  have HUA:=ydV (HUX.out.only hoa (by simp [HNE.out]))
  have HOA:=ydV (zmZ HOX.out hoa)
  have ca:=hma.cell
  have HMA:=ydV hma
  clear hma hoa
  have HEN:=ydV (fun W=>zfZ 1 m W (by decide) (by omega))
  go_wp2_with fail
  refine (HEN.out _).mono ?_
  rintro e xb ⟨rfl,hbb⟩
  have HUB:=ydV (HUA.out.below hbb)
  have HOB:=ydV (HOA.out.then_below hbb)
  obtain ⟨⟨e8,f8⟩,e9,f9⟩:=HUB.out.st8 (.string ⟨(encW 1 m).toArray⟩)
  have HFR:=ydV (HUB.out.frg (encW 1 m))
  have HON:=ydV (zmW HOB.out 8 9 (.string ⟨(encW 1 m).toArray⟩) (.bool true))
  clear HEN hbb
  go_wp2
  go_end0
  exact ⟨rfl,by rw [HF.out];exact HFR.out,HON.out⟩
 ·rw [ydY h35,if_neg (by decide)] at HK2
  have HF2:=HF.out.trans (if_neg h35)
  clear HF
  have HF:=ydV HF2
  clear h35 HF2
  go_wp2_with fail
  refine (HK2.out).mono ?_
  rintro e xa ⟨rfl,hma,hoa⟩
  have HUA:=ydV (HUX.out.only hoa (by simp [HNE.out]))
  have HOA:=ydV (zmZ HOX.out hoa)
  clear hma hoa
  go_wp2
  go_end0
  exact ⟨rfl,by rw [HF.out];exact HUA.out,HOA.out⟩
theorem zyH (M U:Nat) (l:List UInt8) (u:UZ) (pv:Value) (w:World) (hl:l.length≤67108864) (hm:MB w M l) (hu:UB w U u pv) (h63:l.head? =some 63):
  Calls Tryz.prog 77 #[.pointer (some ⟨M,0,none⟩),.pointer (some ⟨U,0,none⟩)] w fun e w'=>e= .returned (.tuple #[])∧UB w' U (finC u l) pv∧Only [M,U] w w':=by
 have HNE:=ydV (hu.ne hm)
 have HUW:=ydV hu
 have HK:=ydV (zgI M l [63] w hm)
 rw [zmU,ydZ h63,if_pos rfl] at HK
 have HF0:Hid (finC u l=_):=if_pos h63
 have hll:(l.drop 1).length≤l.length:=by rw [List.length_drop];omega
 clear hm hu h63
 generalize l.drop 1=r at*
 have ht1:(r.take (r.findIdx (hasB [35]))).length≤r.length:=by rw [List.length_take];omega
 have ht2:(r.drop (r.findIdx (hasB [35]))).length≤r.length:=by rw [List.length_drop];omega
 have HU1:=ydV (fun W (h:MB W M r)=>zgQ [35] (by decide) M r W h)
 have HEQ:=ydV (fun W=>zfZ 3 (r.take (r.findIdx (hasB [35]))) W (by decide) (by omega))
 generalize r.take (r.findIdx (hasB [35]))=qt at*
 generalize r.drop (r.findIdx (hasB [35]))=l1 at*
 go_enter Tryz.func77,Tryz.ntmps77
 go_wp2_with fail
 refine HK.out.mono ?_
 rintro e x1 ⟨rfl,hm1,ho1⟩
 have HUA:=ydV (HUW.out.only ho1 (by simp [HNE.out]))
 have HOA:=ydV (ho1.mono (G:=[M,U]) (fun x hx=>by rw [List.mem_singleton.1 hx];simp))
 have HU2:=ydV (HU1.out _ hm1)
 clear HK ho1 hm1 HU1
 go_wp2_with fail
 refine (zmD [35] _).mono ?_
 rintro e x2 ⟨rfl,rfl⟩
 go_wp2_with fail
 refine HU2.out.mono ?_
 rintro e x3 ⟨rfl,hm3,ho3⟩
 have HUC:=ydV (HUA.out.only ho3 (by simp [HNE.out]))
 have HOC:=ydV (zmZ HOA.out ho3)
 have HMC:=ydV hm3
 clear HU2 hm3 ho3 HUA HOA
 go_wp2_with fail
 refine (HEQ.out _).mono ?_
 rintro e x4 ⟨rfl,hb4⟩
 have HUD:=ydV (HUC.out.below hb4)
 have HOD:=ydV (HOC.out.then_below hb4)
 have HMD:=ydV (HMC.out.below hb4)
 clear HUC HOC HMC hb4 HEQ
 obtain ⟨⟨e6,f6⟩,e7,f7⟩:=HUD.out.st6 (.string ⟨(encW 3 qt).toArray⟩)
 have HUX:=ydV (HUD.out.qry (encW 3 qt))
 have HOX:=ydV (zmW HOD.out 6 7 (.string ⟨(encW 3 qt).toArray⟩) (.bool true))
 have HMX:=ydV (HMD.out.set2 HNE.out 6 7 (.string ⟨(encW 3 qt).toArray⟩) (.bool true))
 clear HUD HOD HMD
 have HK2:=ydV (zgI M l1 [35] _ HMX.out)
 rw [zmU] at HK2
 by_cases h35:l1.head? =some 35
 ·rw [ydZ h35,if_pos rfl] at HK2
  have HF2:=HF0.out.trans (if_pos h35)
  have HF:=ydV HF2
  have hll2:(l1.drop 1).length≤l1.length:=by rw [List.length_drop];omega
  generalize l1.drop 1=m at*
  clear h35 HF2 HF0 HMX
  go_wp2_with fail
  refine (HK2.out).mono ?_
  rintro e xa ⟨rfl,hma,hoa⟩
  have HUA:=ydV (HUX.out.only hoa (by simp [HNE.out]))
  have HOA:=ydV (zmZ HOX.out hoa)
  have ca:=hma.cell
  have HMA:=ydV hma
  clear hma hoa
  have HEN:=ydV (fun W=>zfZ 1 m W (by decide) (by omega))
  go_wp2_with fail
  refine (HEN.out _).mono ?_
  rintro e xb ⟨rfl,hbb⟩
  have HUB:=ydV (HUA.out.below hbb)
  have HOB:=ydV (HOA.out.then_below hbb)
  obtain ⟨⟨e8,f8⟩,e9,f9⟩:=HUB.out.st8 (.string ⟨(encW 1 m).toArray⟩)
  have HFR:=ydV (HUB.out.frg (encW 1 m))
  have HON:=ydV (zmW HOB.out 8 9 (.string ⟨(encW 1 m).toArray⟩) (.bool true))
  clear HEN hbb
  go_wp2
  go_end0
  exact ⟨rfl,by rw [HF.out];exact HFR.out,HON.out⟩
 ·rw [ydY h35,if_neg (by decide)] at HK2
  have HF2:=HF0.out.trans (if_neg h35)
  have HF:=ydV HF2
  clear h35 HF2 HF0 HMX
  go_wp2_with fail
  refine (HK2.out).mono ?_
  rintro e xa ⟨rfl,hma,hoa⟩
  have HUA:=ydV (HUX.out.only hoa (by simp [HNE.out]))
  have HOA:=ydV (zmZ HOX.out hoa)
  clear hma hoa
  go_wp2
  go_end0
  exact ⟨rfl,by rw [HF.out];exact HUA.out,HOA.out⟩
theorem zxW (M U:Nat) (l:List UInt8) (u:UZ) (pv:Value) (w:World) (hl:l.length≤67108864) (hm:MB w M l) (hu:UB w U u pv):
  Calls Tryz.prog 77 #[.pointer (some ⟨M,0,none⟩),.pointer (some ⟨U,0,none⟩)] w fun e w'=>e= .returned (.tuple #[])∧UB w' U (finC u l) pv∧Only [M,U] w w':=by
 by_cases h:l.head? =some 63
 ·exact zyH M U l u pv w hl hm hu h
 ·exact zzV M U l u pv w hl hm hu h
theorem zrB (s:List UInt8) (w:World):Calls Tryz.prog 51 #[.string ⟨s.toArray⟩] w fun e w'=>e= .returned (.int .i64 (ownZ s))∧w=w':=by
 by_cases h1:s=zlA
 ·subst h1
  go_enter Tryz.func51,Tryz.ntmps51
  go_wp2
  go_ret
  exact ⟨rfl,rfl⟩
 ·by_cases h2:s=zgN
  ·subst h2
   go_enter Tryz.func51,Tryz.ntmps51
   go_wp2
   go_ret
   exact ⟨rfl,rfl⟩
  ·have HF:Hid (ownZ s=0):=by show _=_;unfold ownZ;rw [if_neg h1,if_neg h2]
   have e1:(s==[104,116,116,112])=false:=by rw [ydW];exact h1
   have e2:(s==[104,116,116,112,115])=false:=by rw [ydW];exact h2
   clear h1 h2
   go_enter Tryz.func51,Tryz.ntmps51
   go_wp2
   go_ret
   exact ⟨by rw [HF.out];rfl,rfl⟩
theorem zyQ (c:UInt8):zbQ c=(((c.toNat:Int)==47)||((c.toNat:Int)==92)):=by
 unfold zbQ
 rw [Bool.eq_iff_iff]
 simp only [Bool.or_eq_true,beq_iff_eq,←UInt8.toNat_inj]
 have e1:(47:UInt8).toNat=47:=rfl
 have e2:(92:UInt8).toNat=92:=rfl
 omega
theorem zkE (c:UInt8) (w:World):Calls Tryz.prog 52 #[.int .u8 (c.toNat:Int)] w fun e w'=>e= .returned (.bool (zbQ c))∧w=w':=by
 have HF:=ydV (zyQ c)
 obtain ⟨n,hn⟩: ∃n,(c.toNat:Int)=n:=⟨_,rfl⟩
 rw [hn] at HF ⊢
 clear hn
 cases e1:(n==47) with
 |true=>
  go_enter Tryz.func52,Tryz.ntmps52
  go_wp2
  go_ret
  exact ⟨by rw [HF.out,e1];rfl,rfl⟩
 |false=>
  go_enter Tryz.func52,Tryz.ntmps52
  go_wp2
  go_ret
  exact ⟨by rw [HF.out,e1];rfl,rfl⟩
theorem z4C {q:UInt8→Bool} {l:List UInt8} {k:Nat} (hk:k<l.length) (h: ∀j (hj:j<l.length),j<k→q l[j]=false) (hq:q l[k]=true):l.findIdx q=k:=by
 have h1:=List.findIdx_lt_length_of_exists (p:=q) (xs:=l) ⟨l[k],List.getElem_mem hk,hq⟩
 rcases Nat.lt_trichotomy (l.findIdx q) k with g|g|g
 ·have:=List.findIdx_getElem (w:=h1)
  rw [h _ h1 g] at this;cases this
 ·exact g
 ·have:=List.not_of_lt_findIdx g
  rw [hq] at this;cases this
theorem zvS {q:UInt8→Bool} {l:List UInt8} (h: ∀j (hj:j<l.length),q l[j]=false):l.findIdx q=l.length:=by
 refine List.findIdx_eq_length.2 (fun x hx=> ?_)
 obtain ⟨j,hj,rfl⟩:=List.getElem_of_mem hx
 simpa using h j hj
theorem zcR (l of_:List UInt8) (w:World) (hl:l.length≤1073741824) (ho:of_.length≤1073741824):
  Calls Tryz.prog 46 #[.string ⟨l.toArray⟩,.string ⟨of_.toArray⟩] w fun e w'=>e= .returned (.int .i64 (l.findIdx (hasB of_):Nat))∧w=w':=by
 have hz:=zaA l
 have HH:=ydV (fun c W=>zlM ⟨of_.toArray⟩ c W (by rw [zaA];exact ho))
 rw [zaC] at HH
 go_enter Tryz.func46,Tryz.ntmps46
 go_wp2
 go_loopw [5] (fun i wr=> ∃k:Nat,k≤l.length∧i= .int .i64 k∧Hid (∀j (hj:j<l.length),j<k→hasB of_ l[j]=false)∧wr=w) (fun i _=>l.length - (intOf i).toNat)
 case atStart=>exact ⟨0,Nat.zero_le _,rfl,fun j _ h=>absurd h (Nat.not_lt_zero j),rfl⟩
 case round=>
  obtain ⟨k,hk,rfl,H,rfl⟩:=hrel
  by_cases hlt:k<l.length
  ·have hks:k<(ByteArray.mk l.toArray).size:=by rw [hz];exact hlt
   have hba:(ByteArray.mk l.toArray)[k]=l[k]:=rfl
   obtain ⟨c,hc⟩: ∃c,l[k]=c:=⟨_,rfl⟩
   rw [hc] at hba
   have HC:=ydV hc
   cases hb:hasB of_ c with
   |true=>
    have HF:Hid (l.findIdx (hasB of_)=k):=z4C hlt H.out (by rw [hc];exact hb)
    have HQ:=ydV (fun W=>HH.out c W)
    rw [hb] at HQ
    clear hc HH
    go_wp2_with fail
    refine (HQ.out _).mono ?_
    rintro e w' ⟨rfl,rfl⟩
    go_wp2
    go_ret
    exact ⟨by rw [HF.out];rfl,rfl⟩
   |false=>
    have HQ:=ydV (fun W=>HH.out c W)
    rw [hb] at HQ
    have HB:=ydV hb
    clear hc HH hb
    go_wp2_with fail
    refine (HQ.out _).mono ?_
    rintro e w' ⟨rfl,rfl⟩
    go_wp2
    go_roundw
    case rel=>
     refine ⟨k+1,by omega,by go_num,fun j hj hjk=> ?_,by trivial⟩
     by_cases e:j=k
     ·subst e;rw [HC.out];exact HB.out
     ·exact H.out j hj (by omega)
    case measure=>simp [intOf];omega
  ·have HF:Hid (l.findIdx (hasB of_)=l.length):=zvS (fun j hj=>H.out j hj (by omega))
   go_wp2
   go_ret
   exact ⟨by rw [HF.out];rfl,rfl⟩
theorem zyV (c:UInt8) (r:List UInt8):zcW (c::r)=if zbQ c=true then zcW r else c::r:=by
 unfold zcW;rw [List.dropWhile_cons]
theorem zlZ (l:List UInt8) (w:World):
  Calls Tryz.prog 25 #[.string ⟨l.toArray⟩] w fun e w'=>e= .returned (.string ⟨(zcW l).toArray⟩)∧w=w':=by
 go_enter Tryz.func25,Tryz.ntmps25
 go_wp2
 go_loopg [0] l.length (fun gf s wr=> ∃m:List UInt8,s= .string ⟨m.toArray⟩∧m.length≤gf∧Hid (zcW l=zcW m)∧wr=w)
 case atStart=>exact ⟨l,rfl,ydX _,rfl,rfl⟩
 case round=>
  obtain ⟨m,rfl,hm,HB,rfl⟩:=hrel
  match m,hm,HB with
  |[],hm,HB=>
   go_wp2
   go_ret
   exact ⟨by rw [HB.out];rfl,rfl⟩
  |c::r,hm,HB=>
   obtain ⟨g',rfl⟩: ∃g',gk=g'+1:=⟨gk - 1,by simp at hm;omega⟩
   have hz:(ByteArray.mk (c::r).toArray).size=r.length+1:=by simp [ByteArray.size]
   have h0:0<(ByteArray.mk (c::r).toArray).size:=by rw [hz];omega
   have hb0:(ByteArray.mk (c::r).toArray)[0]=c:=rfl
   have hs: ∀W,(Instr.slice 9 (.string ⟨(c::r).toArray⟩) (some (.int .i64 1)) none none).run Tryz.prog W= .ok (.string ⟨r.toArray⟩) W:=fun W=>by
    rw [zjO W 9 _ 1 1 rfl (by omega) Tryz.underlying9]
    have:(ByteArray.mk (c::r).toArray).extract 1 (ByteArray.mk (c::r).toArray).size=⟨r.toArray⟩:=by
     apply ByteArray.ext;rw [hz];simp [List.take_of_length_le]
    rw [this]
   have hd0:decide (0<((r.length:Int)+1))=true:=ydZ (by omega)
   have hrl:r.length≤g':=by simp at hm;omega
   have HSL:=ydV (zkE c wr)
   have HB2:Hid (zcW l=if zbQ c=true then zcW r else c::r):=by show _=_;rw [HB.out,zyV]
   clear HB hm
   cases hb:zbQ c with
   |true=>
    rw [hb] at HSL HB2
    go_wp2_with fail
    refine HSL.out.mono ?_
    rintro e w' ⟨rfl,rfl⟩
    go_wp2
    go_roundg g'
    case measure=>omega
    case rel=>exact ⟨r,rfl,hrl,by show _=_;have:=HB2.out;simpa using this,by trivial⟩
   |false=>
    rw [hb] at HSL HB2
    go_wp2_with fail
    refine HSL.out.mono ?_
    rintro e w' ⟨rfl,rfl⟩
    go_wp2
    go_ret
    exact ⟨by rw [show zcW l=c::r by have:=HB2.out;simpa using this];rfl,rfl⟩
theorem zuI (l:List UInt8) (k:Nat) (h:k<l.length): ∃(hk:k<(ByteArray.mk l.toArray).size) (c:UInt8),(ByteArray.mk l.toArray)[k]=c∧l.drop k=c::l.drop (k+1)∧c∈l:=
 ⟨by rw [zaA];exact h,l[k],rfl,List.drop_eq_getElem_cons h,List.getElem_mem h⟩
theorem z6Q {l:List UInt8} (h:l≠[]):zgC l=match zjH 0 l with|none=> -2|some n=>if n>65535 then -2 else n:=by
 unfold zgC;rw [if_neg h];cases zjH 0 l<;>rfl
theorem z9A {c:UInt8} (h:zaS (c.toNat:Int)=true):48≤(c.toNat:Int)∧(c.toNat:Int)≤57:=by simpa [zaS] using h
theorem ztV (l:List UInt8) (w:World) (hl:l.length≤1073741824):
  Calls Tryz.prog 50 #[.string ⟨l.toArray⟩] w fun e w'=>e= .returned (.int .i64 (zgC l))∧w=w':=by
 cases hq:l with
 |nil=>
  go_enter Tryz.func50,Tryz.ntmps50
  go_wp2
  go_ret
  exact ⟨rfl,rfl⟩
 |cons c0 r0=>
  have hqe:l.isEmpty=false:=by rw [hq];rfl
  have hl0:l≠[]:=by rw [hq];simp
  have HPW:=ydV (z6Q hl0)
  rw [←hq]
  clear hq hl0
  go_enter Tryz.func50,Tryz.ntmps50
  go_wp2
  go_loopw [3,4] (fun v i wr=> ∃(k:Nat) (n:Int),k≤l.length∧i= .int .i64 k∧v= .int .i64 n∧0≤n∧n≤655360∧Hid (zjH 0 l=zjH n (l.drop k))∧wr=w) (fun _ i _=>l.length - (intOf i).toNat)
  case atStart=>exact ⟨0,0,Nat.zero_le _,rfl,rfl,by omega,by omega,rfl,rfl⟩
  case round=>
   obtain ⟨k,n,hk,rfl,rfl,hn0,hn1,HS,rfl⟩:=hrel
   by_cases hlt:k<l.length
   ·obtain ⟨hks,c,hba,hdr,-⟩:=zuI l k hlt
    have HS2:Hid (zjH 0 l=if zaS c.toNat=true then zjH (if n≤65535 then 10*n+(c.toNat:Int) - 48 else n) (l.drop (k+1)) else none):=by show _=_;rw [HS.out,hdr,zjH]
    have HD:=ydV (zkG (c.toNat:Int) wr)
    have hdb:=z9A (c:=c)
    have hcn:(c.toNat:Int)<256:=by have:=c.toNat_lt;omega
    have hcn0:0≤(c.toNat:Int):=by omega
    clear HS hdr
    cases hd:zaS (c.toNat:Int) with
    |false=>
     rw [hd] at HD HS2
     have HF:Hid (zgC l= -2):=by show _=_;rw [HPW.out,HS2.out,if_neg (by decide)]
     go_wp2_with fail
     refine HD.out.mono ?_
     rintro e w' ⟨rfl,rfl⟩
     go_wp2
     go_ret
     exact ⟨by rw [HF.out];rfl,rfl⟩
    |true=>
     rw [hd] at HD HS2
     obtain ⟨v1,v2⟩:=hdb hd
     have HS3:=HS2.out.trans (if_pos rfl)
     clear HS2 hd hdb
     by_cases hb:n≤65535
     ·rw [if_pos hb] at HS3
      have HF:=ydV HS3
      have hd1:decide (n≤65535)=true:=ydZ hb
      clear HS3
      go_wp2_with fail
      refine HD.out.mono ?_
      rintro e w' ⟨rfl,rfl⟩
      go_wp2
      go_roundw
      case rel=>exact ⟨k+1,10*n+(c.toNat:Int) - 48,by omega,by go_num,by go_num,by omega,by omega,HF.out,by trivial⟩
      case measure=>simp [intOf];omega
     ·rw [if_neg hb] at HS3
      have HF:=ydV HS3
      have hd1:decide (n≤65535)=false:=ydY hb
      clear HS3
      go_wp2_with fail
      refine HD.out.mono ?_
      rintro e w' ⟨rfl,rfl⟩
      go_wp2
      go_roundw
      case rel=>exact ⟨k+1,n,by omega,by go_num,rfl,by omega,by omega,HF.out,by trivial⟩
      case measure=>simp [intOf];omega
   ·have HE:Hid (zjH 0 l=some n):=by show _=_;rw [HS.out,List.drop_eq_nil_of_le (by omega)];rfl
    by_cases hb:65535<n
    ·have HF:Hid (zgC l= -2):=by show _=_;rw [HPW.out,HE.out];exact if_pos hb
     have hd1:decide (65535<n)=true:=ydZ hb
     go_wp2
     go_ret
     exact ⟨by rw [HF.out];rfl,rfl⟩
    ·have HF:Hid (zgC l=n):=by show _=_;rw [HPW.out,HE.out];exact if_neg hb
     have hd1:decide (65535<n)=false:=ydY hb
     go_wp2
     go_ret
     exact ⟨by rw [HF.out];rfl,rfl⟩
theorem hp_at {l:List UInt8} {k:Nat} {i:Bool} (h:(hpW false l).1=l.take k++(hpW i (l.drop k)).1∧(hpW false l).2=(hpW i (l.drop k)).2) {c:UInt8} (hdr:l.drop k=c::l.drop (k+1)):
  (c=58∧i=false→hpW false l=(l.take k,l.drop (k+1)))∧(¬(c=58∧i=false)→(hpW false l).1=l.take (k+1)++(hpW (if c=91 then true else if c=93 then false else i) (l.drop (k+1))).1∧(hpW false l).2=(hpW (if c=91 then true else if c=93 then false else i) (l.drop (k+1))).2):=by
 rw [hdr,zfR] at h
 constructor
 ·intro g
  rw [if_pos g] at h
  exact Prod.ext (by rw [h.1];simp) h.2
 ·intro g
  rw [if_neg g] at h
  refine ⟨?_,h.2⟩
  have hlt:k<l.length:=by
   rcases Nat.lt_or_ge k l.length with q|q
   ·exact q
   ·rw [List.drop_eq_nil_of_le q] at hdr;cases hdr
  have e:l.take (k+1)=l.take k++[c]:=by
   rw [List.take_succ_eq_append_getElem hlt]
   congr 2
   have:=List.drop_eq_getElem_cons hlt
   rw [hdr] at this
   exact (List.cons.inj this).1.symm
  rw [h.1,e];simp
theorem hp_end {l:List UInt8} {i:Bool} (h:(hpW false l).1=l.take l.length++(hpW i (l.drop l.length)).1∧(hpW false l).2=(hpW i (l.drop l.length)).2):hpW false l=(l,[]):=by
 rw [List.drop_length,List.take_length] at h
 exact Prod.ext (by rw [h.1];simp [hpW]) (by rw [h.2];simp [hpW])
theorem zjR {c:UInt8} {n:Nat} (hn:n<256):(((c.toNat:Int))==(n:Int))=decide (c=UInt8.ofNat n):=by
 rw [Bool.eq_iff_iff,beq_iff_eq,decide_eq_true_eq,←UInt8.toNat_inj,UInt8.toNat_ofNat_of_lt' (by simpa using hn)]
 omega
theorem znE (l:List UInt8) (w:World) (hl:l.length≤1073741824):
  Calls Tryz.prog 48 #[.string ⟨l.toArray⟩] w fun e w'=>e= .returned (.tuple #[.string ⟨(hpW false l).1.toArray⟩,.string ⟨(hpW false l).2.toArray⟩])∧Below w.heap.size w w':=by
 go_enter Tryz.func48,Tryz.ntmps48
 go_wp2
 go_loopw [4,5] (fun v i wr=> ∃(k:Nat) (b:Bool),k≤l.length∧i= .int .i64 k∧v= .bool b∧Hid ((hpW false l).1=l.take k++(hpW b (l.drop k)).1∧(hpW false l).2=(hpW b (l.drop k)).2)∧wr=w) (fun _ i _=>l.length - (intOf i).toNat)
 case atStart=>exact ⟨0,false,Nat.zero_le _,rfl,rfl,⟨rfl,rfl⟩,rfl⟩
 case round=>
  obtain ⟨k,b,hk,rfl,rfl,HS,rfl⟩:=hrel
  by_cases hlt:k<l.length
  ·obtain ⟨hks,c,hba,hdr,-⟩:=zuI l k hlt
   obtain ⟨hy,hno⟩:=hp_at HS.out hdr
   have e91:((c.toNat:Int)==91)=decide (c=91):=zjR (c:=c) (n:=91) (by omega)
   have e93:((c.toNat:Int)==93)=decide (c=93):=zjR (c:=c) (n:=93) (by omega)
   have e58:((c.toNat:Int)==58)=decide (c=58):=zjR (c:=c) (n:=58) (by omega)
   have hs1:=ziJ l k hk
   have hs2:=zfP l k hlt
   clear HS hdr
   by_cases h91:c=91
   ·have HF:=ydV (hno (by rw [h91];exact fun g=>absurd g.1 (by decide)))
    rw [if_pos h91] at HF
    subst h91
    clear hy hno
    go_wp2
    go_roundw
    case rel=>exact ⟨k+1,true,by omega,by go_num,rfl,HF.out,by trivial⟩
    case measure=>simp [intOf];omega
   ·by_cases h93:c=93
    ·have HF:=ydV (hno (by rw [h93];exact fun g=>absurd g.1 (by decide)))
     rw [if_neg h91,if_pos h93] at HF
     subst h93
     clear hy hno
     go_wp2
     go_roundw
     case rel=>exact ⟨k+1,false,by omega,by go_num,rfl,HF.out,by trivial⟩
     case measure=>simp [intOf];omega
    ·rw [ydY h91] at e91
     rw [ydY h93] at e93
     by_cases h58:c=58
     ·rw [ydZ h58] at e58
      cases b with
      |false=>
       have HF:=ydV (hy ⟨h58,rfl⟩)
       clear hy hno h91 h93 h58
       go_wp2_with fail
       all_goals
        try go_quiet (fail)
       go_wp2
       go_ret2
       exact ⟨by rw [HF.out];rfl,zaP (Below.refl _ _) _⟩
      |true=>
       have HF:=ydV (hno (fun g=>absurd g.2 (by decide)))
       rw [if_neg h91,if_neg h93] at HF
       clear hy hno h91 h93 h58
       go_wp2
       go_roundw
       case rel=>exact ⟨k+1,true,by omega,by go_num,rfl,HF.out,by trivial⟩
       case measure=>simp [intOf];omega
     ·rw [ydY h58] at e58
      have HF:=ydV (hno (fun g=>h58 g.1))
      rw [if_neg h91,if_neg h93] at HF
      clear hy hno h91 h93 h58
      go_wp2
      go_roundw
      case rel=>exact ⟨k+1,b,by omega,by go_num,rfl,HF.out,by trivial⟩
      case measure=>simp [intOf];omega
  ·obtain rfl:k=l.length:=by omega
   have HF:=ydV (hp_end HS.out)
   go_wp2
   go_ret2
   exact ⟨by rw [HF.out];rfl,Below.refl _ _⟩
theorem ptsN_1:ptsN []=some 0:=rfl
theorem yaA (r:List UInt8):ptsN (46::r)=(ptsN r).map (· +1):=by
 match r with
 |[]=>rfl
 |[d]=>
  show (if (46:UInt8)=46∧d=46 then some 2 else none)=(if d=46 then some 1 else none).map (· +1)
  by_cases h:d=46<;>simp [h]
 |d::e::r=>rw [ptsN,if_pos rfl]
theorem z9N {e:UInt8} (r:List UInt8) (h:e=101∨e=69):ptsN (37::50::e::r)=(ptsN r).map (· +1):=by
 rw [ptsN,if_neg (by decide),if_pos ⟨rfl,rfl,h⟩]
theorem z4O {c:UInt8} {r:List UInt8} (h:c≠46) (h2: ¬ ∃e s,c=37∧r=50::e::s∧(e=101∨e=69)):ptsN (c::r)=none:=by
 match r,h2 with
 |[],_=>show (if c=46 then some 1 else none)=none;rw [if_neg h]
 |[d],_=>show (if c=46∧d=46 then some 2 else none)=none;rw [if_neg (fun g=>h g.1)]
 |d::e::r,h2=>
  rw [ptsN,if_neg h,if_neg]
  rintro ⟨g1,g2,g3⟩
  exact h2 ⟨e,r,g1,by rw [g2],g3⟩
theorem z1I {q m:List UInt8} {n:Nat} (h:ptsN q=(ptsN m).map (· +n)) {s:List UInt8} (hs:ptsN m=(ptsN s).map (· +1)):ptsN q=(ptsN s).map (· +(n+1)):=by
 rw [h,hs]
 cases ptsN s with
 |none=>rfl
 |some k=>simp;omega
theorem zsJ {q:List UInt8} (h:ptsN q=none):ptsW q=0:=by unfold ptsW;rw [h]
theorem zrQ {q:List UInt8} {n:Nat} (h:ptsN q=some n):ptsW q=if 2<n then 0 else n:=by unfold ptsW;rw [h]
theorem zpU (l:List UInt8) (w:World) (hl:l.length≤1073741824):
  Calls Tryz.prog 138 #[.string ⟨l.toArray⟩] w fun e w'=>e= .returned (.int .i64 (ptsW l:Nat))∧w=w':=by
 go_enter Tryz.func138,Tryz.ntmps138
 go_wp2
 go_loopg [0,3] l.length (fun gf s v wr=> ∃(m:List UInt8) (n:Nat),s= .string ⟨m.toArray⟩∧v= .int .i64 n∧m.length≤gf∧n+m.length≤l.length∧Hid (ptsN l=(ptsN m).map (· +n))∧wr=w)
 case atStart=>exact ⟨l,0,rfl,rfl,ydX _,by omega,by show _=_;cases ptsN l<;>simp,rfl⟩
 case round=>
  obtain ⟨m,n,rfl,rfl,hm,hmn,HP,rfl⟩:=hrel
  match m,hm,hmn,HP with
  |[],hm,hmn,HP=>
   have HS:Hid (ptsN l=some n):=by show _=_;rw [HP.out,ptsN_1];simp
   by_cases h2:2<n
   ·have HF:Hid (ptsW l=0):=(zrQ HS.out).trans (if_pos h2)
    have hd:decide (2<(n:Int))=true:=ydZ (by omega)
    go_wp2
    go_ret
    exact ⟨by rw [HF.out];rfl,rfl⟩
   ·have HF:Hid (ptsW l=n):=(zrQ HS.out).trans (if_neg h2)
    have hd:decide (2<(n:Int))=false:=ydY (by omega)
    go_wp2
    go_ret
    exact ⟨by rw [HF.out];rfl,rfl⟩
  |c::r,hm,hmn,HP=>
   obtain ⟨g',rfl⟩: ∃g',gk=g'+1:=⟨gk - 1,by simp at hm;omega⟩
   have hz:(ByteArray.mk (c::r).toArray).size=r.length+1:=by simp [ByteArray.size]
   have h0:0<(ByteArray.mk (c::r).toArray).size:=by rw [hz];omega
   have hb0:(ByteArray.mk (c::r).toArray)[0]=c:=rfl
   have hs1: ∀W,(Instr.slice 9 (.string ⟨(c::r).toArray⟩) (some (.int .i64 1)) none none).run Tryz.prog W= .ok (.string ⟨r.toArray⟩) W:=zeN (c::r) 1 (by simp)
   have hd0:decide (0<((r.length:Int)+1))=true:=ydZ (by omega)
   have hrl:r.length≤g':=by simp at hm;omega
   have hrn:n+1+r.length≤l.length:=by simp at hmn;omega
   have e46:((c.toNat:Int)==46)=decide (c=46):=zjR (c:=c) (n:=46) (by omega)
   have e37:((c.toNat:Int)==37)=decide (c=37):=zjR (c:=c) (n:=37) (by omega)
   clear hm hmn
   by_cases h46:c=46
   ·subst h46
    have HF:=ydV (z1I HP.out (yaA r))
    clear e37
    go_wp2
    go_roundg g'
    case measure=>omega
    case rel=>exact ⟨r,n+1,rfl,by go_num,hrl,hrn,HF.out,by trivial⟩
   ·rw [ydY h46] at e46
    by_cases h3:3≤r.length+1
    ·obtain ⟨d,e,s,rfl⟩: ∃d e s,r=d::e::s:=by
      match r,h3 with
      |d::e::s,_=>exact ⟨d,e,s,rfl⟩
     have h1':1<(ByteArray.mk (c::d::e::s).toArray).size:=by rw [hz];simp
     have h2':2<(ByteArray.mk (c::d::e::s).toArray).size:=by rw [hz];simp
     have hb1:(ByteArray.mk (c::d::e::s).toArray)[1]=d:=rfl
     have hb2:(ByteArray.mk (c::d::e::s).toArray)[2]=e:=rfl
     have hs3: ∀W,(Instr.slice 9 (.string ⟨(c::d::e::s).toArray⟩) (some (.int .i64 3)) none none).run Tryz.prog W= .ok (.string ⟨s.toArray⟩) W:=zeN (c::d::e::s) 3 (by simp)
     have e50:((d.toNat:Int)==50)=decide (d=50):=zjR (c:=d) (n:=50) (by omega)
     have e101:((e.toNat:Int)==101)=decide (e=101):=zjR (c:=e) (n:=101) (by omega)
     have e69:((e.toNat:Int)==69)=decide (e=69):=zjR (c:=e) (n:=69) (by omega)
     have hlen:((d::e::s).length:Int)=(s.length:Int)+2:=by simp;omega
     have hd3:decide ((3:Int)≤(s.length:Int)+1+1+1)=true:=ydZ (by omega)
     have hsl:s.length+2≤g':=by simpa using hrl
     have hsn:n+1+s.length≤l.length:=by simp at hrn;omega
     by_cases hy:c=37∧d=50∧(e=101∨e=69)
     ·obtain ⟨hc,hd,he⟩:=hy
      have HF:=ydV (z1I HP.out (by rw [hc,hd];exact z9N s he))
      rw [ydZ hc] at e37
      rw [ydZ hd] at e50
      by_cases h101:e=101
      ·rw [ydZ h101] at e101
       clear hc hd he h101 h46
       go_wp2
       go_roundg g'
       case measure=>omega
       case rel=>exact ⟨s,n+1,rfl,by go_num,by omega,hsn,HF.out,by trivial⟩
      ·have h69:e=69:=he.resolve_left h101
       rw [ydY h101] at e101
       rw [ydZ h69] at e69
       clear hc hd he h101 h69 h46
       go_wp2
       go_roundg g'
       case measure=>omega
       case rel=>exact ⟨s,n+1,rfl,by go_num,by omega,hsn,HF.out,by trivial⟩
     ·have HF:Hid (ptsW l=0):=zsJ (by
       rw [HP.out,z4O h46]
       ·rfl
       ·rintro ⟨e',s',g1,g2,g3⟩
        have g4:=List.cons.inj g2
        have g5:=List.cons.inj g4.2
        exact hy ⟨g1,g4.1,by rw [g5.1];exact g3⟩)
      by_cases hc:c=37
      ·rw [ydZ hc] at e37
       by_cases hd:d=50
       ·rw [ydZ hd] at e50
        have h101: ¬e=101:=fun g=>hy ⟨hc,hd,.inl g⟩
        have h69: ¬e=69:=fun g=>hy ⟨hc,hd,.inr g⟩
        rw [ydY h101] at e101
        rw [ydY h69] at e69
        clear hc hd h101 h69 h46 hy
        go_wp2
        go_ret
        exact ⟨by rw [HF.out];rfl,rfl⟩
       ·rw [ydY hd] at e50
        clear hc hd h46 hy
        go_wp2
        go_ret
        exact ⟨by rw [HF.out];rfl,rfl⟩
      ·rw [ydY hc] at e37
       clear hc h46 hy
       go_wp2
       go_ret
       exact ⟨by rw [HF.out];rfl,rfl⟩
    ·have HF:Hid (ptsW l=0):=zsJ (by
      rw [HP.out,z4O h46]
      ·rfl
      ·rintro ⟨e',s',g1,g2,g3⟩
       rw [g2] at h3
       simp at h3)
     have hd3:decide ((3:Int)≤(r.length:Int)+1)=false:=ydY (by omega)
     go_wp2
     go_ret
     exact ⟨by rw [HF.out];rfl,rfl⟩
end
end Go.Proofs.YthacmlahnpdeeaaGreatDoor
