/-
  What the law ResolveMeets leans on, and its walk (24 of 46).
-/
import Derived.Shelf.Abstract
import Derived.Test.YtmjappnpedjlnaaGreatDoorResolveMeetsPkV
import Derived.Test.YtmjappnpedjlnaaGreatDoorResolveMeetsPkG
import Derived.Test.YtmjappnpedjlnaaGreatDoorResolveMeetsPkW
namespace Go.Proofs.YtmjappnpedjlnaaGreatDoor
set_option maxRecDepth 100000
set_option maxHeartbeats 16000000
abbrev ypJ := @Lib.hid
abbrev ypK := @decide_eq_false
abbrev ypL := @decide_eq_true
abbrev ypM := @List.mem_cons_self
section
open Go.RowKit
def MB (w:World) (M:Nat) (l:List UInt8):Prop:=w.heap[M]? =some (.cells #[.string ⟨l.toArray⟩] 85)
theorem MB.only {w w':World} {F:List Nat} {M:Nat} {l:List UInt8} (h:MB w M l) (ho:Only F w w') (hM:M∉F):MB w' M l:=(ho.block M (zaM h) hM).trans h
theorem MB.below {w w':World} {M:Nat} {l:List UInt8} (h:MB w M l) (hb:Below w.heap.size w w'):MB w' M l:=(hb.block M (zaM h)).trans h
theorem MB.cell {w:World} {M:Nat} {l:List UInt8} (h:MB w M l):w.cell? ⟨M,0,none⟩=some (.string ⟨l.toArray⟩):=zaH h 0
theorem MB.set {w:World} {M:Nat} {l:List UInt8} (h:MB w M l) (m:List UInt8):MB (w.setCell ⟨M,0,none⟩ (.string ⟨m.toArray⟩)) M m:=zaJ h 0 _
theorem Only.iterAt {F:List Nat} {a b:World} {k:Nat} (h:Only F a b) (hk:a.heap.size≤k) (s:ByteArray) (p:Nat):Only F a (b.iterAt k s p):=
 ⟨h.os,h.tape,h.output,by rw [Lib.iterAt_size];exact h.size,fun j hj hF=>(Lib.iterAt_other _ _ _ _ _ (by omega)).trans (h.block j hj hF)⟩
theorem zjG (l:List UInt8) (n:Nat) (h:n≤l.length): ∀W,(Instr.slice 9 (.string ⟨l.toArray⟩) none (some (.int .i64 (n:Int))) none).run Tryz.prog W= .ok (.string ⟨(l.take n).toArray⟩) W:=fun W=>by
 have hz:(ByteArray.mk l.toArray).size=l.length:=by simp [ByteArray.size]
 rw [run_slice_string_to_if W 9 _ .i64 _ Tryz.underlying9,if_pos (by rw [hz];omega)]
 have:(ByteArray.mk l.toArray).extract 0 n=⟨(l.take n).toArray⟩:=by
  apply ByteArray.ext;simp
 simp [this]
theorem zdM (l:List UInt8) (n:Nat) (h:n≤l.length): ∀W,(Instr.slice 9 (.string ⟨l.toArray⟩) (some (.int .i64 (n:Int))) none none).run Tryz.prog W= .ok (.string ⟨(l.drop n).toArray⟩) W:=fun W=>by
 have hz:(ByteArray.mk l.toArray).size=l.length:=by simp [ByteArray.size]
 rw [zqH W 9 _ (n:Int) n rfl (by rw [hz];exact h) Tryz.underlying9]
 have:(ByteArray.mk l.toArray).extract n (ByteArray.mk l.toArray).size=⟨(l.drop n).toArray⟩:=by
  apply ByteArray.ext;rw [hz];simp [List.take_of_length_le]
 rw [this]
theorem znE (l:List UInt8) (k:Nat) (h:k<l.length): ∀W,(Instr.slice 9 (.string ⟨l.toArray⟩) (some (.int .i64 ((k:Int)+1))) none none).run Tryz.prog W= .ok (.string ⟨(l.drop (k+1)).toArray⟩) W:=zdM l (k+1) h
def Ends {σ:Type} (F:List Nat) (w:World) (Cap:σ→World→Prop) (sr:σ→Nat→Bool×σ) (f:FuncId) (lb:Array Value):Prop:=
 ∀(W:World) (s:σ) (r:Nat),Only F w W→Cap s W→isB (r:Int)=true→Calls Tryz.prog f (#[.int .i32 (r:Int)]++lb) W fun e W'=>e= .returned (.bool (sr s r).1)∧Only F W W'∧Cap (sr s r).2 W'
def RetU (w:World) (F:List Nat) (M:Nat) (part left:List UInt8) (e:Ending) (w':World):Prop:=e= .returned (.string ⟨part.toArray⟩)∧MB w' M left∧Only (M::F) w w'
theorem zwX {w x:World} {F:List Nat} {M n:Nat} {l:List UInt8} (hm:MB x M l) (ho:Only F w x):MB (x.setCell ⟨M,0,none⟩ (.string ⟨(l.drop n).toArray⟩)) M (l.drop n)∧Only (M::F) w (x.setCell ⟨M,0,none⟩ (.string ⟨(l.drop n).toArray⟩)):=
 ⟨hm.set _,(ho.mono (fun _ hb=>List.mem_cons_of_mem _ hb)).setCell (p:=⟨M,0,none⟩) (.inl (ypM ..)) _⟩
theorem zkS {σ:Type} {sr:σ→Nat→Bool×σ} {st:σ→UInt8→Option σ} (H:zxM sr st) (F:List Nat) (Cap:σ→World→Prop) (f:FuncId) (lb:Array Value) (ef: ∀args w,(callFunc f args).run Tryz.prog w= .ok (.enter f args) w)
  (M:Nat) (l:List UInt8) (s0:σ) (w:World) (hm:MB w M l) (hMF:M∉F) (hF: ∀b∈F,b<w.heap.size) (hcap:Cap s0 w) (hkeep: ∀s W W',Cap s W→(∀b∈F,W'.heap[b]? =W.heap[b]?)→Cap s W') (hE:Ends F w Cap sr f lb):
  Calls Tryz.prog 69 #[.pointer (some ⟨M,0,none⟩),.func (.func f) #[] lb] w (RetU w F M (l.take (zbY st s0 l)) (l.drop (zbY st s0 l))):=by
 have hMw:=zaM hm
 have hz:(ByteArray.mk l.toArray).size=l.length:=by simp [ByteArray.size]
 have HM:=ypJ (fun W (ho:Only F w W)=>hm.only ho hMF)
 have hc0:=hm.cell
 have HK:=ypJ hkeep
 have HC:=ypJ hcap
 have HE:=ypJ hE
 have HF:=ypJ hF
 clear hm hkeep hcap hE hF
 go_enter Tryz.func69,Tryz.ntmps69
 go_wp2
 go_loopg [5] l.length (fun gf o wx=> ∃(pos:Nat) (s:σ),o= .int .i64 (l.length:Nat)∧wx.heap[w.heap.size]? =some (.stringIter ⟨l.toArray⟩ pos)∧Only F w wx∧Hid (Cap s wx)∧pos≤l.length∧Hid (zbY st s0 l=pos+zbY st s (l.drop pos))∧l.length≤pos+gf)
 case atStart=>
  refine ⟨0,s0,rfl,World.iter_heap w _ 0,(Only.refl F w).alloc _,?_,Nat.zero_le _,?_,by omega⟩
  ·exact HK.out _ _ _ HC.out (fun b hb=>((Below.refl _ w).alloc (Nat.le_refl _) _).block b (HF.out b hb))
  ·show _=_;simp
 case round=>
  obtain ⟨pos,s,rfl,hit,ho,HCs,hpl,HS,hgf⟩:=hrel
  by_cases hps:pos<l.length
  ·obtain ⟨g',rfl⟩: ∃g',gk=g'+1:=⟨gk - 1,by omega⟩
   have hps':pos<(ByteArray.mk l.toArray).size:=by rw [hz];exact hps
   have hnx: ∀ty,(Instr.next (.pointer (some ⟨w.heap.size,0,none⟩)) true ty).run Tryz.prog wr=_:=fun ty=>Lib.run_next_any_at wr w.heap.size _ pos ty hit hps'
   have hwd:=zfC _ pos hps'
   have hst:=z9L H ⟨l.toArray⟩ pos hps' s
   have hgo:=ynI H ⟨l.toArray⟩ pos hps' s
   have hdl:(sr s (Utf8.decode ⟨l.toArray⟩ pos).1).1=false→pos+(Utf8.decode ⟨l.toArray⟩ pos).2≤l.length:=fun e=>by
    have h1:=hgo e
    have h2:=zsP st ((ByteArray.mk l.toArray).data.toList.drop pos) s
    rw [h1,List.length_drop] at h2
    rw [zaL] at h2
    omega
   have hB:=zgI ⟨l.toArray⟩ pos
   rw [zaL] at hst hgo
   obtain ⟨R,hR⟩: ∃R,(Utf8.decode ⟨l.toArray⟩ pos).1=R:=⟨_,rfl⟩
   obtain ⟨K,hK⟩: ∃K,(Utf8.decode ⟨l.toArray⟩ pos).2=K:=⟨_,rfl⟩
   rw [hR] at hst hgo hB hdl
   rw [hK] at hgo hdl hwd
   rw [hR,hK] at hnx
   have hit2:=Lib.iterAt_heap wr w.heap.size _ pos (pos+K) hit
   have ho2:=ho.iterAt (Nat.le_refl _) ⟨l.toArray⟩ (pos+K)
   have HC2:Hid (Cap s (wr.iterAt w.heap.size ⟨l.toArray⟩ (pos+K))):=HK.out _ _ _ HCs.out (fun b hb=>Lib.iterAt_other _ _ _ _ _ (by have:=HF.out b hb;omega))
   generalize wr.iterAt w.heap.size ⟨l.toArray⟩ (pos+K)=W at*
   have HCS:=ypJ (HE.out W s R ho2 HC2.out hB)
   have hWs:=ho2.size
   have HI2:Hid (∀W',Only F W W'→W'.heap[w.heap.size]? =some (.stringIter ⟨l.toArray⟩ (pos+K))∧Only F w W'∧W'.cell? ⟨M,0,none⟩=some (.string ⟨l.toArray⟩)∧W'.frozen? ⟨M,0,none⟩=false):=fun W' ho3=>by
    have h4:Only F w W':=ho2.trans ho3 (fun x hx=> .inl hx)
    have hit3:=(ho3.block w.heap.size (zaM hit2) (fun g=>by have:=HF.out _ g;omega)).trans hit2
    exact ⟨hit3,h4,(HM.out _ h4).cell,zaP (HM.out _ h4) 0⟩
   have HW:=ypJ (fun W' (h4:Only F w W')=>zwX (n:=zbY st s0 l) (HM.out _ h4) h4)
   have HG:=ypJ hgo
   have HT:=ypJ hst
   clear hit ho hit2 ho2 hgo hst HCs HC2 HC HE hB hR hK hc0
   cases hb:(sr s R).1 with
   |false=>
    have hdl2:=hdl hb
    have HS2:=ypJ (HS.out.trans (by rw [HG.out hb,Nat.add_assoc]:_=pos+K+zbY st (sr s R).2 (l.drop (pos+K))))
    rw [hb] at HCS
    go_wp2_with (go_at_fn f;refine HCS.out.mono ?_;rintro e W' ⟨rfl,ho3,hc3⟩;obtain ⟨hit3,ho4,-,-⟩:=HI2.out _ ho3)
    go_roundg g'
    case measure=>omega
    case rel=>exact ⟨pos+K,(sr s R).2,rfl,hit3,ho4,hc3,by omega,HS2.out,by omega⟩
   |true=>
    have hn:zbY st s0 l=pos:=by rw [HS.out,HT.out hb];rfl
    rw [hn] at HW
    have HN:=ypJ hn
    clear hn
    have hs1:=zjG l pos hpl
    have hs2:=zdM l pos hpl
    rw [hb] at HCS
    go_wp2_with (go_at_fn f;refine HCS.out.mono ?_;rintro e W' ⟨rfl,ho3,hc3⟩;obtain ⟨hit3,ho4,c1,f1⟩:=HI2.out _ ho3)
    go_ret
    rw [HN.out]
    exact ⟨rfl,HW.out _ ho4⟩
  ·have hps': ¬pos<(ByteArray.mk l.toArray).size:=by rw [hz];exact hps
   have hnx: ∀ty,(Instr.next (.pointer (some ⟨w.heap.size,0,none⟩)) true ty).run Tryz.prog wr=_:=fun ty=>Lib.run_next_end_at wr w.heap.size _ pos ty hit hps'
   have hn:zbY st s0 l=l.length:=by
    rw [HS.out,List.drop_eq_nil_of_le (by omega)]
    show pos+0=_
    omega
   have HW:=ypJ (zwX (n:=zbY st s0 l) (HM.out _ ho) ho)
   have hs1:=zjG l l.length (Nat.le_refl _)
   have hs2:=zdM l l.length (Nat.le_refl _)
   rw [hn,List.drop_length] at HW
   rw [List.take_length] at hs1
   rw [List.drop_length] at hs2
   have HN:=ypJ hn
   have c1:=(HM.out _ ho).cell
   have f1:=zaP (HM.out _ ho) 0
   clear hc0 hn
   go_wp2
   go_ret
   rw [HN.out,List.drop_length,List.take_length]
   exact ⟨rfl,HW.out⟩
def hd1 (of_:List UInt8):List UInt8→Bool
 |[]=>false
 |c::_=>hasB of_ c
def RetK (w:World) (M:Nat) (b:Bool) (left:List UInt8) (e:Ending) (w':World):Prop:=e= .returned (.bool b)∧MB w' M left∧Only [M] w w'
theorem zhI (M:Nat) (l of_:List UInt8) (w:World) (hm:MB w M l):
  Calls Tryz.prog 117 #[.pointer (some ⟨M,0,none⟩),.string ⟨of_.toArray⟩] w (RetK w M (hd1 of_ l) (if hd1 of_ l=true then l.drop 1 else l)):=by
 have hc0:=hm.cell
 have hf0:=zaP hm 0
 match l,hm with
 |[],hm=>
  have HM:=ypJ hm
  clear hm
  go_enter Tryz.func117,Tryz.ntmps117
  go_wp2
  go_ret
  exact ⟨rfl,HM.out,Only.refl _ _⟩
 |c::r,hm=>
  have HW:Hid (MB (w.setCell ⟨M,0,none⟩ (.string ⟨r.toArray⟩)) M r∧Only [M] w (w.setCell ⟨M,0,none⟩ (.string ⟨r.toArray⟩))):=⟨hm.set _,(Only.refl _ w).setCell (p:=⟨M,0,none⟩) (.inl (ypM ..)) _⟩
  have HM:=ypJ hm
  have hs:=zdM (c::r) 1 (by simp)
  have hz:(ByteArray.mk (c::r).toArray).size=r.length+1:=by simp [ByteArray.size]
  have h0:0<(ByteArray.mk (c::r).toArray).size:=by rw [hz];omega
  have hb0:(ByteArray.mk (c::r).toArray)[0]=c:=rfl
  have hqe:(c::r).isEmpty=false:=rfl
  have HQ:Hid ((c::r).drop 1=r):=rfl
  have hs': ∀W,(Instr.slice 9 (.string ⟨(c::r).toArray⟩) (some (.int .i64 1)) none none).run Tryz.prog W= .ok (.string ⟨r.toArray⟩) W:=hs
  have HI:Hid (∀W,Calls Tryz.prog 107 #[.string ⟨of_.toArray⟩,.int .u8 (c.toNat:Int)] W fun e w'=>e= .returned (.int .i64 (Lib.indexByte of_ c))∧W=w'):=fun W=>(Tryz.strings_IndexByte ⟨of_.toArray⟩ (c.toNat:Int) W).mono (fun e w' h=>⟨by rw [h.1,zgZ],h.2.symm⟩)
  have hx1:=(zcK of_ c).1
  have hx2:=(zcK of_ c).2
  have HD:Hid (hd1 of_ (c::r)=hasB of_ c):=rfl
  clear hm hs
  generalize hbb:hasB of_ c=bb at*
  clear hbb
  generalize c::r=q at*
  generalize Lib.indexByte of_ c=ix at*
  cases bb with
  |true=>
   have hx:=hx1 rfl
   have hd:decide (ix<0)=false:=ypK (by omega)
   have HF:Hid (hd1 of_ q=true):=HD.out
   clear hx1 hx2 hx HD
   rw [HF.out,if_pos rfl]
   go_enter Tryz.func117,Tryz.ntmps117
   go_wp2_with fail
   refine (HI.out _).mono ?_
   rintro e w' ⟨rfl,rfl⟩
   go_wp2
   go_ret
   rw [HQ.out]
   exact ⟨rfl,HW.out⟩
  |false=>
   have hx:=hx2 rfl
   subst hx
   have HF:Hid (hd1 of_ q=false):=HD.out
   clear hx1 hx2 HD
   rw [HF.out,if_neg (by decide)]
   go_enter Tryz.func117,Tryz.ntmps117
   go_wp2_with fail
   refine (HI.out _).mono ?_
   rintro e w' ⟨rfl,rfl⟩
   go_wp2
   go_ret
   exact ⟨rfl,HM.out,Only.refl _ _⟩
def zgV (of_:List UInt8) (r:Nat):Bool:=decide (r<128)&&hasB of_ (UInt8.ofNat r)
theorem zyP {of_:List UInt8} {r:Nat} (h:r<128):decide (0≤Lib.indexByte of_ (r:Int).toNat.toUInt8)=zgV of_ r:=by
 unfold zgV
 rw [ypL h,Bool.true_and]
 show decide (0≤Lib.indexByte of_ (UInt8.ofNat r))=_
 cases e:hasB of_ (UInt8.ofNat r) with
 |true=>rw [ypL ((zcK _ _).1 e)]
 |false=>rw [(zcK _ _).2 e];rfl
theorem z0S {of_:List UInt8} (h: ∀c∈of_,c.toNat<128):Asc ⟨of_.toArray⟩:=fun k hk=>h _ (by
 have e:(ByteArray.mk of_.toArray)[k]=of_[k]'(by simpa [ByteArray.size] using hk):=rfl
 rw [e];exact List.getElem_mem _)
theorem zcI (of_:List UInt8) (h: ∀c∈of_,c.toNat<128) (r:Nat) (hv:isB (r:Int)=true) (w:World):
  Calls Tryz.prog 71 #[.string ⟨of_.toArray⟩,.int .i32 (r:Int)] w (zbN w (zgV of_ r)):=by
 by_cases hr:r<128
 ·refine (Tryz.strings_ContainsRune_ascii _ _ w (by omega) (by omega)).mono ?_
  rintro e w' ⟨rfl,rfl⟩
  exact zaE (zyP (of_:=of_) hr).symm (Below.refl _ _)
 ·have HF:Hid (zgV of_ r=false):=by show _=_;unfold zgV;rw [ypK hr];rfl
  have HI:=ypJ (zkN ⟨of_.toArray⟩ (z0S h) (r:Int) w (by omega) hv)
  clear hr hv
  generalize (r:Int)=rr at*
  go_enter Tryz.func71,Tryz.ntmps71
  go_wp2_with fail
  refine HI.out.mono ?_
  rintro e w1 ⟨rfl,hb1⟩
  go_wp2
  go_ret
  exact zaE HF.out hb1
theorem z9P: ∀c∈([47,92]:List UInt8),c.toNat<128:=by decide
theorem z7F (r:Nat):(zqD () r).1= !zgV [47,92] r:=by
 unfold zqD zgV
 by_cases h:r<128
 ·have key: ∀d:Fin 128,(decide (d.val=47)||decide (d.val=92))=hasB [47,92] (UInt8.ofNat d.val):=by decide+kernel
  rw [ypL h,Bool.true_and]
  exact congrArg (!·) (key ⟨r,h⟩)
 ·rw [ypK h,ypK (by omega),ypK (by omega)];rfl
theorem yfF (w:World):Ends [] w (fun (_:Unit) _=>True) zqD 70 #[]:=by
 intro W s r ho _ hv
 have HF:=ypJ (z7F r)
 have HC:=ypJ (zcI [47,92] z9P r hv W)
 show Calls _ _ #[.int .i32 (r:Int)] _ _
 generalize zgV [47,92] r=b at*
 generalize (r:Int)=rr at*
 go_enter Tryz.func70,Tryz.ntmps70
 go_wp2_with fail
 refine HC.out.mono ?_
 rintro e w1 ⟨rfl,hb1⟩
 go_wp2
 go_ret
 exact ⟨by rw [HF.out];rfl,Only.of_below hb1,trivial⟩
theorem ykY (of_:List UInt8) (h: ∀c∈of_,c.toNat<128) (B:Nat) (w:World) (hB:B<w.heap.size) (hc:w.cell? ⟨B,0,none⟩=some (.string ⟨of_.toArray⟩)):
  Ends [] w (fun (_:Unit) _=>True) (ybL of_) 170 #[.pointer (some ⟨B,0,none⟩)]:=by
 intro W s r ho _ hv
 have hc':W.cell? ⟨B,0,none⟩=some (.string ⟨of_.toArray⟩):=by
  have hb:Below w.heap.size w W:=ho.below (Nat.le_refl _) (fun x hx=>by cases hx)
  exact (hb.cell (p:=⟨B,0,none⟩) hB).trans hc
 have HF:Hid ((ybL of_ () r).1=zgV of_ r):=rfl
 have HC:=ypJ (zcI of_ h r hv W)
 clear ho hc h
 show Calls _ _ #[.int .i32 (r:Int),.pointer (some ⟨B,0,none⟩)] _ _
 generalize zgV of_ r=b at*
 generalize (r:Int)=rr at*
 go_enter Tryz.func170,Tryz.ntmps170
 go_wp2_with fail
 refine HC.out.mono ?_
 rintro e w1 ⟨rfl,hb1⟩
 go_wp2
 go_ret
 exact ⟨by rw [HF.out];rfl,Only.of_below hb1,trivial⟩
def CapB (B:Nat) (s:Bool) (W:World):Prop:=W.heap[B]? =some (.cells #[.bool s] 4)
theorem CapB.set {B:Nat} {s:Bool} {W:World} (h:CapB B s W) (t:Bool):CapB B t (W.setCell ⟨B,0,none⟩ (.bool t)):=zaJ h 0 _
theorem ylQ (B:Nat) (w:World):Ends [B] w (CapB B) zvA 116 #[.pointer (some ⟨B,0,none⟩)]:=by
 intro W s r ho hc hv
 have hBW:=zaM hc
 have HF:Hid ((zvA s r).1= !(zcC r||(s&&(zbC r||zgV [43,45,46] r)))):=by
  have e:(decide (r=43)||decide (r=45)||decide (r=46))=zgV [43,45,46] r:=by
   unfold zgV
   by_cases h:r<128
   ·have key: ∀d:Fin 128,(decide (d.val=43)||decide (d.val=45)||decide (d.val=46))=hasB [43,45,46] (UInt8.ofNat d.val):=by decide+kernel
    rw [ypL h,Bool.true_and]
    exact key ⟨r,h⟩
   ·rw [ypK h,ypK (by omega),ypK (by omega),ypK (by omega)];rfl
  show _=_
  unfold zvA
  rw [e]
 have HC:=ypJ (fun W=>zcI [43,45,46] (by decide) r hv W)
 have HX:=ypJ (fun (x:World) (hb:Below W.heap.size W x)=>(And.intro ((hb.block B hBW).trans hc) hb:CapB B s x∧Below W.heap.size W x))
 have HE:Hid (∀x,CapB B s x→Below W.heap.size W x→Only [B] W (x.setCell ⟨B,0,none⟩ (.bool true))∧CapB B true (x.setCell ⟨B,0,none⟩ (.bool true))):=fun x h1 h2=>⟨((Only.of_below (F:=[]) h2).mono (fun _ h=>by cases h)).setCell (p:=⟨B,0,none⟩) (.inl (ypM ..)) _,h1.set true⟩
 have c0:=zaH hc 0
 have f0:=zaP hc 0
 simp at c0
 have HCB:=ypJ hc
 show Calls _ _ #[.int .i32 (r:Int),.pointer (some ⟨B,0,none⟩)] _ _
 clear ho hc hv
 generalize zgV [43,45,46] r=b at*
 have HA:=ypJ (fun W=>znY (r:Int) W)
 have HDG:=ypJ (fun W=>zbZ (r:Int) W)
 have HST:Hid ((zvA s r).2=true):=rfl
 generalize zcC (r:Int)=ba at*
 generalize zbC (r:Int)=bd at*
 generalize zvA s r=res at*
 generalize (r:Int)=rr at*
 go_enter Tryz.func116,Tryz.ntmps116
 go_wp2_with fail
 refine (HA.out _).mono ?_
 rintro e w' ⟨rfl,rfl⟩
 cases ba with
 |true=>
  go_wp2
  go_ret
  exact ⟨by rw [HF.out];rfl,by rw [HST.out];exact HE.out _ HCB.out (Below.refl _ _)⟩
 |false=>
  cases s with
  |false=>
   go_wp2
   go_ret
   exact ⟨by rw [HF.out];rfl,by rw [HST.out];exact HE.out _ HCB.out (Below.refl _ _)⟩
  |true=>
   go_wp2_with fail
   refine (HDG.out _).mono ?_
   rintro e w' ⟨rfl,rfl⟩
   cases bd with
   |true=>
    go_wp2
    go_ret
    exact ⟨by rw [HF.out];rfl,by rw [HST.out];exact HE.out _ HCB.out (Below.refl _ _)⟩
   |false=>
    go_wp2_with fail
    refine (HC.out _).mono ?_
    rintro e w1 ⟨rfl,hb1⟩
    obtain ⟨hc1,-⟩:=HX.out _ hb1
    have f1:=zaP hc1 0
    have d1:=zaH hc1 0
    simp at d1
    go_wp2
    go_ret
    exact ⟨by rw [HF.out];rfl,by rw [HST.out];exact HE.out _ hc1 hb1⟩
theorem yhE (B:Nat) (w:World):Ends [B] w (CapB B) zqQ 206 #[.pointer (some ⟨B,0,none⟩)]:=by
 intro W s r ho hc hv
 have HE:Hid (∀t,Only [B] W (W.setCell ⟨B,0,none⟩ (.bool t))∧CapB B t (W.setCell ⟨B,0,none⟩ (.bool t))):=fun t=>⟨(Only.refl _ W).setCell (p:=⟨B,0,none⟩) (.inl (ypM ..)) _,hc.set t⟩
 have c0:=zaH hc 0
 have f0:=zaP hc 0
 simp at c0
 have HCB:=ypJ hc
 have hh: ∀t,(W.setCell ⟨B,0,none⟩ (.bool t)).cell? ⟨B,0,none⟩=some (.bool t):=fun t=>zaH (hc.set t) 0
 show Calls _ _ #[.int .i32 (r:Int),.pointer (some ⟨B,0,none⟩)] _ _
 clear ho hc hv
 by_cases h91:r=91
 ·subst h91
  have hh1:=hh true
  go_enter Tryz.func206,Tryz.ntmps206
  go_wp2
  go_ret
  exact ⟨rfl,HE.out true⟩
 ·by_cases h93:r=93
  ·subst h93
   have hh1:=hh false
   go_enter Tryz.func206,Tryz.ntmps206
   go_wp2
   go_ret
   exact ⟨rfl,HE.out false⟩
  ·have HS:Hid (zqQ s r=(decide (r=58)&& !s,s)):=by show _=_;unfold zqQ inH;rw [if_neg h91,if_neg h93]
   have e1:((r:Int)==91)=false:=beq_eq_false_iff_ne.2 (by omega)
   have e2:((r:Int)==93)=false:=beq_eq_false_iff_ne.2 (by omega)
   by_cases h58:r=58
   ·subst h58
    go_enter Tryz.func206,Tryz.ntmps206
    go_wp2
    go_ret
    exact ⟨by rw [HS.out];cases s<;>rfl,Only.refl _ _,by rw [HS.out];exact HCB.out⟩
   ·have e3:((r:Int)==58)=false:=beq_eq_false_iff_ne.2 (by omega)
    have e4:decide (r=58)=false:=ypK h58
    rw [e4] at HS
    clear h58 h91 h93 e4
    generalize (r:Int)=rr at*
    go_enter Tryz.func206,Tryz.ntmps206
    go_wp2
    go_ret
    exact ⟨by rw [HS.out];rfl,Only.refl _ _,by rw [HS.out];exact HCB.out⟩
end
end Go.Proofs.YtmjappnpedjlnaaGreatDoor
