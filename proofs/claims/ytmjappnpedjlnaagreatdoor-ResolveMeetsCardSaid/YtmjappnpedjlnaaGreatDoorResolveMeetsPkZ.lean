/-
  What the law ResolveMeets leans on, and its walk (25 of 46).
-/
import Derived.Shelf.Strings.MapAny
import Derived.Shelf.Unicode.DecodeLastEight
import Derived.Deep.RegionHeld3
import Derived.Test.YtmjappnpedjlnaaGreatDoorResolveMeetsPkX
import Derived.Test.YtmjappnpedjlnaaGreatDoorResolveMeetsPkY
import Derived.Test.YtmjappnpedjlnaaGreatDoorResolveMeetsPkB
import Derived.Test.YtmjappnpedjlnaaGreatDoorResolveMeetsPkV
import Derived.Test.YtmjappnpedjlnaaGreatDoorResolveMeetsPkD
import Derived.Test.YtmjappnpedjlnaaGreatDoorResolveMeetsPkG
namespace Go.Proofs.YtmjappnpedjlnaaGreatDoor
set_option maxRecDepth 100000
set_option maxHeartbeats 16000000
theorem tkZ {P : Program} {md : Region.Mode} {ops : Array Oper} {Q : Exit → Act → World → Prop} {S : World → Prop} (i : Nat) (s : Option Nat) {op : Op} {ty : TypeId} {pos : String} {af : _} {gd : _} {v : Value} {fuel : Nat} {listed : Array Bool} {a : Act} {w : World} (hi : ops[i]? = some ⟨s, op, ty, pos, af, gd⟩)
 (hy : YieldsIf P ops S ⟨s, op, ty, pos, af, gd⟩ v a) (hS : S w)
 (h : wpAnyH P md ops Q S fuel (listed.setIfInBounds i true) (a.put s v) w)
 (hs : Region.noSelect ops = true := by kernel_rfl) (hf : Region.free md ops listed i = true := by kernel_rfl) (hr : (Region.ready md ops listed).contains i = true := by kernel_rfl)
 (hQ : ∀ c a w, Q (.panic c) (a.put s v) w → Q (.panic c) a w := by exact fun _ _ _ h => h) : wpAnyH P md ops Q S (fuel + 1) listed a w :=
 wpAnyH_take hi hs hf hr hQ hy hS h
theorem tkZa {α : Type _} (l : List α) (i : Nat) (a : α) : l.toArray.setIfInBounds i a = (l.set i a).toArray := List.setIfInBounds_toArray ..
theorem tkZb {α : Type _} (x y : α) (l : List α) : (x :: l).set 0 y = y :: l := rfl
theorem tkZc {α : Type _} (x y : α) (l : List α) (n : Nat) : (x :: l).set (n + 1) y = x :: l.set n y := rfl
abbrev ypN := @Lib.hid
abbrev ypO := @Nat.le_refl
abbrev ypP := @decide_eq_false
abbrev ypQ := @decide_eq_true
abbrev ypR := @Go.RowKit.Below.refl
section
open Go.RowKit
theorem zeM {g g2:Nat} {w w':World} (h:Lib.Utf8Tabs g g2 w) (hb:Below w.heap.size w w'):Lib.Utf8Tabs g g2 w':=by
 have k: ∀{a:Addr} {v:Value},w.cell? a=some v→w'.cell? a=some v:=fun {a v} hc=>(hb.cell (World.block_lt_of_cell? w a hc)).trans hc
 exact ⟨fun c hc=>k (h.1 c hc),fun i hi=>⟨k (h.2 i hi).1,k (h.2 i hi).2⟩⟩
theorem zcF (of:List UInt8) (c:UInt8):of.contains c=hasB of c:=by
 unfold hasB
 rw [Bool.eq_iff_iff]
 simp
def zrJ:List UInt8:=[45,46,95,126,33,36,38,39,40,41,42,43,44,59,61]
def zpA (r:Nat):Bool:=decide (r<128)&&zhN (UInt8.ofNat r)
theorem ygU (r:Nat):zpA r=(zcC (r:Int)||(zbC (r:Int)||zgV zrJ r)):=by
 unfold zpA zgV
 by_cases h:r<128
 ·have key: ∀d:Fin 128,zhN (UInt8.ofNat d.val)=(zcC (d.val:Int)||(zbC (d.val:Int)||(true&&hasB zrJ (UInt8.ofNat d.val)))):=by decide+kernel
  rw [ypQ h]
  exact key ⟨r,h⟩
 ·have h1:zcC (r:Int)=false:=ypP (by omega)
  have h2:zbC (r:Int)=false:=ypP (by omega)
  rw [ypP h,h1,h2];rfl
theorem zlW (r:Nat) (w:World) (hv:isB (r:Int)=true):
  Calls Tryz.prog 52 #[.int .i32 (r:Int)] w (zbN w (zpA r)):=by
 have HF:=ypN (ygU r)
 have HA:=ypN (znY (r:Int))
 have HD:=ypN (zbZ (r:Int))
 have HC:=ypN (zcI zrJ (by decide) r hv)
 generalize zpA r=res at*
 generalize zcC (r:Int)=ba at*
 generalize zbC (r:Int)=bd at*
 generalize zgV zrJ r=bc at*
 generalize (r:Int)=rr at*
 clear hv
 go_enter Tryz.func52,Tryz.ntmps52
 go_wp2_with fail
 refine (HA.out _).mono ?_
 rintro e w' ⟨rfl,rfl⟩
 cases ba with
 |true=>
  go_wp2
  go_ret
  exact zaE HF.out (ypR _ _)
 |false=>
  go_wp2_with fail
  refine (HD.out _).mono ?_
  rintro e w' ⟨rfl,rfl⟩
  cases bd with
  |true=>
   go_wp2
   go_ret
   exact zaE HF.out (ypR _ _)
  |false=>
   go_wp2_with fail
   refine (HC.out _).mono ?_
   rintro e w1 ⟨rfl,hb1⟩
   go_wp2
   go_ret
   exact zaE HF.out hb1
def hexR (r:Int):Bool:=decide (0≤valZ r)
theorem znS (r:Int) (w:World):Calls Tryz.prog 105 #[.int .i32 r] w fun e w'=>e= .returned (.bool (hexR r))∧w=w':=by
 have HV:=ypN (zbW r w)
 have HF:Hid (hexR r=decide (0≤valZ r)):=rfl
 generalize valZ r=z at*
 go_enter Tryz.func105,Tryz.ntmps105
 go_wp2_with fail
 refine HV.out.mono ?_
 rintro e w' ⟨rfl,rfl⟩
 go_wp2
 go_ret
 exact ⟨zaX HF.out.symm,rfl⟩
theorem ymM: ∀d:Fin 256,hexR (d.val:Int)=hexA (UInt8.ofNat d.val):=by decide+kernel
theorem zwV (c:UInt8):hexR (c.toNat:Int)=hexA c:=by
 have:=ymM ⟨c.toNat,c.toNat_lt⟩
 simpa using this
theorem z5E (q:List UInt8) (c d e:UInt8) (w:World) (hl:q.length≤1000000) (hk:2<q.length) (h0: ∀h:0<(ByteArray.mk q.toArray).size,(ByteArray.mk q.toArray)[0]'h=c) (h1: ∀h:1<(ByteArray.mk q.toArray).size,(ByteArray.mk q.toArray)[1]'h=d) (h2: ∀h:2<(ByteArray.mk q.toArray).size,(ByteArray.mk q.toArray)[2]'h=e) (hp:pctA q=(c==37&&hexA d&&hexA e)):
  Calls Tryz.prog 53 #[.string ⟨q.toArray⟩] w fun e w'=>e= .returned (.bool (pctA q))∧w=w':=by
 have hz:=zaB q
 have HF:=ypN hp
 have HD:=ypN (znS (d.toNat:Int) w)
 have HE:=ypN (znS (e.toNat:Int) w)
 rw [zwV] at HD HE
 have hd8:=d.toNat_lt
 have he8:=e.toNat_lt
 have hc37:(c==37)=((c.toNat:Int)==37):=by
  rw [Bool.eq_iff_iff,beq_iff_eq,beq_iff_eq]
  exact ⟨fun h=>by rw [h];rfl,fun h=>UInt8.toNat_inj.1 (by show c.toNat=37;omega)⟩
 rw [hc37] at HF
 have k1:IntKind.i32.wrap (d.toNat:Int)=(d.toNat:Int):=IntWalk.i32_in _ (by omega)
 have k2:IntKind.i32.wrap (e.toNat:Int)=(e.toNat:Int):=IntWalk.i32_in _ (by omega)
 clear hp
 generalize pctA q=res at*
 generalize hexA d=bd at*
 generalize hexA e=be at*
 obtain ⟨bc,hbc⟩: ∃b,((c.toNat:Int)==37)=b:=⟨_,rfl⟩
 rw [hbc] at HF
 clear hc37
 cases bc with
 |false=>
  go_enter Tryz.func53,Tryz.ntmps53
  go_wp2
  go_ret
  exact ⟨zaX HF.out.symm,rfl⟩
 |true=>
  go_enter Tryz.func53,Tryz.ntmps53
  go_wp2_with fail
  refine HD.out.mono ?_
  rintro e w' ⟨rfl,rfl⟩
  cases bd with
  |false=>
   go_wp2
   go_ret
   exact ⟨zaX HF.out.symm,rfl⟩
  |true=>
   go_wp2_with fail
   refine HE.out.mono ?_
   rintro e w' ⟨rfl,rfl⟩
   go_wp2
   go_ret
   exact ⟨zaX HF.out.symm,rfl⟩
theorem z7D (l:List UInt8) (w:World) (hl:l.length≤1000000):
  Calls Tryz.prog 53 #[.string ⟨l.toArray⟩] w fun e w'=>e= .returned (.bool (pctA l))∧w=w':=by
 have hz:=zaB l
 match l,hz,hl with
 |[],hz,_=>
  go_enter Tryz.func53,Tryz.ntmps53
  go_wp2
  go_ret
  exact ⟨rfl,rfl⟩
 |[_],hz,_=>
  go_enter Tryz.func53,Tryz.ntmps53
  go_wp2
  go_ret
  exact ⟨rfl,rfl⟩
 |[_,_],hz,_=>
  go_enter Tryz.func53,Tryz.ntmps53
  go_wp2
  go_ret
  exact ⟨rfl,rfl⟩
 |c::d::e::r,hz,hl=>exact z5E (c::d::e::r) c d e w hl (by simp) (fun _=>rfl) (fun _=>rfl) (fun _=>rfl) rfl
theorem ygQ {of l:List UInt8} {k i:Nat} (h:i<k) (hi:i<l.length) (hn:hasB of l[i]=false):zfY of l k=false:=by
 unfold zfY
 rw [List.all_eq_false]
 refine ⟨l[i],?_,by rw [zcF,hn];decide⟩
 exact List.mem_take_iff_getElem.2 ⟨i,by omega,rfl⟩
theorem ybA {of l:List UInt8} {k:Nat} (h: ∀i (hi:i<l.length),i<k→hasB of l[i]=true):zfY of l k=true:=by
 unfold zfY
 rw [List.all_eq_true]
 intro x hx
 obtain ⟨i,hi,rfl⟩:=List.mem_take_iff_getElem.1 hx
 rw [zcF]
 exact h i (by omega) (by omega)
theorem zzA (of l:List UInt8) (w:World) (hl:l.length≤1000000) (hutf:Lib.Utf8Tabs 0 1 w):
  Calls Tryz.prog 54 #[.string ⟨of.toArray⟩,.string ⟨l.toArray⟩] w (zbN w (zfY of l (Lib.decodeGo ⟨l.toArray⟩).2)):=by
 have hz:=zaB l
 have HDC:=ypN (Tryz.utf8_DecodeRuneInString ⟨l.toArray⟩ w hutf)
 have hle:=Lib.decodeGo_le_size ⟨l.toArray⟩
 rw [hz] at hle
 have HN:Hid (∀i,i<(Lib.decodeGo ⟨l.toArray⟩).2→ ∀hi:i<l.length,hasB of l[i]=false→zfY of l (Lib.decodeGo ⟨l.toArray⟩).2=false):=fun i h hi hn=>ygQ h hi hn
 have HY:Hid ((∀i (hi:i<l.length),i<(Lib.decodeGo ⟨l.toArray⟩).2→hasB of l[i]=true)→zfY of l (Lib.decodeGo ⟨l.toArray⟩).2=true):=fun h=>ybA h
 have HB:Hid (∀j (h:j<l.length),(ByteArray.mk l.toArray)[j]'(by rw [zaB];exact h)=l[j]):=fun j h=>rfl
 have HI:Hid (∀(c:UInt8) W,Calls Tryz.prog 107 #[.string ⟨of.toArray⟩,.int .u8 (c.toNat:Int)] W fun e w'=>e= .returned (.int .i64 (Lib.indexByte of c))∧W=w'):=fun c W=>(Tryz.strings_IndexByte ⟨of.toArray⟩ (c.toNat:Int) W).mono (fun e w' h=>⟨by rw [h.1,zgZ],h.2.symm⟩)
 have HX:=ypN (fun c=>zcK of c)
 generalize (Lib.decodeGo ⟨l.toArray⟩).1=R at*
 generalize (Lib.decodeGo ⟨l.toArray⟩).2=K at*
 clear hutf
 go_enter Tryz.func54,Tryz.ntmps54
 go_wp2_with fail
 refine HDC.out.mono ?_
 rintro e x1 ⟨rfl,hb1⟩
 have HB1:=ypN hb1
 clear hb1 HDC
 go_wp2
 go_loop [14] (fun i=> ∃k:Nat,k≤K∧i= .int .i64 k∧Hid (∀j (h:j<l.length),j<k→hasB of l[j]=true)) (fun i=>K - (intOf i).toNat)
 case atStart=>exact ⟨0,Nat.zero_le _,rfl,fun j _ h=>by omega⟩
 case round=>
  obtain ⟨k,hk,rfl,HK⟩:=hrel
  by_cases hkl:k<K
  ·have hkl2:k<l.length:=by omega
   obtain ⟨c,hc⟩: ∃c,l[k]=c:=⟨_,rfl⟩
   have hb:(ByteArray.mk l.toArray)[k]'(by rw [zaB];exact hkl2)=c:=by rw [HB.out k hkl2,hc]
   have HIC:=ypN (HI.out c)
   obtain ⟨x1',x2'⟩:=HX.out c
   cases hh:hasB of c with
   |false=>
    have e:=x2' hh
    have HF:=ypN (HN.out k hkl hkl2 (by rw [hc];exact hh))
    rw [e] at HIC
    clear HN HY HB HI HX HK x1' x2' hc hh
    go_wp2_with fail
    refine (HIC.out _).mono ?_
    rintro e w' ⟨rfl,rfl⟩
    go_wp2
    go_ret
    exact zaE HF.out HB1.out
   |true=>
    have e:=x1' hh
    have HK2:Hid (∀j (h:j<l.length),j<k+1→hasB of l[j]=true):=fun j h h1=>by
     by_cases q:j=k
     ·subst q;rw [hc];exact hh
     ·exact HK.out j h (by omega)
    generalize Lib.indexByte of c=ix at*
    have hd:decide (ix<0)=false:=ypP (by omega)
    clear HN HY HB HI HX HK x1' x2' hc hh
    go_wp2_with fail
    refine (HIC.out _).mono ?_
    rintro e w' ⟨rfl,rfl⟩
    go_wp2
    exact ⟨⟨k+1,by omega,by go_num,HK2.out⟩,by simp [intOf];omega⟩
  ·have HF:=ypN (HY.out (fun i hi h=>HK.out i hi (by omega)))
   clear HN HY HB HI HX HK
   go_wp2
   go_ret
   exact zaE HF.out HB1.out
theorem zhR (s:ByteArray) (pr:Nat→Nat→Bool) (f:FuncId) (lb:Array Value) (ef: ∀args w,(callFunc f args).run Tryz.prog w= .ok (.enter f args) w) (w:World)
  (hF: ∀W p,p<s.size→Below w.heap.size w W→Calls Tryz.prog f (#[.int .i64 (p:Nat),.int .i32 ((Utf8.decode s p).1:Nat)]++lb) W (zbN W (pr p (Utf8.decode s p).1))) (_hs:s.size≤1000000):
  Calls Tryz.prog 50 #[.string s,.func (.func f) #[] lb] w (zbN w (allP s pr 0)):=by
 have HF:=ypN hF
 have HE:=ypN (fun p (h: ¬p<s.size)=>zhC s pr h)
 have HT:=ypN (fun p (h:p<s.size)=>ziE s pr h)
 clear hF
 go_enter Tryz.func50,Tryz.ntmps50
 go_wp2
 go_loopw [] (fun wr=> ∃pos:Nat,wr.heap[w.heap.size]? =some (.stringIter s pos)∧Below w.heap.size w wr∧Hid (allP s pr 0=allP s pr pos)) (fun wr=>s.size - wr.iterPos w.heap.size)
 case atStart=>exact ⟨0,World.iter_heap w s 0,(ypR _ _).alloc (ypO _) _,rfl⟩
 case round=>
  obtain ⟨pos,hit,hbw,HS⟩:=hrel
  have hsz:w.heap.size<wr.heap.size:=(Array.getElem?_eq_some_iff.1 hit).1
  have HWP:Hid (wr.iterPos w.heap.size=pos):=by
   show wr.iterPos w.heap.size=pos
   simp only [World.iterPos,hit]
  by_cases hp:pos<s.size
  ·have hwd:=zfC s pos hp
   have hnx: ∀ty,(Instr.next (.pointer (some ⟨w.heap.size,0,none⟩)) true ty).run Tryz.prog wr=_:=fun ty=>Lib.run_next_any_at wr w.heap.size s pos ty hit hp
   have hit2:=Lib.iterAt_heap wr w.heap.size s pos (pos+(Utf8.decode s pos).2) hit
   have hbw2:=Lib.below_iterAt hbw (k:=w.heap.size) (ypO _) s (pos+(Utf8.decode s pos).2)
   have hsz2:w.heap.size<(wr.iterAt w.heap.size s (pos+(Utf8.decode s pos).2)).heap.size:=by rw [Lib.iterAt_size];exact hsz
   have hst:=HT.out pos hp
   have hca:=fun W (hW:Below w.heap.size w W)=>HF.out W pos hp hW
   generalize wr.iterAt w.heap.size s (pos+(Utf8.decode s pos).2)=wi at*
   generalize (Utf8.decode s pos).1=R at*
   generalize (Utf8.decode s pos).2=K at*
   have HCA:=ypN (hca wi hbw2)
   have HST:=ypN hst
   clear hca hst HF HE HT
   cases hb:pr pos R with
   |false=>
    rw [hb] at HCA HST
    have HFF:Hid (allP s pr 0=false):=by show _=_;rw [HS.out,HST.out];rfl
    clear HS HST hb
    go_wp2_with (go_at_fn f;refine HCA.out.mono ?_;rintro e w3 ⟨rfl,hb3⟩)
    go_ret
    exact zaE HFF.out (hbw2.trans (hb3.mono (by omega)))
   |true=>
    rw [hb] at HCA HST
    have HS2:Hid (allP s pr 0=allP s pr (pos+K)):=by show _=_;rw [HS.out,HST.out];rfl
    clear HS HST hb
    go_wp2_with (go_at_fn f;refine HCA.out.mono ?_;rintro e w3 ⟨rfl,hb3⟩)
    have hit3:=(hb3.block w.heap.size hsz2).trans hit2
    have hbw3:Below w.heap.size w w3:=hbw2.trans (hb3.mono (by omega))
    go_roundw
    case rel=>exact ⟨pos+K,hit3,hbw3,HS2.out⟩
    case measure=>
     rw [HWP.out]
     simp only [World.iterPos,hit3]
     omega
  ·have hnx: ∀ty,(Instr.next (.pointer (some ⟨w.heap.size,0,none⟩)) true ty).run Tryz.prog wr=_:=fun ty=>Lib.run_next_end_at wr w.heap.size s pos ty hit hp
   have HFF:Hid (allP s pr 0=true):=by show _=_;rw [HS.out,HE.out pos hp]
   clear HF HE HT HS
   go_wp2
   go_ret
   exact zaE HFF.out hbw
theorem ylJ (l of:List UInt8) (C1 C2:Nat) (p r:Nat) (W:World) (hc1:W.cell? ⟨C1,0,none⟩=some (.string ⟨l.toArray⟩)) (hc2:W.cell? ⟨C2,0,none⟩=some (.string ⟨of.toArray⟩)) (hp:p<l.length) (hv:isB (r:Int)=true) (hl:l.length≤1000000)
  (hutf:Lib.Utf8Tabs 0 1 W):
  Calls Tryz.prog 51 #[.int .i64 (p:Nat),.int .i32 (r:Nat),.pointer (some ⟨C1,0,none⟩),.pointer (some ⟨C2,0,none⟩)] W (zbN W (isPr ⟨l.toArray⟩ of p r)):=by
 have HKC:Hid (∀X,Below W.heap.size W X→X.cell? ⟨C1,0,none⟩=some (.string ⟨l.toArray⟩)∧X.cell? ⟨C2,0,none⟩=some (.string ⟨of.toArray⟩)):=fun X hX=>
  ⟨(hX.cell (World.block_lt_of_cell? W _ hc1)).trans hc1,(hX.cell (World.block_lt_of_cell? W _ hc2)).trans hc2⟩
 have hs:=zdM l p (by omega)
 have hdl:(l.drop p).length≤1000000:=by rw [List.length_drop];omega
 have HCO:=ypN (fun X=>zlW r X hv)
 have HPC:=ypN (fun X=>z7D (l.drop p) X hdl)
 have HFI:=ypN (fun X (h:Below W.heap.size W X)=>zzA of (l.drop p) X hdl (zeM hutf h))
 have hdg:(Lib.decodeGo ⟨(l.drop p).toArray⟩)=Utf8.decode ⟨l.toArray⟩ p:=by
  have:=Lib.decodeGo_extract ⟨l.toArray⟩ p (by rw [zaB];exact hp)
  rw [←this]
  congr 1
  apply ByteArray.ext
  rw [zaB]
  simp [List.take_of_length_le]
 rw [hdg] at HFI
 have HF:Hid (isPr ⟨l.toArray⟩ of p r=(zpA r||pctA (l.drop p)||zfY of (l.drop p) (Utf8.decode ⟨l.toArray⟩ p).2)):=rfl
 clear hc1 hc2 hutf hv hdg hdl
 generalize isPr ⟨l.toArray⟩ of p r=res at*
 generalize zfY of (l.drop p) (Utf8.decode ⟨l.toArray⟩ p).2=b3 at*
 generalize pctA (l.drop p)=b2 at*
 generalize zpA r=b1 at*
 generalize l.drop p=q at*
 generalize (r:Int)=rr at*
 cases b1 with
 |true=>
  have HFF:Hid (res=true):=HF.out
  clear HF HPC HFI hs
  go_enter Tryz.func51,Tryz.ntmps51
  go_wp2_with fail
  refine wp_region_held_drew (S:=fun W=>W.cell? ⟨C1,0,none⟩=some (.string ⟨l.toArray⟩)∧W.cell? ⟨C2,0,none⟩=some (.string ⟨of.toArray⟩)) (by kernel_rfl) ?_ (fun hHeld=> ?_)
  ·exact HKC.out _ (zaG _)
  refine tkZ 0 (some 7) (v:= ?_) rfl (.inl ⟨by rfl,?_⟩) hHeld ?_;rotate_left;·intro w hSw;(try dsimp only at hSw);go_simp;try with_reducible rfl
  try simp only [Act.put,tkZa,tkZb,tkZc]
  refine wpAnyH_ready (rs:=[1]) (by kernel_rfl) (by simp) ?_
  refine AllReadyH.cons (o:=⟨some 8,_,_,_,_,_⟩) rfl (fun K hK=> ?_) AllReadyH.nil
  go_simp
  go_at_call 52
  refine (HCO.out _).mono ?_
  rintro e x1 ⟨rfl,hb1⟩
  have h1:Below W.heap.size W x1:=zaF (zaG _) hb1
  (try go_wp2_with fail)
  refine hK.out _ _ ?_ (fun hHeld1=> ?_)
  ·exact HKC.out _ h1
  clear hK K
  try simp only [Act.put,tkZa,tkZb,tkZc]
  refine tkZ 2 (some 9) (v:= ?_) rfl (.inl ⟨by rfl,?_⟩) hHeld1 ?_;rotate_left;·intro w hSw;(try dsimp only at hSw);go_simp;try with_reducible rfl
  try simp only [Act.put,tkZa,tkZb,tkZc]
  refine tkZ 3 (some 10) (v:=undef) rfl (.inr ⟨by rfl,rfl⟩) hHeld1 ?_
  try simp only [Act.put,tkZa,tkZb,tkZc]
  refine tkZ 4 (some 11) (v:=undef) rfl (.inr ⟨by rfl,rfl⟩) hHeld1 ?_
  try simp only [Act.put,tkZa,tkZb,tkZc]
  refine tkZ 5 (some 12) (v:=undef) rfl (.inr ⟨by rfl,rfl⟩) hHeld1 ?_
  try simp only [Act.put,tkZa,tkZb,tkZc]
  refine tkZ 6 (some 13) (v:=undef) rfl (.inr ⟨by rfl,rfl⟩) hHeld1 ?_
  try simp only [Act.put,tkZa,tkZb,tkZc]
  refine tkZ 7 (some 14) (v:= ?_) rfl (.inl ⟨by rfl,?_⟩) hHeld1 ?_;rotate_left;·intro w hSw;(try dsimp only at hSw);go_simp;try with_reducible rfl
  try simp only [Act.put,tkZa,tkZb,tkZc]
  refine tkZ 8 (some 15) (v:= ?_) rfl (.inl ⟨by rfl,?_⟩) hHeld1 ?_;rotate_left;·intro w hSw;(try dsimp only at hSw);go_simp;try with_reducible rfl
  try simp only [Act.put,tkZa,tkZb,tkZc]
  refine tkZ 9 (some 16) (v:=undef) rfl (.inr ⟨by rfl,rfl⟩) hHeld1 ?_
  try simp only [Act.put,tkZa,tkZb,tkZc]
  refine tkZ 10 (some 17) (v:=undef) rfl (.inr ⟨by rfl,rfl⟩) hHeld1 ?_
  try simp only [Act.put,tkZa,tkZb,tkZc]
  refine tkZ 11 (some 18) (v:=undef) rfl (.inr ⟨by rfl,rfl⟩) hHeld1 ?_
  try simp only [Act.put,tkZa,tkZb,tkZc]
  refine tkZ 12 (some 19) (v:=undef) rfl (.inr ⟨by rfl,rfl⟩) hHeld1 ?_
  try simp only [Act.put,tkZa,tkZb,tkZc]
  refine tkZ 13 (some 20) (v:=undef) rfl (.inr ⟨by rfl,rfl⟩) hHeld1 ?_
  try simp only [Act.put,tkZa,tkZb,tkZc]
  refine tkZ 14 (some 21) (v:= ?_) rfl (.inl ⟨by rfl,?_⟩) hHeld1 ?_;rotate_left;·intro w hSw;(try dsimp only at hSw);go_simp;try with_reducible rfl
  try simp only [Act.put,tkZa,tkZb,tkZc]
  refine tkZ 15 (some 6) (v:= ?_) rfl (.inl ⟨by rfl,?_⟩) hHeld1 ?_;rotate_left;·intro w hSw;(try dsimp only at hSw);go_simp;try with_reducible rfl
  try simp only [Act.put,tkZa,tkZb,tkZc]
  refine wpAnyH_done (by kernel_rfl) ?_ _
  go_wp2
  go_ret
  exact zaE HFF.out h1
 |false=>
 cases b2 with
 |true=>
  have HFF:Hid (res=true):=HF.out
  clear HF HFI
  go_enter Tryz.func51,Tryz.ntmps51
  go_wp2_with fail
  refine wp_region_held_drew (S:=fun W=>W.cell? ⟨C1,0,none⟩=some (.string ⟨l.toArray⟩)∧W.cell? ⟨C2,0,none⟩=some (.string ⟨of.toArray⟩)) (by kernel_rfl) ?_ (fun hHeld=> ?_)
  ·exact HKC.out _ (zaG _)
  refine tkZ 0 (some 7) (v:= ?_) rfl (.inl ⟨by rfl,?_⟩) hHeld ?_;rotate_left;·intro w hSw;(try dsimp only at hSw);go_simp;try with_reducible rfl
  try simp only [Act.put,tkZa,tkZb,tkZc]
  refine wpAnyH_ready (rs:=[1]) (by kernel_rfl) (by simp) ?_
  refine AllReadyH.cons (o:=⟨some 8,_,_,_,_,_⟩) rfl (fun K hK=> ?_) AllReadyH.nil
  go_simp
  go_at_call 52
  refine (HCO.out _).mono ?_
  rintro e x1 ⟨rfl,hb1⟩
  have h1:Below W.heap.size W x1:=zaF (zaG _) hb1
  (try go_wp2_with fail)
  refine hK.out _ _ ?_ (fun hHeld1=> ?_)
  ·exact HKC.out _ h1
  clear hK K
  try simp only [Act.put,tkZa,tkZb,tkZc]
  refine tkZ 2 (some 9) (v:= ?_) rfl (.inl ⟨by rfl,?_⟩) hHeld1 ?_;rotate_left;·intro w hSw;(try dsimp only at hSw);go_simp;try with_reducible rfl
  try simp only [Act.put,tkZa,tkZb,tkZc]
  refine tkZ 3 (some 10) (v:= ?_) rfl (.inl ⟨by rfl,?_⟩) hHeld1 ?_;rotate_left;·intro w hSw;(try dsimp only at hSw);go_simp;try with_reducible rfl
  try simp only [Act.put,tkZa,tkZb,tkZc]
  refine tkZ 4 (some 11) (v:= ?_) rfl (.inl ⟨by rfl,?_⟩) hHeld1 ?_;rotate_left;·intro w hSw;(try dsimp only at hSw);go_simp;try with_reducible rfl
  try simp only [Act.put,tkZa,tkZb,tkZc]
  refine tkZ 5 (some 12) (v:= ?_) rfl (.inl ⟨by rfl,?_⟩) hHeld1 ?_;rotate_left;·intro w hSw;(try dsimp only at hSw);go_simp;try with_reducible rfl
  try simp only [Act.put,tkZa,tkZb,tkZc]
  refine wpAnyH_ready (rs:=[6]) (by kernel_rfl) (by simp) ?_
  refine AllReadyH.cons (o:=⟨some 13,_,_,_,_,_⟩) rfl (fun K hK=> ?_) AllReadyH.nil
  go_simp
  go_at_call 53
  refine (HPC.out _).mono ?_
  rintro e x2 ⟨rfl,rfl⟩
  (try go_wp2_with fail)
  refine hK.out _ _ ?_ (fun hHeld2=> ?_)
  ·exact HKC.out _ h1
  clear hK K
  try simp only [Act.put,tkZa,tkZb,tkZc]
  refine tkZ 7 (some 14) (v:= ?_) rfl (.inl ⟨by rfl,?_⟩) hHeld2 ?_;rotate_left;·intro w hSw;(try dsimp only at hSw);go_simp;try with_reducible rfl
  try simp only [Act.put,tkZa,tkZb,tkZc]
  refine tkZ 8 (some 15) (v:= ?_) rfl (.inl ⟨by rfl,?_⟩) hHeld2 ?_;rotate_left;·intro w hSw;(try dsimp only at hSw);go_simp;try with_reducible rfl
  try simp only [Act.put,tkZa,tkZb,tkZc]
  refine tkZ 9 (some 16) (v:=undef) rfl (.inr ⟨by rfl,rfl⟩) hHeld2 ?_
  try simp only [Act.put,tkZa,tkZb,tkZc]
  refine tkZ 10 (some 17) (v:=undef) rfl (.inr ⟨by rfl,rfl⟩) hHeld2 ?_
  try simp only [Act.put,tkZa,tkZb,tkZc]
  refine tkZ 11 (some 18) (v:=undef) rfl (.inr ⟨by rfl,rfl⟩) hHeld2 ?_
  try simp only [Act.put,tkZa,tkZb,tkZc]
  refine tkZ 12 (some 19) (v:=undef) rfl (.inr ⟨by rfl,rfl⟩) hHeld2 ?_
  try simp only [Act.put,tkZa,tkZb,tkZc]
  refine tkZ 13 (some 20) (v:=undef) rfl (.inr ⟨by rfl,rfl⟩) hHeld2 ?_
  try simp only [Act.put,tkZa,tkZb,tkZc]
  refine tkZ 14 (some 21) (v:= ?_) rfl (.inl ⟨by rfl,?_⟩) hHeld2 ?_;rotate_left;·intro w hSw;(try dsimp only at hSw);go_simp;try with_reducible rfl
  try simp only [Act.put,tkZa,tkZb,tkZc]
  refine tkZ 15 (some 6) (v:= ?_) rfl (.inl ⟨by rfl,?_⟩) hHeld2 ?_;rotate_left;·intro w hSw;(try dsimp only at hSw);go_simp;try with_reducible rfl
  try simp only [Act.put,tkZa,tkZb,tkZc]
  refine wpAnyH_done (by kernel_rfl) ?_ _
  go_wp2
  go_ret
  exact zaE HFF.out h1
 |false=>
  have HFF:Hid (res=b3):=HF.out
  clear HF
  go_enter Tryz.func51,Tryz.ntmps51
  go_wp2_with fail
  refine wp_region_held_drew (S:=fun W=>W.cell? ⟨C1,0,none⟩=some (.string ⟨l.toArray⟩)∧W.cell? ⟨C2,0,none⟩=some (.string ⟨of.toArray⟩)) (by kernel_rfl) ?_ (fun hHeld=> ?_)
  ·exact HKC.out _ (zaG _)
  refine tkZ 0 (some 7) (v:= ?_) rfl (.inl ⟨by rfl,?_⟩) hHeld ?_;rotate_left;·intro w hSw;(try dsimp only at hSw);go_simp;try with_reducible rfl
  try simp only [Act.put,tkZa,tkZb,tkZc]
  refine wpAnyH_ready (rs:=[1]) (by kernel_rfl) (by simp) ?_
  refine AllReadyH.cons (o:=⟨some 8,_,_,_,_,_⟩) rfl (fun K hK=> ?_) AllReadyH.nil
  go_simp
  go_at_call 52
  refine (HCO.out _).mono ?_
  rintro e x1 ⟨rfl,hb1⟩
  have h1:Below W.heap.size W x1:=zaF (zaG _) hb1
  (try go_wp2_with fail)
  refine hK.out _ _ ?_ (fun hHeld1=> ?_)
  ·exact HKC.out _ h1
  clear hK K
  try simp only [Act.put,tkZa,tkZb,tkZc]
  refine tkZ 2 (some 9) (v:= ?_) rfl (.inl ⟨by rfl,?_⟩) hHeld1 ?_;rotate_left;·intro w hSw;(try dsimp only at hSw);go_simp;try with_reducible rfl
  try simp only [Act.put,tkZa,tkZb,tkZc]
  refine tkZ 3 (some 10) (v:= ?_) rfl (.inl ⟨by rfl,?_⟩) hHeld1 ?_;rotate_left;·intro w hSw;(try dsimp only at hSw);go_simp;try with_reducible rfl
  try simp only [Act.put,tkZa,tkZb,tkZc]
  refine tkZ 4 (some 11) (v:= ?_) rfl (.inl ⟨by rfl,?_⟩) hHeld1 ?_;rotate_left;·intro w hSw;(try dsimp only at hSw);go_simp;try with_reducible rfl
  try simp only [Act.put,tkZa,tkZb,tkZc]
  refine tkZ 5 (some 12) (v:= ?_) rfl (.inl ⟨by rfl,?_⟩) hHeld1 ?_;rotate_left;·intro w hSw;(try dsimp only at hSw);go_simp;try with_reducible rfl
  try simp only [Act.put,tkZa,tkZb,tkZc]
  refine wpAnyH_ready (rs:=[6]) (by kernel_rfl) (by simp) ?_
  refine AllReadyH.cons (o:=⟨some 13,_,_,_,_,_⟩) rfl (fun K hK=> ?_) AllReadyH.nil
  go_simp
  go_at_call 53
  refine (HPC.out _).mono ?_
  rintro e x2 ⟨rfl,rfl⟩
  (try go_wp2_with fail)
  refine hK.out _ _ ?_ (fun hHeld2=> ?_)
  ·exact HKC.out _ h1
  clear hK K
  try simp only [Act.put,tkZa,tkZb,tkZc]
  refine tkZ 7 (some 14) (v:= ?_) rfl (.inl ⟨by rfl,?_⟩) hHeld2 ?_;rotate_left;·intro w hSw;(try dsimp only at hSw);go_simp;try with_reducible rfl
  try simp only [Act.put,tkZa,tkZb,tkZc]
  refine tkZ 8 (some 15) (v:= ?_) rfl (.inl ⟨by rfl,?_⟩) hHeld2 ?_;rotate_left;·intro w hSw;(try dsimp only at hSw);go_simp;try with_reducible rfl
  try simp only [Act.put,tkZa,tkZb,tkZc]
  refine tkZ 9 (some 16) (v:= ?_) rfl (.inl ⟨by rfl,?_⟩) hHeld2 ?_;rotate_left;·intro w hSw;(try dsimp only at hSw);go_simp;try with_reducible rfl
  try simp only [Act.put,tkZa,tkZb,tkZc]
  refine tkZ 10 (some 17) (v:= ?_) rfl (.inl ⟨by rfl,?_⟩) hHeld2 ?_;rotate_left;·intro w hSw;(try dsimp only at hSw);go_simp;try with_reducible rfl
  try simp only [Act.put,tkZa,tkZb,tkZc]
  refine tkZ 11 (some 18) (v:= ?_) rfl (.inl ⟨by rfl,?_⟩) hHeld2 ?_;rotate_left;·intro w hSw;(try dsimp only at hSw);go_simp;try with_reducible rfl
  try simp only [Act.put,tkZa,tkZb,tkZc]
  refine tkZ 12 (some 19) (v:= ?_) rfl (.inl ⟨by rfl,?_⟩) hHeld2 ?_;rotate_left;·intro w hSw;(try dsimp only at hSw);go_simp;try with_reducible rfl
  try simp only [Act.put,tkZa,tkZb,tkZc]
  refine wpAnyH_ready (rs:=[13]) (by kernel_rfl) (by simp) ?_
  refine AllReadyH.cons (o:=⟨some 20,_,_,_,_,_⟩) rfl (fun K hK=> ?_) AllReadyH.nil
  go_simp
  go_at_call 54
  refine (HFI.out _ h1).mono ?_
  rintro e x3 ⟨rfl,hb3⟩
  have h3:Below W.heap.size W x3:=zaF h1 hb3
  (try go_wp2_with fail)
  refine hK.out _ _ ?_ (fun hHeld3=> ?_)
  ·exact HKC.out _ h3
  clear hK K
  try simp only [Act.put,tkZa,tkZb,tkZc]
  refine tkZ 14 (some 21) (v:= ?_) rfl (.inl ⟨by rfl,?_⟩) hHeld3 ?_;rotate_left;·intro w hSw;(try dsimp only at hSw);go_simp;try with_reducible rfl
  try simp only [Act.put,tkZa,tkZb,tkZc]
  refine tkZ 15 (some 6) (v:= ?_) rfl (.inl ⟨by rfl,?_⟩) hHeld3 ?_;rotate_left;·intro w hSw;(try dsimp only at hSw);go_simp;try with_reducible rfl
  try simp only [Act.put,tkZa,tkZb,tkZc]
  refine wpAnyH_done (by kernel_rfl) ?_ _
  go_wp2
  go_ret
  exact zaE HFF.out h3
theorem idx_at {ch l:List UInt8} {p:Nat} (h:p<l.length) (hb: ∀j (hj:j<l.length),j<p→ch.contains l[j]=false) (hc:ch.contains l[p]=true):Lib.indexAny l ch=(p:Nat):=by
 rcases zlR ch l with ⟨_,_,h3⟩|⟨i,hi,h1,h2,h3⟩
 ·rw [h3 l[p] (List.getElem_mem _)] at hc;cases hc
 ·have hn:=zdW ch.contains l
  rw [h2] at hn
  rw [h1]
  by_cases e1:i<p
  ·rw [hb i hi e1] at h3;cases h3
  ·by_cases e2:p<i
   ·have:=hn l[p] (List.mem_take_iff_getElem.2 ⟨p,by omega,rfl⟩)
    rw [this] at hc;cases hc
   ·congr 1;omega
theorem yjF {ch l:List UInt8} (hb: ∀j (hj:j<l.length),ch.contains l[j]=false):Lib.indexAny l ch= -1:=by
 rcases zlR ch l with ⟨_,h2,_⟩|⟨i,hi,_,_,h3⟩
 ·exact h2
 ·rw [hb i hi] at h3;cases h3
theorem zoZ (l ch:List UInt8) (w:World) (h8:l.length≤8) (h2:2≤ch.length) (hcz:ch.length≤1000) (ha: ∀c∈ch,c.toNat<128):
  Calls Tryz.prog 94 #[.string ⟨l.toArray⟩,.string ⟨ch.toArray⟩] w fun e w'=>e= .returned (.int .i64 (Lib.indexAny l ch))∧Below w.heap.size w w':=by
 have hz:=zaB l
 have hzc:=zaB ch
 have HAC:=ypN ha
 have HA:Hid (Asc ⟨ch.toArray⟩):=z0S ha
 have HAT:Hid (∀p (h:p<l.length),(∀j (hj:j<l.length),j<p→ch.contains l[j]=false)→ch.contains l[p]=true→Lib.indexAny l ch=(p:Nat)):=fun p h=>idx_at h
 have HNO:=ypN (@yjF ch l)
 clear ha
 have he:ch.isEmpty=false:=List.isEmpty_eq_false_iff.2 (fun e=>by rw [e] at h2;simp at h2)
 have hc1:((ch.length:Int)==1)=false:=beq_eq_false_iff_ne.2 (by omega)
 have hd8:decide ((8:Int)<(l.length:Int))=false:=ypP (by omega)
 go_enter Tryz.func94,Tryz.ntmps94
 go_wp2_with (go_at_call 144;refine ((Tryz.strings_shouldUseASCIISet _ _).mono fun _ _ h=>(⟨h.1,h.2.symm⟩:_∧_)).mono ?_;rintro e w' ⟨rfl,rfl⟩)
 go_loopw [] (fun wr=> ∃pos:Nat,wr.heap[w.heap.size]? =some (.stringIter ⟨l.toArray⟩ pos)∧Below w.heap.size w wr∧Hid (∀j (h:j<l.length),j<pos→ch.contains l[j]=false)) (fun wr=>l.length - wr.iterPos w.heap.size)
 case atStart=>exact ⟨0,World.iter_heap w _ 0,(ypR _ _).alloc (ypO _) _,fun j _ h=>by omega⟩
 case round=>
  obtain ⟨pos,hit,hbw,HK⟩:=hrel
  have hsz:w.heap.size<wr.heap.size:=(Array.getElem?_eq_some_iff.1 hit).1
  have HWP:Hid (wr.iterPos w.heap.size=pos):=by
   show wr.iterPos w.heap.size=pos
   simp only [World.iterPos,hit]
  by_cases hp:pos<l.length
  ·have hp':pos<(ByteArray.mk l.toArray).size:=by rw [hz];exact hp
   have hwd:=zfC ⟨l.toArray⟩ pos hp'
   have hnx: ∀ty,(Instr.next (.pointer (some ⟨w.heap.size,0,none⟩)) true ty).run Tryz.prog wr=_:=fun ty=>Lib.run_next_any_at wr w.heap.size _ pos ty hit hp'
   have hit2:=Lib.iterAt_heap wr w.heap.size ⟨l.toArray⟩ pos (pos+(Utf8.decode ⟨l.toArray⟩ pos).2) hit
   have hbw2:=Lib.below_iterAt hbw (k:=w.heap.size) (ypO _) ⟨l.toArray⟩ (pos+(Utf8.decode ⟨l.toArray⟩ pos).2)
   have hsz2:w.heap.size<(wr.iterAt w.heap.size ⟨l.toArray⟩ (pos+(Utf8.decode ⟨l.toArray⟩ pos).2)).heap.size:=by rw [Lib.iterAt_size];exact hsz
   generalize wr.iterAt w.heap.size ⟨l.toArray⟩ (pos+(Utf8.decode ⟨l.toArray⟩ pos).2)=wi at*
   have key: ∃x:Int,(Calls Tryz.prog 118 #[.string ⟨ch.toArray⟩,.int .i32 ((Utf8.decode ⟨l.toArray⟩ pos).1:Int)] wi fun e w'=>e= .returned (.int .i64 x)∧Below wi.heap.size wi w')∧
     ((0≤x∧ch.contains l[pos]=true)∨(x<0∧ ∀j (h:j<l.length),j<pos+(Utf8.decode ⟨l.toArray⟩ pos).2→ch.contains l[j]=false)):=by
    have hg:(ByteArray.mk l.toArray)[pos]'hp'=l[pos]:=rfl
    by_cases hlow:(l[pos]).toNat<128
    ·rw [decode_ascii ⟨l.toArray⟩ pos hp' hlow]
     refine ⟨Lib.indexByte ch l[pos],?_,?_⟩
     ·refine (Tryz.strings_IndexRune_ascii ⟨ch.toArray⟩ _ wi (by simp only [hg];omega) (by simp only [hg];omega)).mono ?_
      rintro e w' ⟨rfl,rfl⟩
      simp only [zgZ,hg]
      exact ⟨by first|trivial|rfl,ypR _ _⟩
     ·rw [zcF]
      have hi:=zcK ch l[pos]
      cases hh:hasB ch l[pos] with
      |true=>exact .inl ⟨hi.1 hh,rfl⟩
      |false=>
       refine .inr ⟨by rw [hi.2 hh];omega,fun j hj h1=> ?_⟩
       by_cases e:j=pos
       ·subst e;rw [zcF];exact hh
       ·exact HK.out j hj (by simp only at h1;omega)
    ·refine ⟨-1,zkN ⟨ch.toArray⟩ HA.out _ wi (by have:=(decode_high ⟨l.toArray⟩ pos hp' (by rw [hg];omega)).1;omega) (zgI _ pos),.inr ⟨by omega,fun j hj h1=> ?_⟩⟩
     by_cases e:j<pos
     ·exact HK.out j hj e
     ·obtain ⟨c,h3,h4⟩:=zoI ⟨l.toArray⟩ pos hp' (by rw [hg];omega) (j - pos) (by omega)
      have e2:pos+(j - pos)=j:=by omega
      rw [e2] at h3
      have e3:l[j]? =some c:=h3
      rw [List.getElem?_eq_getElem hj] at e3
      rw [Option.some.inj e3,zcF]
      cases hh:hasB ch c with
      |false=>rfl
      |true=>
       unfold hasB at hh
       rw [List.any_eq_true] at hh
       obtain ⟨d,hd,hde⟩:=hh
       have:=HAC.out d hd
       rw [beq_iff_eq] at hde
       rw [hde] at this
       omega
   obtain ⟨x,hcall,hx⟩:=key
   have HX:=ypN hcall
   clear hcall
   generalize (Utf8.decode ⟨l.toArray⟩ pos).2=K at*
   generalize ((Utf8.decode ⟨l.toArray⟩ pos).1:Int)=r at*
   rcases hx with ⟨h0,hyes⟩|⟨h0,hno⟩
   ·have HF:=ypN (HAT.out pos hp (fun j hj h=>HK.out j hj h) hyes)
    have hd:decide ((0:Int)≤x)=true:=ypQ h0
    clear hyes HAT HNO HAC HK HA
    go_wp2_with fail
    refine HX.out.mono ?_
    rintro e w3 ⟨rfl,hb3⟩
    have hbw3:Below w.heap.size w w3:=hbw2.trans (hb3.mono (by omega))
    go_wp2
    go_ret
    exact ⟨by rw [HF.out];rfl,hbw3⟩
   ·have hd:decide ((0:Int)≤x)=false:=ypP (by omega)
    have HK2:=ypN hno
    clear hno HAT HNO HAC HK HA
    go_wp2_with fail
    refine HX.out.mono ?_
    rintro e w3 ⟨rfl,hb3⟩
    have hit3:=(hb3.block w.heap.size hsz2).trans hit2
    have hbw3:Below w.heap.size w w3:=hbw2.trans (hb3.mono (by omega))
    go_wp2
    go_roundw
    case rel=>exact ⟨pos+K,hit3,hbw3,HK2.out⟩
    case measure=>
     rw [HWP.out]
     simp only [World.iterPos,hit3]
     omega
  ·have hnx: ∀ty,(Instr.next (.pointer (some ⟨w.heap.size,0,none⟩)) true ty).run Tryz.prog wr=_:=fun ty=>Lib.run_next_end_at wr w.heap.size _ pos ty hit (by rw [hz];exact hp)
   have HF:=ypN (HNO.out (fun j hj=>HK.out j hj (by omega)))
   clear HAT HNO HAC HK HA
   go_wp2
   go_ret
   exact ⟨by rw [HF.out];rfl,hbw⟩
theorem ycG (l:List UInt8) (w:World) (hl:l.length≤1000000):
  Calls Tryz.prog 94 #[.string ⟨l.toArray⟩,.string ⟨#[58,47,63,35]⟩] w fun e w'=>e= .returned (.int .i64 (Lib.indexAny l [58,47,63,35]))∧Below w.heap.size w w':=by
 by_cases h8:l.length≤8
 ·exact zoZ l [58,47,63,35] w h8 (by decide) (by decide) (by decide)
 ·have hz:=zaB l
  refine (Tryz.strings_IndexAny_long (fun w=>(Tryz.zeroValue152 w).trans (by kernel_rfl)) ⟨l.toArray⟩ ⟨#[58,47,63,35]⟩ w (by decide) (by omega) (by omega) (by decide) (fun j b hj=> ?_)).mono ?_
  ·have hj3:j<4:=by have:=(List.getElem?_eq_some_iff.1 hj).1;simpa using this
   have key: ∀j:Fin 4,∀b,([58,47,63,35]:List UInt8)[j.val]? =some b→b.toNat<128:=by decide
   exact key ⟨j,hj3⟩ b hj
  ·rintro e w' ⟨rfl,rfl⟩
   exact ⟨rfl,((ypR _ _).alloc (ypO _) _).alloc (by simp) _⟩
theorem ykR (b:UInt8) (l:List UInt8):Lib.cut l [b]=((cutA b l).1,(cutA b l).2.2,(cutA b l).2.1):=by
 obtain ⟨h1,h2,h3⟩:=zhA b l
 have hn:b∉(cutA b l).1:=fun h=>by have:=h2 b h;simp at this
 cases hb:(cutA b l).2.1 with
 |true=>
  rw [hb,if_pos rfl] at h1
  conv=>lhs;rw [h1]
  exact z0B _ hn
 |false=>
  rw [hb,if_neg (by decide),List.append_nil] at h1
  rw [h3 hb,←h1]
  rw [←h1] at hn
  exact z0Z hn
def RetCut (w:World) (x:List UInt8×Bool×List UInt8) (e:Ending) (w':World):Prop:=e= .returned (.tuple #[.string ⟨x.1.toArray⟩,.string ⟨x.2.2.toArray⟩,.bool x.2.1])∧Below w.heap.size w w'
theorem zkK (b:UInt8) (l:List UInt8) (w:World) (hl:l.length≤1000000) (hmax:MaxVar w):
  Calls Tryz.prog 95 #[.string ⟨l.toArray⟩,.string ⟨[b].toArray⟩] w (RetCut w (cutA b l)):=by
 obtain ⟨m,hm⟩:=hmax
 refine (Tryz.strings_Cut ⟨l.toArray⟩ ⟨[b].toArray⟩ m w (by rw [zaB];omega) hm).mono ?_
 rintro e w' ⟨rfl,n,rfl⟩
 refine ⟨?_,zcG (ypR _ _) n⟩
 rw [zaL,zaL,ykR]
theorem zfX (b:UInt8) (l:List UInt8):(cutA b l).1.length≤l.length∧(cutA b l).2.2.length≤l.length:=by
 obtain ⟨h1,_,h3⟩:=zhA b l
 have e:=congrArg List.length h1
 cases hb:(cutA b l).2.1 with
 |true=>
  rw [hb,if_pos rfl] at e
  simp at e
  omega
 |false=>
  rw [hb,if_neg (by decide)] at e
  simp at e
  rw [h3 hb]
  simp
  omega
theorem zkE (l of:List UInt8) (w:World) (hl:l.length≤1000000) (hutf:Lib.Utf8Tabs 0 1 w):
  Calls Tryz.prog 18 #[.string ⟨l.toArray⟩,.string ⟨of.toArray⟩] w (zbN w (isA of l)):=by
 obtain ⟨x,hx⟩: ∃x,x=(w.alloc (.cells #[.string ⟨l.toArray⟩] 9)).alloc (.cells #[.string ⟨of.toArray⟩] 9):=⟨_,rfl⟩
 have b1:Below w.heap.size w x:=by rw [hx];exact ((ypR _ w).alloc (ypO _) _).alloc (by simp) _
 have c1:x.cell? ⟨w.heap.size,0,none⟩=some (.string ⟨l.toArray⟩):=by
  have h1:=zaH (heap_alloc_new w (.cells #[.string ⟨l.toArray⟩] 9)) 0
  have h2:=((ypR (w.alloc (.cells #[.string ⟨l.toArray⟩] 9)).heap.size _).alloc (ypO _) (.cells #[.string ⟨of.toArray⟩] 9)).cell (World.block_lt_of_cell? _ _ h1)
  rw [hx]
  exact h2.trans h1
 have c2:x.cell? ⟨w.heap.size+1,0,none⟩=some (.string ⟨of.toArray⟩):=by
  have h1:=zaH (heap_alloc_new (w.alloc (.cells #[.string ⟨l.toArray⟩] 9)) (.cells #[.string ⟨of.toArray⟩] 9)) 0
  have e:(w.alloc (.cells #[.string ⟨l.toArray⟩] 9)).heap.size=w.heap.size+1:=by simp
  rw [e] at h1
  rw [hx]
  exact h1
 have HUX:=ypN (fun W (h:Below x.heap.size x W)=>zeM (zeM hutf b1) h)
 have HALL:Hid (Calls Tryz.prog 50 #[.string ⟨l.toArray⟩,.func (.func 51) #[] #[.pointer (some ⟨w.heap.size,0,none⟩),.pointer (some ⟨w.heap.size+1,0,none⟩)]] x (zbN x (isA of l))):=by
  have h:=zhR ⟨l.toArray⟩ (isPr ⟨l.toArray⟩ of) 51 #[.pointer (some ⟨w.heap.size,0,none⟩),.pointer (some ⟨w.heap.size+1,0,none⟩)] (enters_of Tryz.func51 (by kernel_rfl) rfl) x (fun W p hp hW=> ?_) (by rw [zaB];omega)
  ·have e:=ykK ⟨l.toArray⟩ of (ByteArray.mk l.toArray).size 0 (by omega)
   rw [List.drop_zero,zaL] at e
   rw [e] at h
   exact h
  ·exact ylJ l of w.heap.size (w.heap.size+1) p _ W ((hW.cell (World.block_lt_of_cell? x _ c1)).trans c1) ((hW.cell (World.block_lt_of_cell? x _ c2)).trans c2) (by rw [zaB] at hp;exact hp) (zgI _ p) hl (HUX.out W hW)
 have HB:=ypN b1
 have HC1:=ypN c1
 clear b1 c2 HUX hutf
 have hsz:(w.alloc (.cells #[.string ⟨l.toArray⟩] 9)).heap.size=w.heap.size+1:=by simp
 go_enter Tryz.func18,Tryz.ntmps18
 go_wp2_with fail
 rw [←hx]
 clear hx hsz
 refine HALL.out.mono ?_
 rintro e y ⟨rfl,hy⟩
 go_wp2
 go_ret
 exact ⟨rfl,zaF HB.out hy⟩
theorem sch_is (p r:Nat):zlH p r=(zcC (r:Int)||(decide ((0:Int)<(p:Int))&&(zbC (r:Int)||zgV [43,45,46] r))):=by
 have e:decide ((0:Int)<(p:Int))=decide (0<p):=by
  by_cases h:0<p
  ·rw [ypQ h,ypQ (by omega)]
  ·rw [ypP h,ypP (by omega)]
 rw [e]
 unfold zlH zgV
 by_cases h:r<128
 ·have key: ∀d:Fin 128,∀b:Bool,(zhS (UInt8.ofNat d.val)||(b&&(zdL (UInt8.ofNat d.val)||[43,45,46].contains (UInt8.ofNat d.val))))=(zcC (d.val:Int)||(b&&(zbC (d.val:Int)||(true&&hasB [43,45,46] (UInt8.ofNat d.val))))):=by decide+kernel
  rw [ypQ h]
  exact key ⟨r,h⟩ (decide (0<p))
 ·have h1:zcC (r:Int)=false:=ypP (by omega)
  have h2:zbC (r:Int)=false:=ypP (by omega)
  rw [ypP h,h1,h2]
  simp
theorem yiW (p r:Nat) (w:World) (hv:isB (r:Int)=true):
  Calls Tryz.prog 98 #[.int .i64 (p:Nat),.int .i32 (r:Nat)] w (zbN w (zlH p r)):=by
 have HF:=ypN (sch_is p r)
 have HA:=ypN (znY (r:Int))
 have HD:=ypN (zbZ (r:Int))
 have HC:=ypN (zcI [43,45,46] (by decide) r hv)
 generalize zlH p r=res at*
 generalize zcC (r:Int)=ba at*
 generalize zbC (r:Int)=bd at*
 generalize zgV [43,45,46] r=bc at*
 generalize (r:Int)=rr at*
 obtain ⟨bp,hbp⟩: ∃b,decide ((0:Int)<(p:Int))=b:=⟨_,rfl⟩
 rw [hbp] at HF
 clear hv
 go_enter Tryz.func98,Tryz.ntmps98
 go_wp2_with fail
 refine (HA.out _).mono ?_
 rintro e w' ⟨rfl,rfl⟩
 cases ba with
 |true=>
  go_wp2
  go_ret
  exact zaE HF.out (ypR _ _)
 |false=>
  by_cases hp0:0<p
  ·have hp1:decide ((0:Int)<(p:Int))=true:=ypQ (by omega)
   obtain rfl:bp=true:=by rw [←hbp,hp1]
   go_wp2_with fail
   refine (HD.out _).mono ?_
   rintro e w' ⟨rfl,rfl⟩
   cases bd with
   |true=>
    go_wp2
    go_ret
    exact zaE HF.out (ypR _ _)
   |false=>
    go_wp2_with fail
    refine (HC.out _).mono ?_
    rintro e w1 ⟨rfl,hb1⟩
    go_wp2
    go_ret
    exact zaE HF.out hb1
  ·obtain rfl:p=0:=by omega
   obtain rfl:bp=false:=by rw [←hbp];rfl
   go_wp2
   go_ret
   exact zaE HF.out (ypR _ _)
theorem zwH (l:List UInt8) (w:World) (hl:l.length≤1000000):
  Calls Tryz.prog 41 #[.string ⟨l.toArray⟩] w (zbN w (zdR l)):=by
 have HF:=ypN (ylB ⟨l.toArray⟩)
 rw [zaL] at HF
 have HALL:=ypN (zhR ⟨l.toArray⟩ zlH 98 #[] (enters_of Tryz.func98 (by kernel_rfl) rfl) w (fun W p hp hW=>yiW p _ W (zgI _ p)) (by rw [zaB];omega))
 generalize allP ⟨l.toArray⟩ zlH 0=b at*
 generalize zdR l=res at*
 cases h:l.isEmpty with
 |true=>
  rw [h] at HF
  obtain rfl:=List.isEmpty_iff.1 h
  clear HALL
  go_enter Tryz.func41,Tryz.ntmps41
  go_wp2
  go_ret
  exact zaE HF.out.symm (ypR _ _)
 |false=>
  rw [h] at HF
  have h2:(l==[])=false:=beq_eq_false_iff_ne.2 (fun e=>by rw [e] at h;cases h)
  go_enter Tryz.func41,Tryz.ntmps41
  go_wp2_with fail
  refine HALL.out.mono ?_
  rintro e y ⟨rfl,hy⟩
  go_wp2
  go_ret
  exact zaE HF.out.symm hy
theorem ydH (c:UInt8):zbC (c.toNat:Int)=zdL c:=by
 have key: ∀d:Fin 256,zbC (d.val:Int)=zdL (UInt8.ofNat d.val):=by decide+kernel
 have:=key ⟨c.toNat,c.toNat_lt⟩
 simpa using this
theorem znK {q:UInt8→Bool} (h: ∀d:Fin 256,128≤d.val→q (UInt8.ofNat d.val)=false) (c:UInt8) (hc:128≤c.toNat):q c=false:=by
 have:=h ⟨c.toNat,c.toNat_lt⟩ hc
 simpa using this
theorem z7K (p r:Nat) (w:World):Calls Tryz.prog 153 #[.int .i64 (p:Nat),.int .i32 (r:Nat)] w (zbN w (zbC (r:Int))):=by
 have HD:=ypN (zbZ (r:Int))
 generalize zbC (r:Int)=bd at*
 generalize (r:Int)=rr at*
 go_enter Tryz.func153,Tryz.ntmps153
 go_wp2_with fail
 refine (HD.out _).mono ?_
 rintro e w' ⟨rfl,rfl⟩
 go_wp2
 go_ret
 exact ⟨rfl,ypR _ _⟩
theorem z5Q (l:List UInt8) (w:World) (hl:l.length≤1000000):
  Calls Tryz.prog 102 #[.string ⟨l.toArray⟩] w (zbN w (l.all zdL)):=by
 have HALL:=ypN (zhR ⟨l.toArray⟩ (fun _ r=>zbC (r:Int)) 153 #[] (enters_of Tryz.func153 (by kernel_rfl) rfl) w (fun W p hp hW=>z7K p _ W) (by rw [zaB];omega))
 have e:=zmN ⟨l.toArray⟩ (fun _ r=>zbC (r:Int)) zdL (fun p h _=>ydH _) (fun _ r h=>ypP (by omega)) (znK (by decide+kernel)) (ByteArray.mk l.toArray).size 0 (by omega)
 rw [List.drop_zero,zaL] at e
 rw [e] at HALL
 clear e
 generalize l.all zdL=b at*
 go_enter Tryz.func102,Tryz.ntmps102
 go_wp2_with fail
 refine HALL.out.mono ?_
 rintro e y ⟨rfl,hy⟩
 go_wp2
 go_ret
 exact ⟨rfl,hy⟩
theorem yfK (p r:Nat) (w:World):Calls Tryz.prog 199 #[.int .i64 (p:Nat),.int .i32 (r:Nat)] w (zbN w (hexR (r:Int))):=by
 have HD:=ypN (znS (r:Int))
 generalize hexR (r:Int)=bd at*
 generalize (r:Int)=rr at*
 go_enter Tryz.func199,Tryz.ntmps199
 go_wp2_with fail
 refine (HD.out _).mono ?_
 rintro e w' ⟨rfl,rfl⟩
 go_wp2
 go_ret
 exact ⟨rfl,ypR _ _⟩
def verR (r:Nat):Bool:=zpA r||decide (r=58)
theorem yjM (p r:Nat) (w:World) (hv:isB (r:Int)=true):Calls Tryz.prog 200 #[.int .i64 (p:Nat),.int .i32 (r:Nat)] w (zbN w (verR r)):=by
 have HD:=ypN (fun W=>zlW r W hv)
 have e:((r:Int)==58)=decide (r=58):=by
  rw [Bool.eq_iff_iff,beq_iff_eq,decide_eq_true_eq];omega
 have HF:Hid (verR r=(zpA r||decide (r=58))):=rfl
 generalize verR r=res at*
 generalize zpA r=bd at*
 generalize decide (r=58)=be at*
 generalize (r:Int)=rr at*
 clear hv
 go_enter Tryz.func200,Tryz.ntmps200
 go_wp2_with fail
 refine (HD.out _).mono ?_
 rintro e w' ⟨rfl,hw⟩
 cases bd with
 |true=>
  go_wp2
  go_ret
  exact zaE HF.out hw
 |false=>
  go_wp2
  go_ret
  exact zaE HF.out hw
theorem yjE (l:List UInt8) (w:World) (hl:l.length≤1000000):
  Calls Tryz.prog 50 #[.string ⟨l.toArray⟩,.func (.func 199) #[] #[]] w (zbN w (l.all hexA)):=by
 have h:=zhR ⟨l.toArray⟩ (fun _ r=>hexR (r:Int)) 199 #[] (enters_of Tryz.func199 (by kernel_rfl) rfl) w (fun W p hp hW=>yfK p _ W) (by rw [zaB];omega)
 have e:=zmN ⟨l.toArray⟩ (fun _ r=>hexR (r:Int)) hexA (fun p h _=>zwV _) (fun _ r h=>ypP (by unfold valZ;(repeat' split)<;>omega)) (znK (by decide+kernel)) (ByteArray.mk l.toArray).size 0 (by omega)
 rw [List.drop_zero,zaL] at e
 rw [e] at h
 exact h
theorem ygT (c:UInt8) (h:c.toNat<128):verR c.toNat=verA c:=by
 have key: ∀d:Fin 128,verR d.val=verA (UInt8.ofNat d.val):=by decide+kernel
 have:=key ⟨c.toNat,h⟩
 simpa using this
theorem yjW (l:List UInt8) (w:World) (hl:l.length≤1000000):
  Calls Tryz.prog 50 #[.string ⟨l.toArray⟩,.func (.func 200) #[] #[]] w (zbN w (l.all verA)):=by
 have h:=zhR ⟨l.toArray⟩ (fun _ r=>verR r) 200 #[] (enters_of Tryz.func200 (by kernel_rfl) rfl) w (fun W p hp hW=>yjM p _ W (zgI _ p)) (by rw [zaB];omega)
 have e:=zmN ⟨l.toArray⟩ (fun _ r=>verR r) verA (fun p h hc=>ygT _ hc) (fun _ r h=>by unfold verR zpA;rw [ypP (by omega),ypP (by omega)];rfl) (znK (by decide+kernel)) (ByteArray.mk l.toArray).size 0 (by omega)
 rw [List.drop_zero,zaL] at e
 rw [e] at h
 exact h
theorem zmW (l p:List UInt8):(Lib.trimPrefix l p).length≤l.length:=by
 unfold Lib.trimPrefix
 split
 ·rw [List.length_drop];omega
 ·exact ypO _
theorem zvG (l:List UInt8) (w:World) (hl:l.length≤1000000) (hmax:MaxVar w):
  Calls Tryz.prog 152 #[.string ⟨l.toArray⟩] w (zbN w (ziA l)):=by
 have HF:=ypN (z8Y l)
 have HX:=ypN hmax
 have HLO:=ypN (fun W=>zmV ⟨l.toArray⟩ W (by rw [zaB];omega))
 rw [zaL] at HLO
 have hll:=zhT l
 have hpl:=zmW (zaI l) [118]
 obtain ⟨hcl1,hcl2⟩:=zfX 46 (Lib.trimPrefix (zaI l) [118])
 have HCP:Hid (∀W,Calls Tryz.prog 96 #[.string ⟨(zaI l).toArray⟩,.string ⟨#[118]⟩] W fun e w'=>e= .returned (.tuple #[.string ⟨(Lib.trimPrefix (zaI l) [118]).toArray⟩,.bool (Lib.hasPrefix (zaI l) [118])])∧W=w'):=fun W=>(Tryz.strings_CutPrefix ⟨(zaI l).toArray⟩ ⟨#[118]⟩ W).mono (fun _ _ h=>⟨h.1,h.2.symm⟩)
 have HCU:=ypN (fun W (h:MaxVar W)=>zkK 46 (Lib.trimPrefix (zaI l) [118]) W (by omega) h)
 have HH:=ypN (fun W=>yjE (cutA 46 (Lib.trimPrefix (zaI l) [118])).1 W (by omega))
 have HV:=ypN (fun W=>yjW (cutA 46 (Lib.trimPrefix (zaI l) [118])).2.2 W (by omega))
 clear hcl1 hcl2 hpl hll hmax
 generalize ziA l=res at*
 generalize cutA 46 (Lib.trimPrefix (zaI l) [118])=x at*
 obtain ⟨dg,fd,sg⟩:=x
 simp only at HF HH HV
 generalize Lib.trimPrefix (zaI l) [118]=t at*
 generalize Lib.hasPrefix (zaI l) [118]=bp at*
 generalize zaI l=lo at*
 generalize dg.all hexA=bh at*
 generalize sg.all verA=bv at*
 have d2:(dg==[])=dg.isEmpty:=by cases dg<;>rfl
 have s2:(sg==[])=sg.isEmpty:=by cases sg<;>rfl
 obtain ⟨de,hde⟩: ∃b,dg.isEmpty=b:=⟨_,rfl⟩
 obtain ⟨se,hse⟩: ∃b,sg.isEmpty=b:=⟨_,rfl⟩
 rw [hde,hse] at HF
 rw [hde] at d2
 rw [hse] at s2
 go_enter Tryz.func152,Tryz.ntmps152
 go_wp2_with fail
 refine (HLO.out _).mono ?_
 rintro e x1 ⟨rfl,hx1⟩
 go_wp2_with fail
 refine (HCP.out _).mono ?_
 rintro e x2 ⟨rfl,rfl⟩
 go_wp2_with fail
 refine (HCU.out _ (zaA HX.out hx1)).mono ?_
 rintro e x3 ⟨rfl,hx3⟩
 have hb3:=zaF hx1 hx3
 clear hx1 hx3 HLO HCP HCU
 cases bp with
 |false=>
  go_wp2
  go_ret
  exact zaE HF.out hb3
 |true=>
 cases de with
 |true=>
  go_wp2
  go_ret
  exact zaE HF.out hb3
 |false=>
 cases se with
 |true=>
  go_wp2
  go_ret
  exact zaE HF.out hb3
 |false=>
 go_wp2_with fail
 refine (HH.out _).mono ?_
 rintro e x4 ⟨rfl,hx4⟩
 have hb4:=zaF hb3 hx4
 clear hb3 hx4
 cases bh with
 |false=>
  go_wp2
  go_ret
  exact zaE HF.out hb4
 |true=>
 go_wp2_with fail
 refine (HV.out _).mono ?_
 rintro e x5 ⟨rfl,hx5⟩
 have hb5:=zaF hb4 hx5
 go_wp2
 go_ret
 exact zaE HF.out hb5
def sixB (l:List UInt8):Bool:=(sixZ l).2
theorem pre91 (l:List UInt8):(Lib.hasPrefix l [91]=true∧ ∃r,l=91::r∧Lib.trimPrefix l [91]=r)∨(Lib.hasPrefix l [91]=false∧l.head? ≠some 91):=by
 cases l with
 |nil=>exact .inr ⟨rfl,by simp⟩
 |cons c r=>
  by_cases h:c=91
  ·subst h
   exact .inl ⟨rfl,r,rfl,rfl⟩
  ·right
   refine ⟨?_,by simpa using h⟩
   unfold Lib.hasPrefix
   simp [List.isPrefixOf,Ne.symm h]
theorem z5V (l:List UInt8) (w:World) (hl:l.length≤1000000) (hmax:MaxVar w) (hutf:Lib.Utf8Tabs 0 1 w):
  Calls Tryz.prog 101 #[.string ⟨l.toArray⟩] w (zbN w (zgP sixB l)):=by
 have HX:=ypN hmax
 have HCP:Hid (∀W,Calls Tryz.prog 96 #[.string ⟨l.toArray⟩,.string ⟨#[91]⟩] W fun e w'=>e= .returned (.tuple #[.string ⟨(Lib.trimPrefix l [91]).toArray⟩,.bool (Lib.hasPrefix l [91])])∧W=w'):=fun W=>(Tryz.strings_CutPrefix ⟨l.toArray⟩ ⟨#[91]⟩ W).mono (fun _ _ h=>⟨h.1,h.2.symm⟩)
 rcases pre91 l with ⟨hp,r,rfl,hr⟩|⟨hp,hne⟩
 ·rw [hp,hr] at HCP
  have HF:=ypN (z6E sixB r)
  have hrl:r.length≤1000000:=by simp at hl;omega
  have HCS:Hid (∀W,Calls Tryz.prog 150 #[.string ⟨r.toArray⟩,.string ⟨#[93]⟩] W fun e w'=>e= .returned (.tuple #[.string ⟨(Lib.trimSuffix r [93]).toArray⟩,.bool (Lib.hasSuffix r [93])])∧W=w'):=fun W=>(Tryz.strings_CutSuffix ⟨r.toArray⟩ ⟨#[93]⟩ W (by rw [zaB];omega)).mono (fun _ _ h=>⟨h.1,h.2.symm⟩)
  have htl:(Lib.trimSuffix r [93]).length≤1000000:=by
   unfold Lib.trimSuffix
   split
   ·rw [List.length_take];omega
   ·omega
  have HSX:=ypN (fun W (h:MaxVar W)=>zqA ⟨(Lib.trimSuffix r [93]).toArray⟩ W (by rw [zaB];omega) h)
  rw [zaL] at HSX
  have HFU:=ypN (fun W (h:MaxVar W)=>zvG (Lib.trimSuffix r [93]) W htl h)
  unfold sixB at HF ⊢
  clear hp hr hutf hmax htl hl
  generalize Lib.trimSuffix r [93]=t at*
  generalize Lib.hasSuffix r [93]=bs at*
  generalize ziA t=bf at*
  generalize zgP (fun l=>(sixZ l).2) (91::r)=res at*
  generalize sixZ t=z at*
  obtain ⟨⟨hi,lo⟩,bk⟩:=z
  simp only at HF
  generalize 91::r=l at*
  go_enter Tryz.func101,Tryz.ntmps101
  go_wp2_with fail
  refine (HCP.out _).mono ?_
  rintro e x2 ⟨rfl,rfl⟩
  go_wp2_with fail
  refine (HCS.out _).mono ?_
  rintro e x2 ⟨rfl,rfl⟩
  go_wp2_with fail
  refine (HSX.out _ HX.out).mono ?_
  rintro e x3 ⟨rfl,hx3⟩
  simp only
  have hb4:Below w.heap.size w (x3.alloc (.cells #[.int .u64 hi,.int .u64 lo] 144)):=hx3.alloc hx3.size _
  cases bs with
  |false=>
   go_wp2
   go_ret
   exact zaE HF.out hb4
  |true=>
  cases bk with
  |true=>
   go_wp2
   go_ret
   exact zaE HF.out hb4
  |false=>
   have HFV:=ypN (HFU.out _ (zaA HX.out hb4))
   have HB4:=ypN hb4
   clear hb4
   go_wp2_with fail
   refine HFV.out.mono ?_
   rintro e x5 ⟨rfl,hx5⟩
   go_wp2
   go_ret
   exact zaE HF.out (zaF HB4.out hx5)
 ·rw [hp] at HCP
  have HF:=ypN (zxJ sixB hne)
  have HIS:=ypN (zkE l [] w hl hutf)
  clear hp hne hutf
  generalize Lib.trimPrefix l [91]=t at*
  generalize isA [] l=bi at*
  generalize zgP sixB l=res at*
  go_enter Tryz.func101,Tryz.ntmps101
  go_wp2_with fail
  refine (HCP.out _).mono ?_
  rintro e x2 ⟨rfl,rfl⟩
  go_wp2_with fail
  refine HIS.out.mono ?_
  rintro e x3 ⟨rfl,hx3⟩
  go_wp2
  go_ret
  exact zaE HF.out hx3
def PZ.cells (p:PZ):Array Value:= #[.string ⟨p.scheme.toArray⟩,.bool p.hasS,.string ⟨p.user.toArray⟩,.bool p.hasU,.string ⟨p.host.toArray⟩,.bool p.hasA,.string ⟨p.port.toArray⟩,.bool p.hasP,.string ⟨p.path.toArray⟩,.string ⟨p.query.toArray⟩,.bool p.hasQ,.string ⟨p.frag.toArray⟩,.bool p.hasF]
def PB (t:TypeId) (w:World) (P:Nat) (p:PZ):Prop:=w.heap[P]? =some (.cells p.cells t)
theorem PB.below {t:TypeId} {w w':World} {P:Nat} {p:PZ} (h:PB t w P p) (hb:Below w.heap.size w w'):PB t w' P p:=(hb.block P (zaM h)).trans h
theorem PB.new (t:TypeId) (w:World) (p:PZ):PB t (w.alloc (.cells p.cells t)) w.heap.size p:=heap_alloc_new w _
theorem PB.all {t:TypeId} {w:World} {P:Nat} {p:PZ} (h:PB t w P p):w.cell? ⟨P,0,none⟩=some (.string ⟨p.scheme.toArray⟩)∧w.cell? ⟨P,1,none⟩=some (.bool p.hasS)∧w.cell? ⟨P,2,none⟩=some (.string ⟨p.user.toArray⟩)∧w.cell? ⟨P,3,none⟩=some (.bool p.hasU)∧w.cell? ⟨P,4,none⟩=some (.string ⟨p.host.toArray⟩)∧w.cell? ⟨P,5,none⟩=some (.bool p.hasA)∧w.cell? ⟨P,6,none⟩=some (.string ⟨p.port.toArray⟩)∧w.cell? ⟨P,7,none⟩=some (.bool p.hasP)∧w.cell? ⟨P,8,none⟩=some (.string ⟨p.path.toArray⟩)∧w.cell? ⟨P,9,none⟩=some (.string ⟨p.query.toArray⟩)∧w.cell? ⟨P,10,none⟩=some (.bool p.hasQ)∧w.cell? ⟨P,11,none⟩=some (.string ⟨p.frag.toArray⟩)∧w.cell? ⟨P,12,none⟩=some (.bool p.hasF):=
 ⟨zaH h 0,zaH h 1,zaH h 2,zaH h 3,zaH h 4,zaH h 5,zaH h 6,zaH h 7,zaH h 8,zaH h 9,zaH h 10,zaH h 11,zaH h 12⟩
def PZ.Few (p:PZ) (n:Nat):Prop:=p.scheme.length≤n∧p.user.length≤n∧p.host.length≤n∧p.port.length≤n∧p.path.length≤n∧p.query.length≤n∧p.frag.length≤n
def zeI (p:PZ):List UInt8:=(if p.hasU then p.user++[64] else [])++(p.host++(if p.hasP then 58::p.port else []))
theorem z3M (p:PZ) (w:World) (hf:p.Few 100000):
  Calls Tryz.prog 49 #[.agg p.cells] w (zdT w (zeI p)):=by
 obtain ⟨f1,f2,f3,f4,f5,f6,f7⟩:=hf
 have hb:Below w.heap.size w (w.alloc (.cells p.cells 24)):=(ypR _ w).alloc (ypO _) _
 obtain ⟨d0,d1,d2,d3,d4,d5,d6,d7,d8,d9,d10,d11,d12⟩:=(PB.new 24 w p).all
 have HB:=ypN hb
 have hz2:=zaB p.user
 have hz4:=zaB p.host
 have hz6:=zaB p.port
 have HF:Hid (zeI p=(if p.hasU then p.user++[64] else [])++(p.host++(if p.hasP then 58::p.port else []))):=rfl
 unfold PZ.cells at d2 d3 d4 d6 d7 HB ⊢
 clear hb d0 d1 d5 d8 d9 d10 d11 d12
 generalize p.user=pu at*
 generalize p.host=ph at*
 generalize p.port=pp at*
 generalize p.hasU=bu at*
 generalize p.hasP=bp at*
 cases bu<;>cases bp
 all_goals
  go_enter Tryz.func49,Tryz.ntmps49
  go_wp2
  go_ret
  refine ⟨?_,HB.out⟩
  rw [HF.out]
  refine congrArg (fun s=>Ending.returned (.string s)) ?_
  apply ByteArray.ext
  simp
theorem zvN (p:PZ) (n:Nat) (h:p.Few n):(zeI p).length≤3*n+2:=by
 obtain ⟨f1,f2,f3,f4,f5,f6,f7⟩:=h
 unfold zeI
 split<;>split<;>simp<;>omega
theorem znI (p:PZ):zbJ p=(if p.hasS then p.scheme++[58] else [])++(((if p.hasA then 47::47::zeI p else [])++p.path)++((if p.hasQ then 63::p.query else [])++(if p.hasF then 35::p.frag else []))):=rfl
theorem zqO (p:PZ) (w:World) (hf:p.Few 100000):
  Calls Tryz.prog 14 #[.agg p.cells] w (zdT w (zbJ p)):=by
 have hal:=zvN p 100000 hf
 have HAU:=ypN (fun W=>z3M p W hf)
 obtain ⟨f1,f2,f3,f4,f5,f6,f7⟩:=hf
 have hb:Below w.heap.size w (w.alloc (.cells p.cells 24)):=(ypR _ w).alloc (ypO _) _
 have HPB:=ypN (fun y (hy:Below (w.alloc (.cells p.cells 24)).heap.size (w.alloc (.cells p.cells 24)) y)=>((PB.new 24 w p).below hy).all)
 obtain ⟨d0,d1,d2,d3,d4,d5,d6,d7,d8,d9,d10,d11,d12⟩:=(PB.new 24 w p).all
 have HB:=ypN hb
 have HBC:=ypN (fun y (hy:Below (w.alloc (.cells p.cells 24)).heap.size (w.alloc (.cells p.cells 24)) y)=>(zaF hb hy:Below w.heap.size w y))
 have hz0:=zaB p.scheme
 have hza:=zaB (zeI p)
 have hz8:=zaB p.path
 have hz9:=zaB p.query
 have hz11:=zaB p.frag
 have HF:=ypN (znI p)
 generalize zeI p=au at*
 generalize zbJ p=res at*
 unfold PZ.cells at*
 clear hb
 generalize p.scheme=ps at*
 generalize p.user=pu at*
 generalize p.host=ph at*
 generalize p.port=pp at*
 generalize p.path=pt at*
 generalize p.query=pq at*
 generalize p.frag=pf at*
 generalize p.hasS=bs at*
 generalize p.hasU=bu at*
 generalize p.hasA=ba at*
 generalize p.hasP=bp at*
 generalize p.hasQ=bq at*
 generalize p.hasF=bf at*
 cases ba with
 |false=>
  clear HAU HPB HBC hal hza
  cases bs<;>cases bq<;>cases bf
  all_goals
   go_enter Tryz.func14,Tryz.ntmps14
   go_wp2
   go_ret
   refine ⟨?_,HB.out⟩
   rw [HF.out]
   refine congrArg (fun s=>Ending.returned (.string s)) ?_
   apply ByteArray.ext
   simp
 |true=>
  cases bs<;>cases bq<;>cases bf
  all_goals
   go_enter Tryz.func14,Tryz.ntmps14
   go_wp2_with fail
   refine (HAU.out _).mono ?_
   rintro e y ⟨rfl,hy⟩
   obtain ⟨e0,e1,e2,e3,e4,e5,e6,e7,e8,e9,e10,e11,e12⟩:=HPB.out y hy
   have HBY:=ypN (HBC.out y hy)
   clear d0 d1 d2 d3 d4 d5 d6 d7 d8 d9 d10 d11 d12 HPB HBC HB HAU hy
   go_wp2
   go_ret
   refine ⟨?_,HBY.out⟩
   rw [HF.out]
   refine congrArg (fun s=>Ending.returned (.string s)) ?_
   apply ByteArray.ext
   simp
theorem zxK (p:PZ) (w:World) (hf:p.Few 100000) (hmax:MaxVar w) (hutf:Lib.Utf8Tabs 0 1 w):
  Calls Tryz.prog 42 #[.agg p.cells] w (zbN w (zjX sixB p)):=by
 obtain ⟨f1,f2,f3,f4,f5,f6,f7⟩:=hf
 have hb:Below w.heap.size w (w.alloc (.cells p.cells 24)):=(ypR _ w).alloc (ypO _) _
 have HPB:=ypN (fun y (hy:Below (w.alloc (.cells p.cells 24)).heap.size (w.alloc (.cells p.cells 24)) y)=>(And.intro ((PB.new 24 w p).below hy).all (zaF hb hy):_∧Below w.heap.size w y))
 have HMU:=ypN (fun y (hy:Below w.heap.size w y)=>(And.intro (zaA hmax hy) (zeM hutf hy):MaxVar y∧Lib.Utf8Tabs 0 1 y))
 obtain ⟨d0,d1,d2,d3,d4,d5,d6,d7,d8,d9,d10,d11,d12⟩:=(PB.new 24 w p).all
 have HB:=ypN hb
 have HR:Hid (Below (w.alloc (.cells p.cells 24)).heap.size (w.alloc (.cells p.cells 24)) (w.alloc (.cells p.cells 24))):=ypR _ _
 have HIU:=ypN (fun W (h:MaxVar W∧Lib.Utf8Tabs 0 1 W)=>zkE p.user [58] W (by omega) h.2)
 have HHO:=ypN (fun W (h:MaxVar W∧Lib.Utf8Tabs 0 1 W)=>z5V p.host W (by omega) h.1 h.2)
 have HPO:=ypN (fun W (_:MaxVar W∧Lib.Utf8Tabs 0 1 W)=>z5Q p.port W (by omega))
 have HIP:=ypN (fun W (h:MaxVar W∧Lib.Utf8Tabs 0 1 W)=>zkE p.path [58,64,47] W (by omega) h.2)
 have HIQ:=ypN (fun W (h:MaxVar W∧Lib.Utf8Tabs 0 1 W)=>zkE p.query [58,64,47,63] W (by omega) h.2)
 have HIF:=ypN (fun W (h:MaxVar W∧Lib.Utf8Tabs 0 1 W)=>zkE p.frag [58,64,47,63] W (by omega) h.2)
 have HF:Hid (zjX sixB p=(isA [58] p.user&&zgP sixB p.host&&p.port.all zdL&&isA [58,64,47] p.path&&isA [58,64,47,63] p.query&&isA [58,64,47,63] p.frag)):=rfl
 generalize zjX sixB p=res at*
 generalize isA [58] p.user=b1 at*
 generalize zgP sixB p.host=b2 at*
 generalize p.port.all zdL=b3 at*
 generalize isA [58,64,47] p.path=b4 at*
 generalize isA [58,64,47,63] p.query=b5 at*
 generalize isA [58,64,47,63] p.frag=b6 at*
 unfold PZ.cells at*
 clear hb hmax hutf
 go_enter Tryz.func42,Tryz.ntmps42
 go_wp2_with fail
 refine (HIU.out _ (HMU.out _ HB.out)).mono ?_
 rintro e y1 ⟨rfl,hy1⟩
 have HY1:=ypN (hy1:Below (w.alloc (.cells p.cells 24)).heap.size (w.alloc (.cells p.cells 24)) y1)
 obtain ⟨⟨e0,e1,e2,e3,e4,e5,e6,e7,e8,e9,e10,e11,e12⟩,hw1⟩:=HPB.out y1 HY1.out
 have HW1:=ypN hw1
 clear d0 d1 d2 d3 d4 d5 d6 d7 d8 d9 d10 d11 d12 HB hy1 hw1
 have HM1:=ypN (HMU.out y1 HW1.out)
 cases b1 with
 |false=>
  clear HIU HHO HPO HIP HIQ HIF
  go_wp2
  go_ret
  exact zaE HF.out HW1.out
 |true=>
 go_wp2_with fail
 refine (HHO.out _ HM1.out).mono ?_
 rintro e y2 ⟨rfl,hy2⟩
 clear e0 e1 e2 e3 e4 e5 e6 e7 e8 e9 e10 e11 e12 HM1
 have HY2:=ypN (zaF HY1.out hy2:Below (w.alloc (.cells p.cells 24)).heap.size (w.alloc (.cells p.cells 24)) y2)
 obtain ⟨⟨e0,e1,e2,e3,e4,e5,e6,e7,e8,e9,e10,e11,e12⟩,hw2⟩:=HPB.out y2 HY2.out
 have HW2:=ypN hw2
 clear HW1 hy2 hw2
 have HM2:=ypN (HMU.out y2 HW2.out)
 cases b2 with
 |false=>
  clear HIU HHO HPO HIP HIQ HIF
  go_wp2
  go_ret
  exact zaE HF.out HW2.out
 |true=>
 go_wp2_with fail
 refine (HPO.out _ HM2.out).mono ?_
 rintro e y3 ⟨rfl,hy3⟩
 clear e0 e1 e2 e3 e4 e5 e6 e7 e8 e9 e10 e11 e12 HM2
 have HY3:=ypN (zaF HY2.out hy3:Below (w.alloc (.cells p.cells 24)).heap.size (w.alloc (.cells p.cells 24)) y3)
 obtain ⟨⟨e0,e1,e2,e3,e4,e5,e6,e7,e8,e9,e10,e11,e12⟩,hw3⟩:=HPB.out y3 HY3.out
 have HW3:=ypN hw3
 clear HW2 hy3 hw3
 have HM3:=ypN (HMU.out y3 HW3.out)
 cases b3 with
 |false=>
  clear HIU HHO HPO HIP HIQ HIF
  go_wp2
  go_ret
  exact zaE HF.out HW3.out
 |true=>
 go_wp2_with fail
 refine (HIP.out _ HM3.out).mono ?_
 rintro e y4 ⟨rfl,hy4⟩
 clear e0 e1 e2 e3 e4 e5 e6 e7 e8 e9 e10 e11 e12 HM3
 have HY4:=ypN (zaF HY3.out hy4:Below (w.alloc (.cells p.cells 24)).heap.size (w.alloc (.cells p.cells 24)) y4)
 obtain ⟨⟨e0,e1,e2,e3,e4,e5,e6,e7,e8,e9,e10,e11,e12⟩,hw4⟩:=HPB.out y4 HY4.out
 have HW4:=ypN hw4
 clear HW3 hy4 hw4
 have HM4:=ypN (HMU.out y4 HW4.out)
 cases b4 with
 |false=>
  clear HIU HHO HPO HIP HIQ HIF
  go_wp2
  go_ret
  exact zaE HF.out HW4.out
 |true=>
 go_wp2_with fail
 refine (HIQ.out _ HM4.out).mono ?_
 rintro e y5 ⟨rfl,hy5⟩
 clear e0 e1 e2 e3 e4 e5 e6 e7 e8 e9 e10 e11 e12 HM4
 have HY5:=ypN (zaF HY4.out hy5:Below (w.alloc (.cells p.cells 24)).heap.size (w.alloc (.cells p.cells 24)) y5)
 obtain ⟨⟨e0,e1,e2,e3,e4,e5,e6,e7,e8,e9,e10,e11,e12⟩,hw5⟩:=HPB.out y5 HY5.out
 have HW5:=ypN hw5
 clear HW4 hy5 hw5
 have HM5:=ypN (HMU.out y5 HW5.out)
 cases b5 with
 |false=>
  clear HIU HHO HPO HIP HIQ HIF
  go_wp2
  go_ret
  exact zaE HF.out HW5.out
 |true=>
 go_wp2_with fail
 refine (HIF.out _ HM5.out).mono ?_
 rintro e y6 ⟨rfl,hy6⟩
 clear e0 e1 e2 e3 e4 e5 e6 e7 e8 e9 e10 e11 e12 HM5
 have HY6:=ypN (zaF HY5.out hy6:Below (w.alloc (.cells p.cells 24)).heap.size (w.alloc (.cells p.cells 24)) y6)
 obtain ⟨⟨e0,e1,e2,e3,e4,e5,e6,e7,e8,e9,e10,e11,e12⟩,hw6⟩:=HPB.out y6 HY6.out
 have HW6:=ypN hw6
 clear HW5 hy6 hw6
 have HM6:=ypN (HMU.out y6 HW6.out)
 go_wp2
 go_ret
 exact zaE HF.out HW6.out
theorem z5G (b:UInt8) (s:List UInt8):(cutA b s).1=(zaO (· ==b) s).1∧(zaO (· ==b) s).2=s.drop (cutA b s).1.length:=by
 have h1:=zcR (· ==b) s
 have key:(cutA b s).1=(zaO (· ==b) s).1:=by
  unfold cutA
  split
  ·rename_i e
   rw [e,List.append_nil] at h1
   exact h1
  ·rfl
 refine ⟨key,?_⟩
 rw [key]
 have e:=congrArg (List.drop (zaO (· ==b) s).1.length) h1
 rw [List.drop_left] at e
 exact e.symm
theorem zvI {a u r:List UInt8} (h:cutA 64 a=(u,true,r)):zdV a=(true,u,(zcM r).1,(zcM r).2.1,(zcM r).2.2):=by unfold zdV;rw [h]
theorem z0V {a u r:List UInt8} (h:cutA 64 a=(u,false,r)):zdV a=(false,[],(zcM a).1,(zcM a).2.1,(zcM a).2.2):=by unfold zdV;rw [h]
def z7I (p:PZ) (x:Bool×List UInt8×List UInt8×Bool×List UInt8):PZ:={p with user:=x.2.1,hasU:=x.1,host:=x.2.2.1,port:=x.2.2.2.2,hasP:=x.2.2.2.1}
def zxG (w:World) (P:Nat) (p:PZ) (s:List UInt8) (e:Ending) (w':World):Prop:=e= .returned (.string ⟨((zaO (· ==47) s).2).toArray⟩)∧PB 24 w' P (z7I p (zdV (zaO (· ==47) s).1))∧Only [P] w w'
theorem PB.st2 {t:TypeId} {w:World} {P:Nat} {p:PZ} (h:PB t w P p) (a:Value):(w.cell? ⟨P,2,none⟩=some (.string ⟨p.user.toArray⟩)∧w.frozen? ⟨P,2,none⟩=false)∧(w.setCell ⟨P,2,none⟩ a).cell? ⟨P,3,none⟩=some (.bool p.hasU)∧(w.setCell ⟨P,2,none⟩ a).frozen? ⟨P,3,none⟩=false:=⟨⟨zaH h 2,zaP h 2⟩,zaH (zaJ h 2 a) 3,zaP (zaJ h 2 a) 3⟩
theorem PB.st6 {t:TypeId} {w:World} {P:Nat} {p:PZ} (h:PB t w P p) (a:Value):(w.cell? ⟨P,6,none⟩=some (.string ⟨p.port.toArray⟩)∧w.frozen? ⟨P,6,none⟩=false)∧(w.setCell ⟨P,6,none⟩ a).cell? ⟨P,7,none⟩=some (.bool p.hasP)∧(w.setCell ⟨P,6,none⟩ a).frozen? ⟨P,7,none⟩=false:=⟨⟨zaH h 6,zaP h 6⟩,zaH (zaJ h 6 a) 7,zaP (zaJ h 6 a) 7⟩
theorem PB.user {t:TypeId} {w:World} {P:Nat} {p:PZ} (h:PB t w P p) (u:List UInt8):PB t ((w.setCell ⟨P,2,none⟩ (.string ⟨u.toArray⟩)).setCell ⟨P,3,none⟩ (.bool true)) P {p with user:=u,hasU:=true}:=zaJ (zaJ h 2 _) 3 _
theorem PB.port {t:TypeId} {w:World} {P:Nat} {p:PZ} (h:PB t w P p) (u:List UInt8):PB t ((w.setCell ⟨P,6,none⟩ (.string ⟨u.toArray⟩)).setCell ⟨P,7,none⟩ (.bool true)) P {p with port:=u,hasP:=true}:=zaJ (zaJ h 6 _) 7 _
theorem PB.host {t:TypeId} {w:World} {P:Nat} {p:PZ} (h:PB t w P p) (u:List UInt8):PB t (w.setCell ⟨P,4,none⟩ (.string ⟨u.toArray⟩)) P {p with host:=u}:=zaJ h 4 _
theorem ziN {w x:World} {P:Nat} (h:Only [P] w x) (i:Nat) (a:Value):Only [P] w (x.setCell ⟨P,i,none⟩ a):=h.setCell (p:=⟨P,i,none⟩) (.inl (by simp)) _
theorem zoP {w x:World} {P:Nat} (h:Only [P] w x) (i j:Nat) (a b:Value):Only [P] w ((x.setCell ⟨P,i,none⟩ a).setCell ⟨P,j,none⟩ b):=ziN (ziN h i a) j b
theorem zsM (P:Nat) (p:PZ) (s:List UInt8) (w:World) (hl:s.length≤100000) (hp:PB 24 w P p) (hu:p.user=[]∧p.hasU=false∧p.port=[]∧p.hasP=false) (hmax:MaxVar w):
  Calls Tryz.prog 97 #[.pointer (some ⟨P,0,none⟩),.string ⟨s.toArray⟩] w (zxG w P p s):=by
 obtain ⟨u1,u2,u3,u4⟩:=hu
 obtain ⟨k1,k2⟩:=z5G 47 s
 have hcl:=zfX 47 s
 have HX:=ypN hmax
 have HCU:=ypN (zkK 47 s w (by omega) hmax)
 have HRET:Hid (∀(e:Ending) (w':World),e= .returned (.string ⟨(s.drop (cutA 47 s).1.length).toArray⟩)→PB 24 w' P (z7I p (zdV (cutA 47 s).1))→Only [P] w w'→zxG w P p s e w'):=fun e w' h1 h2 h3=>by
  unfold zxG
  rw [←k1,k2]
  exact ⟨h1,h2,h3⟩
 have hdr:=zdM s (cutA 47 s).1.length hcl.1
 clear k1 k2 hmax
 generalize hx47:cutA 47 s=x at*
 obtain ⟨a,b0,c0⟩:=x
 simp only at HRET hdr hcl
 have hza:=zaB a
 have HPA:=ypN (@zpM)
 have HPA2:=ypN (fun W (h:MaxVar W)=>zkK 64 a W (by omega) h)
 have hcl2:=(zfX 64 a).2
 have HYES:Hid (∀u r,cutA 64 a=(u,true,r)→zdV a=(true,u,(zcM r).1,(zcM r).2.1,(zcM r).2.2)):=fun _ _ h=>zvI h
 have HNO:Hid (∀u r,cutA 64 a=(u,false,r)→zdV a=(false,[],(zcM a).1,(zcM a).2.1,(zcM a).2.2)):=fun _ _ h=>z0V h
 generalize hx64:cutA 64 a=x at*
 obtain ⟨u,bu,r⟩:=x
 have HLI:Hid (∀(c:UInt8) (l:List UInt8) W,l.length≤100000→Calls Tryz.prog 149 #[.string ⟨l.toArray⟩,.int .u8 (c.toNat:Int)] W fun e w'=>e= .returned (.int .i64 (Lib.lastIndexByte ⟨l.toArray⟩ (c.toNat:Int)))∧W=w'):=fun c l W h=>(Tryz.strings_LastIndexByte ⟨l.toArray⟩ (c.toNat:Int) (by rw [zaB];omega) W).mono (fun _ _ h=>⟨h.1,h.2.symm⟩)
 have HP:=ypN hp
 clear hp hx47
 go_enter Tryz.func97,Tryz.ntmps97
 go_wp2_with fail
 refine HCU.out.mono ?_
 rintro e x1 ⟨rfl,hx1⟩
 go_wp2_with fail
 refine (HPA2.out _ (zaA HX.out hx1)).mono ?_
 rintro e x2 ⟨rfl,hx2⟩
 simp only at*
 have hb2:=zaF hx1 hx2
 have HP2:=ypN (HP.out.below hb2)
 have HO2:Hid (Only [P] w x2):=(Only.of_below (F:=[]) hb2).mono (fun _ h=>by cases h)
 clear hx1 hx2 hb2 HCU HPA2 HX HP
 cases bu with
 |true=>
  obtain ⟨⟨c2,f2⟩,c3,f3⟩:=HP2.out.st2 (.string ⟨u.toArray⟩)
  go_wp2_with fail
  obtain ⟨x3,hx3⟩: ∃y,y=(x2.setCell ⟨P,2,none⟩ (.string ⟨u.toArray⟩)).setCell ⟨P,3,none⟩ (.bool true):=⟨_,rfl⟩
  rw [←hx3]
  have HP3:Hid (PB 24 x3 P {p with user:=u,hasU:=true}):=by rw [hx3];exact HP2.out.user u
  have HO3:Hid (Only [P] w x3):=by rw [hx3];exact zoP HO2.out 2 3 _ _
  clear c2 f2 c3 f3 hx3 HP2 HO2
  have HL58:=ypN (HLI.out 58 r x3 (by omega))
  have HL93:=ypN (HLI.out 93 r x3 (by omega))
  have hlr:r.length≤100000:=(by omega)
  have hzl:=zaB r
  clear HLI
  rcases HPA.out r with ⟨i,hi,h58,h93,hpa⟩|⟨hle,hpa⟩
  ·have HAU:Hid (zdV a=(true,u,(r.take i),true,(r.drop (i+1)))):=by show _=_;rw [HYES.out _ _ rfl,hpa]
   rw [show ((58:UInt8).toNat:Int)=58 from rfl,h58] at HL58
   rw [show ((93:UInt8).toNat:Int)=93 from rfl] at HL93
   have hs1:=znE r i hi
   have hs2:=zjG r i (by omega)
   have hd:decide (Lib.lastIndexByte ⟨r.toArray⟩ 93<(i:Int))=true:=ypQ h93
   have hwr:IntKind.i64.wrap ((i:Int)+1)=(i:Int)+1:=IntWalk.i64_in _ (by omega)
   generalize Lib.lastIndexByte ⟨r.toArray⟩ 93=z at*
   generalize r.take i=hh at*
   generalize r.drop (i+1)=pp at*
   clear HPA hpa h58 h93
   go_wp2_with fail
   refine HL58.out.mono ?_
   rintro e w' ⟨rfl,rfl⟩
   go_wp2_with fail
   refine HL93.out.mono ?_
   rintro e w' ⟨rfl,rfl⟩
   go_wp2_with fail
   refine wp_region_held_drew (S:=fun _=>True) (by kernel_rfl) trivial (fun hHeld=> ?_)
   refine tkZ 0 (some 44) (v:= ?_) rfl (.inl ⟨by rfl,?_⟩) hHeld ?_
   rotate_left
   ·intro w hSw
    go_simp
    try with_reducible rfl
   try simp only [Act.put,tkZa,tkZb,tkZc]
   refine tkZ 1 (some 45) (v:= ?_) rfl (.inl ⟨by rfl,?_⟩) hHeld ?_
   rotate_left
   ·intro w hSw
    go_simp
    try with_reducible rfl
   try simp only [Act.put,tkZa,tkZb,tkZc]
   refine tkZ 2 (some 46) (v:= ?_) rfl (.inl ⟨by rfl,?_⟩) hHeld ?_
   rotate_left
   ·intro w hSw
    go_simp
    try with_reducible rfl
   try simp only [Act.put,tkZa,tkZb,tkZc]
   refine tkZ 3 (some 47) (v:= ?_) rfl (.inl ⟨by rfl,?_⟩) hHeld ?_
   rotate_left
   ·intro w hSw
    go_simp
    try with_reducible rfl
   try simp only [Act.put,tkZa,tkZb,tkZc]
   refine tkZ 4 (some 48) (v:= ?_) rfl (.inl ⟨by rfl,?_⟩) hHeld ?_
   rotate_left
   ·intro w hSw
    go_simp
    try with_reducible rfl
   try simp only [Act.put,tkZa,tkZb,tkZc]
   refine tkZ 5 (some 49) (v:= ?_) rfl (.inl ⟨by rfl,?_⟩) hHeld ?_
   rotate_left
   ·intro w hSw
    go_simp
    try with_reducible rfl
   try simp only [Act.put,tkZa,tkZb,tkZc]
   refine tkZ 6 (some 50) (v:= ?_) rfl (.inl ⟨by rfl,?_⟩) hHeld ?_
   rotate_left
   ·intro w hSw
    go_simp
    try with_reducible rfl
   try simp only [Act.put,tkZa,tkZb,tkZc]
   refine tkZ 7 (some 51) (v:= ?_) rfl (.inl ⟨by rfl,?_⟩) hHeld ?_
   rotate_left
   ·intro w hSw
    go_simp
    try with_reducible rfl
   try simp only [Act.put,tkZa,tkZb,tkZc]
   refine tkZ 8 (some 52) (v:= ?_) rfl (.inl ⟨by rfl,?_⟩) hHeld ?_
   rotate_left
   ·intro w hSw
    go_simp
    try with_reducible rfl
   try simp only [Act.put,tkZa,tkZb,tkZc]
   refine tkZ 9 (some 53) (v:= ?_) rfl (.inl ⟨by rfl,?_⟩) hHeld ?_
   rotate_left
   ·intro w hSw
    go_simp
    try with_reducible rfl
   try simp only [Act.put,tkZa,tkZb,tkZc]
   refine tkZ 10 (some 54) (v:= ?_) rfl (.inl ⟨by rfl,?_⟩) hHeld ?_
   rotate_left
   ·intro w hSw
    go_simp
    try with_reducible rfl
   try simp only [Act.put,tkZa,tkZb,tkZc]
   have hPD:=HP3.out.below (zaG x3)
   have hOD:=Only.then_below HO3.out (zaG x3)
   generalize hxd:x3.drew=xd at*
   obtain ⟨⟨c6,f6⟩,c7,f7⟩:=hPD.st6 (.string ⟨pp.toArray⟩)
   have HPD:=ypN hPD
   have HOD:=ypN hOD
   clear hPD hOD hxd
   refine wpAnyH_ready (rs:=[11]) (by kernel_rfl) (by simp) ?_
   refine AllReadyH.cons (o:=⟨none,_,_,_,_,_⟩) rfl (fun K hK=> ?_) AllReadyH.nil
   go_simp
   refine hK.out _ _ trivial (fun hH1=> ?_)
   clear hK K
   try simp only [Act.put,tkZa,tkZb,tkZc]
   refine tkZ 12 (some 55) (v:= ?_) rfl (.inl ⟨by rfl,?_⟩) hH1 ?_
   rotate_left
   ·intro w hSw
    go_simp
    try with_reducible rfl
   try simp only [Act.put,tkZa,tkZb,tkZc]
   refine tkZ 13 (some 56) (v:= ?_) rfl (.inl ⟨by rfl,?_⟩) hH1 ?_
   rotate_left
   ·intro w hSw
    go_simp
    try with_reducible rfl
   try simp only [Act.put,tkZa,tkZb,tkZc]
   refine wpAnyH_ready (rs:=[14]) (by kernel_rfl) (by simp) ?_
   refine AllReadyH.cons (o:=⟨none,_,_,_,_,_⟩) rfl (fun K hK=> ?_) AllReadyH.nil
   go_simp
   refine hK.out _ _ trivial (fun hH2=> ?_)
   clear hK K
   try simp only [Act.put,tkZa,tkZb,tkZc]
   refine tkZ 15 (some 5) (v:= ?_) rfl (.inl ⟨by rfl,?_⟩) hH2 ?_
   rotate_left
   ·intro w hSw
    go_simp
    try with_reducible rfl
   try simp only [Act.put,tkZa,tkZb,tkZc]
   refine wpAnyH_done (by kernel_rfl) ?_ _
   have hP4:=HPD.out.port pp
   have hO4:=zoP HOD.out 6 7 (.string ⟨pp.toArray⟩) (.bool true)
   generalize (xd.setCell ⟨P,6,none⟩ (.string ⟨pp.toArray⟩)).setCell ⟨P,7,none⟩ (.bool true)=x4 at*
   have k4:=zaH hP4 4
   have g4:=zaP hP4 4
   have HP4:=ypN hP4
   have HO4:=ypN hO4
   clear hP4 hO4 c6 f6 c7 f7 HPD HOD
   simp [PZ.cells] at k4
   go_wp2
   go_ret
   refine HRET.out _ _ rfl ?_ (ziN HO4.out 4 _)
   rw [HAU.out]
   have hq:=HP4.out.host hh
   exact hq
  ·have HAU:Hid (zdV a=(true,u,r,false,[])):=by show _=_;rw [HYES.out _ _ rfl,hpa]
   rw [show ((58:UInt8).toNat:Int)=58 from rfl] at HL58
   rw [show ((93:UInt8).toNat:Int)=93 from rfl] at HL93
   have hd:decide (Lib.lastIndexByte ⟨r.toArray⟩ 93<Lib.lastIndexByte ⟨r.toArray⟩ 58)=false:=ypP (by omega)
   generalize Lib.lastIndexByte ⟨r.toArray⟩ 93=z at*
   generalize Lib.lastIndexByte ⟨r.toArray⟩ 58=z2 at*
   clear HPA hpa
   obtain ⟨d0,d1,d2,d3,d4,d5,d6,d7,d8,d9,d10,d11,d12⟩:=HP3.out.all
   have f4:=zaP HP3.out 4
   clear d0 d1 d2 d3 d5 d6 d7 d8 d9 d10 d11 d12
   go_wp2_with fail
   refine HL58.out.mono ?_
   rintro e w' ⟨rfl,rfl⟩
   go_wp2_with fail
   refine HL93.out.mono ?_
   rintro e w' ⟨rfl,rfl⟩
   go_wp2
   go_ret
   refine HRET.out _ _ rfl ?_ (ziN HO3.out 4 _)
   rw [HAU.out]
   have hq:=HP3.out.host r
   simpa [z7I,u3,u4] using hq
 |false=>
  have HL58:=ypN (HLI.out 58 a x2 (by omega))
  have HL93:=ypN (HLI.out 93 a x2 (by omega))
  have hlr:a.length≤100000:=(by omega)
  have hzl:=zaB a
  clear HLI
  rcases HPA.out a with ⟨i,hi,h58,h93,hpa⟩|⟨hle,hpa⟩
  ·have HAU:Hid (zdV a=(false,[],(a.take i),true,(a.drop (i+1)))):=by show _=_;rw [HNO.out _ _ rfl,hpa]
   rw [show ((58:UInt8).toNat:Int)=58 from rfl,h58] at HL58
   rw [show ((93:UInt8).toNat:Int)=93 from rfl] at HL93
   have hs1:=znE a i hi
   have hs2:=zjG a i (by omega)
   have hd:decide (Lib.lastIndexByte ⟨a.toArray⟩ 93<(i:Int))=true:=ypQ h93
   have hwr:IntKind.i64.wrap ((i:Int)+1)=(i:Int)+1:=IntWalk.i64_in _ (by omega)
   generalize Lib.lastIndexByte ⟨a.toArray⟩ 93=z at*
   generalize a.take i=hh at*
   generalize a.drop (i+1)=pp at*
   clear HPA hpa h58 h93
   go_wp2_with fail
   refine HL58.out.mono ?_
   rintro e w' ⟨rfl,rfl⟩
   go_wp2_with fail
   refine HL93.out.mono ?_
   rintro e w' ⟨rfl,rfl⟩
   go_wp2_with fail
   refine wp_region_held_drew (S:=fun _=>True) (by kernel_rfl) trivial (fun hHeld=> ?_)
   refine tkZ 0 (some 44) (v:= ?_) rfl (.inl ⟨by rfl,?_⟩) hHeld ?_
   rotate_left
   ·intro w hSw
    go_simp
    try with_reducible rfl
   try simp only [Act.put,tkZa,tkZb,tkZc]
   refine tkZ 1 (some 45) (v:= ?_) rfl (.inl ⟨by rfl,?_⟩) hHeld ?_
   rotate_left
   ·intro w hSw
    go_simp
    try with_reducible rfl
   try simp only [Act.put,tkZa,tkZb,tkZc]
   refine tkZ 2 (some 46) (v:= ?_) rfl (.inl ⟨by rfl,?_⟩) hHeld ?_
   rotate_left
   ·intro w hSw
    go_simp
    try with_reducible rfl
   try simp only [Act.put,tkZa,tkZb,tkZc]
   refine tkZ 3 (some 47) (v:= ?_) rfl (.inl ⟨by rfl,?_⟩) hHeld ?_
   rotate_left
   ·intro w hSw
    go_simp
    try with_reducible rfl
   try simp only [Act.put,tkZa,tkZb,tkZc]
   refine tkZ 4 (some 48) (v:= ?_) rfl (.inl ⟨by rfl,?_⟩) hHeld ?_
   rotate_left
   ·intro w hSw
    go_simp
    try with_reducible rfl
   try simp only [Act.put,tkZa,tkZb,tkZc]
   refine tkZ 5 (some 49) (v:= ?_) rfl (.inl ⟨by rfl,?_⟩) hHeld ?_
   rotate_left
   ·intro w hSw
    go_simp
    try with_reducible rfl
   try simp only [Act.put,tkZa,tkZb,tkZc]
   refine tkZ 6 (some 50) (v:= ?_) rfl (.inl ⟨by rfl,?_⟩) hHeld ?_
   rotate_left
   ·intro w hSw
    go_simp
    try with_reducible rfl
   try simp only [Act.put,tkZa,tkZb,tkZc]
   refine tkZ 7 (some 51) (v:= ?_) rfl (.inl ⟨by rfl,?_⟩) hHeld ?_
   rotate_left
   ·intro w hSw
    go_simp
    try with_reducible rfl
   try simp only [Act.put,tkZa,tkZb,tkZc]
   refine tkZ 8 (some 52) (v:= ?_) rfl (.inl ⟨by rfl,?_⟩) hHeld ?_
   rotate_left
   ·intro w hSw
    go_simp
    try with_reducible rfl
   try simp only [Act.put,tkZa,tkZb,tkZc]
   refine tkZ 9 (some 53) (v:= ?_) rfl (.inl ⟨by rfl,?_⟩) hHeld ?_
   rotate_left
   ·intro w hSw
    go_simp
    try with_reducible rfl
   try simp only [Act.put,tkZa,tkZb,tkZc]
   refine tkZ 10 (some 54) (v:= ?_) rfl (.inl ⟨by rfl,?_⟩) hHeld ?_
   rotate_left
   ·intro w hSw
    go_simp
    try with_reducible rfl
   try simp only [Act.put,tkZa,tkZb,tkZc]
   have hPD:=HP2.out.below (zaG x2)
   have hOD:=Only.then_below HO2.out (zaG x2)
   generalize hxd:x2.drew=xd at*
   obtain ⟨⟨c6,f6⟩,c7,f7⟩:=hPD.st6 (.string ⟨pp.toArray⟩)
   have HPD:=ypN hPD
   have HOD:=ypN hOD
   clear hPD hOD hxd
   refine wpAnyH_ready (rs:=[11]) (by kernel_rfl) (by simp) ?_
   refine AllReadyH.cons (o:=⟨none,_,_,_,_,_⟩) rfl (fun K hK=> ?_) AllReadyH.nil
   go_simp
   refine hK.out _ _ trivial (fun hH1=> ?_)
   clear hK K
   try simp only [Act.put,tkZa,tkZb,tkZc]
   refine tkZ 12 (some 55) (v:= ?_) rfl (.inl ⟨by rfl,?_⟩) hH1 ?_
   rotate_left
   ·intro w hSw
    go_simp
    try with_reducible rfl
   try simp only [Act.put,tkZa,tkZb,tkZc]
   refine tkZ 13 (some 56) (v:= ?_) rfl (.inl ⟨by rfl,?_⟩) hH1 ?_
   rotate_left
   ·intro w hSw
    go_simp
    try with_reducible rfl
   try simp only [Act.put,tkZa,tkZb,tkZc]
   refine wpAnyH_ready (rs:=[14]) (by kernel_rfl) (by simp) ?_
   refine AllReadyH.cons (o:=⟨none,_,_,_,_,_⟩) rfl (fun K hK=> ?_) AllReadyH.nil
   go_simp
   refine hK.out _ _ trivial (fun hH2=> ?_)
   clear hK K
   try simp only [Act.put,tkZa,tkZb,tkZc]
   refine tkZ 15 (some 5) (v:= ?_) rfl (.inl ⟨by rfl,?_⟩) hH2 ?_
   rotate_left
   ·intro w hSw
    go_simp
    try with_reducible rfl
   try simp only [Act.put,tkZa,tkZb,tkZc]
   refine wpAnyH_done (by kernel_rfl) ?_ _
   have hP4:=HPD.out.port pp
   have hO4:=zoP HOD.out 6 7 (.string ⟨pp.toArray⟩) (.bool true)
   generalize (xd.setCell ⟨P,6,none⟩ (.string ⟨pp.toArray⟩)).setCell ⟨P,7,none⟩ (.bool true)=x4 at*
   have k4:=zaH hP4 4
   have g4:=zaP hP4 4
   have HP4:=ypN hP4
   have HO4:=ypN hO4
   clear hP4 hO4 c6 f6 c7 f7 HPD HOD
   simp [PZ.cells] at k4
   go_wp2
   go_ret
   refine HRET.out _ _ rfl ?_ (ziN HO4.out 4 _)
   rw [HAU.out]
   have hq:=HP4.out.host hh
   simpa [z7I,u1,u2] using hq
  ·have HAU:Hid (zdV a=(false,[],a,false,[])):=by show _=_;rw [HNO.out _ _ rfl,hpa]
   rw [show ((58:UInt8).toNat:Int)=58 from rfl] at HL58
   rw [show ((93:UInt8).toNat:Int)=93 from rfl] at HL93
   have hd:decide (Lib.lastIndexByte ⟨a.toArray⟩ 93<Lib.lastIndexByte ⟨a.toArray⟩ 58)=false:=ypP (by omega)
   generalize Lib.lastIndexByte ⟨a.toArray⟩ 93=z at*
   generalize Lib.lastIndexByte ⟨a.toArray⟩ 58=z2 at*
   clear HPA hpa
   obtain ⟨d0,d1,d2,d3,d4,d5,d6,d7,d8,d9,d10,d11,d12⟩:=HP2.out.all
   have f4:=zaP HP2.out 4
   clear d0 d1 d2 d3 d5 d6 d7 d8 d9 d10 d11 d12
   go_wp2_with fail
   refine HL58.out.mono ?_
   rintro e w' ⟨rfl,rfl⟩
   go_wp2_with fail
   refine HL93.out.mono ?_
   rintro e w' ⟨rfl,rfl⟩
   go_wp2
   go_ret
   refine HRET.out _ _ rfl ?_ (ziN HO2.out 4 _)
   rw [HAU.out]
   have hq:=HP2.out.host a
   simpa [z7I,u1,u2,u3,u4] using hq
theorem PB.frozen {t:TypeId} {w:World} {P:Nat} {p:PZ} (h:PB t w P p): ∀i,w.frozen? ⟨P,i,none⟩=false:=zbB h
def zcS (x:World) (g:Nat) (a0 a1 a2 a3 a4 a5 a6 a7 a8 a9 a10 a11 a12:Value):World:=(((((((((((((x.setCell ⟨g,0,none⟩ a0).setCell ⟨g,1,none⟩ a1).setCell ⟨g,2,none⟩ a2).setCell ⟨g,3,none⟩ a3).setCell ⟨g,4,none⟩ a4).setCell ⟨g,5,none⟩ a5).setCell ⟨g,6,none⟩ a6).setCell ⟨g,7,none⟩ a7).setCell ⟨g,8,none⟩ a8).setCell ⟨g,9,none⟩ a9).setCell ⟨g,10,none⟩ a10).setCell ⟨g,11,none⟩ a11).setCell ⟨g,12,none⟩ a12)
theorem yaF {t:TypeId} {x:World} {g:Nat} {p:PZ} (h:PB t x g p) (a0 a1 a2 a3 a4 a5 a6 a7 a8 a9 a10 a11 a12:Value):(zcS x g a0 a1 a2 a3 a4 a5 a6 a7 a8 a9 a10 a11 a12).heap[g]? =some (.cells #[a0,a1,a2,a3,a4,a5,a6,a7,a8,a9,a10,a11,a12] t):=by
 have:=zaJ (zaJ (zaJ (zaJ (zaJ (zaJ (zaJ (zaJ (zaJ (zaJ (zaJ (zaJ (zaJ h 0 a0) 1 a1) 2 a2) 3 a3) 4 a4) 5 a5) 6 a6) 7 a7) 8 a8) 9 a9) 10 a10) 11 a11) 12 a12
 unfold zcS
 simpa [PZ.cells] using this
theorem zzI {w x:World} {g B:Nat} (h:Below B w x) (hg:B≤g) (a0 a1 a2 a3 a4 a5 a6 a7 a8 a9 a10 a11 a12:Value):Below B w (zcS x g a0 a1 a2 a3 a4 a5 a6 a7 a8 a9 a10 a11 a12):=
 (((((((((((((h.setCell (p:=⟨g,0,none⟩) hg _).setCell (p:=⟨g,1,none⟩) hg _).setCell (p:=⟨g,2,none⟩) hg _).setCell (p:=⟨g,3,none⟩) hg _).setCell (p:=⟨g,4,none⟩) hg _).setCell (p:=⟨g,5,none⟩) hg _).setCell (p:=⟨g,6,none⟩) hg _).setCell (p:=⟨g,7,none⟩) hg _).setCell (p:=⟨g,8,none⟩) hg _).setCell (p:=⟨g,9,none⟩) hg _).setCell (p:=⟨g,10,none⟩) hg _).setCell (p:=⟨g,11,none⟩) hg _).setCell (p:=⟨g,12,none⟩) hg _)
theorem zzJ {t:TypeId} {x:World} {g:Nat} {p:PZ} (h:PB t x g p) (a0 a1 a2 a3 a4 a5 a6 a7 a8 a9 a10 a11 a12:Value):(zcS x g a0 a1 a2 a3 a4 a5 a6 a7 a8 a9 a10 a11 a12).cell? ⟨g,0,none⟩=some a0∧(zcS x g a0 a1 a2 a3 a4 a5 a6 a7 a8 a9 a10 a11 a12).cell? ⟨g,1,none⟩=some a1∧(zcS x g a0 a1 a2 a3 a4 a5 a6 a7 a8 a9 a10 a11 a12).cell? ⟨g,2,none⟩=some a2∧(zcS x g a0 a1 a2 a3 a4 a5 a6 a7 a8 a9 a10 a11 a12).cell? ⟨g,3,none⟩=some a3∧(zcS x g a0 a1 a2 a3 a4 a5 a6 a7 a8 a9 a10 a11 a12).cell? ⟨g,4,none⟩=some a4∧(zcS x g a0 a1 a2 a3 a4 a5 a6 a7 a8 a9 a10 a11 a12).cell? ⟨g,5,none⟩=some a5∧(zcS x g a0 a1 a2 a3 a4 a5 a6 a7 a8 a9 a10 a11 a12).cell? ⟨g,6,none⟩=some a6∧(zcS x g a0 a1 a2 a3 a4 a5 a6 a7 a8 a9 a10 a11 a12).cell? ⟨g,7,none⟩=some a7∧(zcS x g a0 a1 a2 a3 a4 a5 a6 a7 a8 a9 a10 a11 a12).cell? ⟨g,8,none⟩=some a8∧(zcS x g a0 a1 a2 a3 a4 a5 a6 a7 a8 a9 a10 a11 a12).cell? ⟨g,9,none⟩=some a9∧(zcS x g a0 a1 a2 a3 a4 a5 a6 a7 a8 a9 a10 a11 a12).cell? ⟨g,10,none⟩=some a10∧(zcS x g a0 a1 a2 a3 a4 a5 a6 a7 a8 a9 a10 a11 a12).cell? ⟨g,11,none⟩=some a11∧(zcS x g a0 a1 a2 a3 a4 a5 a6 a7 a8 a9 a10 a11 a12).cell? ⟨g,12,none⟩=some a12:=by
 have h:=yaF h a0 a1 a2 a3 a4 a5 a6 a7 a8 a9 a10 a11 a12
 exact ⟨zaH h 0,zaH h 1,zaH h 2,zaH h 3,zaH h 4,zaH h 5,zaH h 6,zaH h 7,zaH h 8,zaH h 9,zaH h 10,zaH h 11,zaH h 12⟩
theorem zbI {w x:World} {g B:Nat} (h:Below B w x) (hg:B≤g) (p:PZ):Below B w (zcS x g (.string ⟨p.scheme.toArray⟩) (.bool p.hasS) (.string ⟨p.user.toArray⟩) (.bool p.hasU) (.string ⟨p.host.toArray⟩) (.bool p.hasA) (.string ⟨p.port.toArray⟩) (.bool p.hasP) (.string ⟨p.path.toArray⟩) (.string ⟨p.query.toArray⟩) (.bool p.hasQ) (.string ⟨p.frag.toArray⟩) (.bool p.hasF)):=zzI h hg ..
theorem zbH {t:TypeId} {x:World} {g:Nat} {q:PZ} (h:PB t x g q) (p:PZ): ∀y,y=zcS x g (.string ⟨p.scheme.toArray⟩) (.bool p.hasS) (.string ⟨p.user.toArray⟩) (.bool p.hasU) (.string ⟨p.host.toArray⟩) (.bool p.hasA) (.string ⟨p.port.toArray⟩) (.bool p.hasP) (.string ⟨p.path.toArray⟩) (.string ⟨p.query.toArray⟩) (.bool p.hasQ) (.string ⟨p.frag.toArray⟩) (.bool p.hasF)→y.cell? ⟨g,0,none⟩=some (.string ⟨p.scheme.toArray⟩)∧y.cell? ⟨g,1,none⟩=some (.bool p.hasS)∧y.cell? ⟨g,2,none⟩=some (.string ⟨p.user.toArray⟩)∧y.cell? ⟨g,3,none⟩=some (.bool p.hasU)∧y.cell? ⟨g,4,none⟩=some (.string ⟨p.host.toArray⟩)∧y.cell? ⟨g,5,none⟩=some (.bool p.hasA)∧y.cell? ⟨g,6,none⟩=some (.string ⟨p.port.toArray⟩)∧y.cell? ⟨g,7,none⟩=some (.bool p.hasP)∧y.cell? ⟨g,8,none⟩=some (.string ⟨p.path.toArray⟩)∧y.cell? ⟨g,9,none⟩=some (.string ⟨p.query.toArray⟩)∧y.cell? ⟨g,10,none⟩=some (.bool p.hasQ)∧y.cell? ⟨g,11,none⟩=some (.string ⟨p.frag.toArray⟩)∧y.cell? ⟨g,12,none⟩=some (.bool p.hasF):=fun y hy=>by
 subst hy
 exact zzJ h ..
structure ST (t:TypeId) (w x:World) (R P:Nat) (p:PZ):Prop where
 below:Below w.heap.size w x
 row:PB t x P p
 res:PB t x R zaS
 hR:w.heap.size≤R
 hP:w.heap.size≤P
 ne:R≠P
theorem ST.keep {t:TypeId} {w x y:World} {R P:Nat} {p:PZ} (h:ST t w x R P p) (hb:Below x.heap.size x y):ST t w y R P p:=
 ⟨zaF h.below hb,h.row.below hb,h.res.below hb,h.hR,h.hP,h.ne⟩
theorem ST.only {t:TypeId} {w x y:World} {R P:Nat} {p q:PZ} (h:ST t w x R P p) (ho:Only [P] x y) (hq:PB t y P q):ST t w y R P q:=
 ⟨⟨ho.os.trans h.below.os,ho.tape.trans h.below.tape,ho.output.trans h.below.output,Nat.le_trans h.below.size ho.size,fun k hk=>(ho.block k (Nat.lt_of_lt_of_le hk h.below.size) (by have:=h.hP;simp;omega)).trans (h.below.block k hk)⟩,hq,(ho.block R (zaM h.res) (by have:=h.ne;simpa using this)).trans h.res,h.hR,h.hP,h.ne⟩
theorem ST.set {t:TypeId} {w x:World} {R P:Nat} {p:PZ} (h:ST t w x R P p) (i:Nat) (v:Value) {q:PZ} (hq:p.cells.setIfInBounds i v=q.cells):ST t w (x.setCell ⟨P,i,none⟩ v) R P q:=by
 refine ⟨h.below.setCell (p:=⟨P,i,none⟩) h.hP _,?_,?_,h.hR,h.hP,h.ne⟩
 ·unfold PB
  rw [←hq]
  exact zaJ h.row i v
 ·unfold PB
  rw [zbV h.ne]
  exact h.res
theorem ST.first (t:TypeId) (w:World):ST t w ((w.alloc (.cells zaS.cells t)).alloc (.cells zaS.cells t)) w.heap.size (w.heap.size+1) zaS:=by
 have h0:=PB.new t w zaS
 have s0:(w.alloc (.cells zaS.cells t)).heap.size=w.heap.size+1:=by simp
 have h1:=PB.new t (w.alloc (.cells zaS.cells t)) zaS
 rw [s0] at h1
 exact ⟨((ypR _ w).alloc (ypO _) _).alloc (by simp) _,h1,h0.below ((ypR _ _).alloc (ypO _) _),ypO _,by omega,by omega⟩
theorem z1W (p:PZ):p.cells.size=13:=rfl
theorem ST.st {t:TypeId} {w x:World} {R P:Nat} {p:PZ} (h:ST t w x R P p) (i j:Nat) (a:Value) (hi:i<13) (hj:j<13): ∃v1 v2,x.cell? ⟨P,i,none⟩=some v1∧x.frozen? ⟨P,i,none⟩=false∧(x.setCell ⟨P,i,none⟩ a).cell? ⟨P,j,none⟩=some v2∧(x.setCell ⟨P,i,none⟩ a).frozen? ⟨P,j,none⟩=false:=
 ⟨_,_,(zaH h.row i).trans (Array.getElem?_eq_getElem (by rw [z1W];exact hi)),zaP h.row i,(zaH (zaJ h.row i a) j).trans (Array.getElem?_eq_getElem (by rw [Array.size_setIfInBounds,z1W];exact hj)),zaP (zaJ h.row i a) j⟩
theorem z2C (s:List UInt8):(Lib.hasPrefix s [47,47]=true∧zdA s=((zaO (· ==47) (Lib.trimPrefix s [47,47])).2,true,zdV (zaO (· ==47) (Lib.trimPrefix s [47,47])).1))∨(Lib.hasPrefix s [47,47]=false∧Lib.trimPrefix s [47,47]=s∧zdA s=(s,false,(false,[],[],false,[]))):=by
 cases h:Lib.hasPrefix s [47,47] with
 |true=>
  left
  refine ⟨rfl,?_⟩
  have h':=h
  unfold Lib.hasPrefix at h'
  rw [List.isPrefixOf_iff_prefix] at h'
  obtain ⟨r,hr⟩:=h'
  have hs:s=47::47::r:=hr.symm
  have ht:Lib.trimPrefix s [47,47]=r:=by unfold Lib.trimPrefix;rw [h,if_pos rfl,hs];rfl
  rw [ht,hs]
  rfl
 |false=>
  right
  refine ⟨rfl,by unfold Lib.trimPrefix;rw [h,if_neg (by decide)],?_⟩
  unfold zdA
  split
  ·unfold Lib.hasPrefix at h
   simp [List.isPrefixOf] at h
  ·rfl
theorem ygF (l:List UInt8) {a:Bool×List UInt8×List UInt8} {f q:List UInt8×Bool×List UInt8} {h:List UInt8×Bool×(Bool×List UInt8×List UInt8×Bool×List UInt8)} (h1:zaK l=a) (h2:cutA 35 a.2.2=f) (h3:cutA 63 f.1=q) (h4:zdA q.1=h):
  zbM l=⟨a.2.1,a.1,h.2.2.2.1,h.2.2.1,h.2.2.2.2.1,h.2.1,h.2.2.2.2.2.2,h.2.2.2.2.2.1,h.1,q.2.2,q.2.1,f.2.2,f.2.1⟩:=by
 subst h1 h2 h3 h4
 rfl
def zyU (w:World) (p:PZ) (e:Ending) (w':World):Prop:=e= .returned (.agg p.cells)∧Below w.heap.size w w'
theorem znA (l:List UInt8):(zaK l).2.2.length≤l.length∧(zaK l).2.1.length≤l.length:=by
 obtain ⟨h1,h2⟩:=zlJ l
 have e:=congrArg List.length h1
 cases hb:(zaK l).1 with
 |true=>rw [hb,if_pos rfl] at e;simp at e;omega
 |false=>rw [hb,if_neg (by decide)] at e;rw [h2 hb];simp at e;simp;omega
theorem ydM (l:List UInt8) (w:World) (hl:l.length≤100000) (hmax:MaxVar w):
  Calls Tryz.prog 40 #[.string ⟨l.toArray⟩] w (zyU w (zbM l)):=by
 have hz:=zaB l
 have HMX:Hid (∀(x:World) (R P:Nat) (p:PZ),ST 24 w x R P p→MaxVar x):=fun x R P p h=>zaA hmax h.below
 have hsl:=(znA l).1
 have HST0:=ypN (ST.first 24 w)
 have HIX:=ypN (fun W=>ycG l W (by omega))
 have HAT:=z5L l
 have hpi:= @ygF l _ _ _ _ rfl rfl rfl rfl
 have HC1:=ypN (fun W (h:MaxVar W)=>zkK 35 (zaK l).2.2 W (by omega) h)
 have hl1:=(zfX 35 (zaK l).2.2).1
 have HC2:=ypN (fun W (h:MaxVar W)=>zkK 63 (cutA 35 (zaK l).2.2).1 W (by omega) h)
 have hl2:=(zfX 63 (cutA 35 (zaK l).2.2).1).1
 have HIE:=z2C (cutA 63 (cutA 35 (zaK l).2.2).1).1
 have HCP:Hid (∀W,Calls Tryz.prog 96 #[.string ⟨(cutA 63 (cutA 35 (zaK l).2.2).1).1.toArray⟩,.string ⟨#[47,47]⟩] W fun e w'=>e= .returned (.tuple #[.string ⟨(Lib.trimPrefix (cutA 63 (cutA 35 (zaK l).2.2).1).1 [47,47]).toArray⟩,.bool (Lib.hasPrefix (cutA 63 (cutA 35 (zaK l).2.2).1).1 [47,47])])∧W=w'):=fun W=>(Tryz.strings_CutPrefix ⟨(cutA 63 (cutA 35 (zaK l).2.2).1).1.toArray⟩ ⟨#[47,47]⟩ W).mono (fun _ _ h=>⟨h.1,h.2.symm⟩)
 have hl3:=zmW (cutA 63 (cutA 35 (zaK l).2.2).1).1 [47,47]
 generalize zbM l=res at*
 generalize hasc:zaK l=sc at*
 obtain ⟨a1,a2,a3⟩:=sc
 simp only at HC1 HC2 HCP HIE hpi hsl hl1 hl2 hl3
 generalize cutA 35 a3=fx at*
 obtain ⟨f1,f2,f3⟩:=fx
 simp only at HC2 HCP HIE hpi hl1 hl2 hl3
 generalize cutA 63 f1=qx at*
 obtain ⟨q1,q2,q3⟩:=qx
 simp only at HCP HIE hpi hl2 hl3
 generalize zdA q1=hx at*
 have htl:(Lib.trimPrefix q1 [47,47]).length≤100000:=by omega
 generalize Lib.trimPrefix q1 [47,47]=tp at*
 generalize Lib.hasPrefix q1 [47,47]=bp at*
 have HPI:=ypN hpi
 have HCA:=ypN (fun P p W h1 h2 h3=>zsM P p tp W htl h1 h2 h3)
 obtain ⟨x0,hx0⟩: ∃y,y=(w.alloc (.cells zaS.cells 24)).alloc (.cells zaS.cells 24):=⟨_,rfl⟩
 rw [←hx0] at HST0
 unfold zaS PZ.cells at hx0
 clear hmax hpi
 go_enter Tryz.func40,Tryz.ntmps40
 go_wp2_with fail
 rw [←hx0]
 clear hx0
 refine (HIX.out _).mono ?_
 rintro e x1 ⟨rfl,hx1⟩
 have HST:=ypN (HST0.out.keep hx1)
 clear hx1 HST0 HIX
 generalize hR:w.heap.size=R at*
 generalize hP:R+1=P at*
 clear hR hP
 rcases HAT with ⟨i,hi,hidx,hc,hsch⟩|⟨hsch,hidx|⟨i,hi,hidx,hc⟩⟩
 ·rw [hidx]
  simp only [Prod.mk.injEq] at hsch
  obtain ⟨rfl,rfl,rfl⟩:=hsch
  have hb:(ByteArray.mk l.toArray)[i]'(by rw [hz];exact hi)=58:=hc
  have hs1:=zjG l i (by omega)
  have hs2:=znE l i hi
  have hwr:IntKind.i64.wrap ((i:Int)+1)=(i:Int)+1:=IntWalk.i64_in _ (by omega)
  obtain ⟨v1,v2,c0,g0,c1,g1⟩:=HST.out.st 0 1 (.string ⟨(l.take i).toArray⟩) (by decide) (by decide)
  go_wp2_with fail
  obtain ⟨x2,hx2⟩: ∃y,y=(x1.setCell ⟨P,0,none⟩ (.string ⟨(l.take i).toArray⟩)).setCell ⟨P,1,none⟩ (.bool true):=⟨_,rfl⟩
  rw [←hx2]
  have HST2:Hid (ST 24 w x2 R P {zaS with scheme:=l.take i,hasS:=true}):=by rw [hx2];exact (HST.out.set 0 _ (q:={zaS with scheme:=l.take i}) rfl).set 1 _ rfl
  clear HST hx2 c0 g0 c1 g1 hb hs1 hs2 hc hi hidx
  refine (HC1.out _ (HMX.out _ _ _ _ HST2.out)).mono ?_
  rintro e y1 ⟨rfl,hy1⟩
  have HS3:=ypN (HST2.out.keep hy1)
  obtain ⟨v3,v4,c11,g11,c12,g12⟩:=HS3.out.st 11 12 (.string ⟨f3.toArray⟩) (by decide) (by decide)
  clear HC1 HST2 hy1
  go_wp2_with fail
  obtain ⟨x3,hx3⟩: ∃y,y=(y1.setCell ⟨P,11,none⟩ (.string ⟨f3.toArray⟩)).setCell ⟨P,12,none⟩ (.bool f2):=⟨_,rfl⟩
  rw [←hx3]
  have HS4:Hid (ST 24 w x3 R P {zaS with scheme:=(l.take i),hasS:=true,frag:=f3,hasF:=f2}):=by rw [hx3];exact (HS3.out.set 11 _ (q:={zaS with scheme:=(l.take i),hasS:=true,frag:=f3}) rfl).set 12 _ rfl
  clear HS3 c11 g11 c12 g12 hx3
  refine (HC2.out _ (HMX.out _ _ _ _ HS4.out)).mono ?_
  rintro e y2 ⟨rfl,hy2⟩
  have HS5:=ypN (HS4.out.keep hy2)
  obtain ⟨v5,v6,c9,g9,c10,g10⟩:=HS5.out.st 9 10 (.string ⟨q3.toArray⟩) (by decide) (by decide)
  clear HC2 HS4 hy2
  go_wp2_with fail
  obtain ⟨x4,hx4⟩: ∃y,y=(y2.setCell ⟨P,9,none⟩ (.string ⟨q3.toArray⟩)).setCell ⟨P,10,none⟩ (.bool q2):=⟨_,rfl⟩
  rw [←hx4]
  have HS6:Hid (ST 24 w x4 R P {zaS with scheme:=(l.take i),hasS:=true,frag:=f3,hasF:=f2,query:=q3,hasQ:=q2}):=by rw [hx4];exact (HS5.out.set 9 _ (q:={zaS with scheme:=(l.take i),hasS:=true,frag:=f3,hasF:=f2,query:=q3}) rfl).set 10 _ rfl
  clear HS5 c9 g9 c10 g10 hx4
  refine (HCP.out _).mono ?_
  rintro e w' ⟨rfl,rfl⟩
  obtain ⟨v7,v8,c5,g5,c5b,g5b⟩:=HS6.out.st 5 5 (.bool bp) (by decide) (by decide)
  have HS7:Hid (ST 24 w (x4.setCell ⟨P,5,none⟩ (.bool bp)) R P {zaS with scheme:=(l.take i),hasS:=true,frag:=f3,hasF:=f2,query:=q3,hasQ:=q2,hasA:=bp}):=HS6.out.set 5 _ rfl
  have c5c:=HS7.out.row.all.2.2.2.2.2.1
  clear HCP HS6 c5b g5b
  rcases HIE with ⟨rfl,hie⟩|⟨rfl,hte,hie⟩
  ·have HIX:=hie
   clear hie
   go_wp2_with fail
   have hms:=HMX.out _ _ _ _ HS7.out
   have hrw:=HS7.out.row
   have HX7:=ypN HS7.out
   generalize x4.setCell ⟨P,5,none⟩ (.bool true)=x5 at*
   refine (HCA.out P _ x5 hrw ⟨rfl,rfl,rfl,rfl⟩ hms).mono ?_
   rintro e y5 ⟨rfl,hpb,ho⟩
   have HS8:=ypN (HX7.out.only ho hpb)
   clear HCA hms hrw HX7 HS7 hpb ho c5 g5 c5c
   obtain ⟨v1,v2,c8,g8,hh⟩:=HS8.out.st 8 8 (.string ⟨(zaO (· ==47) tp).2.toArray⟩) (by decide) (by decide)
   clear hh v2
   have HS9:Hid (ST 24 w (y5.setCell ⟨P,8,none⟩ (.string ⟨(zaO (· ==47) tp).2.toArray⟩)) R P res):=by show ST _ _ _ _ _ _;rw [HPI.out,HIX];exact HS8.out.set 8 _ rfl
   obtain ⟨d0,d1,d2,d3,d4,d5,d6,d7,d8,d9,d10,d11,d12⟩:=HS9.out.row.all
   obtain ⟨r0,r1,r2,r3,r4,r5,r6,r7,r8,r9,r10,r11,r12⟩:=HS9.out.res.all
   have rf:=HS9.out.res.frozen
   have hne:=HS9.out.ne
   have hne2:P≠R:=hne.symm
   obtain ⟨s0,s1,s2,s3,s4,s5,s6,s7,s8,s9,s10,s11,s12⟩:=HS8.out.res.all
   have hEB:=zbI HS9.out.below HS9.out.hR res
   have hEC:=zbH HS9.out.res res _ rfl
   unfold zcS at hEB hEC
   have HEB:=ypN hEB
   have HEC:=ypN hEC
   clear hEB hEC HS8 HS9 HPI HMX
   go_wp2
   obtain ⟨e0,e1,e2,e3,e4,e5,e6,e7,e8,e9,e10,e11,e12⟩:=HEC.out
   refine bodyPost_ret (v:= .agg res.cells) (by simp [results,Tryz.results40,go_sem,e0,e1,e2,e3,e4,e5,e6,e7,e8,e9,e10,e11,e12,PZ.cells]) rfl ?_
   exact ⟨rfl,HEB.out⟩
  ·have HIX:=hie
   subst hte
   clear hie HCA
   have HS8:=ypN HS7.out
   clear HS7
   obtain ⟨v1,v2,c8,g8,hh⟩:=HS8.out.st 8 8 (.string ⟨tp.toArray⟩) (by decide) (by decide)
   clear hh v2
   have HS9:Hid (ST 24 w ((x4.setCell ⟨P,5,none⟩ (.bool false)).setCell ⟨P,8,none⟩ (.string ⟨tp.toArray⟩)) R P res):=by show ST _ _ _ _ _ _;rw [HPI.out,HIX];exact HS8.out.set 8 _ rfl
   obtain ⟨d0,d1,d2,d3,d4,d5,d6,d7,d8,d9,d10,d11,d12⟩:=HS9.out.row.all
   obtain ⟨r0,r1,r2,r3,r4,r5,r6,r7,r8,r9,r10,r11,r12⟩:=HS9.out.res.all
   have rf:=HS9.out.res.frozen
   have hne:=HS9.out.ne
   have hne2:P≠R:=hne.symm
   obtain ⟨s0,s1,s2,s3,s4,s5,s6,s7,s8,s9,s10,s11,s12⟩:=HS8.out.res.all
   have hEB:=zbI HS9.out.below HS9.out.hR res
   have hEC:=zbH HS9.out.res res _ rfl
   unfold zcS at hEB hEC
   have HEB:=ypN hEB
   have HEC:=ypN hEC
   clear hEB hEC HS8 HS9 HPI HMX
   go_wp2
   obtain ⟨e0,e1,e2,e3,e4,e5,e6,e7,e8,e9,e10,e11,e12⟩:=HEC.out
   refine bodyPost_ret (v:= .agg res.cells) (by simp [results,Tryz.results40,go_sem,e0,e1,e2,e3,e4,e5,e6,e7,e8,e9,e10,e11,e12,PZ.cells]) rfl ?_
   exact ⟨rfl,HEB.out⟩
 ·rw [hidx]
  simp only [Prod.mk.injEq] at hsch
  obtain ⟨rfl,rfl,rfl⟩:=hsch
  have HST2:Hid (ST 24 w x1 R P {zaS with scheme:=[],hasS:=false}):=HST.out
  clear HST hidx
  go_wp2_with fail
  refine (HC1.out _ (HMX.out _ _ _ _ HST2.out)).mono ?_
  rintro e y1 ⟨rfl,hy1⟩
  have HS3:=ypN (HST2.out.keep hy1)
  obtain ⟨v3,v4,c11,g11,c12,g12⟩:=HS3.out.st 11 12 (.string ⟨f3.toArray⟩) (by decide) (by decide)
  clear HC1 HST2 hy1
  go_wp2_with fail
  obtain ⟨x3,hx3⟩: ∃y,y=(y1.setCell ⟨P,11,none⟩ (.string ⟨f3.toArray⟩)).setCell ⟨P,12,none⟩ (.bool f2):=⟨_,rfl⟩
  rw [←hx3]
  have HS4:Hid (ST 24 w x3 R P {zaS with scheme:=[],hasS:=false,frag:=f3,hasF:=f2}):=by rw [hx3];exact (HS3.out.set 11 _ (q:={zaS with scheme:=[],hasS:=false,frag:=f3}) rfl).set 12 _ rfl
  clear HS3 c11 g11 c12 g12 hx3
  refine (HC2.out _ (HMX.out _ _ _ _ HS4.out)).mono ?_
  rintro e y2 ⟨rfl,hy2⟩
  have HS5:=ypN (HS4.out.keep hy2)
  obtain ⟨v5,v6,c9,g9,c10,g10⟩:=HS5.out.st 9 10 (.string ⟨q3.toArray⟩) (by decide) (by decide)
  clear HC2 HS4 hy2
  go_wp2_with fail
  obtain ⟨x4,hx4⟩: ∃y,y=(y2.setCell ⟨P,9,none⟩ (.string ⟨q3.toArray⟩)).setCell ⟨P,10,none⟩ (.bool q2):=⟨_,rfl⟩
  rw [←hx4]
  have HS6:Hid (ST 24 w x4 R P {zaS with scheme:=[],hasS:=false,frag:=f3,hasF:=f2,query:=q3,hasQ:=q2}):=by rw [hx4];exact (HS5.out.set 9 _ (q:={zaS with scheme:=[],hasS:=false,frag:=f3,hasF:=f2,query:=q3}) rfl).set 10 _ rfl
  clear HS5 c9 g9 c10 g10 hx4
  refine (HCP.out _).mono ?_
  rintro e w' ⟨rfl,rfl⟩
  obtain ⟨v7,v8,c5,g5,c5b,g5b⟩:=HS6.out.st 5 5 (.bool bp) (by decide) (by decide)
  have HS7:Hid (ST 24 w (x4.setCell ⟨P,5,none⟩ (.bool bp)) R P {zaS with scheme:=[],hasS:=false,frag:=f3,hasF:=f2,query:=q3,hasQ:=q2,hasA:=bp}):=HS6.out.set 5 _ rfl
  have c5c:=HS7.out.row.all.2.2.2.2.2.1
  clear HCP HS6 c5b g5b
  rcases HIE with ⟨rfl,hie⟩|⟨rfl,hte,hie⟩
  ·have HIX:=hie
   clear hie
   go_wp2_with fail
   have hms:=HMX.out _ _ _ _ HS7.out
   have hrw:=HS7.out.row
   have HX7:=ypN HS7.out
   generalize x4.setCell ⟨P,5,none⟩ (.bool true)=x5 at*
   refine (HCA.out P _ x5 hrw ⟨rfl,rfl,rfl,rfl⟩ hms).mono ?_
   rintro e y5 ⟨rfl,hpb,ho⟩
   have HS8:=ypN (HX7.out.only ho hpb)
   clear HCA hms hrw HX7 HS7 hpb ho c5 g5 c5c
   obtain ⟨v1,v2,c8,g8,hh⟩:=HS8.out.st 8 8 (.string ⟨(zaO (· ==47) tp).2.toArray⟩) (by decide) (by decide)
   clear hh v2
   have HS9:Hid (ST 24 w (y5.setCell ⟨P,8,none⟩ (.string ⟨(zaO (· ==47) tp).2.toArray⟩)) R P res):=by show ST _ _ _ _ _ _;rw [HPI.out,HIX];exact HS8.out.set 8 _ rfl
   obtain ⟨d0,d1,d2,d3,d4,d5,d6,d7,d8,d9,d10,d11,d12⟩:=HS9.out.row.all
   obtain ⟨r0,r1,r2,r3,r4,r5,r6,r7,r8,r9,r10,r11,r12⟩:=HS9.out.res.all
   have rf:=HS9.out.res.frozen
   have hne:=HS9.out.ne
   have hne2:P≠R:=hne.symm
   obtain ⟨s0,s1,s2,s3,s4,s5,s6,s7,s8,s9,s10,s11,s12⟩:=HS8.out.res.all
   have hEB:=zbI HS9.out.below HS9.out.hR res
   have hEC:=zbH HS9.out.res res _ rfl
   unfold zcS at hEB hEC
   have HEB:=ypN hEB
   have HEC:=ypN hEC
   clear hEB hEC HS8 HS9 HPI HMX
   go_wp2
   obtain ⟨e0,e1,e2,e3,e4,e5,e6,e7,e8,e9,e10,e11,e12⟩:=HEC.out
   refine bodyPost_ret (v:= .agg res.cells) (by simp [results,Tryz.results40,go_sem,e0,e1,e2,e3,e4,e5,e6,e7,e8,e9,e10,e11,e12,PZ.cells]) rfl ?_
   exact ⟨rfl,HEB.out⟩
  ·have HIX:=hie
   subst hte
   clear hie HCA
   have HS8:=ypN HS7.out
   clear HS7
   obtain ⟨v1,v2,c8,g8,hh⟩:=HS8.out.st 8 8 (.string ⟨tp.toArray⟩) (by decide) (by decide)
   clear hh v2
   have HS9:Hid (ST 24 w ((x4.setCell ⟨P,5,none⟩ (.bool false)).setCell ⟨P,8,none⟩ (.string ⟨tp.toArray⟩)) R P res):=by show ST _ _ _ _ _ _;rw [HPI.out,HIX];exact HS8.out.set 8 _ rfl
   obtain ⟨d0,d1,d2,d3,d4,d5,d6,d7,d8,d9,d10,d11,d12⟩:=HS9.out.row.all
   obtain ⟨r0,r1,r2,r3,r4,r5,r6,r7,r8,r9,r10,r11,r12⟩:=HS9.out.res.all
   have rf:=HS9.out.res.frozen
   have hne:=HS9.out.ne
   have hne2:P≠R:=hne.symm
   obtain ⟨s0,s1,s2,s3,s4,s5,s6,s7,s8,s9,s10,s11,s12⟩:=HS8.out.res.all
   have hEB:=zbI HS9.out.below HS9.out.hR res
   have hEC:=zbH HS9.out.res res _ rfl
   unfold zcS at hEB hEC
   have HEB:=ypN hEB
   have HEC:=ypN hEC
   clear hEB hEC HS8 HS9 HPI HMX
   go_wp2
   obtain ⟨e0,e1,e2,e3,e4,e5,e6,e7,e8,e9,e10,e11,e12⟩:=HEC.out
   refine bodyPost_ret (v:= .agg res.cells) (by simp [results,Tryz.results40,go_sem,e0,e1,e2,e3,e4,e5,e6,e7,e8,e9,e10,e11,e12,PZ.cells]) rfl ?_
   exact ⟨rfl,HEB.out⟩
 ·rw [hidx]
  simp only [Prod.mk.injEq] at hsch
  obtain ⟨rfl,rfl,rfl⟩:=hsch
  have hb:((ByteArray.mk a3.toArray)[i]'(by rw [hz];exact hi)).toNat≠58:=fun e=>hc (UInt8.toNat_inj.1 e)
  obtain ⟨m,hm⟩: ∃m,((ByteArray.mk a3.toArray)[i]'(by rw [hz];exact hi)).toNat=m:=⟨_,rfl⟩
  rw [hm] at hb
  have hb2:((m:Int)==58)=false:=beq_eq_false_iff_ne.2 (by omega)
  have HST2:Hid (ST 24 w x1 R P {zaS with scheme:=[],hasS:=false}):=HST.out
  clear HST hidx hc
  go_wp2_with fail
  clear hb hm hb2
  refine (HC1.out _ (HMX.out _ _ _ _ HST2.out)).mono ?_
  rintro e y1 ⟨rfl,hy1⟩
  have HS3:=ypN (HST2.out.keep hy1)
  obtain ⟨v3,v4,c11,g11,c12,g12⟩:=HS3.out.st 11 12 (.string ⟨f3.toArray⟩) (by decide) (by decide)
  clear HC1 HST2 hy1
  go_wp2_with fail
  obtain ⟨x3,hx3⟩: ∃y,y=(y1.setCell ⟨P,11,none⟩ (.string ⟨f3.toArray⟩)).setCell ⟨P,12,none⟩ (.bool f2):=⟨_,rfl⟩
  rw [←hx3]
  have HS4:Hid (ST 24 w x3 R P {zaS with scheme:=[],hasS:=false,frag:=f3,hasF:=f2}):=by rw [hx3];exact (HS3.out.set 11 _ (q:={zaS with scheme:=[],hasS:=false,frag:=f3}) rfl).set 12 _ rfl
  clear HS3 c11 g11 c12 g12 hx3
  refine (HC2.out _ (HMX.out _ _ _ _ HS4.out)).mono ?_
  rintro e y2 ⟨rfl,hy2⟩
  have HS5:=ypN (HS4.out.keep hy2)
  obtain ⟨v5,v6,c9,g9,c10,g10⟩:=HS5.out.st 9 10 (.string ⟨q3.toArray⟩) (by decide) (by decide)
  clear HC2 HS4 hy2
  go_wp2_with fail
  obtain ⟨x4,hx4⟩: ∃y,y=(y2.setCell ⟨P,9,none⟩ (.string ⟨q3.toArray⟩)).setCell ⟨P,10,none⟩ (.bool q2):=⟨_,rfl⟩
  rw [←hx4]
  have HS6:Hid (ST 24 w x4 R P {zaS with scheme:=[],hasS:=false,frag:=f3,hasF:=f2,query:=q3,hasQ:=q2}):=by rw [hx4];exact (HS5.out.set 9 _ (q:={zaS with scheme:=[],hasS:=false,frag:=f3,hasF:=f2,query:=q3}) rfl).set 10 _ rfl
  clear HS5 c9 g9 c10 g10 hx4
  refine (HCP.out _).mono ?_
  rintro e w' ⟨rfl,rfl⟩
  obtain ⟨v7,v8,c5,g5,c5b,g5b⟩:=HS6.out.st 5 5 (.bool bp) (by decide) (by decide)
  have HS7:Hid (ST 24 w (x4.setCell ⟨P,5,none⟩ (.bool bp)) R P {zaS with scheme:=[],hasS:=false,frag:=f3,hasF:=f2,query:=q3,hasQ:=q2,hasA:=bp}):=HS6.out.set 5 _ rfl
  have c5c:=HS7.out.row.all.2.2.2.2.2.1
  clear HCP HS6 c5b g5b
  rcases HIE with ⟨rfl,hie⟩|⟨rfl,hte,hie⟩
  ·have HIX:=hie
   clear hie
   go_wp2_with fail
   have hms:=HMX.out _ _ _ _ HS7.out
   have hrw:=HS7.out.row
   have HX7:=ypN HS7.out
   generalize x4.setCell ⟨P,5,none⟩ (.bool true)=x5 at*
   refine (HCA.out P _ x5 hrw ⟨rfl,rfl,rfl,rfl⟩ hms).mono ?_
   rintro e y5 ⟨rfl,hpb,ho⟩
   have HS8:=ypN (HX7.out.only ho hpb)
   clear HCA hms hrw HX7 HS7 hpb ho c5 g5 c5c
   obtain ⟨v1,v2,c8,g8,hh⟩:=HS8.out.st 8 8 (.string ⟨(zaO (· ==47) tp).2.toArray⟩) (by decide) (by decide)
   clear hh v2
   have HS9:Hid (ST 24 w (y5.setCell ⟨P,8,none⟩ (.string ⟨(zaO (· ==47) tp).2.toArray⟩)) R P res):=by show ST _ _ _ _ _ _;rw [HPI.out,HIX];exact HS8.out.set 8 _ rfl
   obtain ⟨d0,d1,d2,d3,d4,d5,d6,d7,d8,d9,d10,d11,d12⟩:=HS9.out.row.all
   obtain ⟨r0,r1,r2,r3,r4,r5,r6,r7,r8,r9,r10,r11,r12⟩:=HS9.out.res.all
   have rf:=HS9.out.res.frozen
   have hne:=HS9.out.ne
   have hne2:P≠R:=hne.symm
   obtain ⟨s0,s1,s2,s3,s4,s5,s6,s7,s8,s9,s10,s11,s12⟩:=HS8.out.res.all
   have hEB:=zbI HS9.out.below HS9.out.hR res
   have hEC:=zbH HS9.out.res res _ rfl
   unfold zcS at hEB hEC
   have HEB:=ypN hEB
   have HEC:=ypN hEC
   clear hEB hEC HS8 HS9 HPI HMX
   go_wp2
   obtain ⟨e0,e1,e2,e3,e4,e5,e6,e7,e8,e9,e10,e11,e12⟩:=HEC.out
   refine bodyPost_ret (v:= .agg res.cells) (by simp [results,Tryz.results40,go_sem,e0,e1,e2,e3,e4,e5,e6,e7,e8,e9,e10,e11,e12,PZ.cells]) rfl ?_
   exact ⟨rfl,HEB.out⟩
  ·have HIX:=hie
   subst hte
   clear hie HCA
   have HS8:=ypN HS7.out
   clear HS7
   obtain ⟨v1,v2,c8,g8,hh⟩:=HS8.out.st 8 8 (.string ⟨tp.toArray⟩) (by decide) (by decide)
   clear hh v2
   have HS9:Hid (ST 24 w ((x4.setCell ⟨P,5,none⟩ (.bool false)).setCell ⟨P,8,none⟩ (.string ⟨tp.toArray⟩)) R P res):=by show ST _ _ _ _ _ _;rw [HPI.out,HIX];exact HS8.out.set 8 _ rfl
   obtain ⟨d0,d1,d2,d3,d4,d5,d6,d7,d8,d9,d10,d11,d12⟩:=HS9.out.row.all
   obtain ⟨r0,r1,r2,r3,r4,r5,r6,r7,r8,r9,r10,r11,r12⟩:=HS9.out.res.all
   have rf:=HS9.out.res.frozen
   have hne:=HS9.out.ne
   have hne2:P≠R:=hne.symm
   obtain ⟨s0,s1,s2,s3,s4,s5,s6,s7,s8,s9,s10,s11,s12⟩:=HS8.out.res.all
   have hEB:=zbI HS9.out.below HS9.out.hR res
   have hEC:=zbH HS9.out.res res _ rfl
   unfold zcS at hEB hEC
   have HEB:=ypN hEB
   have HEC:=ypN hEC
   clear hEB hEC HS8 HS9 HPI HMX
   go_wp2
   obtain ⟨e0,e1,e2,e3,e4,e5,e6,e7,e8,e9,e10,e11,e12⟩:=HEC.out
   refine bodyPost_ret (v:= .agg res.cells) (by simp [results,Tryz.results40,go_sem,e0,e1,e2,e3,e4,e5,e6,e7,e8,e9,e10,e11,e12,PZ.cells]) rfl ?_
   exact ⟨rfl,HEB.out⟩
theorem zwW (a:List UInt8):(zcM a).1.length≤a.length∧(zcM a).2.2.length≤a.length:=by
 rcases zpM a with ⟨i,hi,_,_,e⟩|⟨_,e⟩
 ·rw [e];simp only [List.length_take,List.length_drop];omega
 ·rw [e];simp
theorem z8Q (a:List UInt8):(zdV a).2.1.length≤a.length∧(zdV a).2.2.1.length≤a.length∧(zdV a).2.2.2.2.length≤a.length:=by
 obtain ⟨h1,h2⟩:=zfX 64 a
 cases hx:cutA 64 a with
 |mk u x=>
  obtain ⟨b,r⟩:=x
  rw [hx] at h1 h2
  simp only at h1 h2
  cases b with
  |true=>
   rw [zvI hx]
   have:=zwW r
   simp only
   omega
  |false=>
   rw [z0V hx]
   have:=zwW a
   simp only [List.length_nil]
   omega
theorem z8E (s:List UInt8):(zdA s).1.length≤s.length∧(zdA s).2.2.2.1.length≤s.length∧(zdA s).2.2.2.2.1.length≤s.length∧(zdA s).2.2.2.2.2.2.length≤s.length:=by
 rcases z2C s with ⟨_,e⟩|⟨_,_,e⟩
 ·rw [e]
  have ht:=zmW s [47,47]
  have h1:=congrArg List.length (zcR (· ==47) (Lib.trimPrefix s [47,47]))
  rw [List.length_append] at h1
  have h2:=z8Q (zaO (· ==47) (Lib.trimPrefix s [47,47])).1
  simp only
  omega
 ·rw [e];simp
theorem zuD (l:List UInt8):(zbM l).Few l.length:=by
 have h1:=znA l
 have h2:=zfX 35 (zaK l).2.2
 have h3:=zfX 63 (cutA 35 (zaK l).2.2).1
 have h4:=z8E (cutA 63 (cutA 35 (zaK l).2.2).1).1
 unfold PZ.Few zbM
 simp only
 omega
theorem PZ.Few.mono {p:PZ} {n m:Nat} (h:p.Few n) (hm:n≤m):p.Few m:=by
 unfold PZ.Few at*
 omega
theorem ST.alloc {t:TypeId} {w x:World} {R:Nat} {p:PZ} (hb:Below w.heap.size w x) (hr:PB t x R zaS) (hR:w.heap.size≤R):ST t w (x.alloc (.cells p.cells t)) R x.heap.size p:=
 ⟨hb.alloc hb.size _,PB.new t x p,hr.below ((ypR _ _).alloc (ypO _) _),hR,hb.size,fun e=>by have:=zaM hr;omega⟩
def zhD (w:World) (x:PZ×Int) (e:Ending) (w':World):Prop:=e= .returned (.tuple #[.agg x.1.cells,.int .i64 x.2])∧Below w.heap.size w w'
theorem zfF (l:List UInt8) (w:World) (hmax:MaxVar w) (hutf:Lib.Utf8Tabs 0 1 w):
  Calls Tryz.prog 11 #[.string ⟨l.toArray⟩] w (zhD w (zaW sixB l)):=by
 have hz:=zaB l
 have hR0:=PB.new 24 w zaS
 have hb0:Below w.heap.size w (w.alloc (.cells zaS.cells 24)):=(ypR _ w).alloc (ypO _) _
 by_cases hbig:4096<l.length
 ·have HF:Hid (zaW sixB l=(zaS,3)):=by show _=_;unfold zaW;rw [if_pos hbig]
  obtain ⟨x0,hx0⟩: ∃y,y=w.alloc (.cells zaS.cells 24):=⟨_,rfl⟩
  rw [←hx0] at hR0 hb0
  dsimp only [zaS,PZ.cells] at hx0
  have HR0:=ypN hR0
  have HB0:=ypN hb0
  generalize hW:w.heap.size=R at*
  clear hR0 hb0 hmax hutf
  go_enter Tryz.func11,Tryz.ntmps11
  go_upto_region 2 with fail
  rw [←hx0]
  clear hx0
  obtain ⟨r0,r1,r2,r3,r4,r5,r6,r7,r8,r9,r10,r11,r12⟩:=HR0.out.all
  have rf:=HR0.out.frozen
  have hEB:=zbI HB0.out (ypO _) zaS
  have hEC:=zbH HR0.out zaS _ rfl
  unfold zcS at hEB hEC
  have HEB:=ypN hEB
  have HEC:=ypN hEC
  dsimp only [zaS,PZ.cells] at r0 r1 r2 r3 r4 r5 r6 r7 r8 r9 r10 r11 r12 HEB HEC
  clear hEB hEC
  go_wp2
  obtain ⟨e0,e1,e2,e3,e4,e5,e6,e7,e8,e9,e10,e11,e12⟩:=HEC.out
  refine bodyPost_ret (v:= .tuple #[.agg zaS.cells,.int .i64 3]) (by simp [results,Tryz.results11,go_sem,e0,e1,e2,e3,e4,e5,e6,e7,e8,e9,e10,e11,e12,zaS,PZ.cells]) rfl ?_
  unfold zhD
  rw [HF.out,hW]
  exact ⟨rfl,HEB.out⟩
 have hl:l.length≤100000:=by omega
 have hpf:=(zuD l).mono (m:=100000) hl
 have HMU:=ypN (fun y (hy:Below w.heap.size w y)=>(And.intro (zaA hmax hy) (zeM hutf hy):MaxVar y∧Lib.Utf8Tabs 0 1 y))
 have HC:=ypN (ydM l (w.alloc (.cells zaS.cells 24)) hl (zaA hmax hb0))
 have hHS:=zzF sixB l
 have HPA:Hid (zaW sixB l=if (zbM l).hasS&& !zdR (zbM l).scheme then (zaS,5) else if zjX sixB (zbM l) then (zbM l,0) else (zaS,11)):=by
  show _=_
  rw [←hHS]
  unfold zaW
  rw [if_neg hbig]
 generalize zbM l=p at*
 have HSC:=ypN (fun W=>zwH p.scheme W (by have:=hpf.1;omega))
 have HSG:=ypN (fun W (h:MaxVar W∧Lib.Utf8Tabs 0 1 W)=>zxK p W hpf h.1 h.2)
 generalize zaW sixB l=res at*
 generalize zdR p.scheme=bsc at*
 generalize zjX sixB p=bsg at*
 have HR0:=ypN hR0
 have HB0:=ypN hb0
 have hz13:(w.alloc (.cells zaS.cells 24)).heap.size=w.heap.size+1:=by simp
 obtain ⟨x0,hx0⟩: ∃y,y=w.alloc (.cells zaS.cells 24):=⟨_,rfl⟩
 rw [←hx0] at HR0 HB0 HC hz13
 dsimp only [zaS,PZ.cells] at hx0
 clear hR0 hb0 hmax hutf hHS hpf
 go_enter Tryz.func11,Tryz.ntmps11
 go_wp2_with fail
 rw [←hx0]
 clear hx0
 refine HC.out.mono ?_
 rintro e x1 ⟨rfl,hx1⟩
 have HS2:Hid (ST 24 w (x1.alloc (.cells p.cells 24)) w.heap.size x1.heap.size p):=ST.alloc (zaF HB0.out hx1) (HR0.out.below hx1) (ypO _)
 clear HC HR0 HB0 hx1 hz13
 obtain ⟨d0,d1,d2,d3,d4,d5,d6,d7,d8,d9,d10,d11,d12⟩:=HS2.out.row.all
 unfold PZ.cells at d0 d1 d2 d3 d4 d5 d6 d7 d8 d9 d10 d11 d12
 obtain ⟨x2,hx2⟩: ∃y,y=x1.alloc (.cells p.cells 24):=⟨_,rfl⟩
 rw [←hx2] at HS2
 unfold PZ.cells at hx2 ⊢
 generalize hbs:p.hasS=bs at*
 cases bs with
 |false=>
  clear HSC
  go_wp2_with fail
  rw [←hx2]
  clear hx2 d0 d1 d2 d3 d4 d5 d6 d7 d8 d9 d10 d11 d12
  have HSGX:=ypN (HSG.out _ (HMU.out _ HS2.out.below))
  unfold PZ.cells at HSGX
  rw [hbs] at HSGX
  refine HSGX.out.mono ?_
  rintro e y2 ⟨rfl,hy2⟩
  have HS4:=ypN (HS2.out.keep hy2)
  clear HS2 hy2 HSG HMU HSGX
  cases bsg with
  |false=>
   have HF:Hid (res=(zaS,11)):=HPA.out
   clear HPA
   obtain ⟨d0,d1,d2,d3,d4,d5,d6,d7,d8,d9,d10,d11,d12⟩:=HS4.out.row.all
   obtain ⟨r0,r1,r2,r3,r4,r5,r6,r7,r8,r9,r10,r11,r12⟩:=HS4.out.res.all
   have rf:=HS4.out.res.frozen
   have hEB:=zbI HS4.out.below HS4.out.hR zaS
   have hEC:=zbH HS4.out.res zaS _ rfl
   unfold zcS at hEB hEC
   have HEB:=ypN hEB
   have HEC:=ypN hEC
   clear hEB hEC HS4
   dsimp only [zaS] at HEB HEC
   go_wp2
   obtain ⟨e0,e1,e2,e3,e4,e5,e6,e7,e8,e9,e10,e11,e12⟩:=HEC.out
   refine bodyPost_ret (v:= .tuple #[.agg (PZ.cells zaS),.int .i64 11]) (by simp [results,Tryz.results11,go_sem,e0,e1,e2,e3,e4,e5,e6,e7,e8,e9,e10,e11,e12,zaS,PZ.cells]) rfl ?_
   unfold zhD
   rw [HF.out]
   exact ⟨rfl,HEB.out⟩
  |true=>
   have HF:Hid (res=(p,0)):=HPA.out
   clear HPA
   obtain ⟨d0,d1,d2,d3,d4,d5,d6,d7,d8,d9,d10,d11,d12⟩:=HS4.out.row.all
   obtain ⟨r0,r1,r2,r3,r4,r5,r6,r7,r8,r9,r10,r11,r12⟩:=HS4.out.res.all
   have rf:=HS4.out.res.frozen
   have hEB:=zbI HS4.out.below HS4.out.hR p
   have hEC:=zbH HS4.out.res p _ rfl
   unfold zcS at hEB hEC
   have HEB:=ypN hEB
   have HEC:=ypN hEC
   clear hEB hEC HS4
   rw [hbs] at d1 HEB HEC
   go_wp2
   obtain ⟨e0,e1,e2,e3,e4,e5,e6,e7,e8,e9,e10,e11,e12⟩:=HEC.out
   refine bodyPost_ret (v:= .tuple #[.agg (PZ.cells p),.int .i64 0]) (by simp [results,Tryz.results11,go_sem,e0,e1,e2,e3,e4,e5,e6,e7,e8,e9,e10,e11,e12,hbs,PZ.cells]) rfl ?_
   unfold zhD
   rw [HF.out]
   exact ⟨rfl,HEB.out⟩
 |true=>
  go_wp2_with fail
  rw [←hx2]
  clear hx2 d0 d1 d2 d3 d4 d5 d6 d7 d8 d9 d10 d11 d12
  refine (HSC.out _).mono ?_
  rintro e y1 ⟨rfl,hy1⟩
  have HS3:=ypN (HS2.out.keep hy1)
  clear HS2 hy1 HSC
  cases bsc with
  |false=>
   have HF:Hid (res=(zaS,5)):=HPA.out
   clear HPA HMU HSG
   obtain ⟨d0,d1,d2,d3,d4,d5,d6,d7,d8,d9,d10,d11,d12⟩:=HS3.out.row.all
   obtain ⟨r0,r1,r2,r3,r4,r5,r6,r7,r8,r9,r10,r11,r12⟩:=HS3.out.res.all
   have rf:=HS3.out.res.frozen
   have hEB:=zbI HS3.out.below HS3.out.hR zaS
   have hEC:=zbH HS3.out.res zaS _ rfl
   unfold zcS at hEB hEC
   have HEB:=ypN hEB
   have HEC:=ypN hEC
   clear hEB hEC HS3
   dsimp only [zaS] at HEB HEC
   go_wp2
   obtain ⟨e0,e1,e2,e3,e4,e5,e6,e7,e8,e9,e10,e11,e12⟩:=HEC.out
   refine bodyPost_ret (v:= .tuple #[.agg (PZ.cells zaS),.int .i64 5]) (by simp [results,Tryz.results11,go_sem,e0,e1,e2,e3,e4,e5,e6,e7,e8,e9,e10,e11,e12,zaS,PZ.cells]) rfl ?_
   unfold zhD
   rw [HF.out]
   exact ⟨rfl,HEB.out⟩
  |true=>
   have HS2:=ypN HS3.out
   clear HS3
   obtain ⟨d0,d1,d2,d3,d4,d5,d6,d7,d8,d9,d10,d11,d12⟩:=HS2.out.row.all
   rw [hbs] at d1
   go_wp2_with fail
   clear d0 d1 d2 d3 d4 d5 d6 d7 d8 d9 d10 d11 d12
   have HSGX:=ypN (HSG.out _ (HMU.out _ HS2.out.below))
   unfold PZ.cells at HSGX
   rw [hbs] at HSGX
   refine HSGX.out.mono ?_
   rintro e y2 ⟨rfl,hy2⟩
   have HS4:=ypN (HS2.out.keep hy2)
   clear HS2 hy2 HSG HMU HSGX
   cases bsg with
   |false=>
    have HF:Hid (res=(zaS,11)):=HPA.out
    clear HPA
    obtain ⟨d0,d1,d2,d3,d4,d5,d6,d7,d8,d9,d10,d11,d12⟩:=HS4.out.row.all
    obtain ⟨r0,r1,r2,r3,r4,r5,r6,r7,r8,r9,r10,r11,r12⟩:=HS4.out.res.all
    have rf:=HS4.out.res.frozen
    have hEB:=zbI HS4.out.below HS4.out.hR zaS
    have hEC:=zbH HS4.out.res zaS _ rfl
    unfold zcS at hEB hEC
    have HEB:=ypN hEB
    have HEC:=ypN hEC
    clear hEB hEC HS4
    dsimp only [zaS] at HEB HEC
    go_wp2
    obtain ⟨e0,e1,e2,e3,e4,e5,e6,e7,e8,e9,e10,e11,e12⟩:=HEC.out
    refine bodyPost_ret (v:= .tuple #[.agg (PZ.cells zaS),.int .i64 11]) (by simp [results,Tryz.results11,go_sem,e0,e1,e2,e3,e4,e5,e6,e7,e8,e9,e10,e11,e12,zaS,PZ.cells]) rfl ?_
    unfold zhD
    rw [HF.out]
    exact ⟨rfl,HEB.out⟩
   |true=>
    have HF:Hid (res=(p,0)):=HPA.out
    clear HPA
    obtain ⟨d0,d1,d2,d3,d4,d5,d6,d7,d8,d9,d10,d11,d12⟩:=HS4.out.row.all
    obtain ⟨r0,r1,r2,r3,r4,r5,r6,r7,r8,r9,r10,r11,r12⟩:=HS4.out.res.all
    have rf:=HS4.out.res.frozen
    have hEB:=zbI HS4.out.below HS4.out.hR p
    have hEC:=zbH HS4.out.res p _ rfl
    unfold zcS at hEB hEC
    have HEB:=ypN hEB
    have HEC:=ypN hEC
    clear hEB hEC HS4
    rw [hbs] at d1 HEB HEC
    go_wp2
    obtain ⟨e0,e1,e2,e3,e4,e5,e6,e7,e8,e9,e10,e11,e12⟩:=HEC.out
    refine bodyPost_ret (v:= .tuple #[.agg (PZ.cells p),.int .i64 0]) (by simp [results,Tryz.results11,go_sem,e0,e1,e2,e3,e4,e5,e6,e7,e8,e9,e10,e11,e12,hbs,PZ.cells]) rfl ?_
    unfold zhD
    rw [HF.out]
    exact ⟨rfl,HEB.out⟩
end
end Go.Proofs.YtmjappnpedjlnaaGreatDoor
