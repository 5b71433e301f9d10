/-
  What the law WhatwgChains leans on, and its walk (29 of 33).
-/
import Derived.Test.YtcagcjdhbijknaaGreatDoorWhatwgChainsPkc
import Derived.Test.YtcagcjdhbijknaaGreatDoorWhatwgChainsPkZ
namespace Go.Proofs.YtcagcjdhbijknaaGreatDoor
set_option maxRecDepth 100000
set_option maxHeartbeats 16000000
theorem tkd {P : Program} {md : Region.Mode} {ops : Array Oper} {Q : Exit → Act → World → Prop} {S : World → Prop} (i : Nat) (s : Option Nat) {op : Op} {ty : TypeId} {pos : String} {af : _} {gd : _} {v : Value} {fuel : Nat} {listed : Array Bool} {a : Act} {w : World} (hi : ops[i]? = some ⟨s, op, ty, pos, af, gd⟩)
 (hy : YieldsIf P ops S ⟨s, op, ty, pos, af, gd⟩ v a) (hS : S w)
 (h : wpAnyH P md ops Q S fuel (listed.setIfInBounds i true) (a.put s v) w)
 (hs : Region.noSelect ops = true := by kernel_rfl) (hf : Region.free md ops listed i = true := by kernel_rfl) (hr : (Region.ready md ops listed).contains i = true := by kernel_rfl)
 (hQ : ∀ c a w, Q (.panic c) (a.put s v) w → Q (.panic c) a w := by exact fun _ _ _ h => h) : wpAnyH P md ops Q S (fuel + 1) listed a w :=
 wpAnyH_take hi hs hf hr hQ hy hS h
theorem tkda {α : Type _} (l : List α) (i : Nat) (a : α) : l.toArray.setIfInBounds i a = (l.set i a).toArray := List.setIfInBounds_toArray ..
theorem tkdb {α : Type _} (x y : α) (l : List α) : (x :: l).set 0 y = y :: l := rfl
theorem tkdc {α : Type _} (x y : α) (l : List α) (n : Nat) : (x :: l).set (n + 1) y = x :: l.set n y := rfl
abbrev yiT := @Lib.hid
abbrev yiU := @Nat.le_refl
abbrev yiV := @Go.RowKit.Below.refl
section
open Go.RowKit
theorem PV.put {x y:World} {pv:Value} {ps:List (List UInt8)} {R:Nat} (h:PV x pv ps) (ho:Only [R] x y) (hg: ∀g n c,pv= .slice (some ⟨g,0,none⟩) n c→g≠R):PV y pv ps:=by
 rcases h with h|⟨g,c,h1,h2,h3,h4⟩
 ·exact .inl h
 ·have e:=ho.block g h3 (by rw [List.mem_singleton];exact hg g _ c h1)
  exact .inr ⟨g,c,h1,h2,Nat.lt_of_lt_of_le h3 ho.size,fun j hj=>(World.cell?_of_block (a:=⟨g,j,none⟩) e).trans (h4 j hj)⟩
theorem PV.at_lt {w:World} {a:Option Addr} {n c:Nat} {ps:List (List UInt8)} (h:PV w (.slice a n c) ps): ∀g n' c',Value.slice a n c= .slice (some ⟨g,0,none⟩) n' c'→g<w.heap.size:=by
 intro g n' c' e
 rcases h with ⟨_,h⟩|⟨g',c'',h1,_,h3,_⟩
 ·rw [h] at e;injection e with e1;cases e1
 ·rw [h1] at e;injection e with e1;injection e1 with e1;injection e1 with e1;omega
theorem zuR (r:List UInt8):(r.length<2∧ ¬r.take 2=[47,47])∨(2≤r.length∧r.take 2=[47,47])∨(2≤r.length∧ ¬r.take 2=[47,47]):=by
 by_cases h:r.length<2
 ·exact .inl ⟨h,fun e=>by have:=congrArg List.length e;simp at this;omega⟩
 ·by_cases e:r.take 2=[47,47]
  ·exact .inr (.inl ⟨by omega,e⟩)
  ·exact .inr (.inr ⟨by omega,e⟩)
theorem zmZ (q:List UInt8):(((ByteArray.mk q.toArray).extract 0 2).toList==[47,47])=(q.take 2==[47,47]):=by rw [Lib.extract_toList];rfl
theorem zsT {r:List UInt8} (_h:2≤r.length) (e:r.take 2=[47,47]):(r.take 2==[47,47])=true:=by rw [e];rfl
theorem zxZ {r:List UInt8} (_h:2≤r.length) (e: ¬r.take 2=[47,47]):(r.take 2==[47,47])=false:=beq_eq_false_iff_ne.2 e
theorem z1D (t:List UInt8) (b:UZ) (ba:Option Addr) (bn bc:Nat) (w:World) (hl:t.length≤1000000) (_hbl:b.path.length≤1000000) (_hne:b.path≠[]) (hp:PV w (.slice ba bn bc) b.path) (hbig:4096<t.length):
  Calls Tryz.prog 14 #[.string ⟨t.toArray⟩,.agg (b.ref (.slice ba bn bc)),.bool true] w (RetY w (.slice ba bn bc) (zaQ t (some b))):=by
 have hbg:=hp.at_lt
 obtain ⟨x2,hx2⟩: ∃y,y=(w.alloc (.cells (b.ref (.slice ba bn bc)) 38)).alloc (.cells zaN 38):=⟨_,rfl⟩
 obtain ⟨hu,hr,hbw,hsz⟩:=zcZ zbP hx2
 have hz:=zaA t
 have HB2:=yiT hbw
 have HR2:=yiT hr
 have HU2:=yiT hu
 simp only [UZ.ref,zaN] at hx2
 clear hu hr hbw
 have HRES:=yiT (ziV (b:=some b) hbig)
 have hB2:Below w.heap.size w _:=hx2▸HB2.out
 have hR2:RV _ (w.heap.size+1):=hx2▸HR2.out
 clear HB2 HR2 HU2 hx2
 go_enter Tryz.func14,Tryz.ntmps14
 simp only [UZ.ref]
 go_wp2
 refine bodyPost_ret (v:= .tuple #[.agg zaN,.int .i64 3]) (by simp [results,Tryz.results14,go_sem,zaN]) rfl ?_
 rw [HRES.out]
 exact ⟨.slice none 0 0,rfl,.inl ⟨rfl,rfl⟩,.inr (fun _ _ _ h=>by cases h),by first|exact hB2|exact ((yiV _ w).alloc (yiU _) _).alloc (by simp) _⟩
theorem z2F (t:List UInt8) (b:UZ) (ba:Option Addr) (bn bc:Nat) (w:World) (hl:t.length≤1000000) (hbl:b.path.length≤1000000) (hne:b.path≠[]) (hp:PV w (.slice ba bn bc) b.path) (hbig: ¬4096<t.length) (hsc:schW (zcF (zaV t))=none):
  Calls Tryz.prog 14 #[.string ⟨t.toArray⟩,.agg (b.ref (.slice ba bn bc)),.bool true] w (RetY w (.slice ba bn bc) (zaQ t (some b))):=by
 have hbg:=hp.at_lt
 obtain ⟨x2,hx2⟩: ∃y,y=(w.alloc (.cells (b.ref (.slice ba bn bc)) 38)).alloc (.cells zaN 38):=⟨_,rfl⟩
 obtain ⟨hu,hr,hbw,hsz⟩:=zcZ zbP hx2
 have hz:=zaA t
 have HB2:=yiT hbw
 have HR2:=yiT hr
 have HU2:=yiT hu
 simp only [UZ.ref,zaN] at hx2
 clear hu hr hbw
 have Ghsc:=yiT hsc
 clear hsc
 have HF:=yiT (show zaQ t (some b)=zeB (zcF (zaV t)) (some b) from if_neg hbig)
 have h4:t.length≤4096:=by omega
 have hcl:=zcW t
 have htl:(zaV t).length≤t.length:=by
  have h2:=zdS t
  have h3:=(List.dropWhile_suffix (l:=t) zcA).length_le
  omega
 have HT:=yiT (fun W=>zcT ⟨t.toArray⟩ W (by rw [zaA];omega))
 rw [zaB] at HT
 have HD:=yiT (fun W=>zcV ⟨(zaV t).toArray⟩ W (by rw [zaA];omega))
 rw [zaB] at HD
 generalize zcF (zaV t)=s at*
 generalize zaV t=t1 at*
 have HSC:=yiT (fun W=>zcD s W (by omega))
 go_enter Tryz.func14,Tryz.ntmps14
 simp only [UZ.ref]
 go_wp2_with fail
 rw [←hx2]
 clear hx2
 refine (HT.out _).mono ?_
 rintro e w' ⟨rfl,rfl⟩
 go_wp2_with fail
 refine (HD.out _).mono ?_
 rintro e x3 ⟨rfl,hb3⟩
 have HB3:=yiT (zaC HB2.out hb3)
 have HR3:=yiT (HR2.out.below hb3)
 have HU3:=yiT (HU2.out.below hb3)
 clear HB2 HR2 HU2 hb3 HT HD
 go_wp2_with fail
 refine (HSC.out _).mono ?_
 rintro e x4 ⟨rfl,hb4⟩
 have HB4:=yiT (zaC HB3.out hb4)
 have HR4:=yiT (HR3.out.below hb4)
 have HU4:=yiT (HU3.out.below hb4)
 clear HB3 HR3 HU3 hb4 HSC
 have hsc:=Ghsc.out
 clear Ghsc
 rw [hsc]
 have HRES:Hid (zaQ t (some b)=relW b s):=by
  show _=_
  rw [HF.out]
  unfold zeB
  rw [hsc]
 simp only [Option.map,Option.getD,Option.isSome]
 have HRL:=yiT (fun W (hW:Below x4.heap.size x4 W)=>zdY b ba bn bc s W (by omega) hbl hne (hp.keep (zaC HB4.out hW)))
 generalize relW b s=rr at*
 obtain ⟨v,er⟩:=rr
 clear HF hsc
 obtain ⟨d0,d1,d2,d3,d4,d5,d6,d7,d8,d9,d10,d11,d12,d13,-⟩:=HU4.out.all
 go_wp2_with fail
 refine (HRL.out _ (yiV _ _)).mono ?_
 rintro e x5 ⟨pv,rfl,hp5,hfar,hb5⟩
 have hfar5:pv= .slice ba bn bc∨FarV w.heap.size pv:=hfar.imp id fun h g n c e=>Nat.le_trans HB4.out.size (h g n c e)
 have hne5: ∀g n c,pv= .slice (some ⟨g,0,none⟩) n c→g≠w.heap.size+1:=fun g n c e=>by
  rcases hfar with h|h
  ·have:=hbg g n c (h.symm.trans e)
   omega
  ·have h1:=h g n c e
   have h2:=HR4.out.lt
   omega
 clear hfar d0 d1 d2 d3 d4 d5 d6 d7 d8 d9 d10 d11 d12 d13
 obtain ⟨sa,sn,sc,rfl⟩:=hp5.shape
 have hR5:=HR4.out.below hb5
 have hB5:=zaC HB4.out hb5
 have hgt:=HR4.out.lt
 have HP5:=yiT (hp5.put (zbS (g:=w.heap.size+1) v (.slice sa sn sc)) (fun g n c e=>hne5 g n c e))
 have HFAR:=yiT hfar5
 unfold zbJ at HP5
 simp only [UZ.ref]
 clear hp5 hb5 hne5 hfar5
 obtain ⟨c0,c1,c2,c3,c4,c5,c6,c7,c8,c9,c10,c11,c12,c13,k0,k1,k2,k3,k4,k5,k6,k7,k8,k9,k10,k11,k12,k13,kf⟩:=hR5.all
 have hEB:=zbC hB5 (show w.heap.size≤w.heap.size+1 by omega) v (.slice sa sn sc)
 have hEC:=zbF hR5 v (.slice sa sn sc) _ rfl
 unfold zbJ at hEB hEC
 have HEB:=yiT hEB
 have HEC:=yiT hEC
 clear hEB hEC
 go_wp2
 obtain ⟨e0,e1,e2,e3,e4,e5,e6,e7,e8,e9,e10,e11,e12,e13⟩:=HEC.out
 refine bodyPost_ret (v:= .tuple #[.agg (v.ref (.slice sa sn sc)),.int .i64 er]) (by simp [results,Tryz.results14,go_sem,e0,e1,e2,e3,e4,e5,e6,e7,e8,e9,e10,e11,e12,e13,UZ.ref]) rfl ?_
 rw [HRES.out]
 exact ⟨_,rfl,HP5.out,HFAR.out,HEB.out⟩
theorem z6T (t:List UInt8) (b:UZ) (ba:Option Addr) (bn bc:Nat) (w:World) (hl:t.length≤1000000) (_hbl:b.path.length≤1000000) (_hne:b.path≠[]) (hp:PV w (.slice ba bn bc) b.path) (hbig: ¬4096<t.length) (n r:List UInt8) (hsc:schW (zcF (zaV t))=some (n,r)) (h1: ¬n=zdV) (h2: ¬n=zcX):
  Calls Tryz.prog 14 #[.string ⟨t.toArray⟩,.agg (b.ref (.slice ba bn bc)),.bool true] w (RetY w (.slice ba bn bc) (zaQ t (some b))):=by
 have hbg:=hp.at_lt
 obtain ⟨x2,hx2⟩: ∃y,y=(w.alloc (.cells (b.ref (.slice ba bn bc)) 38)).alloc (.cells zaN 38):=⟨_,rfl⟩
 obtain ⟨hu,hr,hbw,hsz⟩:=zcZ zbP hx2
 have hz:=zaA t
 have HB2:=yiT hbw
 have HR2:=yiT hr
 have HU2:=yiT hu
 simp only [UZ.ref,zaN] at hx2
 clear hu hr hbw
 have Ghsc:=yiT hsc
 have Gh1:=yiT h1
 have Gh2:=yiT h2
 clear hsc h1 h2
 have HF:=yiT (show zaQ t (some b)=zeB (zcF (zaV t)) (some b) from if_neg hbig)
 have h4:t.length≤4096:=by omega
 have hcl:=zcW t
 have htl:(zaV t).length≤t.length:=by
  have h2:=zdS t
  have h3:=(List.dropWhile_suffix (l:=t) zcA).length_le
  omega
 have HT:=yiT (fun W=>zcT ⟨t.toArray⟩ W (by rw [zaA];omega))
 rw [zaB] at HT
 have HD:=yiT (fun W=>zcV ⟨(zaV t).toArray⟩ W (by rw [zaA];omega))
 rw [zaB] at HD
 generalize zcF (zaV t)=s at*
 generalize zaV t=t1 at*
 have HSC:=yiT (fun W=>zcD s W (by omega))
 go_enter Tryz.func14,Tryz.ntmps14
 simp only [UZ.ref]
 go_wp2_with fail
 rw [←hx2]
 clear hx2
 refine (HT.out _).mono ?_
 rintro e w' ⟨rfl,rfl⟩
 go_wp2_with fail
 refine (HD.out _).mono ?_
 rintro e x3 ⟨rfl,hb3⟩
 have HB3:=yiT (zaC HB2.out hb3)
 have HR3:=yiT (HR2.out.below hb3)
 have HU3:=yiT (HU2.out.below hb3)
 clear HB2 HR2 HU2 hb3 HT HD
 go_wp2_with fail
 refine (HSC.out _).mono ?_
 rintro e x4 ⟨rfl,hb4⟩
 have HB4:=yiT (zaC HB3.out hb4)
 have HR4:=yiT (HR3.out.below hb4)
 have HU4:=yiT (HU3.out.below hb4)
 clear HB3 HR3 HU3 hb4 HSC
 have hsc:=Ghsc.out
 have h1:=Gh1.out
 have h2:=Gh2.out
 clear Ghsc Gh1 Gh2
 rw [hsc]
 have hrl:=zeP hsc
 have e1:(n==[104,116,116,112])=false:=beq_eq_false_iff_ne.2 h1
 have e2:(n==[104,116,116,112,115])=false:=beq_eq_false_iff_ne.2 h2
 have HRES:Hid (zaQ t (some b)=(zbX,5)):=by
  show _=_
  rw [HF.out]
  unfold zeB
  rw [hsc]
  exact if_neg (by rintro (g|g);exact h1 g;exact h2 g)
 simp only [Option.map,Option.getD,Option.isSome]
 clear HF hsc h1 h2
 obtain ⟨c0,c1,c2,c3,c4,c5,c6,c7,c8,c9,c10,c11,c12,c13,k0,k1,k2,k3,k4,k5,k6,k7,k8,k9,k10,k11,k12,k13,kf⟩:=HR4.out.all
 have hEB:=zcP HB4.out (show w.heap.size≤w.heap.size+1 by omega) (.string ⟨#[]⟩) (.string ⟨#[]⟩) (.string ⟨#[]⟩) (.int .i64 0) (.string ⟨#[]⟩) (.bool false) (.int .u64 0) (.int .u64 0) (.int .i64 0) (.slice none 0 0) (.string ⟨#[]⟩) (.bool false) (.string ⟨#[]⟩) (.bool false)
 have hEC:=zcO HR4.out (.string ⟨#[]⟩) (.string ⟨#[]⟩) (.string ⟨#[]⟩) (.int .i64 0) (.string ⟨#[]⟩) (.bool false) (.int .u64 0) (.int .u64 0) (.int .i64 0) (.slice none 0 0) (.string ⟨#[]⟩) (.bool false) (.string ⟨#[]⟩) (.bool false)
 unfold zbJ at hEB hEC
 have HEB:=yiT hEB
 have HEC:=yiT hEC
 clear hEB hEC
 go_wp2
 obtain ⟨e0,e1,e2,e3,e4,e5,e6,e7,e8,e9,e10,e11,e12,e13⟩:=HEC.out
 refine bodyPost_ret (v:= .tuple #[.agg zaN,.int .i64 5]) (by simp [results,Tryz.results14,go_sem,e0,e1,e2,e3,e4,e5,e6,e7,e8,e9,e10,e11,e12,e13,zaN]) rfl ?_
 rw [HRES.out]
 exact ⟨.slice none 0 0,rfl,.inl ⟨rfl,rfl⟩,.inr (fun _ _ _ h=>by cases h),HEB.out⟩
theorem zrN (t:List UInt8) (b:UZ) (ba:Option Addr) (bn bc:Nat) (w:World) (hl:t.length≤1000000) (_hbl:b.path.length≤1000000) (_hne:b.path≠[]) (hp:PV w (.slice ba bn bc) b.path) (hbig: ¬4096<t.length) (n r:List UInt8) (hsc:schW (zcF (zaV t))=some (n,r)) (h1:n=zdV) (hs: ¬b.scheme=n):
  Calls Tryz.prog 14 #[.string ⟨t.toArray⟩,.agg (b.ref (.slice ba bn bc)),.bool true] w (RetY w (.slice ba bn bc) (zaQ t (some b))):=by
 have hbg:=hp.at_lt
 obtain ⟨x2,hx2⟩: ∃y,y=(w.alloc (.cells (b.ref (.slice ba bn bc)) 38)).alloc (.cells zaN 38):=⟨_,rfl⟩
 obtain ⟨hu,hr,hbw,hsz⟩:=zcZ zbP hx2
 have hz:=zaA t
 have HB2:=yiT hbw
 have HR2:=yiT hr
 have HU2:=yiT hu
 simp only [UZ.ref,zaN] at hx2
 clear hu hr hbw
 have Ghsc:=yiT hsc
 have Gh1:=yiT h1
 have Ghs:=yiT hs
 clear hsc h1 hs
 have HF:=yiT (show zaQ t (some b)=zeB (zcF (zaV t)) (some b) from if_neg hbig)
 have h4:t.length≤4096:=by omega
 have hcl:=zcW t
 have htl:(zaV t).length≤t.length:=by
  have h2:=zdS t
  have h3:=(List.dropWhile_suffix (l:=t) zcA).length_le
  omega
 have HT:=yiT (fun W=>zcT ⟨t.toArray⟩ W (by rw [zaA];omega))
 rw [zaB] at HT
 have HD:=yiT (fun W=>zcV ⟨(zaV t).toArray⟩ W (by rw [zaA];omega))
 rw [zaB] at HD
 generalize zcF (zaV t)=s at*
 generalize zaV t=t1 at*
 have HSC:=yiT (fun W=>zcD s W (by omega))
 go_enter Tryz.func14,Tryz.ntmps14
 simp only [UZ.ref]
 go_wp2_with fail
 rw [←hx2]
 clear hx2
 refine (HT.out _).mono ?_
 rintro e w' ⟨rfl,rfl⟩
 go_wp2_with fail
 refine (HD.out _).mono ?_
 rintro e x3 ⟨rfl,hb3⟩
 have HB3:=yiT (zaC HB2.out hb3)
 have HR3:=yiT (HR2.out.below hb3)
 have HU3:=yiT (HU2.out.below hb3)
 clear HB2 HR2 HU2 hb3 HT HD
 go_wp2_with fail
 refine (HSC.out _).mono ?_
 rintro e x4 ⟨rfl,hb4⟩
 have HB4:=yiT (zaC HB3.out hb4)
 have HR4:=yiT (HR3.out.below hb4)
 have HU4:=yiT (HU3.out.below hb4)
 clear HB3 HR3 HU3 hb4 HSC
 have hsc:=Ghsc.out
 have h1:=Gh1.out
 have hs:=Ghs.out
 clear Ghsc Gh1 Ghs
 rw [hsc]
 have hrl:=zeP hsc
 have e1:(n==[104,116,116,112])=true:=by rw [h1];rfl
 have e5:(b.scheme==n)=false:=beq_eq_false_iff_ne.2 hs
 have HRES:Hid (zaQ t (some b)=zcU n (zbW r)):=by
  show _=_
  rw [HF.out]
  unfold zeB
  rw [hsc]
  show (if n=zdV∨n=zcX then _ else _)=_
  rw [if_pos (.inl h1)]
  exact if_pos (.inl hs)
 obtain ⟨d0,d1,d2,d3,d4,d5,d6,d7,d8,d9,d10,d11,d12,d13,-⟩:=HU4.out.all
 simp only [Option.map,Option.getD,Option.isSome]
 have HBA:=yiT (fun W=>zeN r W)
 have hbl:=zdT r
 have HAU:=yiT (fun W=>zeO n (zbW r) W (by omega))
 generalize zbW r=lb at*
 generalize zcU n lb=rr at*
 obtain ⟨v,er⟩:=rr
 clear HF hsc
 clear h1 hs
 go_wp2_with fail
 refine (HBA.out _).mono ?_
 rintro e w' ⟨rfl,rfl⟩
 go_wp2_with fail
 refine (HAU.out _).mono ?_
 rintro e x5 ⟨pv,rfl,hq5,hb5⟩
 have hp5:=hq5.pv
 have hfar5:pv= .slice ba bn bc∨FarV w.heap.size pv:= .inr (hq5.far (by have:=HR4.out.lt;omega))
 have hne5: ∀g n c,pv= .slice (some ⟨g,0,none⟩) n c→g≠w.heap.size+1:=fun g n c e=>by
  have h1:=hq5.far (yiU _) g n c e
  have h2:=HR4.out.lt
  omega
 clear hq5
 obtain ⟨sa,sn,sc,rfl⟩:=hp5.shape
 have hR5:=HR4.out.below hb5
 have hB5:=zaC HB4.out hb5
 have hgt:=HR4.out.lt
 have HP5:=yiT (hp5.put (zbS (g:=w.heap.size+1) v (.slice sa sn sc)) (fun g n c e=>hne5 g n c e))
 have HFAR:=yiT hfar5
 unfold zbJ at HP5
 simp only [UZ.ref]
 clear hp5 hb5 hne5 hfar5
 obtain ⟨c0,c1,c2,c3,c4,c5,c6,c7,c8,c9,c10,c11,c12,c13,k0,k1,k2,k3,k4,k5,k6,k7,k8,k9,k10,k11,k12,k13,kf⟩:=hR5.all
 have hEB:=zbC hB5 (show w.heap.size≤w.heap.size+1 by omega) v (.slice sa sn sc)
 have hEC:=zbF hR5 v (.slice sa sn sc) _ rfl
 unfold zbJ at hEB hEC
 have HEB:=yiT hEB
 have HEC:=yiT hEC
 clear hEB hEC
 go_wp2
 obtain ⟨e0,e1,e2,e3,e4,e5,e6,e7,e8,e9,e10,e11,e12,e13⟩:=HEC.out
 refine bodyPost_ret (v:= .tuple #[.agg (v.ref (.slice sa sn sc)),.int .i64 er]) (by simp [results,Tryz.results14,go_sem,e0,e1,e2,e3,e4,e5,e6,e7,e8,e9,e10,e11,e12,e13,UZ.ref]) rfl ?_
 rw [HRES.out]
 exact ⟨_,rfl,HP5.out,HFAR.out,HEB.out⟩
theorem zmN (t:List UInt8) (b:UZ) (ba:Option Addr) (bn bc:Nat) (w:World) (hl:t.length≤1000000) (hbl:b.path.length≤1000000) (hne:b.path≠[]) (hp:PV w (.slice ba bn bc) b.path) (hbig: ¬4096<t.length) (n r:List UInt8) (hsc:schW (zcF (zaV t))=some (n,r)) (h1:n=zdV) (hs:b.scheme=n) (hL:r.length<2) (hq: ¬r.take 2=[47,47]):
  Calls Tryz.prog 14 #[.string ⟨t.toArray⟩,.agg (b.ref (.slice ba bn bc)),.bool true] w (RetY w (.slice ba bn bc) (zaQ t (some b))):=by
 have hbg:=hp.at_lt
 obtain ⟨x2,hx2⟩: ∃y,y=(w.alloc (.cells (b.ref (.slice ba bn bc)) 38)).alloc (.cells zaN 38):=⟨_,rfl⟩
 obtain ⟨hu,hr,hbw,hsz⟩:=zcZ zbP hx2
 have hz:=zaA t
 have HB2:=yiT hbw
 have HR2:=yiT hr
 have HU2:=yiT hu
 simp only [UZ.ref,zaN] at hx2
 clear hu hr hbw
 have Ghsc:=yiT hsc
 have Gh1:=yiT h1
 have Ghs:=yiT hs
 have GhL:=yiT hL
 have Ghq:=yiT hq
 clear hsc h1 hs hL hq
 have HF:=yiT (show zaQ t (some b)=zeB (zcF (zaV t)) (some b) from if_neg hbig)
 have h4:t.length≤4096:=by omega
 have hcl:=zcW t
 have htl:(zaV t).length≤t.length:=by
  have h2:=zdS t
  have h3:=(List.dropWhile_suffix (l:=t) zcA).length_le
  omega
 have HT:=yiT (fun W=>zcT ⟨t.toArray⟩ W (by rw [zaA];omega))
 rw [zaB] at HT
 have HD:=yiT (fun W=>zcV ⟨(zaV t).toArray⟩ W (by rw [zaA];omega))
 rw [zaB] at HD
 generalize zcF (zaV t)=s at*
 generalize zaV t=t1 at*
 have HSC:=yiT (fun W=>zcD s W (by omega))
 go_enter Tryz.func14,Tryz.ntmps14
 simp only [UZ.ref]
 go_wp2_with fail
 rw [←hx2]
 clear hx2
 refine (HT.out _).mono ?_
 rintro e w' ⟨rfl,rfl⟩
 go_wp2_with fail
 refine (HD.out _).mono ?_
 rintro e x3 ⟨rfl,hb3⟩
 have HB3:=yiT (zaC HB2.out hb3)
 have HR3:=yiT (HR2.out.below hb3)
 have HU3:=yiT (HU2.out.below hb3)
 clear HB2 HR2 HU2 hb3 HT HD
 go_wp2_with fail
 refine (HSC.out _).mono ?_
 rintro e x4 ⟨rfl,hb4⟩
 have HB4:=yiT (zaC HB3.out hb4)
 have HR4:=yiT (HR3.out.below hb4)
 have HU4:=yiT (HU3.out.below hb4)
 clear HB3 HR3 HU3 hb4 HSC
 have hsc:=Ghsc.out
 have h1:=Gh1.out
 have hs:=Ghs.out
 have hL:=GhL.out
 have hq:=Ghq.out
 clear Ghsc Gh1 Ghs GhL Ghq
 rw [hsc]
 have hrl:=zeP hsc
 have e1:(n==[104,116,116,112])=true:=by rw [h1];rfl
 have e5:(b.scheme==n)=true:=by rw [hs];exact beq_self_eq_true _
 have HRES:Hid (zaQ t (some b)=relW b r):=by
  show _=_
  rw [HF.out]
  unfold zeB
  rw [hsc]
  show (if n=zdV∨n=zcX then _ else _)=_
  rw [if_pos (.inl h1)]
  exact if_neg (by rintro (g|g);exact g hs;exact hq g)
 simp only [Option.map,Option.getD,Option.isSome]
 have HRL:=yiT (fun W (hW:Below x4.heap.size x4 W)=>zdY b ba bn bc r W (by omega) hbl hne (hp.keep (zaC HB4.out hW)))
 generalize relW b r=rr at*
 obtain ⟨v,er⟩:=rr
 clear HF hsc
 clear h1 hs hq
 obtain ⟨d0,d1,d2,d3,d4,d5,d6,d7,d8,d9,d10,d11,d12,d13,-⟩:=HU4.out.all
 go_wp2_with fail
 refine (HRL.out _ (yiV _ _)).mono ?_
 rintro e x5 ⟨pv,rfl,hp5,hfar,hb5⟩
 have hfar5:pv= .slice ba bn bc∨FarV w.heap.size pv:=hfar.imp id fun h g n c e=>Nat.le_trans HB4.out.size (h g n c e)
 have hne5: ∀g n c,pv= .slice (some ⟨g,0,none⟩) n c→g≠w.heap.size+1:=fun g n c e=>by
  rcases hfar with h|h
  ·have:=hbg g n c (h.symm.trans e)
   omega
  ·have h1:=h g n c e
   have h2:=HR4.out.lt
   omega
 clear hfar d0 d1 d2 d3 d4 d5 d6 d7 d8 d9 d10 d11 d12 d13
 obtain ⟨sa,sn,sc,rfl⟩:=hp5.shape
 have hR5:=HR4.out.below hb5
 have hB5:=zaC HB4.out hb5
 have hgt:=HR4.out.lt
 have HP5:=yiT (hp5.put (zbS (g:=w.heap.size+1) v (.slice sa sn sc)) (fun g n c e=>hne5 g n c e))
 have HFAR:=yiT hfar5
 unfold zbJ at HP5
 simp only [UZ.ref]
 clear hp5 hb5 hne5 hfar5
 obtain ⟨c0,c1,c2,c3,c4,c5,c6,c7,c8,c9,c10,c11,c12,c13,k0,k1,k2,k3,k4,k5,k6,k7,k8,k9,k10,k11,k12,k13,kf⟩:=hR5.all
 have hEB:=zbC hB5 (show w.heap.size≤w.heap.size+1 by omega) v (.slice sa sn sc)
 have hEC:=zbF hR5 v (.slice sa sn sc) _ rfl
 unfold zbJ at hEB hEC
 have HEB:=yiT hEB
 have HEC:=yiT hEC
 clear hEB hEC
 go_wp2
 obtain ⟨e0,e1,e2,e3,e4,e5,e6,e7,e8,e9,e10,e11,e12,e13⟩:=HEC.out
 refine bodyPost_ret (v:= .tuple #[.agg (v.ref (.slice sa sn sc)),.int .i64 er]) (by simp [results,Tryz.results14,go_sem,e0,e1,e2,e3,e4,e5,e6,e7,e8,e9,e10,e11,e12,e13,UZ.ref]) rfl ?_
 rw [HRES.out]
 exact ⟨_,rfl,HP5.out,HFAR.out,HEB.out⟩
theorem zpD (t:List UInt8) (b:UZ) (ba:Option Addr) (bn bc:Nat) (w:World) (hl:t.length≤1000000) (_hbl:b.path.length≤1000000) (_hne:b.path≠[]) (hp:PV w (.slice ba bn bc) b.path) (hbig: ¬4096<t.length) (n r:List UInt8) (hsc:schW (zcF (zaV t))=some (n,r)) (h1:n=zdV) (hs:b.scheme=n) (hL:2≤r.length) (hq:r.take 2=[47,47]):
  Calls Tryz.prog 14 #[.string ⟨t.toArray⟩,.agg (b.ref (.slice ba bn bc)),.bool true] w (RetY w (.slice ba bn bc) (zaQ t (some b))):=by
 have hbg:=hp.at_lt
 obtain ⟨x2,hx2⟩: ∃y,y=(w.alloc (.cells (b.ref (.slice ba bn bc)) 38)).alloc (.cells zaN 38):=⟨_,rfl⟩
 obtain ⟨hu,hr,hbw,hsz⟩:=zcZ zbP hx2
 have hz:=zaA t
 have HB2:=yiT hbw
 have HR2:=yiT hr
 have HU2:=yiT hu
 simp only [UZ.ref,zaN] at hx2
 clear hu hr hbw
 have Ghsc:=yiT hsc
 have Gh1:=yiT h1
 have Ghs:=yiT hs
 have GhL:=yiT hL
 have Ghq:=yiT hq
 clear hsc h1 hs hL hq
 have HF:=yiT (show zaQ t (some b)=zeB (zcF (zaV t)) (some b) from if_neg hbig)
 have h4:t.length≤4096:=by omega
 have hcl:=zcW t
 have htl:(zaV t).length≤t.length:=by
  have h2:=zdS t
  have h3:=(List.dropWhile_suffix (l:=t) zcA).length_le
  omega
 have HT:=yiT (fun W=>zcT ⟨t.toArray⟩ W (by rw [zaA];omega))
 rw [zaB] at HT
 have HD:=yiT (fun W=>zcV ⟨(zaV t).toArray⟩ W (by rw [zaA];omega))
 rw [zaB] at HD
 generalize zcF (zaV t)=s at*
 generalize zaV t=t1 at*
 have HSC:=yiT (fun W=>zcD s W (by omega))
 go_enter Tryz.func14,Tryz.ntmps14
 simp only [UZ.ref]
 go_wp2_with fail
 rw [←hx2]
 clear hx2
 refine (HT.out _).mono ?_
 rintro e w' ⟨rfl,rfl⟩
 go_wp2_with fail
 refine (HD.out _).mono ?_
 rintro e x3 ⟨rfl,hb3⟩
 have HB3:=yiT (zaC HB2.out hb3)
 have HR3:=yiT (HR2.out.below hb3)
 have HU3:=yiT (HU2.out.below hb3)
 clear HB2 HR2 HU2 hb3 HT HD
 go_wp2_with fail
 refine (HSC.out _).mono ?_
 rintro e x4 ⟨rfl,hb4⟩
 have HB4:=yiT (zaC HB3.out hb4)
 have HR4:=yiT (HR3.out.below hb4)
 have HU4:=yiT (HU3.out.below hb4)
 clear HB3 HR3 HU3 hb4 HSC
 have hsc:=Ghsc.out
 have h1:=Gh1.out
 have hs:=Ghs.out
 have hL:=GhL.out
 have hq:=Ghq.out
 clear Ghsc Gh1 Ghs GhL Ghq
 rw [hsc]
 have hrl:=zeP hsc
 have e1:(n==[104,116,116,112])=true:=by rw [h1];rfl
 have e5:(b.scheme==n)=true:=by rw [hs];exact beq_self_eq_true _
 have HRES:Hid (zaQ t (some b)=zcU n (zbW r)):=by
  show _=_
  rw [HF.out]
  unfold zeB
  rw [hsc]
  show (if n=zdV∨n=zcX then _ else _)=_
  rw [if_pos (.inl h1)]
  exact if_pos (.inr hq)
 have e6:=(zmZ r).trans (zsT hL hq)
 simp only [Option.map,Option.getD,Option.isSome]
 obtain ⟨d0,d1,d2,d3,d4,d5,d6,d7,d8,d9,d10,d11,d12,d13,-⟩:=HU4.out.all
 have HBA:=yiT (fun W=>zeN r W)
 have hbl:=zdT r
 have HAU:=yiT (fun W=>zeO n (zbW r) W (by omega))
 generalize zbW r=lb at*
 generalize zcU n lb=rr at*
 obtain ⟨v,er⟩:=rr
 clear HF hsc
 clear h1 hs hq
 go_wp2_with fail
 refine (HBA.out _).mono ?_
 rintro e w' ⟨rfl,rfl⟩
 go_wp2_with fail
 refine (HAU.out _).mono ?_
 rintro e x5 ⟨pv,rfl,hq5,hb5⟩
 have hp5:=hq5.pv
 have hfar5:pv= .slice ba bn bc∨FarV w.heap.size pv:= .inr (hq5.far (by have:=HR4.out.lt;omega))
 have hne5: ∀g n c,pv= .slice (some ⟨g,0,none⟩) n c→g≠w.heap.size+1:=fun g n c e=>by
  have h1:=hq5.far (yiU _) g n c e
  have h2:=HR4.out.lt
  omega
 clear hq5
 obtain ⟨sa,sn,sc,rfl⟩:=hp5.shape
 have hR5:=HR4.out.below hb5
 have hB5:=zaC HB4.out hb5
 have hgt:=HR4.out.lt
 have HP5:=yiT (hp5.put (zbS (g:=w.heap.size+1) v (.slice sa sn sc)) (fun g n c e=>hne5 g n c e))
 have HFAR:=yiT hfar5
 unfold zbJ at HP5
 simp only [UZ.ref]
 clear hp5 hb5 hne5 hfar5
 obtain ⟨c0,c1,c2,c3,c4,c5,c6,c7,c8,c9,c10,c11,c12,c13,k0,k1,k2,k3,k4,k5,k6,k7,k8,k9,k10,k11,k12,k13,kf⟩:=hR5.all
 have hEB:=zbC hB5 (show w.heap.size≤w.heap.size+1 by omega) v (.slice sa sn sc)
 have hEC:=zbF hR5 v (.slice sa sn sc) _ rfl
 unfold zbJ at hEB hEC
 have HEB:=yiT hEB
 have HEC:=yiT hEC
 clear hEB hEC
 go_wp2
 obtain ⟨e0,e1,e2,e3,e4,e5,e6,e7,e8,e9,e10,e11,e12,e13⟩:=HEC.out
 refine bodyPost_ret (v:= .tuple #[.agg (v.ref (.slice sa sn sc)),.int .i64 er]) (by simp [results,Tryz.results14,go_sem,e0,e1,e2,e3,e4,e5,e6,e7,e8,e9,e10,e11,e12,e13,UZ.ref]) rfl ?_
 rw [HRES.out]
 exact ⟨_,rfl,HP5.out,HFAR.out,HEB.out⟩
theorem zrZ (t:List UInt8) (b:UZ) (ba:Option Addr) (bn bc:Nat) (w:World) (hl:t.length≤1000000) (hbl:b.path.length≤1000000) (hne:b.path≠[]) (hp:PV w (.slice ba bn bc) b.path) (hbig: ¬4096<t.length) (n r:List UInt8) (hsc:schW (zcF (zaV t))=some (n,r)) (h1:n=zdV) (hs:b.scheme=n) (hL:2≤r.length) (hq: ¬r.take 2=[47,47]):
  Calls Tryz.prog 14 #[.string ⟨t.toArray⟩,.agg (b.ref (.slice ba bn bc)),.bool true] w (RetY w (.slice ba bn bc) (zaQ t (some b))):=by
 have hbg:=hp.at_lt
 obtain ⟨x2,hx2⟩: ∃y,y=(w.alloc (.cells (b.ref (.slice ba bn bc)) 38)).alloc (.cells zaN 38):=⟨_,rfl⟩
 obtain ⟨hu,hr,hbw,hsz⟩:=zcZ zbP hx2
 have hz:=zaA t
 have HB2:=yiT hbw
 have HR2:=yiT hr
 have HU2:=yiT hu
 simp only [UZ.ref,zaN] at hx2
 clear hu hr hbw
 have Ghsc:=yiT hsc
 have Gh1:=yiT h1
 have Ghs:=yiT hs
 have GhL:=yiT hL
 have Ghq:=yiT hq
 clear hsc h1 hs hL hq
 have HF:=yiT (show zaQ t (some b)=zeB (zcF (zaV t)) (some b) from if_neg hbig)
 have h4:t.length≤4096:=by omega
 have hcl:=zcW t
 have htl:(zaV t).length≤t.length:=by
  have h2:=zdS t
  have h3:=(List.dropWhile_suffix (l:=t) zcA).length_le
  omega
 have HT:=yiT (fun W=>zcT ⟨t.toArray⟩ W (by rw [zaA];omega))
 rw [zaB] at HT
 have HD:=yiT (fun W=>zcV ⟨(zaV t).toArray⟩ W (by rw [zaA];omega))
 rw [zaB] at HD
 generalize zcF (zaV t)=s at*
 generalize zaV t=t1 at*
 have HSC:=yiT (fun W=>zcD s W (by omega))
 go_enter Tryz.func14,Tryz.ntmps14
 simp only [UZ.ref]
 go_wp2_with fail
 rw [←hx2]
 clear hx2
 refine (HT.out _).mono ?_
 rintro e w' ⟨rfl,rfl⟩
 go_wp2_with fail
 refine (HD.out _).mono ?_
 rintro e x3 ⟨rfl,hb3⟩
 have HB3:=yiT (zaC HB2.out hb3)
 have HR3:=yiT (HR2.out.below hb3)
 have HU3:=yiT (HU2.out.below hb3)
 clear HB2 HR2 HU2 hb3 HT HD
 go_wp2_with fail
 refine (HSC.out _).mono ?_
 rintro e x4 ⟨rfl,hb4⟩
 have HB4:=yiT (zaC HB3.out hb4)
 have HR4:=yiT (HR3.out.below hb4)
 have HU4:=yiT (HU3.out.below hb4)
 clear HB3 HR3 HU3 hb4 HSC
 have hsc:=Ghsc.out
 have h1:=Gh1.out
 have hs:=Ghs.out
 have hL:=GhL.out
 have hq:=Ghq.out
 clear Ghsc Gh1 Ghs GhL Ghq
 rw [hsc]
 have hrl:=zeP hsc
 have e1:(n==[104,116,116,112])=true:=by rw [h1];rfl
 have e5:(b.scheme==n)=true:=by rw [hs];exact beq_self_eq_true _
 have HRES:Hid (zaQ t (some b)=relW b r):=by
  show _=_
  rw [HF.out]
  unfold zeB
  rw [hsc]
  show (if n=zdV∨n=zcX then _ else _)=_
  rw [if_pos (.inl h1)]
  exact if_neg (by rintro (g|g);exact g hs;exact hq g)
 have e6:=(zmZ r).trans (zxZ hL hq)
 simp only [Option.map,Option.getD,Option.isSome]
 have HRL:=yiT (fun W (hW:Below x4.heap.size x4 W)=>zdY b ba bn bc r W (by omega) hbl hne (hp.keep (zaC HB4.out hW)))
 generalize relW b r=rr at*
 obtain ⟨v,er⟩:=rr
 clear HF hsc
 clear h1 hs hq
 obtain ⟨d0,d1,d2,d3,d4,d5,d6,d7,d8,d9,d10,d11,d12,d13,-⟩:=HU4.out.all
 go_wp2_with fail
 refine (HRL.out _ (yiV _ _)).mono ?_
 rintro e x5 ⟨pv,rfl,hp5,hfar,hb5⟩
 have hfar5:pv= .slice ba bn bc∨FarV w.heap.size pv:=hfar.imp id fun h g n c e=>Nat.le_trans HB4.out.size (h g n c e)
 have hne5: ∀g n c,pv= .slice (some ⟨g,0,none⟩) n c→g≠w.heap.size+1:=fun g n c e=>by
  rcases hfar with h|h
  ·have:=hbg g n c (h.symm.trans e)
   omega
  ·have h1:=h g n c e
   have h2:=HR4.out.lt
   omega
 clear hfar d0 d1 d2 d3 d4 d5 d6 d7 d8 d9 d10 d11 d12 d13
 obtain ⟨sa,sn,sc,rfl⟩:=hp5.shape
 have hR5:=HR4.out.below hb5
 have hB5:=zaC HB4.out hb5
 have hgt:=HR4.out.lt
 have HP5:=yiT (hp5.put (zbS (g:=w.heap.size+1) v (.slice sa sn sc)) (fun g n c e=>hne5 g n c e))
 have HFAR:=yiT hfar5
 unfold zbJ at HP5
 simp only [UZ.ref]
 clear hp5 hb5 hne5 hfar5
 obtain ⟨c0,c1,c2,c3,c4,c5,c6,c7,c8,c9,c10,c11,c12,c13,k0,k1,k2,k3,k4,k5,k6,k7,k8,k9,k10,k11,k12,k13,kf⟩:=hR5.all
 have hEB:=zbC hB5 (show w.heap.size≤w.heap.size+1 by omega) v (.slice sa sn sc)
 have hEC:=zbF hR5 v (.slice sa sn sc) _ rfl
 unfold zbJ at hEB hEC
 have HEB:=yiT hEB
 have HEC:=yiT hEC
 clear hEB hEC
 go_wp2
 obtain ⟨e0,e1,e2,e3,e4,e5,e6,e7,e8,e9,e10,e11,e12,e13⟩:=HEC.out
 refine bodyPost_ret (v:= .tuple #[.agg (v.ref (.slice sa sn sc)),.int .i64 er]) (by simp [results,Tryz.results14,go_sem,e0,e1,e2,e3,e4,e5,e6,e7,e8,e9,e10,e11,e12,e13,UZ.ref]) rfl ?_
 rw [HRES.out]
 exact ⟨_,rfl,HP5.out,HFAR.out,HEB.out⟩
theorem zpA (t:List UInt8) (b:UZ) (ba:Option Addr) (bn bc:Nat) (w:World) (hl:t.length≤1000000) (_hbl:b.path.length≤1000000) (_hne:b.path≠[]) (hp:PV w (.slice ba bn bc) b.path) (hbig: ¬4096<t.length) (n r:List UInt8) (hsc:schW (zcF (zaV t))=some (n,r)) (h1: ¬n=zdV) (h2:n=zcX) (hs: ¬b.scheme=n):
  Calls Tryz.prog 14 #[.string ⟨t.toArray⟩,.agg (b.ref (.slice ba bn bc)),.bool true] w (RetY w (.slice ba bn bc) (zaQ t (some b))):=by
 have hbg:=hp.at_lt
 obtain ⟨x2,hx2⟩: ∃y,y=(w.alloc (.cells (b.ref (.slice ba bn bc)) 38)).alloc (.cells zaN 38):=⟨_,rfl⟩
 obtain ⟨hu,hr,hbw,hsz⟩:=zcZ zbP hx2
 have hz:=zaA t
 have HB2:=yiT hbw
 have HR2:=yiT hr
 have HU2:=yiT hu
 simp only [UZ.ref,zaN] at hx2
 clear hu hr hbw
 have Ghsc:=yiT hsc
 have Gh1:=yiT h1
 have Gh2:=yiT h2
 have Ghs:=yiT hs
 clear hsc h1 h2 hs
 have HF:=yiT (show zaQ t (some b)=zeB (zcF (zaV t)) (some b) from if_neg hbig)
 have h4:t.length≤4096:=by omega
 have hcl:=zcW t
 have htl:(zaV t).length≤t.length:=by
  have h2:=zdS t
  have h3:=(List.dropWhile_suffix (l:=t) zcA).length_le
  omega
 have HT:=yiT (fun W=>zcT ⟨t.toArray⟩ W (by rw [zaA];omega))
 rw [zaB] at HT
 have HD:=yiT (fun W=>zcV ⟨(zaV t).toArray⟩ W (by rw [zaA];omega))
 rw [zaB] at HD
 generalize zcF (zaV t)=s at*
 generalize zaV t=t1 at*
 have HSC:=yiT (fun W=>zcD s W (by omega))
 go_enter Tryz.func14,Tryz.ntmps14
 simp only [UZ.ref]
 go_wp2_with fail
 rw [←hx2]
 clear hx2
 refine (HT.out _).mono ?_
 rintro e w' ⟨rfl,rfl⟩
 go_wp2_with fail
 refine (HD.out _).mono ?_
 rintro e x3 ⟨rfl,hb3⟩
 have HB3:=yiT (zaC HB2.out hb3)
 have HR3:=yiT (HR2.out.below hb3)
 have HU3:=yiT (HU2.out.below hb3)
 clear HB2 HR2 HU2 hb3 HT HD
 go_wp2_with fail
 refine (HSC.out _).mono ?_
 rintro e x4 ⟨rfl,hb4⟩
 have HB4:=yiT (zaC HB3.out hb4)
 have HR4:=yiT (HR3.out.below hb4)
 have HU4:=yiT (HU3.out.below hb4)
 clear HB3 HR3 HU3 hb4 HSC
 have hsc:=Ghsc.out
 have h1:=Gh1.out
 have h2:=Gh2.out
 have hs:=Ghs.out
 clear Ghsc Gh1 Gh2 Ghs
 rw [hsc]
 have hrl:=zeP hsc
 have e1:(n==[104,116,116,112])=false:=beq_eq_false_iff_ne.2 h1
 have e2:(n==[104,116,116,112,115])=true:=by rw [h2];rfl
 have e5:(b.scheme==n)=false:=beq_eq_false_iff_ne.2 hs
 have HRES:Hid (zaQ t (some b)=zcU n (zbW r)):=by
  show _=_
  rw [HF.out]
  unfold zeB
  rw [hsc]
  show (if n=zdV∨n=zcX then _ else _)=_
  rw [if_pos (.inr h2)]
  exact if_pos (.inl hs)
 obtain ⟨d0,d1,d2,d3,d4,d5,d6,d7,d8,d9,d10,d11,d12,d13,-⟩:=HU4.out.all
 simp only [Option.map,Option.getD,Option.isSome]
 have HBA:=yiT (fun W=>zeN r W)
 have hbl:=zdT r
 have HAU:=yiT (fun W=>zeO n (zbW r) W (by omega))
 generalize zbW r=lb at*
 generalize zcU n lb=rr at*
 obtain ⟨v,er⟩:=rr
 clear HF hsc
 clear h1 h2 hs
 go_wp2_with fail
 refine (HBA.out _).mono ?_
 rintro e w' ⟨rfl,rfl⟩
 go_wp2_with fail
 refine (HAU.out _).mono ?_
 rintro e x5 ⟨pv,rfl,hq5,hb5⟩
 have hp5:=hq5.pv
 have hfar5:pv= .slice ba bn bc∨FarV w.heap.size pv:= .inr (hq5.far (by have:=HR4.out.lt;omega))
 have hne5: ∀g n c,pv= .slice (some ⟨g,0,none⟩) n c→g≠w.heap.size+1:=fun g n c e=>by
  have h1:=hq5.far (yiU _) g n c e
  have h2:=HR4.out.lt
  omega
 clear hq5
 obtain ⟨sa,sn,sc,rfl⟩:=hp5.shape
 have hR5:=HR4.out.below hb5
 have hB5:=zaC HB4.out hb5
 have hgt:=HR4.out.lt
 have HP5:=yiT (hp5.put (zbS (g:=w.heap.size+1) v (.slice sa sn sc)) (fun g n c e=>hne5 g n c e))
 have HFAR:=yiT hfar5
 unfold zbJ at HP5
 simp only [UZ.ref]
 clear hp5 hb5 hne5 hfar5
 obtain ⟨c0,c1,c2,c3,c4,c5,c6,c7,c8,c9,c10,c11,c12,c13,k0,k1,k2,k3,k4,k5,k6,k7,k8,k9,k10,k11,k12,k13,kf⟩:=hR5.all
 have hEB:=zbC hB5 (show w.heap.size≤w.heap.size+1 by omega) v (.slice sa sn sc)
 have hEC:=zbF hR5 v (.slice sa sn sc) _ rfl
 unfold zbJ at hEB hEC
 have HEB:=yiT hEB
 have HEC:=yiT hEC
 clear hEB hEC
 go_wp2
 obtain ⟨e0,e1,e2,e3,e4,e5,e6,e7,e8,e9,e10,e11,e12,e13⟩:=HEC.out
 refine bodyPost_ret (v:= .tuple #[.agg (v.ref (.slice sa sn sc)),.int .i64 er]) (by simp [results,Tryz.results14,go_sem,e0,e1,e2,e3,e4,e5,e6,e7,e8,e9,e10,e11,e12,e13,UZ.ref]) rfl ?_
 rw [HRES.out]
 exact ⟨_,rfl,HP5.out,HFAR.out,HEB.out⟩
theorem zlO (t:List UInt8) (b:UZ) (ba:Option Addr) (bn bc:Nat) (w:World) (hl:t.length≤1000000) (hbl:b.path.length≤1000000) (hne:b.path≠[]) (hp:PV w (.slice ba bn bc) b.path) (hbig: ¬4096<t.length) (n r:List UInt8) (hsc:schW (zcF (zaV t))=some (n,r)) (h1: ¬n=zdV) (h2:n=zcX) (hs:b.scheme=n) (hL:r.length<2) (hq: ¬r.take 2=[47,47]):
  Calls Tryz.prog 14 #[.string ⟨t.toArray⟩,.agg (b.ref (.slice ba bn bc)),.bool true] w (RetY w (.slice ba bn bc) (zaQ t (some b))):=by
 have hbg:=hp.at_lt
 obtain ⟨x2,hx2⟩: ∃y,y=(w.alloc (.cells (b.ref (.slice ba bn bc)) 38)).alloc (.cells zaN 38):=⟨_,rfl⟩
 obtain ⟨hu,hr,hbw,hsz⟩:=zcZ zbP hx2
 have hz:=zaA t
 have HB2:=yiT hbw
 have HR2:=yiT hr
 have HU2:=yiT hu
 simp only [UZ.ref,zaN] at hx2
 clear hu hr hbw
 have Ghsc:=yiT hsc
 have Gh1:=yiT h1
 have Gh2:=yiT h2
 have Ghs:=yiT hs
 have GhL:=yiT hL
 have Ghq:=yiT hq
 clear hsc h1 h2 hs hL hq
 have HF:=yiT (show zaQ t (some b)=zeB (zcF (zaV t)) (some b) from if_neg hbig)
 have h4:t.length≤4096:=by omega
 have hcl:=zcW t
 have htl:(zaV t).length≤t.length:=by
  have h2:=zdS t
  have h3:=(List.dropWhile_suffix (l:=t) zcA).length_le
  omega
 have HT:=yiT (fun W=>zcT ⟨t.toArray⟩ W (by rw [zaA];omega))
 rw [zaB] at HT
 have HD:=yiT (fun W=>zcV ⟨(zaV t).toArray⟩ W (by rw [zaA];omega))
 rw [zaB] at HD
 generalize zcF (zaV t)=s at*
 generalize zaV t=t1 at*
 have HSC:=yiT (fun W=>zcD s W (by omega))
 go_enter Tryz.func14,Tryz.ntmps14
 simp only [UZ.ref]
 go_wp2_with fail
 rw [←hx2]
 clear hx2
 refine (HT.out _).mono ?_
 rintro e w' ⟨rfl,rfl⟩
 go_wp2_with fail
 refine (HD.out _).mono ?_
 rintro e x3 ⟨rfl,hb3⟩
 have HB3:=yiT (zaC HB2.out hb3)
 have HR3:=yiT (HR2.out.below hb3)
 have HU3:=yiT (HU2.out.below hb3)
 clear HB2 HR2 HU2 hb3 HT HD
 go_wp2_with fail
 refine (HSC.out _).mono ?_
 rintro e x4 ⟨rfl,hb4⟩
 have HB4:=yiT (zaC HB3.out hb4)
 have HR4:=yiT (HR3.out.below hb4)
 have HU4:=yiT (HU3.out.below hb4)
 clear HB3 HR3 HU3 hb4 HSC
 have hsc:=Ghsc.out
 have h1:=Gh1.out
 have h2:=Gh2.out
 have hs:=Ghs.out
 have hL:=GhL.out
 have hq:=Ghq.out
 clear Ghsc Gh1 Gh2 Ghs GhL Ghq
 rw [hsc]
 have hrl:=zeP hsc
 have e1:(n==[104,116,116,112])=false:=beq_eq_false_iff_ne.2 h1
 have e2:(n==[104,116,116,112,115])=true:=by rw [h2];rfl
 have e5:(b.scheme==n)=true:=by rw [hs];exact beq_self_eq_true _
 have HRES:Hid (zaQ t (some b)=relW b r):=by
  show _=_
  rw [HF.out]
  unfold zeB
  rw [hsc]
  show (if n=zdV∨n=zcX then _ else _)=_
  rw [if_pos (.inr h2)]
  exact if_neg (by rintro (g|g);exact g hs;exact hq g)
 simp only [Option.map,Option.getD,Option.isSome]
 have HRL:=yiT (fun W (hW:Below x4.heap.size x4 W)=>zdY b ba bn bc r W (by omega) hbl hne (hp.keep (zaC HB4.out hW)))
 generalize relW b r=rr at*
 obtain ⟨v,er⟩:=rr
 clear HF hsc
 clear h1 h2 hs hq
 obtain ⟨d0,d1,d2,d3,d4,d5,d6,d7,d8,d9,d10,d11,d12,d13,-⟩:=HU4.out.all
 go_wp2_with fail
 refine (HRL.out _ (yiV _ _)).mono ?_
 rintro e x5 ⟨pv,rfl,hp5,hfar,hb5⟩
 have hfar5:pv= .slice ba bn bc∨FarV w.heap.size pv:=hfar.imp id fun h g n c e=>Nat.le_trans HB4.out.size (h g n c e)
 have hne5: ∀g n c,pv= .slice (some ⟨g,0,none⟩) n c→g≠w.heap.size+1:=fun g n c e=>by
  rcases hfar with h|h
  ·have:=hbg g n c (h.symm.trans e)
   omega
  ·have h1:=h g n c e
   have h2:=HR4.out.lt
   omega
 clear hfar d0 d1 d2 d3 d4 d5 d6 d7 d8 d9 d10 d11 d12 d13
 obtain ⟨sa,sn,sc,rfl⟩:=hp5.shape
 have hR5:=HR4.out.below hb5
 have hB5:=zaC HB4.out hb5
 have hgt:=HR4.out.lt
 have HP5:=yiT (hp5.put (zbS (g:=w.heap.size+1) v (.slice sa sn sc)) (fun g n c e=>hne5 g n c e))
 have HFAR:=yiT hfar5
 unfold zbJ at HP5
 simp only [UZ.ref]
 clear hp5 hb5 hne5 hfar5
 obtain ⟨c0,c1,c2,c3,c4,c5,c6,c7,c8,c9,c10,c11,c12,c13,k0,k1,k2,k3,k4,k5,k6,k7,k8,k9,k10,k11,k12,k13,kf⟩:=hR5.all
 have hEB:=zbC hB5 (show w.heap.size≤w.heap.size+1 by omega) v (.slice sa sn sc)
 have hEC:=zbF hR5 v (.slice sa sn sc) _ rfl
 unfold zbJ at hEB hEC
 have HEB:=yiT hEB
 have HEC:=yiT hEC
 clear hEB hEC
 go_wp2
 obtain ⟨e0,e1,e2,e3,e4,e5,e6,e7,e8,e9,e10,e11,e12,e13⟩:=HEC.out
 refine bodyPost_ret (v:= .tuple #[.agg (v.ref (.slice sa sn sc)),.int .i64 er]) (by simp [results,Tryz.results14,go_sem,e0,e1,e2,e3,e4,e5,e6,e7,e8,e9,e10,e11,e12,e13,UZ.ref]) rfl ?_
 rw [HRES.out]
 exact ⟨_,rfl,HP5.out,HFAR.out,HEB.out⟩
theorem znZ (t:List UInt8) (b:UZ) (ba:Option Addr) (bn bc:Nat) (w:World) (hl:t.length≤1000000) (_hbl:b.path.length≤1000000) (_hne:b.path≠[]) (hp:PV w (.slice ba bn bc) b.path) (hbig: ¬4096<t.length) (n r:List UInt8) (hsc:schW (zcF (zaV t))=some (n,r)) (h1: ¬n=zdV) (h2:n=zcX) (hs:b.scheme=n) (hL:2≤r.length) (hq:r.take 2=[47,47]):
  Calls Tryz.prog 14 #[.string ⟨t.toArray⟩,.agg (b.ref (.slice ba bn bc)),.bool true] w (RetY w (.slice ba bn bc) (zaQ t (some b))):=by
 have hbg:=hp.at_lt
 obtain ⟨x2,hx2⟩: ∃y,y=(w.alloc (.cells (b.ref (.slice ba bn bc)) 38)).alloc (.cells zaN 38):=⟨_,rfl⟩
 obtain ⟨hu,hr,hbw,hsz⟩:=zcZ zbP hx2
 have hz:=zaA t
 have HB2:=yiT hbw
 have HR2:=yiT hr
 have HU2:=yiT hu
 simp only [UZ.ref,zaN] at hx2
 clear hu hr hbw
 have Ghsc:=yiT hsc
 have Gh1:=yiT h1
 have Gh2:=yiT h2
 have Ghs:=yiT hs
 have GhL:=yiT hL
 have Ghq:=yiT hq
 clear hsc h1 h2 hs hL hq
 have HF:=yiT (show zaQ t (some b)=zeB (zcF (zaV t)) (some b) from if_neg hbig)
 have h4:t.length≤4096:=by omega
 have hcl:=zcW t
 have htl:(zaV t).length≤t.length:=by
  have h2:=zdS t
  have h3:=(List.dropWhile_suffix (l:=t) zcA).length_le
  omega
 have HT:=yiT (fun W=>zcT ⟨t.toArray⟩ W (by rw [zaA];omega))
 rw [zaB] at HT
 have HD:=yiT (fun W=>zcV ⟨(zaV t).toArray⟩ W (by rw [zaA];omega))
 rw [zaB] at HD
 generalize zcF (zaV t)=s at*
 generalize zaV t=t1 at*
 have HSC:=yiT (fun W=>zcD s W (by omega))
 go_enter Tryz.func14,Tryz.ntmps14
 simp only [UZ.ref]
 go_wp2_with fail
 rw [←hx2]
 clear hx2
 refine (HT.out _).mono ?_
 rintro e w' ⟨rfl,rfl⟩
 go_wp2_with fail
 refine (HD.out _).mono ?_
 rintro e x3 ⟨rfl,hb3⟩
 have HB3:=yiT (zaC HB2.out hb3)
 have HR3:=yiT (HR2.out.below hb3)
 have HU3:=yiT (HU2.out.below hb3)
 clear HB2 HR2 HU2 hb3 HT HD
 go_wp2_with fail
 refine (HSC.out _).mono ?_
 rintro e x4 ⟨rfl,hb4⟩
 have HB4:=yiT (zaC HB3.out hb4)
 have HR4:=yiT (HR3.out.below hb4)
 have HU4:=yiT (HU3.out.below hb4)
 clear HB3 HR3 HU3 hb4 HSC
 have hsc:=Ghsc.out
 have h1:=Gh1.out
 have h2:=Gh2.out
 have hs:=Ghs.out
 have hL:=GhL.out
 have hq:=Ghq.out
 clear Ghsc Gh1 Gh2 Ghs GhL Ghq
 rw [hsc]
 have hrl:=zeP hsc
 have e1:(n==[104,116,116,112])=false:=beq_eq_false_iff_ne.2 h1
 have e2:(n==[104,116,116,112,115])=true:=by rw [h2];rfl
 have e5:(b.scheme==n)=true:=by rw [hs];exact beq_self_eq_true _
 have HRES:Hid (zaQ t (some b)=zcU n (zbW r)):=by
  show _=_
  rw [HF.out]
  unfold zeB
  rw [hsc]
  show (if n=zdV∨n=zcX then _ else _)=_
  rw [if_pos (.inr h2)]
  exact if_pos (.inr hq)
 have e6:=(zmZ r).trans (zsT hL hq)
 simp only [Option.map,Option.getD,Option.isSome]
 obtain ⟨d0,d1,d2,d3,d4,d5,d6,d7,d8,d9,d10,d11,d12,d13,-⟩:=HU4.out.all
 have HBA:=yiT (fun W=>zeN r W)
 have hbl:=zdT r
 have HAU:=yiT (fun W=>zeO n (zbW r) W (by omega))
 generalize zbW r=lb at*
 generalize zcU n lb=rr at*
 obtain ⟨v,er⟩:=rr
 clear HF hsc
 clear h1 h2 hs hq
 go_wp2_with fail
 refine (HBA.out _).mono ?_
 rintro e w' ⟨rfl,rfl⟩
 go_wp2_with fail
 refine (HAU.out _).mono ?_
 rintro e x5 ⟨pv,rfl,hq5,hb5⟩
 have hp5:=hq5.pv
 have hfar5:pv= .slice ba bn bc∨FarV w.heap.size pv:= .inr (hq5.far (by have:=HR4.out.lt;omega))
 have hne5: ∀g n c,pv= .slice (some ⟨g,0,none⟩) n c→g≠w.heap.size+1:=fun g n c e=>by
  have h1:=hq5.far (yiU _) g n c e
  have h2:=HR4.out.lt
  omega
 clear hq5
 obtain ⟨sa,sn,sc,rfl⟩:=hp5.shape
 have hR5:=HR4.out.below hb5
 have hB5:=zaC HB4.out hb5
 have hgt:=HR4.out.lt
 have HP5:=yiT (hp5.put (zbS (g:=w.heap.size+1) v (.slice sa sn sc)) (fun g n c e=>hne5 g n c e))
 have HFAR:=yiT hfar5
 unfold zbJ at HP5
 simp only [UZ.ref]
 clear hp5 hb5 hne5 hfar5
 obtain ⟨c0,c1,c2,c3,c4,c5,c6,c7,c8,c9,c10,c11,c12,c13,k0,k1,k2,k3,k4,k5,k6,k7,k8,k9,k10,k11,k12,k13,kf⟩:=hR5.all
 have hEB:=zbC hB5 (show w.heap.size≤w.heap.size+1 by omega) v (.slice sa sn sc)
 have hEC:=zbF hR5 v (.slice sa sn sc) _ rfl
 unfold zbJ at hEB hEC
 have HEB:=yiT hEB
 have HEC:=yiT hEC
 clear hEB hEC
 go_wp2
 obtain ⟨e0,e1,e2,e3,e4,e5,e6,e7,e8,e9,e10,e11,e12,e13⟩:=HEC.out
 refine bodyPost_ret (v:= .tuple #[.agg (v.ref (.slice sa sn sc)),.int .i64 er]) (by simp [results,Tryz.results14,go_sem,e0,e1,e2,e3,e4,e5,e6,e7,e8,e9,e10,e11,e12,e13,UZ.ref]) rfl ?_
 rw [HRES.out]
 exact ⟨_,rfl,HP5.out,HFAR.out,HEB.out⟩
theorem zpG (t:List UInt8) (b:UZ) (ba:Option Addr) (bn bc:Nat) (w:World) (hl:t.length≤1000000) (hbl:b.path.length≤1000000) (hne:b.path≠[]) (hp:PV w (.slice ba bn bc) b.path) (hbig: ¬4096<t.length) (n r:List UInt8) (hsc:schW (zcF (zaV t))=some (n,r)) (h1: ¬n=zdV) (h2:n=zcX) (hs:b.scheme=n) (hL:2≤r.length) (hq: ¬r.take 2=[47,47]):
  Calls Tryz.prog 14 #[.string ⟨t.toArray⟩,.agg (b.ref (.slice ba bn bc)),.bool true] w (RetY w (.slice ba bn bc) (zaQ t (some b))):=by
 have hbg:=hp.at_lt
 obtain ⟨x2,hx2⟩: ∃y,y=(w.alloc (.cells (b.ref (.slice ba bn bc)) 38)).alloc (.cells zaN 38):=⟨_,rfl⟩
 obtain ⟨hu,hr,hbw,hsz⟩:=zcZ zbP hx2
 have hz:=zaA t
 have HB2:=yiT hbw
 have HR2:=yiT hr
 have HU2:=yiT hu
 simp only [UZ.ref,zaN] at hx2
 clear hu hr hbw
 have Ghsc:=yiT hsc
 have Gh1:=yiT h1
 have Gh2:=yiT h2
 have Ghs:=yiT hs
 have GhL:=yiT hL
 have Ghq:=yiT hq
 clear hsc h1 h2 hs hL hq
 have HF:=yiT (show zaQ t (some b)=zeB (zcF (zaV t)) (some b) from if_neg hbig)
 have h4:t.length≤4096:=by omega
 have hcl:=zcW t
 have htl:(zaV t).length≤t.length:=by
  have h2:=zdS t
  have h3:=(List.dropWhile_suffix (l:=t) zcA).length_le
  omega
 have HT:=yiT (fun W=>zcT ⟨t.toArray⟩ W (by rw [zaA];omega))
 rw [zaB] at HT
 have HD:=yiT (fun W=>zcV ⟨(zaV t).toArray⟩ W (by rw [zaA];omega))
 rw [zaB] at HD
 generalize zcF (zaV t)=s at*
 generalize zaV t=t1 at*
 have HSC:=yiT (fun W=>zcD s W (by omega))
 go_enter Tryz.func14,Tryz.ntmps14
 simp only [UZ.ref]
 go_wp2_with fail
 rw [←hx2]
 clear hx2
 refine (HT.out _).mono ?_
 rintro e w' ⟨rfl,rfl⟩
 go_wp2_with fail
 refine (HD.out _).mono ?_
 rintro e x3 ⟨rfl,hb3⟩
 have HB3:=yiT (zaC HB2.out hb3)
 have HR3:=yiT (HR2.out.below hb3)
 have HU3:=yiT (HU2.out.below hb3)
 clear HB2 HR2 HU2 hb3 HT HD
 go_wp2_with fail
 refine (HSC.out _).mono ?_
 rintro e x4 ⟨rfl,hb4⟩
 have HB4:=yiT (zaC HB3.out hb4)
 have HR4:=yiT (HR3.out.below hb4)
 have HU4:=yiT (HU3.out.below hb4)
 clear HB3 HR3 HU3 hb4 HSC
 have hsc:=Ghsc.out
 have h1:=Gh1.out
 have h2:=Gh2.out
 have hs:=Ghs.out
 have hL:=GhL.out
 have hq:=Ghq.out
 clear Ghsc Gh1 Gh2 Ghs GhL Ghq
 rw [hsc]
 have hrl:=zeP hsc
 have e1:(n==[104,116,116,112])=false:=beq_eq_false_iff_ne.2 h1
 have e2:(n==[104,116,116,112,115])=true:=by rw [h2];rfl
 have e5:(b.scheme==n)=true:=by rw [hs];exact beq_self_eq_true _
 have HRES:Hid (zaQ t (some b)=relW b r):=by
  show _=_
  rw [HF.out]
  unfold zeB
  rw [hsc]
  show (if n=zdV∨n=zcX then _ else _)=_
  rw [if_pos (.inr h2)]
  exact if_neg (by rintro (g|g);exact g hs;exact hq g)
 have e6:=(zmZ r).trans (zxZ hL hq)
 simp only [Option.map,Option.getD,Option.isSome]
 have HRL:=yiT (fun W (hW:Below x4.heap.size x4 W)=>zdY b ba bn bc r W (by omega) hbl hne (hp.keep (zaC HB4.out hW)))
 generalize relW b r=rr at*
 obtain ⟨v,er⟩:=rr
 clear HF hsc
 clear h1 h2 hs hq
 obtain ⟨d0,d1,d2,d3,d4,d5,d6,d7,d8,d9,d10,d11,d12,d13,-⟩:=HU4.out.all
 go_wp2_with fail
 refine (HRL.out _ (yiV _ _)).mono ?_
 rintro e x5 ⟨pv,rfl,hp5,hfar,hb5⟩
 have hfar5:pv= .slice ba bn bc∨FarV w.heap.size pv:=hfar.imp id fun h g n c e=>Nat.le_trans HB4.out.size (h g n c e)
 have hne5: ∀g n c,pv= .slice (some ⟨g,0,none⟩) n c→g≠w.heap.size+1:=fun g n c e=>by
  rcases hfar with h|h
  ·have:=hbg g n c (h.symm.trans e)
   omega
  ·have h1:=h g n c e
   have h2:=HR4.out.lt
   omega
 clear hfar d0 d1 d2 d3 d4 d5 d6 d7 d8 d9 d10 d11 d12 d13
 obtain ⟨sa,sn,sc,rfl⟩:=hp5.shape
 have hR5:=HR4.out.below hb5
 have hB5:=zaC HB4.out hb5
 have hgt:=HR4.out.lt
 have HP5:=yiT (hp5.put (zbS (g:=w.heap.size+1) v (.slice sa sn sc)) (fun g n c e=>hne5 g n c e))
 have HFAR:=yiT hfar5
 unfold zbJ at HP5
 simp only [UZ.ref]
 clear hp5 hb5 hne5 hfar5
 obtain ⟨c0,c1,c2,c3,c4,c5,c6,c7,c8,c9,c10,c11,c12,c13,k0,k1,k2,k3,k4,k5,k6,k7,k8,k9,k10,k11,k12,k13,kf⟩:=hR5.all
 have hEB:=zbC hB5 (show w.heap.size≤w.heap.size+1 by omega) v (.slice sa sn sc)
 have hEC:=zbF hR5 v (.slice sa sn sc) _ rfl
 unfold zbJ at hEB hEC
 have HEB:=yiT hEB
 have HEC:=yiT hEC
 clear hEB hEC
 go_wp2
 obtain ⟨e0,e1,e2,e3,e4,e5,e6,e7,e8,e9,e10,e11,e12,e13⟩:=HEC.out
 refine bodyPost_ret (v:= .tuple #[.agg (v.ref (.slice sa sn sc)),.int .i64 er]) (by simp [results,Tryz.results14,go_sem,e0,e1,e2,e3,e4,e5,e6,e7,e8,e9,e10,e11,e12,e13,UZ.ref]) rfl ?_
 rw [HRES.out]
 exact ⟨_,rfl,HP5.out,HFAR.out,HEB.out⟩
theorem zsD (t:List UInt8) (b:UZ) (ba:Option Addr) (bn bc:Nat) (w:World) (hl:t.length≤1000000) (hbl:b.path.length≤1000000) (hne:b.path≠[]) (hp:PV w (.slice ba bn bc) b.path):
  Calls Tryz.prog 14 #[.string ⟨t.toArray⟩,.agg (b.ref (.slice ba bn bc)),.bool true] w (RetY w (.slice ba bn bc) (zaQ t (some b))):=by
 by_cases hbig:4096<t.length
 ·exact z1D t b ba bn bc w hl hbl hne hp hbig
 cases hsc:schW (zcF (zaV t)) with
 |none=>exact z2F t b ba bn bc w hl hbl hne hp hbig hsc
 |some p=>
  obtain ⟨n,r⟩:=p
  by_cases h1:n=zdV
  ·by_cases hs:b.scheme=n
   ·rcases zuR r with ⟨hL,hq⟩|⟨hL,hq⟩|⟨hL,hq⟩
    ·exact zmN t b ba bn bc w hl hbl hne hp hbig n r hsc h1 hs hL hq
    ·exact zpD t b ba bn bc w hl hbl hne hp hbig n r hsc h1 hs hL hq
    ·exact zrZ t b ba bn bc w hl hbl hne hp hbig n r hsc h1 hs hL hq
   ·exact zrN t b ba bn bc w hl hbl hne hp hbig n r hsc h1 hs
  ·by_cases h2:n=zcX
   ·by_cases hs:b.scheme=n
    ·rcases zuR r with ⟨hL,hq⟩|⟨hL,hq⟩|⟨hL,hq⟩
     ·exact zlO t b ba bn bc w hl hbl hne hp hbig n r hsc h1 h2 hs hL hq
     ·exact znZ t b ba bn bc w hl hbl hne hp hbig n r hsc h1 h2 hs hL hq
     ·exact zpG t b ba bn bc w hl hbl hne hp hbig n r hsc h1 h2 hs hL hq
    ·exact zpA t b ba bn bc w hl hbl hne hp hbig n r hsc h1 h2 hs
   ·exact z6T t b ba bn bc w hl hbl hne hp hbig n r hsc h1 h2
def RetZ (w:World) (x:UZ×Int) (e:Ending) (w':World):Prop:= ∃pv,e= .returned (.tuple #[.agg (x.1.ref pv),.int .i64 x.2])∧PV w' pv x.1.path∧Below w.heap.size w w'
theorem VB.put {x:World} {g:Nat} (h:RV x g) (v:UZ) (pv:Value):VB (zbJ x g (.string ⟨v.scheme.toArray⟩) (.string ⟨v.user.toArray⟩) (.string ⟨v.pass.toArray⟩) (.int .i64 (hk v.host)) (.string ⟨(hn v.host).toArray⟩) (.bool (hbit v.host)) (.int .u64 (hhi v.host)) (.int .u64 (hlo v.host)) (.int .i64 v.port) (pv) (.string ⟨v.query.toArray⟩) (.bool v.hasQ) (.string ⟨v.frag.toArray⟩) (.bool v.hasF)) g v pv:=by
 obtain ⟨c0,c1,c2,c3,c4,c5,c6,c7,c8,c9,c10,c11,c12,c13,h⟩:=h
 replace h:=zaF h 0 (.string ⟨v.scheme.toArray⟩)
 simp only [List.setIfInBounds_toArray,List.set_cons_zero] at h
 replace h:=zaF h 1 (.string ⟨v.user.toArray⟩)
 simp only [List.setIfInBounds_toArray,List.set_cons_zero,List.set_cons_succ] at h
 replace h:=zaF h 2 (.string ⟨v.pass.toArray⟩)
 simp only [List.setIfInBounds_toArray,List.set_cons_zero,List.set_cons_succ] at h
 replace h:=zaF h 3 (.int .i64 (hk v.host))
 simp only [List.setIfInBounds_toArray,List.set_cons_zero,List.set_cons_succ] at h
 replace h:=zaF h 4 (.string ⟨(hn v.host).toArray⟩)
 simp only [List.setIfInBounds_toArray,List.set_cons_zero,List.set_cons_succ] at h
 replace h:=zaF h 5 (.bool (hbit v.host))
 simp only [List.setIfInBounds_toArray,List.set_cons_zero,List.set_cons_succ] at h
 replace h:=zaF h 6 (.int .u64 (hhi v.host))
 simp only [List.setIfInBounds_toArray,List.set_cons_zero,List.set_cons_succ] at h
 replace h:=zaF h 7 (.int .u64 (hlo v.host))
 simp only [List.setIfInBounds_toArray,List.set_cons_zero,List.set_cons_succ] at h
 replace h:=zaF h 8 (.int .i64 v.port)
 simp only [List.setIfInBounds_toArray,List.set_cons_zero,List.set_cons_succ] at h
 replace h:=zaF h 9 (pv)
 simp only [List.setIfInBounds_toArray,List.set_cons_zero,List.set_cons_succ] at h
 replace h:=zaF h 10 (.string ⟨v.query.toArray⟩)
 simp only [List.setIfInBounds_toArray,List.set_cons_zero,List.set_cons_succ] at h
 replace h:=zaF h 11 (.bool v.hasQ)
 simp only [List.setIfInBounds_toArray,List.set_cons_zero,List.set_cons_succ] at h
 replace h:=zaF h 12 (.string ⟨v.frag.toArray⟩)
 simp only [List.setIfInBounds_toArray,List.set_cons_zero,List.set_cons_succ] at h
 replace h:=zaF h 13 (.bool v.hasF)
 simp only [List.setIfInBounds_toArray,List.set_cons_zero,List.set_cons_succ] at h
 exact h
theorem RV.only {x y:World} {R g:Nat} (h:RV x R) (ho:Only [g] x y) (hne:R≠g):RV y R:=by
 have hl:=h.lt
 obtain ⟨c0,c1,c2,c3,c4,c5,c6,c7,c8,c9,c10,c11,c12,c13,h⟩:=h
 exact ⟨_,_,_,_,_,_,_,_,_,_,_,_,_,_,(ho.block R hl (by simpa using hne)).trans h⟩
def RowS (w:World) (ma:Option Addr) (more:List (List UInt8)):Prop:= ∀x,Below w.heap.size w x→ ∀j,j<more.length→ ∃ad,ma=some ad∧ad.block<w.heap.size∧x.cell? (ad.add j)=some (.string ⟨(more.getD j []).toArray⟩)
theorem znX (a:Addr) (n:Nat):(a.add n).block=a.block:=by unfold Addr.add;split<;>rfl
theorem z4O {x y:World} {g:Nat} {a:Addr} (ho:Only [g] x y) (hlt:a.block<x.heap.size) (hne:a.block≠g):y.cell? a=x.cell? a:=World.cell?_of_block (ho.block _ hlt (by rw [List.mem_singleton];exact hne))
theorem ztN (t:List UInt8) (ma:Option Addr) (mc:Nat) (more:List (List UInt8)) (w:World) (hl:t.length≤1000000) (hm:RowS w ma more) (hmn:more.length≤100) (hml: ∀x∈more,x.length≤1000000):
  Calls Tryz.prog 7 #[.string ⟨t.toArray⟩,.slice ma more.length mc] w (RetZ w (zeD (zaQ t none) more)):=by
 obtain ⟨N,hN⟩: ∃N,more.length=N:=⟨_,rfl⟩
 have hcells: ∀x,Below w.heap.size w x→ ∀j,j<N→ ∃ad,ma=some ad∧ad.block<w.heap.size∧x.cell? (ad.add j)=some (.string ⟨(more.getD j []).toArray⟩):=by rw [←hN];exact hm
 rw [hN]
 have HCELL:=yiT hcells
 have HML:Hid (∀k,k<N→(more.getD k []).length≤1000000):=fun k hk=>by
  have hkl:k<more.length:=by omega
  simp only [List.getD,List.getElem?_eq_getElem hkl,Option.getD_some]
  exact hml _ (List.getElem_mem hkl)
 have HN:=yiT hN
 obtain ⟨x0,hx0⟩: ∃y,y=w.alloc (.cells zaN 38):=⟨_,rfl⟩
 have hb0:Below w.heap.size w x0:=by rw [hx0];exact zcC w _
 have HR0:Hid (RV x0 w.heap.size):=by show RV _ _;rw [hx0];exact (VB.new w zbX (.slice none 0 0)).rv
 have HA:Hid (Calls Tryz.prog 14 #[.string ⟨t.toArray⟩,.agg #[.string ⟨#[]⟩,.string ⟨#[]⟩,.string ⟨#[]⟩,.int .i64 0,.string ⟨#[]⟩,.bool false,.int .u64 0,.int .u64 0,.int .i64 0,.slice none 0 0,.string ⟨#[]⟩,.bool false,.string ⟨#[]⟩,.bool false],.bool false] x0 (RetX x0 (zaQ t none))):=zvY t x0 hl
 have HB0:=yiT hb0
 have HLEN:=zfQ t none 0 (fun u e=>by cases e)
 have HOK:=zkS t none (fun u e=>by cases e)
 obtain ⟨res,hres⟩: ∃r,zeD (zaQ t none) more=r:=⟨_,rfl⟩
 have hcs:zeD (zaQ t none) (more.drop 0)=res:=hres
 rw [hres]
 unfold zaN at hx0
 clear hb0 hm hml hcells hres
 generalize zaQ t none=c0 at*
 obtain ⟨v,er0⟩:=c0
 simp only at HLEN HOK
 go_enter Tryz.func7,Tryz.ntmps7
 go_wp2_with fail
 rw [←hx0]
 clear hx0
 refine HA.out.mono ?_
 rintro e x1 ⟨pv,rfl,hp1,hb1⟩
 have HB1:=yiT (zaC HB0.out hb1)
 have HR1:=yiT (HR0.out.below hb1)
 have hRx0:=HR0.out.lt
 have hx01:=hb1.size
 obtain ⟨sa,sn,sc,rfl⟩:=hp1.pv.shape
 obtain ⟨x2,hx2⟩: ∃y,y=x1.alloc (.cells (v.ref (.slice sa sn sc)) 38):=⟨_,rfl⟩
 have hb2:Below x1.heap.size x1 x2:=by rw [hx2];exact zcC x1 _
 have HU2:Hid (VB x2 x1.heap.size v (.slice sa sn sc)):=by show VB _ _ _ _;rw [hx2];exact VB.new x1 v _
 have HB2:=yiT (zaC HB1.out hb2)
 have HR2:=yiT (HR1.out.below hb2)
 have HP2:Hid (PV x2 (.slice sa sn sc) v.path):=hp1.pv.keep hb2
 have HF2:Hid (∀g n c,Value.slice sa sn sc= .slice (some ⟨g,0,none⟩) n c→g≠w.heap.size∧g≠x1.heap.size):=fun g n c e=>by
  have h1:=hp1.far (yiU _) g n c e
  have h2:=hp1.pv.at_lt g n c e
  omega
 obtain ⟨G,hG⟩: ∃G,G=x1.heap.size:=⟨_,rfl⟩
 have hGw:w.heap.size<G:=by omega
 rw [←hG] at HU2 HF2
 clear hb1 hb2 hp1 HB0 HR0 HB1 HR1 HA
 simp only [UZ.ref] at hx2 ⊢
 go_wp2_with fail
 rw [←hx2,←hG]
 clear hx2
 clear hG
 go_loopw [7,8] (fun ev i wr=> ∃(k:Nat) (u:UZ) (er:Int) (ua:Option Addr) (un uc:Nat),k≤N∧i= .int .i64 k∧ev= .int .i64 er∧Hid (VB wr G u (.slice ua un uc))∧Hid (PV wr (.slice ua un uc) u.path)∧Hid (∀g n c,Value.slice ua un uc= .slice (some ⟨g,0,none⟩) n c→g≠w.heap.size∧g≠G)∧Hid (RV wr w.heap.size)∧Hid (Below w.heap.size w wr)∧Hid (zeD (u,er) (more.drop k)=res)∧Hid (er=0→ziI u)∧u.path.length≤4098*(k+1)) (fun ev i wr=>N+1 - (intOf i).toNat)
 case atStart=>exact ⟨0,v,er0,sa,sn,sc,Nat.zero_le _,rfl,rfl,HU2,HP2,HF2,HR2,HB2,hcs,HOK,by omega⟩
 case round=>
  obtain ⟨k,u,er,ua,un,uc,hkN,rfl,rfl,HUB,HPW,HFW,HRB,HBW,HCS,HIS,hpl⟩:=hrel
  clear HU2 HP2 HF2 HR2 HB2 hcs HOK HLEN
  by_cases hlt:k<N
  ·obtain ⟨ad,rfl,hmg,hcell⟩:=HCELL.out _ HBW.out k hlt
   by_cases h0:er=0
   ·subst h0
    have his:=HIS.out rfl
    obtain ⟨m,hmm⟩: ∃m,more.getD k []=m:=⟨_,rfl⟩
    have hmll:=HML.out k hlt
    have HCS2:=yiT ((zvZ (u:=u) (by rw [HN.out];exact hlt)).symm.trans HCS.out)
    rw [hmm] at hcell hmll HCS2
    clear hmm HCS
    have hgl:G<wr.heap.size:=zaO HUB.out
    have HCC:Hid (wr.cell? (ad.add k)=some (.string ⟨m.toArray⟩)):=hcell
    have hmgl:(ad.add k).block<wr.heap.size:=World.block_lt_of_cell? wr _ hcell
    have hmgG:(ad.add k).block≠G:=by rw [znX];omega
    have HKK:Hid (∀x,Below wr.heap.size wr x→x.cell? (ad.add k)=some (.string ⟨m.toArray⟩)):=fun x hb=>(hb.cell (p:=ad.add k) hmgl).trans HCC.out
    obtain ⟨d0,d1,d2,d3,d4,d5,d6,d7,d8,d9,d10,d11,d12,d13,-⟩:=HUB.out.all
    have HDD:=yiT (HUB.out.below (zbB wr)).all
    have HPC:Hid (∀W,Below wr.heap.size wr W→Calls Tryz.prog 14 #[.string ⟨m.toArray⟩,.agg #[.string ⟨u.scheme.toArray⟩,.string ⟨u.user.toArray⟩,.string ⟨u.pass.toArray⟩,.int .i64 (hk u.host),.string ⟨(hn u.host).toArray⟩,.bool (hbit u.host),.int .u64 (hhi u.host),.int .u64 (hlo u.host),.int .i64 u.port,.slice ua un uc,.string ⟨u.query.toArray⟩,.bool u.hasQ,.string ⟨u.frag.toArray⟩,.bool u.hasF],.bool true] W fun e w'=> ∃pv,e= .returned (.tuple #[.agg ((zaQ m (some u)).1.ref pv),.int .i64 (zaQ m (some u)).2])∧PV w' pv (zaQ m (some u)).1.path∧(pv= .slice ua un uc∨FarV wr.heap.size pv)∧Below wr.heap.size wr w'):=fun W hW=>(zsD m u ua un uc W hmll (by omega) his.some (HPW.out.keep hW)).mono (fun e w' ⟨pv,h1,h2,h3,h4⟩=>⟨pv,h1,h2,h3.imp id (fun h g n c e=>Nat.le_trans hW.size (h g n c e)),zaC hW h4⟩)
    have hlen2:=zfQ m (some u) (4098*(k+1)) (fun q e=>by rw [←Option.some.inj e];exact hpl)
    have hok2:=zkS m (some u) (fun q e=>by rw [←Option.some.inj e];exact his)
    generalize zaQ m (some u)=c1 at*
    obtain ⟨v2,er2⟩:=c1
    simp only at hlen2 hok2
    clear his HIS hpl hmll hcell HCC
    go_wp2_with fail
    refine wp_region_held_drew (S:=fun W=>W.cell? (ad.add k)=some (.string ⟨m.toArray⟩)) (by kernel_rfl) ?_ (fun hHeld=> ?_)
    ·exact (HKK.out _ (zbB _))
    refine tkd 0 (some 26) (v:= ?_) rfl (.inl ⟨by rfl,?_⟩) hHeld ?_;rotate_left;·intro w hSw;(try dsimp only at hSw);go_simp;try with_reducible rfl
    try simp only [Act.put,tkda,tkdb,tkdc]
    refine tkd 1 (some 27) (v:= ?_) rfl (.inl ⟨by rfl,?_⟩) hHeld ?_;rotate_left;·intro w hSw;(try dsimp only at hSw);go_simp;try with_reducible rfl
    try simp only [Act.put,tkda,tkdb,tkdc]
    refine tkd 2 (some 28) (v:= ?_) rfl (.inl ⟨by rfl,?_⟩) hHeld ?_;rotate_left;·intro w hSw;(try dsimp only at hSw);go_simp;try with_reducible rfl
    try simp only [Act.put,tkda,tkdb,tkdc]
    refine tkd 3 (some 29) (v:= ?_) rfl (.inl ⟨by rfl,?_⟩) hHeld ?_;rotate_left;·intro w hSw;(try dsimp only at hSw);go_simp;try with_reducible rfl
    try simp only [Act.put,tkda,tkdb,tkdc]
    refine wpAnyH_ready (rs:=[4]) (by kernel_rfl) (by simp) ?_
    refine AllReadyH.cons (o:=⟨some 30,_,_,_,_,_⟩) rfl (fun K hK=> ?_) AllReadyH.nil
    go_simp
    refine hK.out _ _ ?_ (fun hHeld1=> ?_)
    ·exact (HKK.out _ (zbB _))
    clear hK K
    try simp only [Act.put,tkda,tkdb,tkdc]
    refine wpAnyH_ready (rs:=[5]) (by kernel_rfl) (by simp) ?_
    refine AllReadyH.cons (o:=⟨some 31,_,_,_,_,_⟩) rfl (fun K hK=> ?_) AllReadyH.nil
    go_simp
    go_at_call 14
    refine (HPC.out _ (zbB _)).mono ?_
    rintro e x9 ⟨pv,rfl,hp9,hf9,hb9⟩
    obtain ⟨va,vn,vc,rfl⟩:=hp9.shape
    obtain ⟨c0,c1,c2,c3,c4,c5,c6,c7,c8,c9,c10,c11,c12,c13,k0,k1,k2,k3,k4,k5,k6,k7,k8,k9,k10,k11,k12,k13,kf⟩:=(HUB.out.below hb9).rv.all
    simp only [UZ.ref]
    (try go_wp2_with fail)
    refine hK.out _ _ ?_ (fun hHeld2=> ?_)
    ·exact (HKK.out _ hb9)
    clear hK K
    try simp only [Act.put,tkda,tkdb,tkdc]
    refine tkd 6 (some 25) (v:= ?_) rfl (.inl ⟨by rfl,?_⟩) hHeld2 ?_;rotate_left;·intro w hSw;(try dsimp only at hSw);go_simp;try with_reducible rfl
    try simp only [Act.put,tkda,tkdb,tkdc]
    refine tkd 7 (some 32) (v:= ?_) rfl (.inl ⟨by rfl,?_⟩) hHeld2 ?_;rotate_left;·intro w hSw;(try dsimp only at hSw);go_simp;try with_reducible rfl
    try simp only [Act.put,tkda,tkdb,tkdc]
    refine tkd 8 (some 33) (v:= ?_) rfl (.inl ⟨by rfl,?_⟩) hHeld2 ?_;rotate_left;·intro w hSw;(try dsimp only at hSw);go_simp;try with_reducible rfl
    try simp only [Act.put,tkda,tkdb,tkdc]
    refine wpAnyH_ready (rs:=[9]) (by kernel_rfl) (by simp) ?_
    refine AllReadyH.cons (o:=⟨none,_,_,_,_,_⟩) rfl (fun K hK=> ?_) AllReadyH.nil
    go_simp
    refine hK.out _ _ ?_ (fun hHeld3=> ?_)
    ·exact ((z4O (zbS (x:=x9) (g:=G) v2 (.slice va vn vc)) (Nat.lt_of_lt_of_le hmgl hb9.size) hmgG).trans (HKK.out _ hb9))
    clear hK K
    try simp only [Act.put,tkda,tkdb,tkdc]
    refine tkd 10 (some 7) (v:= ?_) rfl (.inl ⟨by rfl,?_⟩) hHeld3 ?_;rotate_left;·intro w hSw;(try dsimp only at hSw);go_simp;try with_reducible rfl
    try simp only [Act.put,tkda,tkdb,tkdc]
    refine wpAnyH_done (by kernel_rfl) ?_ _
    have HV2:=yiT (VB.put (HUB.out.below hb9).rv v2 (.slice va vn vc))
    have HO2:=yiT (zbS (x:=x9) (g:=G) v2 (.slice va vn vc))
    have HF9:Hid (∀g n c,Value.slice va vn vc= .slice (some ⟨g,0,none⟩) n c→g≠w.heap.size∧g≠G):=fun g n c e=>by
     rcases hf9 with h|h
     ·exact HFW.out g n c (h.symm.trans e)
     ·have:=h g n c e
      omega
    have HP9:=yiT (hp9.put HO2.out (fun g n c e=>(HF9.out g n c e).2))
    have HR9:=yiT ((HRB.out.below hb9).only HO2.out (by omega))
    have HB9:=yiT (zbC (zaC HBW.out hb9) (show w.heap.size≤G by omega) v2 (.slice va vn vc))
    unfold zbJ at HV2 HP9 HR9 HB9
    clear HO2 hf9 hp9 hb9 HKK HPC HUB HPW HFW HRB HBW HDD d0 d1 d2 d3 d4 d5 d6 d7 d8 d9 d10 d11 d12 d13 c0 c1 c2 c3 c4 c5 c6 c7 c8 c9 c10 c11 c12 c13 k0 k1 k2 k3 k4 k5 k6 k7 k8 k9 k10 k11 k12 k13 kf
    go_wp2
    go_roundw
    case rel=>exact ⟨k+1,v2,er2,va,vn,vc,by omega,by go_num,rfl,HV2,HP9,HF9,HR9,HB9,HCS2,hok2,by omega⟩
    case measure=>simp [intOf];omega
   ·have hd0:(er==(0:Int))=false:=beq_eq_false_iff_ne.2 h0
    have HF:Hid (res=(u,er)):=HCS.out.symm.trans (zpK h0 _)
    clear h0 HCS HIS
    obtain ⟨c0,c1,c2,c3,c4,c5,c6,c7,c8,c9,c10,c11,c12,c13,k0,k1,k2,k3,k4,k5,k6,k7,k8,k9,k10,k11,k12,k13,kf⟩:=HRB.out.all
    have hEB:=zbC HBW.out (yiU _) u (.slice ua un uc)
    have hEC:=zbF HRB.out u (.slice ua un uc) _ rfl
    have hEP:=HPW.out.put (zbS (g:=w.heap.size) u (.slice ua un uc)) (fun g n c e=>(HFW.out g n c e).1)
    unfold zbJ at hEB hEC hEP
    have HEB:=yiT hEB
    have HEC:=yiT hEC
    have HEP:=yiT hEP
    clear hEB hEC hEP
    obtain ⟨d0,d1,d2,d3,d4,d5,d6,d7,d8,d9,d10,d11,d12,d13,-⟩:=HUB.out.all
    clear HPW HFW HRB HBW HUB
    go_wp2
    obtain ⟨e0,e1,e2,e3,e4,e5,e6,e7,e8,e9,e10,e11,e12,e13⟩:=HEC.out
    refine bodyPost_ret (v:= .tuple #[.agg (u.ref (.slice ua un uc)),.int .i64 er]) (by simp [results,Tryz.results7,go_sem,e0,e1,e2,e3,e4,e5,e6,e7,e8,e9,e10,e11,e12,e13,UZ.ref]) rfl ?_
    rw [HF.out]
    exact ⟨_,rfl,HEP.out,HEB.out⟩
  ·have HF:Hid (res=(u,er)):=by
    show _=_
    rw [←HCS.out,List.drop_eq_nil_of_le (by rw [HN.out];omega)]
    rfl
   clear HCS HIS
   by_cases h0:er=0
   ·subst h0
    obtain ⟨c0,c1,c2,c3,c4,c5,c6,c7,c8,c9,c10,c11,c12,c13,k0,k1,k2,k3,k4,k5,k6,k7,k8,k9,k10,k11,k12,k13,kf⟩:=HRB.out.all
    have hEB:=zbC HBW.out (yiU _) u (.slice ua un uc)
    have hEC:=zbF HRB.out u (.slice ua un uc) _ rfl
    have hEP:=HPW.out.put (zbS (g:=w.heap.size) u (.slice ua un uc)) (fun g n c e=>(HFW.out g n c e).1)
    unfold zbJ at hEB hEC hEP
    have HEB:=yiT hEB
    have HEC:=yiT hEC
    have HEP:=yiT hEP
    clear hEB hEC hEP
    obtain ⟨d0,d1,d2,d3,d4,d5,d6,d7,d8,d9,d10,d11,d12,d13,-⟩:=HUB.out.all
    clear HPW HFW HRB HBW HUB
    go_wp2
    obtain ⟨e0,e1,e2,e3,e4,e5,e6,e7,e8,e9,e10,e11,e12,e13⟩:=HEC.out
    refine bodyPost_ret (v:= .tuple #[.agg (u.ref (.slice ua un uc)),.int .i64 0]) (by simp [results,Tryz.results7,go_sem,e0,e1,e2,e3,e4,e5,e6,e7,e8,e9,e10,e11,e12,e13,UZ.ref]) rfl ?_
    rw [HF.out]
    exact ⟨_,rfl,HEP.out,HEB.out⟩
   ·have hd0:(er==(0:Int))=false:=beq_eq_false_iff_ne.2 h0
    clear h0
    obtain ⟨c0,c1,c2,c3,c4,c5,c6,c7,c8,c9,c10,c11,c12,c13,k0,k1,k2,k3,k4,k5,k6,k7,k8,k9,k10,k11,k12,k13,kf⟩:=HRB.out.all
    have hEB:=zbC HBW.out (yiU _) u (.slice ua un uc)
    have hEC:=zbF HRB.out u (.slice ua un uc) _ rfl
    have hEP:=HPW.out.put (zbS (g:=w.heap.size) u (.slice ua un uc)) (fun g n c e=>(HFW.out g n c e).1)
    unfold zbJ at hEB hEC hEP
    have HEB:=yiT hEB
    have HEC:=yiT hEC
    have HEP:=yiT hEP
    clear hEB hEC hEP
    obtain ⟨d0,d1,d2,d3,d4,d5,d6,d7,d8,d9,d10,d11,d12,d13,-⟩:=HUB.out.all
    clear HPW HFW HRB HBW HUB
    go_wp2
    obtain ⟨e0,e1,e2,e3,e4,e5,e6,e7,e8,e9,e10,e11,e12,e13⟩:=HEC.out
    refine bodyPost_ret (v:= .tuple #[.agg (u.ref (.slice ua un uc)),.int .i64 er]) (by simp [results,Tryz.results7,go_sem,e0,e1,e2,e3,e4,e5,e6,e7,e8,e9,e10,e11,e12,e13,UZ.ref]) rfl ?_
    rw [HF.out]
    exact ⟨_,rfl,HEP.out,HEB.out⟩
theorem z2O (t:List UInt8) (ma:Option Addr) (mc:Nat) (more:List (List UInt8)) (w:World) (hmax:MaxVar w) (hl:t.length≤1000000) (hm:RowS w ma more) (hn:more.length≤100) (hml: ∀x∈more,x.length≤1000000) (hrel: ∀x∈more,ybI x):
  Calls Tryz.prog 6 #[.string ⟨t.toArray⟩,.slice ma more.length mc] w (RetP w (zeD (zaQ t none) more)):=by
 obtain ⟨N,hN⟩: ∃N,more.length=N:=⟨_,rfl⟩
 have hcells: ∀x,Below w.heap.size w x→ ∀j,j<N→ ∃ad,ma=some ad∧ad.block<w.heap.size∧x.cell? (ad.add j)=some (.string ⟨(more.getD j []).toArray⟩):=by rw [←hN];exact hm
 rw [hN]
 have HCELL:=yiT hcells
 have HML:Hid (∀k,k<N→(more.getD k []).length≤1000000):=fun k hk=>by
  have hkl:k<more.length:=by omega
  simp only [List.getD,List.getElem?_eq_getElem hkl,Option.getD_some]
  exact hml _ (List.getElem_mem hkl)
 have HREL:Hid (∀k,k<N→ybI (more.getD k [])):=fun k hk=>by
  have hkl:k<more.length:=by omega
  simp only [List.getD,List.getElem?_eq_getElem hkl,Option.getD_some]
  exact hrel _ (List.getElem_mem hkl)
 have HN:=yiT hN
 obtain ⟨x0,hx0⟩: ∃y,y=w.alloc (.cells zbH 28):=⟨_,rfl⟩
 have hb0:Below w.heap.size w x0:=by rw [hx0];exact zbQ w _
 have HR0:Hid (RB x0 w.heap.size):=by show RB _ _;rw [hx0];exact RB.new w
 have HX:=yiT (fun x (h:Below w.heap.size w x)=>zaG hmax h)
 have HA:=yiT (z4V t x0 (zaG hmax hb0) hl)
 have HB0:=yiT hb0
 have HLEN:=zfQ t none 0 (fun u e=>by cases e)
 have HOK:=zkS t none (fun u e=>by cases e)
 obtain ⟨res,hres⟩: ∃r,zeD (zaQ t none) more=r:=⟨_,rfl⟩
 have hcs:zeD (zaQ t none) (more.drop 0)=res:=hres
 rw [hres]
 unfold zbH at hx0
 clear hmax hb0 hm hml hcells hres hrel
 generalize zaQ t none=c0 at*
 obtain ⟨v,er0⟩:=c0
 simp only at HLEN HOK
 go_enter Tryz.func6,Tryz.ntmps6
 go_wp2_with fail
 rw [←hx0]
 clear hx0
 refine HA.out.mono ?_
 rintro e x1 ⟨pv,rfl,hp1,hb1⟩
 have HB1:=yiT (zaC HB0.out hb1)
 have HR1:=yiT (HR0.out.below hb1)
 have hRx0:=HR0.out.lt
 have hx01:=hb1.size
 obtain ⟨sa,sn,sc,rfl⟩:=hp1.pv.shape
 obtain ⟨x2,hx2⟩: ∃y,y=x1.alloc (.cells (v.cells (.slice sa sn sc)) 28):=⟨_,rfl⟩
 have hb2:Below x1.heap.size x1 x2:=by rw [hx2];exact zbQ x1 _
 have HU2:Hid (UB x2 x1.heap.size v (.slice sa sn sc)):=by show UB _ _ _ _;rw [hx2];exact UB.new x1 v _
 have HB2:=yiT (zaC HB1.out hb2)
 have HR2:=yiT (HR1.out.below hb2)
 have HP2:Hid (zaM (w.heap.size+1) x2 (.slice sa sn sc) v.path):=zbU (hp1.below hb2) (by omega)
 obtain ⟨G,hG⟩: ∃G,G=x1.heap.size:=⟨_,rfl⟩
 have hGw:w.heap.size<G:=by omega
 rw [←hG] at HU2
 clear hb1 hb2 hp1 HB0 HR0 HB1 HR1 HA
 simp only [UZ.cells] at hx2 ⊢
 have hsh: ∃hv,v.host.val=hv∧(hv= .nilIface∨ ∃it iv,hv= .iface it iv):=by
  rcases v.host.shape with h|⟨it,iv,h⟩
  ·exact ⟨_,h,.inl rfl⟩
  ·exact ⟨_,h,.inr ⟨it,iv,rfl⟩⟩
 obtain ⟨hv,hvv,hvs⟩:=hsh
 rw [hvv] at hx2 ⊢
 clear hvv
 rcases hvs with rfl|⟨it,iv,rfl⟩
 all_goals
  go_wp2_with fail
  rw [←hx2,←hG]
  clear hx2
  clear hG
  go_loopw [7,18] (fun ev i wr=> ∃(k:Nat) (u:UZ) (er:Int) (ua:Option Addr) (un uc:Nat),k≤N∧i= .int .i64 k∧ev= .int .i64 er∧Hid (UB wr G u (.slice ua un uc))∧Hid (zaM (w.heap.size+1) wr (.slice ua un uc) u.path)∧Hid (RB wr w.heap.size)∧Hid (Below w.heap.size w wr)∧Hid (zeD (u,er) (more.drop k)=res)∧Hid (er=0→ziI u)∧u.path.length≤4098*(k+1)) (fun _ i _=>N - (intOf i).toNat)
  case atStart=>exact ⟨0,v,er0,sa,sn,sc,Nat.zero_le _,rfl,rfl,HU2,HP2,HR2,HB2,hcs,HOK,by omega⟩
  case round=>
   obtain ⟨k,u,er,ua,un,uc,hk,rfl,rfl,HUB,HPW,HRB,HBW,HCS,HIS,hpl⟩:=hrel
   clear HU2 HP2 HR2 HB2 hcs HOK HLEN
   by_cases hlt:k<N
   ·obtain ⟨ad,rfl,hmg,hcell⟩:=HCELL.out _ HBW.out k hlt
    by_cases h0:er=0
    ·subst h0
     have his:=HIS.out rfl
     obtain ⟨jt,jv,hjv⟩:=HZ.iface his.host.ne
     obtain ⟨m,hmm⟩: ∃m,more.getD k []=m:=⟨_,rfl⟩
     have hmll:=HML.out k hlt
     have hrl:=HREL.out k hlt
     have HCS2:=yiT ((zvZ (u:=u) (by rw [HN.out];exact hlt)).symm.trans HCS.out)
     rw [hmm] at hcell hmll HCS2 hrl
     clear hmm HCS
     obtain ⟨d0,d1,d2,d3,d4,d5,d6,d7,d8,d9,-⟩:=HUB.out.all
     rw [hjv] at d3
     have hgl:G<wr.heap.size:=zaO HUB.out
     obtain ⟨x3,hx3⟩: ∃y,y=wr.alloc (.cells (u.cells (.slice ua un uc)) 28):=⟨_,rfl⟩
     have hb3:Below wr.heap.size wr x3:=by rw [hx3];exact zbQ wr _
     have hU3:UB x3 wr.heap.size u (.slice ua un uc):=by rw [hx3];exact UB.new wr u _
     have HB3:=yiT (zaC HBW.out hb3)
     have HPC:=yiT (ztU m wr.heap.size u (.slice ua un uc) x3 (HX.out _ HB3.out) hmll his.sch his.host.ne (by omega) hU3 (HPW.out.below hb3).pv hrl)
     have HR3:=yiT (HRB.out.below hb3)
     have HG3:=yiT (HUB.out.rb.below hb3)
     have hlen2:=zfQ m (some u) (4098*(k+1)) (fun q e=>by rw [←Option.some.inj e];exact hpl)
     have hok2:=zkS m (some u) (fun q e=>by rw [←Option.some.inj e];exact his)
     have hx3s:G<x3.heap.size:=Nat.lt_of_lt_of_le hgl hb3.size
     simp only [UZ.cells] at hx3
     rw [hjv] at hx3
     generalize zaQ m (some u)=c1 at*
     obtain ⟨v2,er2⟩:=c1
     simp only at hlen2 hok2
     clear his hjv hb3 hU3 HUB HPW HRB HBW HIS hpl hmll hrl
     go_wp2_with fail
     rw [←hx3]
     clear hx3 d0 d1 d2 d3 d4 d5 d6 d7 d8 d9 hcell
     refine HPC.out.mono ?_
     rintro e x4 ⟨pv2,rfl,hp4,hb4⟩
     obtain ⟨va,vn,vc,rfl⟩:=hp4.pv.shape
     have HB4:=yiT (zaC HB3.out hb4)
     have HR4:=yiT (HR3.out.below hb4)
     have HG4:=yiT (HG3.out.below hb4)
     have HP4:=yiT hp4
     clear hb4 hp4 HB3 HR3 HG3 HPC
     simp only [UZ.cells]
     obtain ⟨b0,b1,b2,b3,b4,b5,b6,b7,b8,b9,hrow⟩:=HG4.out
     obtain ⟨k0,k1,k2,k3,k4,k5,k6,k7,k8,k9,kf⟩:=zaP hrow
     clear hrow
     rcases v2.host.shape with hv|⟨lt,lv,hv⟩
     ·have HE:=yiT (zoP HB4.out HR4.out HG4.out hGw HP4.out hx3s _ hv)
      rw [hv]
      clear hv
      go_wp2
      go_roundw
      case rel=>exact ⟨k+1,v2,er2,va,vn,vc,by omega,by go_num,rfl,HE.out.1,HE.out.2.2.1,HE.out.2.1,HE.out.2.2.2,HCS2.out,hok2,by omega⟩
      case measure=>simp [intOf];omega
     ·have HE:=yiT (zoP HB4.out HR4.out HG4.out hGw HP4.out hx3s _ hv)
      rw [hv]
      clear hv
      go_wp2
      go_roundw
      case rel=>exact ⟨k+1,v2,er2,va,vn,vc,by omega,by go_num,rfl,HE.out.1,HE.out.2.2.1,HE.out.2.1,HE.out.2.2.2,HCS2.out,hok2,by omega⟩
      case measure=>simp [intOf];omega
    ·have hd0:(er !=(0:Int))=true:=by rw [bne_iff_ne];exact h0
     have HF:Hid (res=(u,er)):=HCS.out.symm.trans (zpK h0 _)
     clear h0 HCS HIS
     obtain ⟨c0,c1,c2,c3,c4,c5,c6,c7,c8,c9,hrow⟩:=HRB.out
     have HRW:=yiT hrow
     obtain ⟨k0,k1,k2,k3,k4,k5,k6,k7,k8,k9,kf⟩:=zaP hrow
     clear hrow HRB
     obtain ⟨d0,d1,d2,d3,d4,d5,d6,d7,d8,d9,-⟩:=HUB.out.all
     rcases u.host.shape with hv|⟨it,iv,hv⟩
     ·have HVH:=yiT hv
      rw [hv] at d3
      clear hv
      have HEND:=yiT (zeG HRW.out (.string ⟨u.scheme.toArray⟩) (.string ⟨u.user.toArray⟩) (.string ⟨u.pass.toArray⟩) .nilIface (.int .i64 u.port) (.slice ua un uc) (.string ⟨u.query.toArray⟩) (.bool u.hasQ) (.string ⟨u.frag.toArray⟩) (.bool u.hasF))
      have HEB:=yiT (zcI HBW.out HPW.out (Nat.lt_succ_self _) (.string ⟨u.scheme.toArray⟩) (.string ⟨u.user.toArray⟩) (.string ⟨u.pass.toArray⟩) .nilIface (.int .i64 u.port) (.slice ua un uc) (.string ⟨u.query.toArray⟩) (.bool u.hasQ) (.string ⟨u.frag.toArray⟩) (.bool u.hasF))
      go_wp2
      obtain ⟨e0,e1,e2,e3,e4,e5,e6,e7,e8,e9,-⟩:=zaP HEND.out
      refine bodyPost_ret (v:= .tuple #[.agg #[.string ⟨u.scheme.toArray⟩,.string ⟨u.user.toArray⟩,.string ⟨u.pass.toArray⟩,.nilIface,.int .i64 u.port,.slice ua un uc,.string ⟨u.query.toArray⟩,.bool u.hasQ,.string ⟨u.frag.toArray⟩,.bool u.hasF],.int .i64 er]) (by simp [results,Tryz.results6,go_sem,e0,e1,e2,e3,e4,e5,e6,e7,e8,e9]) rfl ?_
      rw [HF.out]
      exact ⟨_,by rw [←HVH.out];rfl,HEB.out⟩
     ·have HVH:=yiT hv
      rw [hv] at d3
      clear hv
      have HEND:=yiT (zeG HRW.out (.string ⟨u.scheme.toArray⟩) (.string ⟨u.user.toArray⟩) (.string ⟨u.pass.toArray⟩) (.iface it iv) (.int .i64 u.port) (.slice ua un uc) (.string ⟨u.query.toArray⟩) (.bool u.hasQ) (.string ⟨u.frag.toArray⟩) (.bool u.hasF))
      have HEB:=yiT (zcI HBW.out HPW.out (Nat.lt_succ_self _) (.string ⟨u.scheme.toArray⟩) (.string ⟨u.user.toArray⟩) (.string ⟨u.pass.toArray⟩) (.iface it iv) (.int .i64 u.port) (.slice ua un uc) (.string ⟨u.query.toArray⟩) (.bool u.hasQ) (.string ⟨u.frag.toArray⟩) (.bool u.hasF))
      go_wp2
      obtain ⟨e0,e1,e2,e3,e4,e5,e6,e7,e8,e9,-⟩:=zaP HEND.out
      refine bodyPost_ret (v:= .tuple #[.agg #[.string ⟨u.scheme.toArray⟩,.string ⟨u.user.toArray⟩,.string ⟨u.pass.toArray⟩,(.iface it iv),.int .i64 u.port,.slice ua un uc,.string ⟨u.query.toArray⟩,.bool u.hasQ,.string ⟨u.frag.toArray⟩,.bool u.hasF],.int .i64 er]) (by simp [results,Tryz.results6,go_sem,e0,e1,e2,e3,e4,e5,e6,e7,e8,e9]) rfl ?_
      rw [HF.out]
      exact ⟨_,by rw [←HVH.out];rfl,HEB.out⟩
   ·have HF:Hid (res=(u,er)):=by
     show _=_
     rw [←HCS.out,List.drop_eq_nil_of_le (by rw [HN.out];omega)]
     rfl
    clear HCS HIS
    obtain ⟨c0,c1,c2,c3,c4,c5,c6,c7,c8,c9,hrow⟩:=HRB.out
    have HRW:=yiT hrow
    obtain ⟨k0,k1,k2,k3,k4,k5,k6,k7,k8,k9,kf⟩:=zaP hrow
    clear hrow HRB
    obtain ⟨d0,d1,d2,d3,d4,d5,d6,d7,d8,d9,-⟩:=HUB.out.all
    rcases u.host.shape with hv|⟨it,iv,hv⟩
    ·have HVH:=yiT hv
     rw [hv] at d3
     clear hv
     have HEND:=yiT (zeG HRW.out (.string ⟨u.scheme.toArray⟩) (.string ⟨u.user.toArray⟩) (.string ⟨u.pass.toArray⟩) .nilIface (.int .i64 u.port) (.slice ua un uc) (.string ⟨u.query.toArray⟩) (.bool u.hasQ) (.string ⟨u.frag.toArray⟩) (.bool u.hasF))
     have HEB:=yiT (zcI HBW.out HPW.out (Nat.lt_succ_self _) (.string ⟨u.scheme.toArray⟩) (.string ⟨u.user.toArray⟩) (.string ⟨u.pass.toArray⟩) .nilIface (.int .i64 u.port) (.slice ua un uc) (.string ⟨u.query.toArray⟩) (.bool u.hasQ) (.string ⟨u.frag.toArray⟩) (.bool u.hasF))
     go_wp2
     obtain ⟨e0,e1,e2,e3,e4,e5,e6,e7,e8,e9,-⟩:=zaP HEND.out
     refine bodyPost_ret (v:= .tuple #[.agg #[.string ⟨u.scheme.toArray⟩,.string ⟨u.user.toArray⟩,.string ⟨u.pass.toArray⟩,.nilIface,.int .i64 u.port,.slice ua un uc,.string ⟨u.query.toArray⟩,.bool u.hasQ,.string ⟨u.frag.toArray⟩,.bool u.hasF],.int .i64 er]) (by simp [results,Tryz.results6,go_sem,e0,e1,e2,e3,e4,e5,e6,e7,e8,e9]) rfl ?_
     rw [HF.out]
     exact ⟨_,by rw [←HVH.out];rfl,HEB.out⟩
    ·have HVH:=yiT hv
     rw [hv] at d3
     clear hv
     have HEND:=yiT (zeG HRW.out (.string ⟨u.scheme.toArray⟩) (.string ⟨u.user.toArray⟩) (.string ⟨u.pass.toArray⟩) (.iface it iv) (.int .i64 u.port) (.slice ua un uc) (.string ⟨u.query.toArray⟩) (.bool u.hasQ) (.string ⟨u.frag.toArray⟩) (.bool u.hasF))
     have HEB:=yiT (zcI HBW.out HPW.out (Nat.lt_succ_self _) (.string ⟨u.scheme.toArray⟩) (.string ⟨u.user.toArray⟩) (.string ⟨u.pass.toArray⟩) (.iface it iv) (.int .i64 u.port) (.slice ua un uc) (.string ⟨u.query.toArray⟩) (.bool u.hasQ) (.string ⟨u.frag.toArray⟩) (.bool u.hasF))
     go_wp2
     obtain ⟨e0,e1,e2,e3,e4,e5,e6,e7,e8,e9,-⟩:=zaP HEND.out
     refine bodyPost_ret (v:= .tuple #[.agg #[.string ⟨u.scheme.toArray⟩,.string ⟨u.user.toArray⟩,.string ⟨u.pass.toArray⟩,(.iface it iv),.int .i64 u.port,.slice ua un uc,.string ⟨u.query.toArray⟩,.bool u.hasQ,.string ⟨u.frag.toArray⟩,.bool u.hasF],.int .i64 er]) (by simp [results,Tryz.results6,go_sem,e0,e1,e2,e3,e4,e5,e6,e7,e8,e9]) rfl ?_
     rw [HF.out]
     exact ⟨_,by rw [←HVH.out];rfl,HEB.out⟩
end
end Go.Proofs.YtcagcjdhbijknaaGreatDoor
