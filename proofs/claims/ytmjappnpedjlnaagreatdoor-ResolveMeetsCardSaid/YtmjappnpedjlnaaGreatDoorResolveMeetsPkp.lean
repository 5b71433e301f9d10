/-
  What the law ResolveMeets leans on, and its walk (41 of 46).
-/
import Derived.Deep.DeepCutAuto
import Derived.RegionTactic
import Derived.ChangeAlike
import Derived.Test.YtmjappnpedjlnaaGreatDoorResolveMeetsPkl
namespace Go.Proofs.YtmjappnpedjlnaaGreatDoor
set_option maxRecDepth 100000
set_option maxHeartbeats 16000000
abbrev yqD := @Lib.hid
section
open Go.RowKit
structure RS (t:TypeId) (w x:World) (A B R P:Nat) (b r p:PZ):Prop where
 st:ST t w x R P p
 pa:PB t x A b
 pb:PB t x B r
 nA:A≠P
 nB:B≠P
theorem RS.set {t:TypeId} {w x:World} {A B R P:Nat} {b r p:PZ} (h:RS t w x A B R P b r p) (i:Nat) (v:Value) {q:PZ} (hq:p.cells.setIfInBounds i v=q.cells):RS t w (x.setCell ⟨P,i,none⟩ v) A B R P b r q:=
 ⟨h.st.set i v hq,by unfold PB;rw [zbV h.nA];exact h.pa,by unfold PB;rw [zbV h.nB];exact h.pb,h.nA,h.nB⟩
theorem RS.keep {t:TypeId} {w x y:World} {A B R P:Nat} {b r p:PZ} (h:RS t w x A B R P b r p) (hb:Below x.heap.size x y):RS t w y A B R P b r p:=
 ⟨h.st.keep hb,h.pa.below hb,h.pb.below hb,h.nA,h.nB⟩
theorem RS.first (t:TypeId) (w:World) (b r:PZ):RS t w ((((w.alloc (.cells b.cells t)).alloc (.cells r.cells t)).alloc (.cells zaS.cells t)).alloc (.cells r.cells t)) w.heap.size (w.heap.size+1) (w.heap.size+1+1) (w.heap.size+1+1+1) b r r:=by
 obtain ⟨h1,h2,h3,h4⟩:=zvH t w b r
 generalize (w.alloc (.cells b.cells t)).alloc (.cells r.cells t)=x at*
 have a1:=(Below.refl _ x).alloc (Nat.le_refl _) (.cells zaS.cells t)
 have z1:=PB.new t x zaS
 have s1:(x.alloc (.cells zaS.cells t)).heap.size=x.heap.size+1:=by simp
 have a2:=(Below.refl _ (x.alloc (.cells zaS.cells t))).alloc (Nat.le_refl _) (.cells r.cells t)
 have z2:=PB.new t (x.alloc (.cells zaS.cells t)) r
 rw [s1,←h4] at z2
 rw [←h4] at z1
 exact ⟨⟨zaF (zaF h3 a1) a2,z2,z1.below a2,by omega,by omega,by omega⟩,(h1.below a1).below a2,(h2.below a1).below a2,by omega,by omega⟩
theorem zkV {b r:PZ} (hb:b.Few 100000) (hr:r.Few 100000):(zdF b r).length≤1000000:=by
 have:=znJ b r
 have:=hb.2.2.2.2.1
 have:=hr.2.2.2.2.1
 omega
theorem zxO (b r:PZ) (w:World) (hb:b.Few 100000) (hr:r.Few 100000) (h1:r.hasS=true) (res:PZ) (hres:res={r with path:=zdF b r}):
  Calls Tryz.prog 22 #[.agg b.cells,.agg r.cells] w (zyU w res):=by
 have HS0:=yqD (RS.first 24 w b r)
 have HPA:=yqD (fun W=>zgK b r W hb hr)
 have hpl:=zkV hb hr
 have hqz:=zaB r.path
 obtain ⟨x0,hx0⟩: ∃y,y=(((w.alloc (.cells b.cells 24)).alloc (.cells r.cells 24)).alloc (.cells zaS.cells 24)).alloc (.cells r.cells 24):=⟨_,rfl⟩
 rw [←hx0] at HS0
 dsimp only [PZ.cells,zaS] at hx0 HPA ⊢
 generalize zdF b r=pt at*
 clear hb hr
 have H1:=yqD h1
 clear h1
 have HRES:=yqD hres
 clear hres
 go_enter Tryz.func22,Tryz.ntmps22
 go_wp2_with fail
 rw [←hx0]
 clear hx0
 refine (HPA.out _).mono ?_
 rintro e y ⟨rfl,hy⟩
 have HS1:=yqD (HS0.out.keep hy)
 clear HPA hy HS0
 generalize w.heap.size+1+1+1=P at*
 generalize w.heap.size+1+1=R at*
 generalize w.heap.size+1=B at*
 generalize hA:w.heap.size=A at*
 obtain ⟨v1,-,c0,f0,-⟩:=HS1.out.st.st 8 8 (.string ⟨pt.toArray⟩) (by decide) (by decide)
 have HS2:Hid (RS 24 w (y.setCell ⟨P,8,none⟩ (.string ⟨pt.toArray⟩)) A B R P b r {r with path:=pt}):=HS1.out.set 8 _ rfl
 clear HS1
 go_upto_region 3 with fail
 obtain ⟨x1,hx1⟩: ∃z,z=y.setCell ⟨P,8,none⟩ (.string ⟨pt.toArray⟩):=⟨_,rfl⟩
 rw [←hx1] at HS2 ⊢
 clear hx1 c0 f0 v1
 obtain ⟨r0,r1,r2,r3,r4,r5,r6,r7,r8,r9,r10,r11,r12⟩:=HS2.out.pb.all
 rw [H1.out] at r1
 rw [show {r with path:=pt}=res from HRES.out.symm] at HS2
 clear HRES
 go_upto_region 4 with fail
 clear r0 r1 r2 r3 r4 r5 r6 r7 r8 r9 r10 r11 r12
 obtain ⟨d0,d1,d2,d3,d4,d5,d6,d7,d8,d9,d10,d11,d12⟩:=HS2.out.st.row.all
 obtain ⟨s0,s1,s2,s3,s4,s5,s6,s7,s8,s9,s10,s11,s12⟩:=HS2.out.st.res.all
 have rf:=HS2.out.st.res.frozen
 have hEB:=zbI HS2.out.st.below HS2.out.st.hR res
 have hEC:=zbH HS2.out.st.res res _ rfl
 unfold zcS at hEB hEC
 have HEB:=yqD hEB
 have HEC:=yqD hEC
 clear hEB hEC HS2
 go_wp2
 obtain ⟨e0,e1,e2,e3,e4,e5,e6,e7,e8,e9,e10,e11,e12⟩:=HEC.out
 refine bodyPost_ret (v:= .agg res.cells) (by simp [results,Tryz.results22,go_sem,e0,e1,e2,e3,e4,e5,e6,e7,e8,e9,e10,e11,e12,PZ.cells]) rfl ?_
 exact ⟨rfl,HEB.out⟩
theorem zuA (b r:PZ) (w:World) (hb:b.Few 100000) (hr:r.Few 100000) (h1:r.hasS=false) (h2:r.hasA=true) (res:PZ) (hres:res={r with path:=zdF b r,scheme:=b.scheme,hasS:=b.hasS}):
  Calls Tryz.prog 22 #[.agg b.cells,.agg r.cells] w (zyU w res):=by
 have HS0:=yqD (RS.first 24 w b r)
 have HPA:=yqD (fun W=>zgK b r W hb hr)
 have hpl:=zkV hb hr
 have hqz:=zaB r.path
 obtain ⟨x0,hx0⟩: ∃y,y=(((w.alloc (.cells b.cells 24)).alloc (.cells r.cells 24)).alloc (.cells zaS.cells 24)).alloc (.cells r.cells 24):=⟨_,rfl⟩
 rw [←hx0] at HS0
 dsimp only [PZ.cells,zaS] at hx0 HPA ⊢
 generalize zdF b r=pt at*
 clear hb hr
 have H1:=yqD h1
 clear h1
 have H2:=yqD h2
 clear h2
 have HRES:=yqD hres
 clear hres
 go_enter Tryz.func22,Tryz.ntmps22
 go_wp2_with fail
 rw [←hx0]
 clear hx0
 refine (HPA.out _).mono ?_
 rintro e y ⟨rfl,hy⟩
 have HS1:=yqD (HS0.out.keep hy)
 clear HPA hy HS0
 generalize w.heap.size+1+1+1=P at*
 generalize w.heap.size+1+1=R at*
 generalize w.heap.size+1=B at*
 generalize hA:w.heap.size=A at*
 obtain ⟨v1,-,c0,f0,-⟩:=HS1.out.st.st 8 8 (.string ⟨pt.toArray⟩) (by decide) (by decide)
 have HS2:Hid (RS 24 w (y.setCell ⟨P,8,none⟩ (.string ⟨pt.toArray⟩)) A B R P b r {r with path:=pt}):=HS1.out.set 8 _ rfl
 clear HS1
 go_upto_region 3 with fail
 obtain ⟨x1,hx1⟩: ∃z,z=y.setCell ⟨P,8,none⟩ (.string ⟨pt.toArray⟩):=⟨_,rfl⟩
 rw [←hx1] at HS2 ⊢
 clear hx1 c0 f0 v1
 obtain ⟨r0,r1,r2,r3,r4,r5,r6,r7,r8,r9,r10,r11,r12⟩:=HS2.out.pb.all
 rw [H1.out] at r1
 rw [H2.out] at r5
 go_upto_region 5 with fail
 clear r0 r1 r2 r3 r4 r5 r6 r7 r8 r9 r10 r11 r12
 obtain ⟨b0,b1,b2,b3,b4,b5,b6,b7,b8,b9,b10,b11,b12⟩:=HS2.out.pa.all
 obtain ⟨v1,v2,c0,f0,c1,f1⟩:=HS2.out.st.st 0 1 (.string ⟨b.scheme.toArray⟩) (by decide) (by decide)
 obtain ⟨v3,v4,c2,f2,c3,f3⟩:=HS2.out.st.st 1 0 (.bool b.hasS) (by decide) (by decide)
 have HS3:Hid (RS 24 w ((x1.setCell ⟨P,0,none⟩ (.string ⟨b.scheme.toArray⟩)).setCell ⟨P,1,none⟩ (.bool b.hasS)) A B R P b r {r with path:=pt,scheme:=b.scheme,hasS:=b.hasS}):=(HS2.out.set 0 (.string ⟨b.scheme.toArray⟩) (q:={r with path:=pt,scheme:=b.scheme}) rfl).set 1 _ rfl
 have nA:=HS2.out.nA
 go_region
 obtain ⟨x2,hx⟩: ∃z,z=(x1.setCell ⟨P,0,none⟩ (.string ⟨b.scheme.toArray⟩)).setCell ⟨P,1,none⟩ (.bool b.hasS):=⟨_,rfl⟩
 rw [←hx] at HS3 ⊢
 clear hx b0 b1 b2 b3 b4 b5 b6 b7 b8 b9 b10 b11 b12 c0 f0 c1 f1 c2 f2 c3 f3 v1 v2 v3 v4 nA HS2
 have HS3d:=yqD (HS3.out.keep (zaG x2))
 clear HS3
 generalize x2.drew=x2d at*
 obtain ⟨r0,r1,r2,r3,r4,r5,r6,r7,r8,r9,r10,r11,r12⟩:=HS3d.out.pb.all
 rw [H1.out] at r1
 rw [H2.out] at r5
 rw [show {r with path:=pt,scheme:=b.scheme,hasS:=b.hasS}=res from HRES.out.symm] at HS3d
 clear HRES
 go_upto_region 7 with fail
 clear r0 r1 r2 r3 r4 r5 r6 r7 r8 r9 r10 r11 r12
 obtain ⟨d0,d1,d2,d3,d4,d5,d6,d7,d8,d9,d10,d11,d12⟩:=HS3d.out.st.row.all
 obtain ⟨s0,s1,s2,s3,s4,s5,s6,s7,s8,s9,s10,s11,s12⟩:=HS3d.out.st.res.all
 have rf:=HS3d.out.st.res.frozen
 have hEB:=zbI HS3d.out.st.below HS3d.out.st.hR res
 have hEC:=zbH HS3d.out.st.res res _ rfl
 unfold zcS at hEB hEC
 have HEB:=yqD hEB
 have HEC:=yqD hEC
 clear hEB hEC HS3d
 go_wp2
 obtain ⟨e0,e1,e2,e3,e4,e5,e6,e7,e8,e9,e10,e11,e12⟩:=HEC.out
 refine bodyPost_ret (v:= .agg res.cells) (by simp [results,Tryz.results22,go_sem,e0,e1,e2,e3,e4,e5,e6,e7,e8,e9,e10,e11,e12,PZ.cells]) rfl ?_
 exact ⟨rfl,HEB.out⟩
theorem ztK (b r:PZ) (w:World) (hb:b.Few 100000) (hr:r.Few 100000) (h1:r.hasS=false) (h2:r.hasA=false) (h3:(r.path==[])=false) (res:PZ) (hres:res={r with path:=zdF b r,scheme:=b.scheme,hasS:=b.hasS,user:=b.user,hasU:=b.hasU,host:=b.host,hasA:=b.hasA,port:=b.port,hasP:=b.hasP}):
  Calls Tryz.prog 22 #[.agg b.cells,.agg r.cells] w (zyU w res):=by
 have HS0:=yqD (RS.first 24 w b r)
 have HPA:=yqD (fun W=>zgK b r W hb hr)
 have hpl:=zkV hb hr
 have hqz:=zaB r.path
 obtain ⟨x0,hx0⟩: ∃y,y=(((w.alloc (.cells b.cells 24)).alloc (.cells r.cells 24)).alloc (.cells zaS.cells 24)).alloc (.cells r.cells 24):=⟨_,rfl⟩
 rw [←hx0] at HS0
 dsimp only [PZ.cells,zaS] at hx0 HPA ⊢
 generalize zdF b r=pt at*
 clear hb hr
 have H1:=yqD h1
 clear h1
 have H2:=yqD h2
 clear h2
 have H3:=yqD h3
 clear h3
 have HRES:=yqD hres
 clear hres
 go_enter Tryz.func22,Tryz.ntmps22
 go_wp2_with fail
 rw [←hx0]
 clear hx0
 refine (HPA.out _).mono ?_
 rintro e y ⟨rfl,hy⟩
 have HS1:=yqD (HS0.out.keep hy)
 clear HPA hy HS0
 generalize w.heap.size+1+1+1=P at*
 generalize w.heap.size+1+1=R at*
 generalize w.heap.size+1=B at*
 generalize hA:w.heap.size=A at*
 obtain ⟨v1,-,c0,f0,-⟩:=HS1.out.st.st 8 8 (.string ⟨pt.toArray⟩) (by decide) (by decide)
 have HS2:Hid (RS 24 w (y.setCell ⟨P,8,none⟩ (.string ⟨pt.toArray⟩)) A B R P b r {r with path:=pt}):=HS1.out.set 8 _ rfl
 clear HS1
 go_upto_region 3 with fail
 obtain ⟨x1,hx1⟩: ∃z,z=y.setCell ⟨P,8,none⟩ (.string ⟨pt.toArray⟩):=⟨_,rfl⟩
 rw [←hx1] at HS2 ⊢
 clear hx1 c0 f0 v1
 obtain ⟨r0,r1,r2,r3,r4,r5,r6,r7,r8,r9,r10,r11,r12⟩:=HS2.out.pb.all
 rw [H1.out] at r1
 rw [H2.out] at r5
 have he:=H3.out
 go_upto_region 5 with fail
 clear r0 r1 r2 r3 r4 r5 r6 r7 r8 r9 r10 r11 r12
 clear he
 obtain ⟨b0,b1,b2,b3,b4,b5,b6,b7,b8,b9,b10,b11,b12⟩:=HS2.out.pa.all
 obtain ⟨v1,v2,c0,f0,c1,f1⟩:=HS2.out.st.st 0 1 (.string ⟨b.scheme.toArray⟩) (by decide) (by decide)
 obtain ⟨v3,v4,c2,f2,c3,f3⟩:=HS2.out.st.st 1 0 (.bool b.hasS) (by decide) (by decide)
 have HS3:Hid (RS 24 w ((x1.setCell ⟨P,0,none⟩ (.string ⟨b.scheme.toArray⟩)).setCell ⟨P,1,none⟩ (.bool b.hasS)) A B R P b r {r with path:=pt,scheme:=b.scheme,hasS:=b.hasS}):=(HS2.out.set 0 (.string ⟨b.scheme.toArray⟩) (q:={r with path:=pt,scheme:=b.scheme}) rfl).set 1 _ rfl
 have nA:=HS2.out.nA
 go_region
 obtain ⟨x2,hx⟩: ∃z,z=(x1.setCell ⟨P,0,none⟩ (.string ⟨b.scheme.toArray⟩)).setCell ⟨P,1,none⟩ (.bool b.hasS):=⟨_,rfl⟩
 rw [←hx] at HS3 ⊢
 clear hx b0 b1 b2 b3 b4 b5 b6 b7 b8 b9 b10 b11 b12 c0 f0 c1 f1 c2 f2 c3 f3 v1 v2 v3 v4 nA HS2
 have HS3d:=yqD (HS3.out.keep (zaG x2))
 clear HS3
 generalize x2.drew=x2d at*
 obtain ⟨r0,r1,r2,r3,r4,r5,r6,r7,r8,r9,r10,r11,r12⟩:=HS3d.out.pb.all
 rw [H1.out] at r1
 rw [H2.out] at r5
 have he:=H3.out
 go_upto_region 8 with fail
 clear r0 r1 r2 r3 r4 r5 r6 r7 r8 r9 r10 r11 r12
 clear he
 obtain ⟨b0,b1,b2,b3,b4,b5,b6,b7,b8,b9,b10,b11,b12⟩:=HS3d.out.pa.all
 obtain ⟨v1,v2,c0,f0,c1,f1⟩:=HS3d.out.st.st 2 3 (.string ⟨b.user.toArray⟩) (by decide) (by decide)
 obtain ⟨v3,v4,c2,f2,c3,f3⟩:=HS3d.out.st.st 3 2 (.bool b.hasU) (by decide) (by decide)
 have HS4:Hid (RS 24 w ((x2d.setCell ⟨P,2,none⟩ (.string ⟨b.user.toArray⟩)).setCell ⟨P,3,none⟩ (.bool b.hasU)) A B R P b r {r with path:=pt,scheme:=b.scheme,hasS:=b.hasS,user:=b.user,hasU:=b.hasU}):=(HS3d.out.set 2 (.string ⟨b.user.toArray⟩) (q:={r with path:=pt,scheme:=b.scheme,hasS:=b.hasS,user:=b.user}) rfl).set 3 _ rfl
 have nA:=HS3d.out.nA
 go_region
 obtain ⟨x3,hx⟩: ∃z,z=(x2d.setCell ⟨P,2,none⟩ (.string ⟨b.user.toArray⟩)).setCell ⟨P,3,none⟩ (.bool b.hasU):=⟨_,rfl⟩
 rw [←hx] at HS4 ⊢
 clear hx b0 b1 b2 b3 b4 b5 b6 b7 b8 b9 b10 b11 b12 c0 f0 c1 f1 c2 f2 c3 f3 v1 v2 v3 v4 nA HS3d
 have HS4d:=yqD (HS4.out.keep (zaG x3))
 clear HS4
 generalize x3.drew=x3d at*
 obtain ⟨r0,r1,r2,r3,r4,r5,r6,r7,r8,r9,r10,r11,r12⟩:=HS4d.out.pb.all
 rw [H1.out] at r1
 rw [H2.out] at r5
 have he:=H3.out
 go_upto_region 9 with fail
 clear r0 r1 r2 r3 r4 r5 r6 r7 r8 r9 r10 r11 r12
 clear he
 obtain ⟨b0,b1,b2,b3,b4,b5,b6,b7,b8,b9,b10,b11,b12⟩:=HS4d.out.pa.all
 obtain ⟨v1,v2,c0,f0,c1,f1⟩:=HS4d.out.st.st 4 5 (.string ⟨b.host.toArray⟩) (by decide) (by decide)
 obtain ⟨v3,v4,c2,f2,c3,f3⟩:=HS4d.out.st.st 5 4 (.bool b.hasA) (by decide) (by decide)
 have HS5:Hid (RS 24 w ((x3d.setCell ⟨P,4,none⟩ (.string ⟨b.host.toArray⟩)).setCell ⟨P,5,none⟩ (.bool b.hasA)) A B R P b r {r with path:=pt,scheme:=b.scheme,hasS:=b.hasS,user:=b.user,hasU:=b.hasU,host:=b.host,hasA:=b.hasA}):=(HS4d.out.set 4 (.string ⟨b.host.toArray⟩) (q:={r with path:=pt,scheme:=b.scheme,hasS:=b.hasS,user:=b.user,hasU:=b.hasU,host:=b.host}) rfl).set 5 _ rfl
 have nA:=HS4d.out.nA
 go_region
 obtain ⟨x4,hx⟩: ∃z,z=(x3d.setCell ⟨P,4,none⟩ (.string ⟨b.host.toArray⟩)).setCell ⟨P,5,none⟩ (.bool b.hasA):=⟨_,rfl⟩
 rw [←hx] at HS5 ⊢
 clear hx b0 b1 b2 b3 b4 b5 b6 b7 b8 b9 b10 b11 b12 c0 f0 c1 f1 c2 f2 c3 f3 v1 v2 v3 v4 nA HS4d
 have HS5d:=yqD (HS5.out.keep (zaG x4))
 clear HS5
 generalize x4.drew=x4d at*
 obtain ⟨r0,r1,r2,r3,r4,r5,r6,r7,r8,r9,r10,r11,r12⟩:=HS5d.out.pb.all
 rw [H1.out] at r1
 rw [H2.out] at r5
 have he:=H3.out
 go_upto_region 10 with fail
 clear r0 r1 r2 r3 r4 r5 r6 r7 r8 r9 r10 r11 r12
 clear he
 obtain ⟨b0,b1,b2,b3,b4,b5,b6,b7,b8,b9,b10,b11,b12⟩:=HS5d.out.pa.all
 obtain ⟨v1,v2,c0,f0,c1,f1⟩:=HS5d.out.st.st 6 7 (.string ⟨b.port.toArray⟩) (by decide) (by decide)
 obtain ⟨v3,v4,c2,f2,c3,f3⟩:=HS5d.out.st.st 7 6 (.bool b.hasP) (by decide) (by decide)
 have HS6:Hid (RS 24 w ((x4d.setCell ⟨P,6,none⟩ (.string ⟨b.port.toArray⟩)).setCell ⟨P,7,none⟩ (.bool b.hasP)) A B R P b r {r with path:=pt,scheme:=b.scheme,hasS:=b.hasS,user:=b.user,hasU:=b.hasU,host:=b.host,hasA:=b.hasA,port:=b.port,hasP:=b.hasP}):=(HS5d.out.set 6 (.string ⟨b.port.toArray⟩) (q:={r with path:=pt,scheme:=b.scheme,hasS:=b.hasS,user:=b.user,hasU:=b.hasU,host:=b.host,hasA:=b.hasA,port:=b.port}) rfl).set 7 _ rfl
 have nA:=HS5d.out.nA
 go_region
 obtain ⟨x5,hx⟩: ∃z,z=(x4d.setCell ⟨P,6,none⟩ (.string ⟨b.port.toArray⟩)).setCell ⟨P,7,none⟩ (.bool b.hasP):=⟨_,rfl⟩
 rw [←hx] at HS6 ⊢
 clear hx b0 b1 b2 b3 b4 b5 b6 b7 b8 b9 b10 b11 b12 c0 f0 c1 f1 c2 f2 c3 f3 v1 v2 v3 v4 nA HS5d
 have HS6d:=yqD (HS6.out.keep (zaG x5))
 clear HS6
 generalize x5.drew=x5d at*
 obtain ⟨r0,r1,r2,r3,r4,r5,r6,r7,r8,r9,r10,r11,r12⟩:=HS6d.out.pb.all
 rw [H1.out] at r1
 rw [H2.out] at r5
 have he:=H3.out
 rw [show {r with path:=pt,scheme:=b.scheme,hasS:=b.hasS,user:=b.user,hasU:=b.hasU,host:=b.host,hasA:=b.hasA,port:=b.port,hasP:=b.hasP}=res from HRES.out.symm] at HS6d
 clear HRES
 go_upto_region 13 with fail
 clear r0 r1 r2 r3 r4 r5 r6 r7 r8 r9 r10 r11 r12 he
 obtain ⟨d0,d1,d2,d3,d4,d5,d6,d7,d8,d9,d10,d11,d12⟩:=HS6d.out.st.row.all
 obtain ⟨s0,s1,s2,s3,s4,s5,s6,s7,s8,s9,s10,s11,s12⟩:=HS6d.out.st.res.all
 have rf:=HS6d.out.st.res.frozen
 have hEB:=zbI HS6d.out.st.below HS6d.out.st.hR res
 have hEC:=zbH HS6d.out.st.res res _ rfl
 unfold zcS at hEB hEC
 have HEB:=yqD hEB
 have HEC:=yqD hEC
 clear hEB hEC HS6d
 go_wp2
 obtain ⟨e0,e1,e2,e3,e4,e5,e6,e7,e8,e9,e10,e11,e12⟩:=HEC.out
 refine bodyPost_ret (v:= .agg res.cells) (by simp [results,Tryz.results22,go_sem,e0,e1,e2,e3,e4,e5,e6,e7,e8,e9,e10,e11,e12,PZ.cells]) rfl ?_
 exact ⟨rfl,HEB.out⟩
theorem zyW (b r:PZ) (w:World) (hb:b.Few 100000) (hr:r.Few 100000) (h1:r.hasS=false) (h2:r.hasA=false) (h3:(r.path==[])=true) (h4:r.hasQ=true) (res:PZ) (hres:res={r with path:=zdF b r,scheme:=b.scheme,hasS:=b.hasS,user:=b.user,hasU:=b.hasU,host:=b.host,hasA:=b.hasA,port:=b.port,hasP:=b.hasP}):
  Calls Tryz.prog 22 #[.agg b.cells,.agg r.cells] w (zyU w res):=by
 have HS0:=yqD (RS.first 24 w b r)
 have HPA:=yqD (fun W=>zgK b r W hb hr)
 have hpl:=zkV hb hr
 have hqz:=zaB r.path
 obtain ⟨x0,hx0⟩: ∃y,y=(((w.alloc (.cells b.cells 24)).alloc (.cells r.cells 24)).alloc (.cells zaS.cells 24)).alloc (.cells r.cells 24):=⟨_,rfl⟩
 rw [←hx0] at HS0
 dsimp only [PZ.cells,zaS] at hx0 HPA ⊢
 generalize zdF b r=pt at*
 clear hb hr
 have H1:=yqD h1
 clear h1
 have H2:=yqD h2
 clear h2
 have H3:=yqD h3
 clear h3
 have H4:=yqD h4
 clear h4
 have HRES:=yqD hres
 clear hres
 go_enter Tryz.func22,Tryz.ntmps22
 go_wp2_with fail
 rw [←hx0]
 clear hx0
 refine (HPA.out _).mono ?_
 rintro e y ⟨rfl,hy⟩
 have HS1:=yqD (HS0.out.keep hy)
 clear HPA hy HS0
 generalize w.heap.size+1+1+1=P at*
 generalize w.heap.size+1+1=R at*
 generalize w.heap.size+1=B at*
 generalize hA:w.heap.size=A at*
 obtain ⟨v1,-,c0,f0,-⟩:=HS1.out.st.st 8 8 (.string ⟨pt.toArray⟩) (by decide) (by decide)
 have HS2:Hid (RS 24 w (y.setCell ⟨P,8,none⟩ (.string ⟨pt.toArray⟩)) A B R P b r {r with path:=pt}):=HS1.out.set 8 _ rfl
 clear HS1
 go_upto_region 3 with fail
 obtain ⟨x1,hx1⟩: ∃z,z=y.setCell ⟨P,8,none⟩ (.string ⟨pt.toArray⟩):=⟨_,rfl⟩
 rw [←hx1] at HS2 ⊢
 clear hx1 c0 f0 v1
 obtain ⟨r0,r1,r2,r3,r4,r5,r6,r7,r8,r9,r10,r11,r12⟩:=HS2.out.pb.all
 rw [H1.out] at r1
 rw [H2.out] at r5
 rw [H4.out] at r10
 have he:=H3.out
 go_upto_region 5 with fail
 clear r0 r1 r2 r3 r4 r5 r6 r7 r8 r9 r10 r11 r12
 clear he
 obtain ⟨b0,b1,b2,b3,b4,b5,b6,b7,b8,b9,b10,b11,b12⟩:=HS2.out.pa.all
 obtain ⟨v1,v2,c0,f0,c1,f1⟩:=HS2.out.st.st 0 1 (.string ⟨b.scheme.toArray⟩) (by decide) (by decide)
 obtain ⟨v3,v4,c2,f2,c3,f3⟩:=HS2.out.st.st 1 0 (.bool b.hasS) (by decide) (by decide)
 have HS3:Hid (RS 24 w ((x1.setCell ⟨P,0,none⟩ (.string ⟨b.scheme.toArray⟩)).setCell ⟨P,1,none⟩ (.bool b.hasS)) A B R P b r {r with path:=pt,scheme:=b.scheme,hasS:=b.hasS}):=(HS2.out.set 0 (.string ⟨b.scheme.toArray⟩) (q:={r with path:=pt,scheme:=b.scheme}) rfl).set 1 _ rfl
 have nA:=HS2.out.nA
 go_region
 obtain ⟨x2,hx⟩: ∃z,z=(x1.setCell ⟨P,0,none⟩ (.string ⟨b.scheme.toArray⟩)).setCell ⟨P,1,none⟩ (.bool b.hasS):=⟨_,rfl⟩
 rw [←hx] at HS3 ⊢
 clear hx b0 b1 b2 b3 b4 b5 b6 b7 b8 b9 b10 b11 b12 c0 f0 c1 f1 c2 f2 c3 f3 v1 v2 v3 v4 nA HS2
 have HS3d:=yqD (HS3.out.keep (zaG x2))
 clear HS3
 generalize x2.drew=x2d at*
 obtain ⟨r0,r1,r2,r3,r4,r5,r6,r7,r8,r9,r10,r11,r12⟩:=HS3d.out.pb.all
 rw [H1.out] at r1
 rw [H2.out] at r5
 rw [H4.out] at r10
 have he:=H3.out
 go_upto_region 8 with fail
 clear r0 r1 r2 r3 r4 r5 r6 r7 r8 r9 r10 r11 r12
 clear he
 obtain ⟨b0,b1,b2,b3,b4,b5,b6,b7,b8,b9,b10,b11,b12⟩:=HS3d.out.pa.all
 obtain ⟨v1,v2,c0,f0,c1,f1⟩:=HS3d.out.st.st 2 3 (.string ⟨b.user.toArray⟩) (by decide) (by decide)
 obtain ⟨v3,v4,c2,f2,c3,f3⟩:=HS3d.out.st.st 3 2 (.bool b.hasU) (by decide) (by decide)
 have HS4:Hid (RS 24 w ((x2d.setCell ⟨P,2,none⟩ (.string ⟨b.user.toArray⟩)).setCell ⟨P,3,none⟩ (.bool b.hasU)) A B R P b r {r with path:=pt,scheme:=b.scheme,hasS:=b.hasS,user:=b.user,hasU:=b.hasU}):=(HS3d.out.set 2 (.string ⟨b.user.toArray⟩) (q:={r with path:=pt,scheme:=b.scheme,hasS:=b.hasS,user:=b.user}) rfl).set 3 _ rfl
 have nA:=HS3d.out.nA
 go_region
 obtain ⟨x3,hx⟩: ∃z,z=(x2d.setCell ⟨P,2,none⟩ (.string ⟨b.user.toArray⟩)).setCell ⟨P,3,none⟩ (.bool b.hasU):=⟨_,rfl⟩
 rw [←hx] at HS4 ⊢
 clear hx b0 b1 b2 b3 b4 b5 b6 b7 b8 b9 b10 b11 b12 c0 f0 c1 f1 c2 f2 c3 f3 v1 v2 v3 v4 nA HS3d
 have HS4d:=yqD (HS4.out.keep (zaG x3))
 clear HS4
 generalize x3.drew=x3d at*
 obtain ⟨r0,r1,r2,r3,r4,r5,r6,r7,r8,r9,r10,r11,r12⟩:=HS4d.out.pb.all
 rw [H1.out] at r1
 rw [H2.out] at r5
 rw [H4.out] at r10
 have he:=H3.out
 go_upto_region 9 with fail
 clear r0 r1 r2 r3 r4 r5 r6 r7 r8 r9 r10 r11 r12
 clear he
 obtain ⟨b0,b1,b2,b3,b4,b5,b6,b7,b8,b9,b10,b11,b12⟩:=HS4d.out.pa.all
 obtain ⟨v1,v2,c0,f0,c1,f1⟩:=HS4d.out.st.st 4 5 (.string ⟨b.host.toArray⟩) (by decide) (by decide)
 obtain ⟨v3,v4,c2,f2,c3,f3⟩:=HS4d.out.st.st 5 4 (.bool b.hasA) (by decide) (by decide)
 have HS5:Hid (RS 24 w ((x3d.setCell ⟨P,4,none⟩ (.string ⟨b.host.toArray⟩)).setCell ⟨P,5,none⟩ (.bool b.hasA)) A B R P b r {r with path:=pt,scheme:=b.scheme,hasS:=b.hasS,user:=b.user,hasU:=b.hasU,host:=b.host,hasA:=b.hasA}):=(HS4d.out.set 4 (.string ⟨b.host.toArray⟩) (q:={r with path:=pt,scheme:=b.scheme,hasS:=b.hasS,user:=b.user,hasU:=b.hasU,host:=b.host}) rfl).set 5 _ rfl
 have nA:=HS4d.out.nA
 go_region
 obtain ⟨x4,hx⟩: ∃z,z=(x3d.setCell ⟨P,4,none⟩ (.string ⟨b.host.toArray⟩)).setCell ⟨P,5,none⟩ (.bool b.hasA):=⟨_,rfl⟩
 rw [←hx] at HS5 ⊢
 clear hx b0 b1 b2 b3 b4 b5 b6 b7 b8 b9 b10 b11 b12 c0 f0 c1 f1 c2 f2 c3 f3 v1 v2 v3 v4 nA HS4d
 have HS5d:=yqD (HS5.out.keep (zaG x4))
 clear HS5
 generalize x4.drew=x4d at*
 obtain ⟨r0,r1,r2,r3,r4,r5,r6,r7,r8,r9,r10,r11,r12⟩:=HS5d.out.pb.all
 rw [H1.out] at r1
 rw [H2.out] at r5
 rw [H4.out] at r10
 have he:=H3.out
 go_upto_region 10 with fail
 clear r0 r1 r2 r3 r4 r5 r6 r7 r8 r9 r10 r11 r12
 clear he
 obtain ⟨b0,b1,b2,b3,b4,b5,b6,b7,b8,b9,b10,b11,b12⟩:=HS5d.out.pa.all
 obtain ⟨v1,v2,c0,f0,c1,f1⟩:=HS5d.out.st.st 6 7 (.string ⟨b.port.toArray⟩) (by decide) (by decide)
 obtain ⟨v3,v4,c2,f2,c3,f3⟩:=HS5d.out.st.st 7 6 (.bool b.hasP) (by decide) (by decide)
 have HS6:Hid (RS 24 w ((x4d.setCell ⟨P,6,none⟩ (.string ⟨b.port.toArray⟩)).setCell ⟨P,7,none⟩ (.bool b.hasP)) A B R P b r {r with path:=pt,scheme:=b.scheme,hasS:=b.hasS,user:=b.user,hasU:=b.hasU,host:=b.host,hasA:=b.hasA,port:=b.port,hasP:=b.hasP}):=(HS5d.out.set 6 (.string ⟨b.port.toArray⟩) (q:={r with path:=pt,scheme:=b.scheme,hasS:=b.hasS,user:=b.user,hasU:=b.hasU,host:=b.host,hasA:=b.hasA,port:=b.port}) rfl).set 7 _ rfl
 have nA:=HS5d.out.nA
 go_region
 obtain ⟨x5,hx⟩: ∃z,z=(x4d.setCell ⟨P,6,none⟩ (.string ⟨b.port.toArray⟩)).setCell ⟨P,7,none⟩ (.bool b.hasP):=⟨_,rfl⟩
 rw [←hx] at HS6 ⊢
 clear hx b0 b1 b2 b3 b4 b5 b6 b7 b8 b9 b10 b11 b12 c0 f0 c1 f1 c2 f2 c3 f3 v1 v2 v3 v4 nA HS5d
 have HS6d:=yqD (HS6.out.keep (zaG x5))
 clear HS6
 generalize x5.drew=x5d at*
 obtain ⟨r0,r1,r2,r3,r4,r5,r6,r7,r8,r9,r10,r11,r12⟩:=HS6d.out.pb.all
 rw [H1.out] at r1
 rw [H2.out] at r5
 rw [H4.out] at r10
 have he:=H3.out
 rw [show {r with path:=pt,scheme:=b.scheme,hasS:=b.hasS,user:=b.user,hasU:=b.hasU,host:=b.host,hasA:=b.hasA,port:=b.port,hasP:=b.hasP}=res from HRES.out.symm] at HS6d
 clear HRES
 go_upto_region 13 with fail
 clear r0 r1 r2 r3 r4 r5 r6 r7 r8 r9 r10 r11 r12 he
 obtain ⟨d0,d1,d2,d3,d4,d5,d6,d7,d8,d9,d10,d11,d12⟩:=HS6d.out.st.row.all
 obtain ⟨s0,s1,s2,s3,s4,s5,s6,s7,s8,s9,s10,s11,s12⟩:=HS6d.out.st.res.all
 have rf:=HS6d.out.st.res.frozen
 have hEB:=zbI HS6d.out.st.below HS6d.out.st.hR res
 have hEC:=zbH HS6d.out.st.res res _ rfl
 unfold zcS at hEB hEC
 have HEB:=yqD hEB
 have HEC:=yqD hEC
 clear hEB hEC HS6d
 go_wp2
 obtain ⟨e0,e1,e2,e3,e4,e5,e6,e7,e8,e9,e10,e11,e12⟩:=HEC.out
 refine bodyPost_ret (v:= .agg res.cells) (by simp [results,Tryz.results22,go_sem,e0,e1,e2,e3,e4,e5,e6,e7,e8,e9,e10,e11,e12,PZ.cells]) rfl ?_
 exact ⟨rfl,HEB.out⟩
theorem zuT (b r:PZ) (w:World) (hb:b.Few 100000) (hr:r.Few 100000) (h1:r.hasS=false) (h2:r.hasA=false) (h3:(r.path==[])=true) (h4:r.hasQ=false) (res:PZ) (hres:res={r with path:=zdF b r,scheme:=b.scheme,hasS:=b.hasS,user:=b.user,hasU:=b.hasU,host:=b.host,hasA:=b.hasA,port:=b.port,hasP:=b.hasP,query:=b.query,hasQ:=b.hasQ}):
  Calls Tryz.prog 22 #[.agg b.cells,.agg r.cells] w (zyU w res):=by
 have HS0:=yqD (RS.first 24 w b r)
 have HPA:=yqD (fun W=>zgK b r W hb hr)
 have hpl:=zkV hb hr
 have hqz:=zaB r.path
 obtain ⟨x0,hx0⟩: ∃y,y=(((w.alloc (.cells b.cells 24)).alloc (.cells r.cells 24)).alloc (.cells zaS.cells 24)).alloc (.cells r.cells 24):=⟨_,rfl⟩
 rw [←hx0] at HS0
 dsimp only [PZ.cells,zaS] at hx0 HPA ⊢
 generalize zdF b r=pt at*
 clear hb hr
 have H1:=yqD h1
 clear h1
 have H2:=yqD h2
 clear h2
 have H3:=yqD h3
 clear h3
 have H4:=yqD h4
 clear h4
 have HRES:=yqD hres
 clear hres
 go_enter Tryz.func22,Tryz.ntmps22
 go_wp2_with fail
 rw [←hx0]
 clear hx0
 refine (HPA.out _).mono ?_
 rintro e y ⟨rfl,hy⟩
 have HS1:=yqD (HS0.out.keep hy)
 clear HPA hy HS0
 generalize w.heap.size+1+1+1=P at*
 generalize w.heap.size+1+1=R at*
 generalize w.heap.size+1=B at*
 generalize hA:w.heap.size=A at*
 obtain ⟨v1,-,c0,f0,-⟩:=HS1.out.st.st 8 8 (.string ⟨pt.toArray⟩) (by decide) (by decide)
 have HS2:Hid (RS 24 w (y.setCell ⟨P,8,none⟩ (.string ⟨pt.toArray⟩)) A B R P b r {r with path:=pt}):=HS1.out.set 8 _ rfl
 clear HS1
 go_upto_region 3 with fail
 obtain ⟨x1,hx1⟩: ∃z,z=y.setCell ⟨P,8,none⟩ (.string ⟨pt.toArray⟩):=⟨_,rfl⟩
 rw [←hx1] at HS2 ⊢
 clear hx1 c0 f0 v1
 obtain ⟨r0,r1,r2,r3,r4,r5,r6,r7,r8,r9,r10,r11,r12⟩:=HS2.out.pb.all
 rw [H1.out] at r1
 rw [H2.out] at r5
 rw [H4.out] at r10
 have he:=H3.out
 go_upto_region 5 with fail
 clear r0 r1 r2 r3 r4 r5 r6 r7 r8 r9 r10 r11 r12
 clear he
 obtain ⟨b0,b1,b2,b3,b4,b5,b6,b7,b8,b9,b10,b11,b12⟩:=HS2.out.pa.all
 obtain ⟨v1,v2,c0,f0,c1,f1⟩:=HS2.out.st.st 0 1 (.string ⟨b.scheme.toArray⟩) (by decide) (by decide)
 obtain ⟨v3,v4,c2,f2,c3,f3⟩:=HS2.out.st.st 1 0 (.bool b.hasS) (by decide) (by decide)
 have HS3:Hid (RS 24 w ((x1.setCell ⟨P,0,none⟩ (.string ⟨b.scheme.toArray⟩)).setCell ⟨P,1,none⟩ (.bool b.hasS)) A B R P b r {r with path:=pt,scheme:=b.scheme,hasS:=b.hasS}):=(HS2.out.set 0 (.string ⟨b.scheme.toArray⟩) (q:={r with path:=pt,scheme:=b.scheme}) rfl).set 1 _ rfl
 have nA:=HS2.out.nA
 go_region
 obtain ⟨x2,hx⟩: ∃z,z=(x1.setCell ⟨P,0,none⟩ (.string ⟨b.scheme.toArray⟩)).setCell ⟨P,1,none⟩ (.bool b.hasS):=⟨_,rfl⟩
 rw [←hx] at HS3 ⊢
 clear hx b0 b1 b2 b3 b4 b5 b6 b7 b8 b9 b10 b11 b12 c0 f0 c1 f1 c2 f2 c3 f3 v1 v2 v3 v4 nA HS2
 have HS3d:=yqD (HS3.out.keep (zaG x2))
 clear HS3
 generalize x2.drew=x2d at*
 obtain ⟨r0,r1,r2,r3,r4,r5,r6,r7,r8,r9,r10,r11,r12⟩:=HS3d.out.pb.all
 rw [H1.out] at r1
 rw [H2.out] at r5
 rw [H4.out] at r10
 have he:=H3.out
 go_upto_region 8 with fail
 clear r0 r1 r2 r3 r4 r5 r6 r7 r8 r9 r10 r11 r12
 clear he
 obtain ⟨b0,b1,b2,b3,b4,b5,b6,b7,b8,b9,b10,b11,b12⟩:=HS3d.out.pa.all
 obtain ⟨v1,v2,c0,f0,c1,f1⟩:=HS3d.out.st.st 2 3 (.string ⟨b.user.toArray⟩) (by decide) (by decide)
 obtain ⟨v3,v4,c2,f2,c3,f3⟩:=HS3d.out.st.st 3 2 (.bool b.hasU) (by decide) (by decide)
 have HS4:Hid (RS 24 w ((x2d.setCell ⟨P,2,none⟩ (.string ⟨b.user.toArray⟩)).setCell ⟨P,3,none⟩ (.bool b.hasU)) A B R P b r {r with path:=pt,scheme:=b.scheme,hasS:=b.hasS,user:=b.user,hasU:=b.hasU}):=(HS3d.out.set 2 (.string ⟨b.user.toArray⟩) (q:={r with path:=pt,scheme:=b.scheme,hasS:=b.hasS,user:=b.user}) rfl).set 3 _ rfl
 have nA:=HS3d.out.nA
 go_region
 obtain ⟨x3,hx⟩: ∃z,z=(x2d.setCell ⟨P,2,none⟩ (.string ⟨b.user.toArray⟩)).setCell ⟨P,3,none⟩ (.bool b.hasU):=⟨_,rfl⟩
 rw [←hx] at HS4 ⊢
 clear hx b0 b1 b2 b3 b4 b5 b6 b7 b8 b9 b10 b11 b12 c0 f0 c1 f1 c2 f2 c3 f3 v1 v2 v3 v4 nA HS3d
 have HS4d:=yqD (HS4.out.keep (zaG x3))
 clear HS4
 generalize x3.drew=x3d at*
 obtain ⟨r0,r1,r2,r3,r4,r5,r6,r7,r8,r9,r10,r11,r12⟩:=HS4d.out.pb.all
 rw [H1.out] at r1
 rw [H2.out] at r5
 rw [H4.out] at r10
 have he:=H3.out
 go_upto_region 9 with fail
 clear r0 r1 r2 r3 r4 r5 r6 r7 r8 r9 r10 r11 r12
 clear he
 obtain ⟨b0,b1,b2,b3,b4,b5,b6,b7,b8,b9,b10,b11,b12⟩:=HS4d.out.pa.all
 obtain ⟨v1,v2,c0,f0,c1,f1⟩:=HS4d.out.st.st 4 5 (.string ⟨b.host.toArray⟩) (by decide) (by decide)
 obtain ⟨v3,v4,c2,f2,c3,f3⟩:=HS4d.out.st.st 5 4 (.bool b.hasA) (by decide) (by decide)
 have HS5:Hid (RS 24 w ((x3d.setCell ⟨P,4,none⟩ (.string ⟨b.host.toArray⟩)).setCell ⟨P,5,none⟩ (.bool b.hasA)) A B R P b r {r with path:=pt,scheme:=b.scheme,hasS:=b.hasS,user:=b.user,hasU:=b.hasU,host:=b.host,hasA:=b.hasA}):=(HS4d.out.set 4 (.string ⟨b.host.toArray⟩) (q:={r with path:=pt,scheme:=b.scheme,hasS:=b.hasS,user:=b.user,hasU:=b.hasU,host:=b.host}) rfl).set 5 _ rfl
 have nA:=HS4d.out.nA
 go_region
 obtain ⟨x4,hx⟩: ∃z,z=(x3d.setCell ⟨P,4,none⟩ (.string ⟨b.host.toArray⟩)).setCell ⟨P,5,none⟩ (.bool b.hasA):=⟨_,rfl⟩
 rw [←hx] at HS5 ⊢
 clear hx b0 b1 b2 b3 b4 b5 b6 b7 b8 b9 b10 b11 b12 c0 f0 c1 f1 c2 f2 c3 f3 v1 v2 v3 v4 nA HS4d
 have HS5d:=yqD (HS5.out.keep (zaG x4))
 clear HS5
 generalize x4.drew=x4d at*
 obtain ⟨r0,r1,r2,r3,r4,r5,r6,r7,r8,r9,r10,r11,r12⟩:=HS5d.out.pb.all
 rw [H1.out] at r1
 rw [H2.out] at r5
 rw [H4.out] at r10
 have he:=H3.out
 go_upto_region 10 with fail
 clear r0 r1 r2 r3 r4 r5 r6 r7 r8 r9 r10 r11 r12
 clear he
 obtain ⟨b0,b1,b2,b3,b4,b5,b6,b7,b8,b9,b10,b11,b12⟩:=HS5d.out.pa.all
 obtain ⟨v1,v2,c0,f0,c1,f1⟩:=HS5d.out.st.st 6 7 (.string ⟨b.port.toArray⟩) (by decide) (by decide)
 obtain ⟨v3,v4,c2,f2,c3,f3⟩:=HS5d.out.st.st 7 6 (.bool b.hasP) (by decide) (by decide)
 have HS6:Hid (RS 24 w ((x4d.setCell ⟨P,6,none⟩ (.string ⟨b.port.toArray⟩)).setCell ⟨P,7,none⟩ (.bool b.hasP)) A B R P b r {r with path:=pt,scheme:=b.scheme,hasS:=b.hasS,user:=b.user,hasU:=b.hasU,host:=b.host,hasA:=b.hasA,port:=b.port,hasP:=b.hasP}):=(HS5d.out.set 6 (.string ⟨b.port.toArray⟩) (q:={r with path:=pt,scheme:=b.scheme,hasS:=b.hasS,user:=b.user,hasU:=b.hasU,host:=b.host,hasA:=b.hasA,port:=b.port}) rfl).set 7 _ rfl
 have nA:=HS5d.out.nA
 go_region
 obtain ⟨x5,hx⟩: ∃z,z=(x4d.setCell ⟨P,6,none⟩ (.string ⟨b.port.toArray⟩)).setCell ⟨P,7,none⟩ (.bool b.hasP):=⟨_,rfl⟩
 rw [←hx] at HS6 ⊢
 clear hx b0 b1 b2 b3 b4 b5 b6 b7 b8 b9 b10 b11 b12 c0 f0 c1 f1 c2 f2 c3 f3 v1 v2 v3 v4 nA HS5d
 have HS6d:=yqD (HS6.out.keep (zaG x5))
 clear HS6
 generalize x5.drew=x5d at*
 obtain ⟨r0,r1,r2,r3,r4,r5,r6,r7,r8,r9,r10,r11,r12⟩:=HS6d.out.pb.all
 rw [H1.out] at r1
 rw [H2.out] at r5
 rw [H4.out] at r10
 have he:=H3.out
 go_upto_region 12 with fail
 clear r0 r1 r2 r3 r4 r5 r6 r7 r8 r9 r10 r11 r12
 clear he
 obtain ⟨b0,b1,b2,b3,b4,b5,b6,b7,b8,b9,b10,b11,b12⟩:=HS6d.out.pa.all
 obtain ⟨v1,v2,c0,f0,c1,f1⟩:=HS6d.out.st.st 9 10 (.string ⟨b.query.toArray⟩) (by decide) (by decide)
 obtain ⟨v3,v4,c2,f2,c3,f3⟩:=HS6d.out.st.st 10 9 (.bool b.hasQ) (by decide) (by decide)
 have HS7:Hid (RS 24 w ((x5d.setCell ⟨P,9,none⟩ (.string ⟨b.query.toArray⟩)).setCell ⟨P,10,none⟩ (.bool b.hasQ)) A B R P b r {r with path:=pt,scheme:=b.scheme,hasS:=b.hasS,user:=b.user,hasU:=b.hasU,host:=b.host,hasA:=b.hasA,port:=b.port,hasP:=b.hasP,query:=b.query,hasQ:=b.hasQ}):=(HS6d.out.set 9 (.string ⟨b.query.toArray⟩) (q:={r with path:=pt,scheme:=b.scheme,hasS:=b.hasS,user:=b.user,hasU:=b.hasU,host:=b.host,hasA:=b.hasA,port:=b.port,hasP:=b.hasP,query:=b.query}) rfl).set 10 _ rfl
 have nA:=HS6d.out.nA
 go_region
 obtain ⟨x6,hx⟩: ∃z,z=(x5d.setCell ⟨P,9,none⟩ (.string ⟨b.query.toArray⟩)).setCell ⟨P,10,none⟩ (.bool b.hasQ):=⟨_,rfl⟩
 rw [←hx] at HS7 ⊢
 clear hx b0 b1 b2 b3 b4 b5 b6 b7 b8 b9 b10 b11 b12 c0 f0 c1 f1 c2 f2 c3 f3 v1 v2 v3 v4 nA HS6d
 have HS7d:=yqD (HS7.out.keep (zaG x6))
 clear HS7
 generalize x6.drew=x6d at*
 obtain ⟨r0,r1,r2,r3,r4,r5,r6,r7,r8,r9,r10,r11,r12⟩:=HS7d.out.pb.all
 rw [H1.out] at r1
 rw [H2.out] at r5
 rw [H4.out] at r10
 have he:=H3.out
 rw [show {r with path:=pt,scheme:=b.scheme,hasS:=b.hasS,user:=b.user,hasU:=b.hasU,host:=b.host,hasA:=b.hasA,port:=b.port,hasP:=b.hasP,query:=b.query,hasQ:=b.hasQ}=res from HRES.out.symm] at HS7d
 clear HRES
 go_upto_region 13 with fail
 clear r0 r1 r2 r3 r4 r5 r6 r7 r8 r9 r10 r11 r12 he
 obtain ⟨d0,d1,d2,d3,d4,d5,d6,d7,d8,d9,d10,d11,d12⟩:=HS7d.out.st.row.all
 obtain ⟨s0,s1,s2,s3,s4,s5,s6,s7,s8,s9,s10,s11,s12⟩:=HS7d.out.st.res.all
 have rf:=HS7d.out.st.res.frozen
 have hEB:=zbI HS7d.out.st.below HS7d.out.st.hR res
 have hEC:=zbH HS7d.out.st.res res _ rfl
 unfold zcS at hEB hEC
 have HEB:=yqD hEB
 have HEC:=yqD hEC
 clear hEB hEC HS7d
 go_wp2
 obtain ⟨e0,e1,e2,e3,e4,e5,e6,e7,e8,e9,e10,e11,e12⟩:=HEC.out
 refine bodyPost_ret (v:= .agg res.cells) (by simp [results,Tryz.results22,go_sem,e0,e1,e2,e3,e4,e5,e6,e7,e8,e9,e10,e11,e12,PZ.cells]) rfl ?_
 exact ⟨rfl,HEB.out⟩
theorem zyA (b r:PZ) (w:World) (hb:b.Few 100000) (hr:r.Few 100000):
  Calls Tryz.prog 22 #[.agg b.cells,.agg r.cells] w (zyU w (zaV b r)):=by
 unfold zaV
 by_cases h1:r.hasS=true
 ·rw [if_pos h1]
  exact zxO b r w hb hr h1 _ rfl
 ·have n1:=Bool.not_eq_true _▸h1
  rw [if_neg h1]
  by_cases h2:r.hasA=true
  ·rw [if_pos h2]
   exact zuA b r w hb hr n1 h2 _ rfl
  ·have n2:=Bool.not_eq_true _▸h2
   rw [if_neg h2]
   by_cases h3:r.path=[]
   ·have e3:(r.path==[])=true:=by rw [h3];rfl
    cases h4:r.hasQ with
    |true=>
     rw [if_neg (by rintro ⟨_,q⟩;cases q)]
     exact zyW b r w hb hr n1 n2 e3 h4 _ (by rw [←h4])
    |false=>
     rw [if_pos ⟨h3,rfl⟩]
     exact zuT b r w hb hr n1 n2 e3 h4 _ rfl
   ·have e3:(r.path==[])=false:=by rw [beq_eq_false_iff_ne];exact h3
    rw [if_neg (by rintro ⟨q,_⟩;exact h3 q)]
    exact ztK b r w hb hr n1 n2 e3 _ rfl
end
end Go.Proofs.YtmjappnpedjlnaaGreatDoor
