/-
  What the law ResolveParts leans on, and its walk (40 of 42).
-/
import Derived.Test.YtmjappnpedjlnaaGreatDoorResolvePartsPkm
import Derived.Test.YtmjappnpedjlnaaGreatDoorResolvePartsPkn
namespace Go.Proofs.YtmjappnpedjlnaaGreatDoor
set_option maxRecDepth 100000
set_option maxHeartbeats 16000000
abbrev zlW := @Lib.hid
section
open Go.RowKit
theorem zbR {x:World} {g k:Nat} (h:k≠g) (a0 a1 a2 a3 a4 a5 a6 a7 a8 a9 a10 a11 a12:Value):(zaU x g a0 a1 a2 a3 a4 a5 a6 a7 a8 a9 a10 a11 a12).heap[k]? =x.heap[k]? :=by
 unfold zaU
 rw [zaK h,zaK h,zaK h,zaK h,zaK h,zaK h,zaK h,zaK h,zaK h,zaK h,zaK h,zaK h,zaK h]
structure QS (t:TypeId) (w x:World) (A B R P Q:Nat) (b r p s:PZ):Prop where
 rs:RS t w x A B R P b r p
 pq:PB t x Q s
 nQ:Q≠P
 qA:A≠Q
 qB:B≠Q
 qR:R≠Q
 hQ:w.heap.size≤Q
theorem QS.set {t:TypeId} {w x:World} {A B R P Q:Nat} {b r p s:PZ} (h:QS t w x A B R P Q b r p s) (i:Nat) (v:Value) {q:PZ} (hq:p.cells.setIfInBounds i v=q.cells):QS t w (x.setCell ⟨P,i,none⟩ v) A B R P Q b r q s:=
 ⟨h.rs.set i v hq,by unfold PB;rw [zaK h.nQ];exact h.pq,h.nQ,h.qA,h.qB,h.qR,h.hQ⟩
theorem QS.keep {t:TypeId} {w x y:World} {A B R P Q:Nat} {b r p s:PZ} (h:QS t w x A B R P Q b r p s) (hb:Below x.heap.size x y):QS t w y A B R P Q b r p s:=
 ⟨h.rs.keep hb,h.pq.below hb,h.nQ,h.qA,h.qB,h.qR,h.hQ⟩
theorem QS.site {t:TypeId} {w x:World} {A B R P Q:Nat} {b r p s:PZ} (h:QS t w x A B R P Q b r p s) (q:PZ): ∀y,y=zaU x Q (.string ⟨q.scheme.toArray⟩) (.bool q.hasS) (.string ⟨q.user.toArray⟩) (.bool q.hasU) (.string ⟨q.host.toArray⟩) (.bool q.hasA) (.string ⟨q.port.toArray⟩) (.bool q.hasP) (.string ⟨q.path.toArray⟩) (.string ⟨q.query.toArray⟩) (.bool q.hasQ) (.string ⟨q.frag.toArray⟩) (.bool q.hasF)→QS t w y A B R P Q b r p q:=by
 rintro y rfl
 have hP:P≠Q:=fun e=>h.nQ e.symm
 refine ⟨⟨⟨zaO h.rs.st.below h.hQ q,?_,?_,h.rs.st.hR,h.rs.st.hP,h.rs.st.ne⟩,?_,?_,h.rs.nA,h.rs.nB⟩,zeA h.pq _ _ _ _ _ _ _ _ _ _ _ _ _,h.nQ,h.qA,h.qB,h.qR,h.hQ⟩
 ·exact (zbR hP _ _ _ _ _ _ _ _ _ _ _ _ _).trans h.rs.st.row
 ·exact (zbR h.qR _ _ _ _ _ _ _ _ _ _ _ _ _).trans h.rs.st.res
 ·exact (zbR h.qA _ _ _ _ _ _ _ _ _ _ _ _ _).trans h.rs.pa
 ·exact (zbR h.qB _ _ _ _ _ _ _ _ _ _ _ _ _).trans h.rs.pb
theorem QS.first (t:TypeId) (w:World) (b r p:PZ):QS t w (((((w.alloc (.cells b.cells t)).alloc (.cells r.cells t)).alloc (.cells zaD.cells t)).alloc (.cells p.cells t)).alloc (.cells b.cells t)) w.heap.size (w.heap.size+1) (w.heap.size+1+1) (w.heap.size+1+1+1) (w.heap.size+1+1+1+1) b r p b:=by
 obtain ⟨h1,h2,h3,h4⟩:=zbX t w b r
 generalize (w.alloc (.cells b.cells t)).alloc (.cells r.cells t)=x at*
 have a1:=(Below.refl _ x).alloc (Nat.le_refl _) (.cells zaD.cells t)
 have z1:=PB.new t x zaD
 have s1:(x.alloc (.cells zaD.cells t)).heap.size=x.heap.size+1:=by simp
 generalize x.alloc (.cells zaD.cells t)=y at*
 have a2:=(Below.refl _ y).alloc (Nat.le_refl _) (.cells p.cells t)
 have z2:=PB.new t y p
 have s2:(y.alloc (.cells p.cells t)).heap.size=y.heap.size+1:=by simp
 generalize y.alloc (.cells p.cells t)=z at*
 have a3:=(Below.refl _ z).alloc (Nat.le_refl _) (.cells b.cells t)
 have z3:=PB.new t z b
 rw [s2,s1,←h4] at z3
 rw [s1,←h4] at z2
 rw [←h4] at z1
 exact ⟨⟨⟨zaS (zaS (zaS h3 a1) a2) a3,z2.below a3,(z1.below a2).below a3,by omega,by omega,by omega⟩,((h1.below a1).below a2).below a3,((h2.below a1).below a2).below a3,by omega,by omega⟩,z3,by omega,by omega,by omega,by omega,by omega⟩
theorem zcS (b r:PZ) (w:World) (hb:b.Few 100000) (hr:r.Few 100000) (h1:r.hasS=true) (res:PZ) (hres:{zaD with query:=r.query,hasQ:=r.hasQ,frag:=r.frag,hasF:=r.hasF,scheme:=r.scheme,hasS:=true,hasA:=r.hasA,user:=r.user,hasU:=r.hasU,host:=r.host,port:=r.port,hasP:=r.hasP,path:=zaG r.path}=res):
  Calls Tryz.prog 23 #[.agg b.cells,.agg r.cells] w (zcE w res):=by
 have HS0:=zlW (QS.first 28 w b r {zaD with query:=r.query,hasQ:=r.hasQ,frag:=r.frag,hasF:=r.hasF})
 have hrp:r.path.length≤1000000:=by have:=hr.2.2.2.2.1;omega
 have hbp:b.path.length≤1000000:=by have:=hb.2.2.2.2.1;omega
 have hmg:(zaM b.path b.hasA r.path).length≤1000000:=by have:=zbA b.path r.path b.hasA;have:=hr.2.2.2.2.1;have:=hb.2.2.2.2.1;omega
 have hqz:=zaF r.path
 have HRM:=zlW (fun W=>zaJ r.path W hrp)
 have HMG:=zlW (fun W=>zaR b.path r.path b.hasA W hbp hrp)
 have HRN:=zlW (fun W=>zaJ (zaM b.path b.hasA r.path) W hmg)
 generalize zaM b.path b.hasA r.path=mg at*
 obtain ⟨x0,hx0⟩: ∃y,y=((((w.alloc (.cells b.cells 28)).alloc (.cells r.cells 28)).alloc (.cells zaD.cells 28)).alloc (.cells {zaD with query:=r.query,hasQ:=r.hasQ,frag:=r.frag,hasF:=r.hasF}.cells 28)).alloc (.cells b.cells 28):=⟨_,rfl⟩
 rw [←hx0] at HS0
 dsimp only [PZ.cells,zaD] at hx0 ⊢
 clear hb hr hbp hmg
 have H1:=zlW h1
 clear h1
 have HRES:=zlW hres
 clear hres
 go_enter Tryz.func23,Tryz.ntmps23
 go_upto_region 3 with fail
 rw [←hx0]
 clear hx0
 generalize w.heap.size+1+1+1+1=Q at*
 generalize w.heap.size+1+1+1=P at*
 generalize w.heap.size+1+1=R at*
 generalize w.heap.size+1=B at*
 generalize hA:w.heap.size=A at*
 obtain ⟨r0,r1,r2,r3,r4,r5,r6,r7,r8,r9,r10,r11,r12⟩:=HS0.out.rs.pb.all
 rw [H1.out] at r1
 clear r0 r2 r3 r4 r6 r7 r8 r9 r10 r11 r12
 go_upto_region 4 with fail
 clear r1 r5
 obtain ⟨r0,r1,r2,r3,r4,r5,r6,r7,r8,r9,r10,r11,r12⟩:=HS0.out.rs.pb.all
 obtain ⟨d0,d1,d2,d3,d4,d5,d6,d7,d8,d9,d10,d11,d12⟩:=HS0.out.pq.all
 have rf:=HS0.out.pq.frozen
 have HSX:=zlW (HS0.out.site r _ rfl)
 unfold zaU at HSX
 clear HS0
 go_upto_region 5 with fail
 clear r0 r1 r2 r3 r4 r5 r6 r7 r8 r9 r10 r11 r12 d0 d1 d2 d3 d4 d5 d6 d7 d8 d9 d10 d11 d12 rf
 obtain ⟨x1,hx⟩: ∃z,z=(((((((((((((x0.setCell ⟨Q,0,none⟩ (.string ⟨r.scheme.toArray⟩)).setCell ⟨Q,1,none⟩ (.bool r.hasS)).setCell ⟨Q,2,none⟩ (.string ⟨r.user.toArray⟩)).setCell ⟨Q,3,none⟩ (.bool r.hasU)).setCell ⟨Q,4,none⟩ (.string ⟨r.host.toArray⟩)).setCell ⟨Q,5,none⟩ (.bool r.hasA)).setCell ⟨Q,6,none⟩ (.string ⟨r.port.toArray⟩)).setCell ⟨Q,7,none⟩ (.bool r.hasP)).setCell ⟨Q,8,none⟩ (.string ⟨r.path.toArray⟩)).setCell ⟨Q,9,none⟩ (.string ⟨r.query.toArray⟩)).setCell ⟨Q,10,none⟩ (.bool r.hasQ)).setCell ⟨Q,11,none⟩ (.string ⟨r.frag.toArray⟩)).setCell ⟨Q,12,none⟩ (.bool r.hasF)):=⟨_,rfl⟩
 rw [←hx] at HSX ⊢
 clear hx
 obtain ⟨g,-,-,-,-,-,-,-,-,-,-,-,-⟩:=HSX.out.rs.pa.all
 obtain ⟨v1,-,c0,f0,-⟩:=HSX.out.rs.st.st 0 0 (.string ⟨b.scheme.toArray⟩) (by decide) (by decide)
 go_upto_region 6 with fail
 clear c0 f0 v1 g
 obtain ⟨x2,hx⟩: ∃z,z=x1.setCell ⟨P,0,none⟩ (.string ⟨b.scheme.toArray⟩):=⟨_,rfl⟩
 have HS2:Hid ((QS 28 w x2 A B R P Q b r {zaD with query:=r.query,hasQ:=r.hasQ,frag:=r.frag,hasF:=r.hasF,scheme:=b.scheme} r)):=by rw [hx];exact HSX.out.set 0 _ rfl
 rw [←hx]
 clear hx HSX
 obtain ⟨-,g,-,-,-,-,-,-,-,-,-,-,-⟩:=HS2.out.rs.pa.all
 obtain ⟨v1,-,c0,f0,-⟩:=HS2.out.rs.st.st 1 1 (.bool b.hasS) (by decide) (by decide)
 go_upto_region 7 with fail
 clear c0 f0 v1 g
 obtain ⟨x3,hx⟩: ∃z,z=x2.setCell ⟨P,1,none⟩ (.bool b.hasS):=⟨_,rfl⟩
 have HS3:Hid ((QS 28 w x3 A B R P Q b r {zaD with query:=r.query,hasQ:=r.hasQ,frag:=r.frag,hasF:=r.hasF,scheme:=b.scheme,hasS:=b.hasS} r)):=by rw [hx];exact HS2.out.set 1 _ rfl
 rw [←hx]
 clear hx HS2
 obtain ⟨r0,r1,r2,r3,r4,r5,r6,r7,r8,r9,r10,r11,r12⟩:=HS3.out.rs.pb.all
 rw [H1.out] at r1
 clear r0 r2 r3 r4 r5 r6 r7 r8 r9 r10 r11 r12
 go_upto_region 8 with fail
 clear r1
 obtain ⟨g,-,-,-,-,-,-,-,-,-,-,-,-⟩:=HS3.out.rs.pb.all
 obtain ⟨v1,-,c0,f0,-⟩:=HS3.out.rs.st.st 0 0 (.string ⟨r.scheme.toArray⟩) (by decide) (by decide)
 go_upto_region 9 with fail
 clear c0 f0 v1 g
 obtain ⟨x4,hx⟩: ∃z,z=x3.setCell ⟨P,0,none⟩ (.string ⟨r.scheme.toArray⟩):=⟨_,rfl⟩
 have HS4:Hid ((QS 28 w x4 A B R P Q b r {zaD with query:=r.query,hasQ:=r.hasQ,frag:=r.frag,hasF:=r.hasF,scheme:=r.scheme,hasS:=b.hasS} r)):=by rw [hx];exact HS3.out.set 0 _ rfl
 rw [←hx]
 clear hx HS3
 obtain ⟨v1,-,c0,f0,-⟩:=HS4.out.rs.st.st 1 1 (.bool true) (by decide) (by decide)
 go_upto_region 10 with fail
 clear c0 f0 v1
 obtain ⟨x5,hx⟩: ∃z,z=x4.setCell ⟨P,1,none⟩ (.bool true):=⟨_,rfl⟩
 have HS5:Hid ((QS 28 w x5 A B R P Q b r {zaD with query:=r.query,hasQ:=r.hasQ,frag:=r.frag,hasF:=r.hasF,scheme:=r.scheme,hasS:=true} r)):=by rw [hx];exact HS4.out.set 1 _ rfl
 rw [←hx]
 clear hx HS4
 obtain ⟨-,-,-,-,-,g,-,-,-,-,-,-,-⟩:=HS5.out.pq.all
 obtain ⟨v1,-,c0,f0,-⟩:=HS5.out.rs.st.st 5 5 (.bool r.hasA) (by decide) (by decide)
 go_upto_region 11 with fail
 clear c0 f0 v1 g
 obtain ⟨x6,hx⟩: ∃z,z=x5.setCell ⟨P,5,none⟩ (.bool r.hasA):=⟨_,rfl⟩
 have HS6:Hid ((QS 28 w x6 A B R P Q b r {zaD with query:=r.query,hasQ:=r.hasQ,frag:=r.frag,hasF:=r.hasF,scheme:=r.scheme,hasS:=true,hasA:=r.hasA} r)):=by rw [hx];exact HS5.out.set 5 _ rfl
 rw [←hx]
 clear hx HS5
 obtain ⟨-,-,g,-,-,-,-,-,-,-,-,-,-⟩:=HS6.out.pq.all
 obtain ⟨v1,-,c0,f0,-⟩:=HS6.out.rs.st.st 2 2 (.string ⟨r.user.toArray⟩) (by decide) (by decide)
 go_upto_region 12 with fail
 clear c0 f0 v1 g
 obtain ⟨x7,hx⟩: ∃z,z=x6.setCell ⟨P,2,none⟩ (.string ⟨r.user.toArray⟩):=⟨_,rfl⟩
 have HS7:Hid ((QS 28 w x7 A B R P Q b r {zaD with query:=r.query,hasQ:=r.hasQ,frag:=r.frag,hasF:=r.hasF,scheme:=r.scheme,hasS:=true,hasA:=r.hasA,user:=r.user} r)):=by rw [hx];exact HS6.out.set 2 _ rfl
 rw [←hx]
 clear hx HS6
 obtain ⟨-,-,-,g,-,-,-,-,-,-,-,-,-⟩:=HS7.out.pq.all
 obtain ⟨v1,-,c0,f0,-⟩:=HS7.out.rs.st.st 3 3 (.bool r.hasU) (by decide) (by decide)
 go_upto_region 13 with fail
 clear c0 f0 v1 g
 obtain ⟨x8,hx⟩: ∃z,z=x7.setCell ⟨P,3,none⟩ (.bool r.hasU):=⟨_,rfl⟩
 have HS8:Hid ((QS 28 w x8 A B R P Q b r {zaD with query:=r.query,hasQ:=r.hasQ,frag:=r.frag,hasF:=r.hasF,scheme:=r.scheme,hasS:=true,hasA:=r.hasA,user:=r.user,hasU:=r.hasU} r)):=by rw [hx];exact HS7.out.set 3 _ rfl
 rw [←hx]
 clear hx HS7
 obtain ⟨-,-,-,-,g,-,-,-,-,-,-,-,-⟩:=HS8.out.pq.all
 obtain ⟨v1,-,c0,f0,-⟩:=HS8.out.rs.st.st 4 4 (.string ⟨r.host.toArray⟩) (by decide) (by decide)
 go_upto_region 14 with fail
 clear c0 f0 v1 g
 obtain ⟨x9,hx⟩: ∃z,z=x8.setCell ⟨P,4,none⟩ (.string ⟨r.host.toArray⟩):=⟨_,rfl⟩
 have HS9:Hid ((QS 28 w x9 A B R P Q b r {zaD with query:=r.query,hasQ:=r.hasQ,frag:=r.frag,hasF:=r.hasF,scheme:=r.scheme,hasS:=true,hasA:=r.hasA,user:=r.user,hasU:=r.hasU,host:=r.host} r)):=by rw [hx];exact HS8.out.set 4 _ rfl
 rw [←hx]
 clear hx HS8
 obtain ⟨-,-,-,-,-,-,g,-,-,-,-,-,-⟩:=HS9.out.pq.all
 obtain ⟨v1,-,c0,f0,-⟩:=HS9.out.rs.st.st 6 6 (.string ⟨r.port.toArray⟩) (by decide) (by decide)
 go_upto_region 15 with fail
 clear c0 f0 v1 g
 obtain ⟨x10,hx⟩: ∃z,z=x9.setCell ⟨P,6,none⟩ (.string ⟨r.port.toArray⟩):=⟨_,rfl⟩
 have HS10:Hid ((QS 28 w x10 A B R P Q b r {zaD with query:=r.query,hasQ:=r.hasQ,frag:=r.frag,hasF:=r.hasF,scheme:=r.scheme,hasS:=true,hasA:=r.hasA,user:=r.user,hasU:=r.hasU,host:=r.host,port:=r.port} r)):=by rw [hx];exact HS9.out.set 6 _ rfl
 rw [←hx]
 clear hx HS9
 obtain ⟨-,-,-,-,-,-,-,g,-,-,-,-,-⟩:=HS10.out.pq.all
 obtain ⟨v1,-,c0,f0,-⟩:=HS10.out.rs.st.st 7 7 (.bool r.hasP) (by decide) (by decide)
 go_upto_region 16 with fail
 clear c0 f0 v1 g
 obtain ⟨x11,hx⟩: ∃z,z=x10.setCell ⟨P,7,none⟩ (.bool r.hasP):=⟨_,rfl⟩
 have HS11:Hid ((QS 28 w x11 A B R P Q b r {zaD with query:=r.query,hasQ:=r.hasQ,frag:=r.frag,hasF:=r.hasF,scheme:=r.scheme,hasS:=true,hasA:=r.hasA,user:=r.user,hasU:=r.hasU,host:=r.host,port:=r.port,hasP:=r.hasP} r)):=by rw [hx];exact HS10.out.set 7 _ rfl
 rw [←hx]
 clear hx HS10
 obtain ⟨r0,r1,r2,r3,r4,r5,r6,r7,r8,r9,r10,r11,r12⟩:=HS11.out.rs.pb.all
 rw [H1.out] at r1
 clear r0 r2 r3 r4 r6 r7 r9 r11 r12
 go_wp2_with fail
 refine (HRM.out _).mono ?_
 rintro e y ⟨rfl,hy⟩
 clear r1 r5 r8 r10
 have HSY:=zlW (HS11.out.keep hy)
 clear hy HS11
 obtain ⟨v1,-,c0,f0,-⟩:=HSY.out.rs.st.st 8 8 (.string ⟨(zaG r.path).toArray⟩) (by decide) (by decide)
 go_upto_region 18 with fail
 clear c0 f0 v1
 obtain ⟨x12,hx⟩: ∃z,z=y.setCell ⟨P,8,none⟩ (.string ⟨(zaG r.path).toArray⟩):=⟨_,rfl⟩
 have HS12:Hid ((QS 28 w x12 A B R P Q b r {zaD with query:=r.query,hasQ:=r.hasQ,frag:=r.frag,hasF:=r.hasF,scheme:=r.scheme,hasS:=true,hasA:=r.hasA,user:=r.user,hasU:=r.hasU,host:=r.host,port:=r.port,hasP:=r.hasP,path:=zaG r.path} r)):=by rw [hx];exact HSY.out.set 8 _ rfl
 rw [←hx]
 clear hx HSY
 rw [show {zaD with query:=r.query,hasQ:=r.hasQ,frag:=r.frag,hasF:=r.hasF,scheme:=r.scheme,hasS:=true,hasA:=r.hasA,user:=r.user,hasU:=r.hasU,host:=r.host,port:=r.port,hasP:=r.hasP,path:=zaG r.path}=res from HRES.out] at HS12
 clear HRES
 obtain ⟨d0,d1,d2,d3,d4,d5,d6,d7,d8,d9,d10,d11,d12⟩:=HS12.out.rs.st.row.all
 obtain ⟨s0,s1,s2,s3,s4,s5,s6,s7,s8,s9,s10,s11,s12⟩:=HS12.out.rs.st.res.all
 have rf:=HS12.out.rs.st.res.frozen
 have hEB:=zaO HS12.out.rs.st.below HS12.out.rs.st.hR res
 have hEC:=zaP HS12.out.rs.st.res res _ rfl
 unfold zaU at hEB hEC
 have HEB:=zlW hEB
 have HEC:=zlW hEC
 clear hEB hEC HS12
 go_wp2
 obtain ⟨e0,e1,e2,e3,e4,e5,e6,e7,e8,e9,e10,e11,e12⟩:=HEC.out
 refine bodyPost_ret (v:= .agg res.cells) (by simp [results,Tryz.results23,go_sem,e0,e1,e2,e3,e4,e5,e6,e7,e8,e9,e10,e11,e12,PZ.cells]) rfl ?_
 exact ⟨rfl,HEB.out⟩
theorem zcL (b r:PZ) (w:World) (hb:b.Few 100000) (hr:r.Few 100000) (h1:r.hasS=false) (h2:r.hasA=true) (res:PZ) (hres:{zaD with query:=r.query,hasQ:=r.hasQ,frag:=r.frag,hasF:=r.hasF,scheme:=b.scheme,hasS:=b.hasS,hasA:=r.hasA,user:=r.user,hasU:=r.hasU,host:=r.host,port:=r.port,hasP:=r.hasP,path:=zaG r.path}=res):
  Calls Tryz.prog 23 #[.agg b.cells,.agg r.cells] w (zcE w res):=by
 have HS0:=zlW (QS.first 28 w b r {zaD with query:=r.query,hasQ:=r.hasQ,frag:=r.frag,hasF:=r.hasF})
 have hrp:r.path.length≤1000000:=by have:=hr.2.2.2.2.1;omega
 have hbp:b.path.length≤1000000:=by have:=hb.2.2.2.2.1;omega
 have hmg:(zaM b.path b.hasA r.path).length≤1000000:=by have:=zbA b.path r.path b.hasA;have:=hr.2.2.2.2.1;have:=hb.2.2.2.2.1;omega
 have hqz:=zaF r.path
 have HRM:=zlW (fun W=>zaJ r.path W hrp)
 have HMG:=zlW (fun W=>zaR b.path r.path b.hasA W hbp hrp)
 have HRN:=zlW (fun W=>zaJ (zaM b.path b.hasA r.path) W hmg)
 generalize zaM b.path b.hasA r.path=mg at*
 obtain ⟨x0,hx0⟩: ∃y,y=((((w.alloc (.cells b.cells 28)).alloc (.cells r.cells 28)).alloc (.cells zaD.cells 28)).alloc (.cells {zaD with query:=r.query,hasQ:=r.hasQ,frag:=r.frag,hasF:=r.hasF}.cells 28)).alloc (.cells b.cells 28):=⟨_,rfl⟩
 rw [←hx0] at HS0
 dsimp only [PZ.cells,zaD] at hx0 ⊢
 clear hb hr hbp hmg
 have H1:=zlW h1
 clear h1
 have H2:=zlW h2
 clear h2
 have HRES:=zlW hres
 clear hres
 go_enter Tryz.func23,Tryz.ntmps23
 go_upto_region 3 with fail
 rw [←hx0]
 clear hx0
 generalize w.heap.size+1+1+1+1=Q at*
 generalize w.heap.size+1+1+1=P at*
 generalize w.heap.size+1+1=R at*
 generalize w.heap.size+1=B at*
 generalize hA:w.heap.size=A at*
 obtain ⟨r0,r1,r2,r3,r4,r5,r6,r7,r8,r9,r10,r11,r12⟩:=HS0.out.rs.pb.all
 rw [H1.out] at r1
 rw [H2.out] at r5
 clear r0 r2 r3 r4 r6 r7 r8 r9 r10 r11 r12
 go_upto_region 4 with fail
 clear r1 r5
 obtain ⟨r0,r1,r2,r3,r4,r5,r6,r7,r8,r9,r10,r11,r12⟩:=HS0.out.rs.pb.all
 obtain ⟨d0,d1,d2,d3,d4,d5,d6,d7,d8,d9,d10,d11,d12⟩:=HS0.out.pq.all
 have rf:=HS0.out.pq.frozen
 have HSX:=zlW (HS0.out.site r _ rfl)
 unfold zaU at HSX
 clear HS0
 go_upto_region 5 with fail
 clear r0 r1 r2 r3 r4 r5 r6 r7 r8 r9 r10 r11 r12 d0 d1 d2 d3 d4 d5 d6 d7 d8 d9 d10 d11 d12 rf
 obtain ⟨x1,hx⟩: ∃z,z=(((((((((((((x0.setCell ⟨Q,0,none⟩ (.string ⟨r.scheme.toArray⟩)).setCell ⟨Q,1,none⟩ (.bool r.hasS)).setCell ⟨Q,2,none⟩ (.string ⟨r.user.toArray⟩)).setCell ⟨Q,3,none⟩ (.bool r.hasU)).setCell ⟨Q,4,none⟩ (.string ⟨r.host.toArray⟩)).setCell ⟨Q,5,none⟩ (.bool r.hasA)).setCell ⟨Q,6,none⟩ (.string ⟨r.port.toArray⟩)).setCell ⟨Q,7,none⟩ (.bool r.hasP)).setCell ⟨Q,8,none⟩ (.string ⟨r.path.toArray⟩)).setCell ⟨Q,9,none⟩ (.string ⟨r.query.toArray⟩)).setCell ⟨Q,10,none⟩ (.bool r.hasQ)).setCell ⟨Q,11,none⟩ (.string ⟨r.frag.toArray⟩)).setCell ⟨Q,12,none⟩ (.bool r.hasF)):=⟨_,rfl⟩
 rw [←hx] at HSX ⊢
 clear hx
 obtain ⟨g,-,-,-,-,-,-,-,-,-,-,-,-⟩:=HSX.out.rs.pa.all
 obtain ⟨v1,-,c0,f0,-⟩:=HSX.out.rs.st.st 0 0 (.string ⟨b.scheme.toArray⟩) (by decide) (by decide)
 go_upto_region 6 with fail
 clear c0 f0 v1 g
 obtain ⟨x2,hx⟩: ∃z,z=x1.setCell ⟨P,0,none⟩ (.string ⟨b.scheme.toArray⟩):=⟨_,rfl⟩
 have HS2:Hid ((QS 28 w x2 A B R P Q b r {zaD with query:=r.query,hasQ:=r.hasQ,frag:=r.frag,hasF:=r.hasF,scheme:=b.scheme} r)):=by rw [hx];exact HSX.out.set 0 _ rfl
 rw [←hx]
 clear hx HSX
 obtain ⟨-,g,-,-,-,-,-,-,-,-,-,-,-⟩:=HS2.out.rs.pa.all
 obtain ⟨v1,-,c0,f0,-⟩:=HS2.out.rs.st.st 1 1 (.bool b.hasS) (by decide) (by decide)
 go_upto_region 7 with fail
 clear c0 f0 v1 g
 obtain ⟨x3,hx⟩: ∃z,z=x2.setCell ⟨P,1,none⟩ (.bool b.hasS):=⟨_,rfl⟩
 have HS3:Hid ((QS 28 w x3 A B R P Q b r {zaD with query:=r.query,hasQ:=r.hasQ,frag:=r.frag,hasF:=r.hasF,scheme:=b.scheme,hasS:=b.hasS} r)):=by rw [hx];exact HS2.out.set 1 _ rfl
 rw [←hx]
 clear hx HS2
 obtain ⟨r0,r1,r2,r3,r4,r5,r6,r7,r8,r9,r10,r11,r12⟩:=HS3.out.rs.pb.all
 rw [H1.out] at r1
 rw [H2.out] at r5
 clear r0 r2 r3 r4 r5 r6 r7 r8 r9 r10 r11 r12
 go_upto_region 10 with fail
 clear r1
 obtain ⟨-,-,-,-,-,g,-,-,-,-,-,-,-⟩:=HS3.out.pq.all
 obtain ⟨v1,-,c0,f0,-⟩:=HS3.out.rs.st.st 5 5 (.bool r.hasA) (by decide) (by decide)
 go_upto_region 11 with fail
 clear c0 f0 v1 g
 obtain ⟨x4,hx⟩: ∃z,z=x3.setCell ⟨P,5,none⟩ (.bool r.hasA):=⟨_,rfl⟩
 have HS4:Hid ((QS 28 w x4 A B R P Q b r {zaD with query:=r.query,hasQ:=r.hasQ,frag:=r.frag,hasF:=r.hasF,scheme:=b.scheme,hasS:=b.hasS,hasA:=r.hasA} r)):=by rw [hx];exact HS3.out.set 5 _ rfl
 rw [←hx]
 clear hx HS3
 obtain ⟨-,-,g,-,-,-,-,-,-,-,-,-,-⟩:=HS4.out.pq.all
 obtain ⟨v1,-,c0,f0,-⟩:=HS4.out.rs.st.st 2 2 (.string ⟨r.user.toArray⟩) (by decide) (by decide)
 go_upto_region 12 with fail
 clear c0 f0 v1 g
 obtain ⟨x5,hx⟩: ∃z,z=x4.setCell ⟨P,2,none⟩ (.string ⟨r.user.toArray⟩):=⟨_,rfl⟩
 have HS5:Hid ((QS 28 w x5 A B R P Q b r {zaD with query:=r.query,hasQ:=r.hasQ,frag:=r.frag,hasF:=r.hasF,scheme:=b.scheme,hasS:=b.hasS,hasA:=r.hasA,user:=r.user} r)):=by rw [hx];exact HS4.out.set 2 _ rfl
 rw [←hx]
 clear hx HS4
 obtain ⟨-,-,-,g,-,-,-,-,-,-,-,-,-⟩:=HS5.out.pq.all
 obtain ⟨v1,-,c0,f0,-⟩:=HS5.out.rs.st.st 3 3 (.bool r.hasU) (by decide) (by decide)
 go_upto_region 13 with fail
 clear c0 f0 v1 g
 obtain ⟨x6,hx⟩: ∃z,z=x5.setCell ⟨P,3,none⟩ (.bool r.hasU):=⟨_,rfl⟩
 have HS6:Hid ((QS 28 w x6 A B R P Q b r {zaD with query:=r.query,hasQ:=r.hasQ,frag:=r.frag,hasF:=r.hasF,scheme:=b.scheme,hasS:=b.hasS,hasA:=r.hasA,user:=r.user,hasU:=r.hasU} r)):=by rw [hx];exact HS5.out.set 3 _ rfl
 rw [←hx]
 clear hx HS5
 obtain ⟨-,-,-,-,g,-,-,-,-,-,-,-,-⟩:=HS6.out.pq.all
 obtain ⟨v1,-,c0,f0,-⟩:=HS6.out.rs.st.st 4 4 (.string ⟨r.host.toArray⟩) (by decide) (by decide)
 go_upto_region 14 with fail
 clear c0 f0 v1 g
 obtain ⟨x7,hx⟩: ∃z,z=x6.setCell ⟨P,4,none⟩ (.string ⟨r.host.toArray⟩):=⟨_,rfl⟩
 have HS7:Hid ((QS 28 w x7 A B R P Q b r {zaD with query:=r.query,hasQ:=r.hasQ,frag:=r.frag,hasF:=r.hasF,scheme:=b.scheme,hasS:=b.hasS,hasA:=r.hasA,user:=r.user,hasU:=r.hasU,host:=r.host} r)):=by rw [hx];exact HS6.out.set 4 _ rfl
 rw [←hx]
 clear hx HS6
 obtain ⟨-,-,-,-,-,-,g,-,-,-,-,-,-⟩:=HS7.out.pq.all
 obtain ⟨v1,-,c0,f0,-⟩:=HS7.out.rs.st.st 6 6 (.string ⟨r.port.toArray⟩) (by decide) (by decide)
 go_upto_region 15 with fail
 clear c0 f0 v1 g
 obtain ⟨x8,hx⟩: ∃z,z=x7.setCell ⟨P,6,none⟩ (.string ⟨r.port.toArray⟩):=⟨_,rfl⟩
 have HS8:Hid ((QS 28 w x8 A B R P Q b r {zaD with query:=r.query,hasQ:=r.hasQ,frag:=r.frag,hasF:=r.hasF,scheme:=b.scheme,hasS:=b.hasS,hasA:=r.hasA,user:=r.user,hasU:=r.hasU,host:=r.host,port:=r.port} r)):=by rw [hx];exact HS7.out.set 6 _ rfl
 rw [←hx]
 clear hx HS7
 obtain ⟨-,-,-,-,-,-,-,g,-,-,-,-,-⟩:=HS8.out.pq.all
 obtain ⟨v1,-,c0,f0,-⟩:=HS8.out.rs.st.st 7 7 (.bool r.hasP) (by decide) (by decide)
 go_upto_region 16 with fail
 clear c0 f0 v1 g
 obtain ⟨x9,hx⟩: ∃z,z=x8.setCell ⟨P,7,none⟩ (.bool r.hasP):=⟨_,rfl⟩
 have HS9:Hid ((QS 28 w x9 A B R P Q b r {zaD with query:=r.query,hasQ:=r.hasQ,frag:=r.frag,hasF:=r.hasF,scheme:=b.scheme,hasS:=b.hasS,hasA:=r.hasA,user:=r.user,hasU:=r.hasU,host:=r.host,port:=r.port,hasP:=r.hasP} r)):=by rw [hx];exact HS8.out.set 7 _ rfl
 rw [←hx]
 clear hx HS8
 obtain ⟨r0,r1,r2,r3,r4,r5,r6,r7,r8,r9,r10,r11,r12⟩:=HS9.out.rs.pb.all
 rw [H1.out] at r1
 rw [H2.out] at r5
 clear r0 r2 r3 r4 r6 r7 r9 r11 r12
 go_wp2_with fail
 refine (HRM.out _).mono ?_
 rintro e y ⟨rfl,hy⟩
 clear r1 r5 r8 r10
 have HSY:=zlW (HS9.out.keep hy)
 clear hy HS9
 obtain ⟨v1,-,c0,f0,-⟩:=HSY.out.rs.st.st 8 8 (.string ⟨(zaG r.path).toArray⟩) (by decide) (by decide)
 go_upto_region 18 with fail
 clear c0 f0 v1
 obtain ⟨x10,hx⟩: ∃z,z=y.setCell ⟨P,8,none⟩ (.string ⟨(zaG r.path).toArray⟩):=⟨_,rfl⟩
 have HS10:Hid ((QS 28 w x10 A B R P Q b r {zaD with query:=r.query,hasQ:=r.hasQ,frag:=r.frag,hasF:=r.hasF,scheme:=b.scheme,hasS:=b.hasS,hasA:=r.hasA,user:=r.user,hasU:=r.hasU,host:=r.host,port:=r.port,hasP:=r.hasP,path:=zaG r.path} r)):=by rw [hx];exact HSY.out.set 8 _ rfl
 rw [←hx]
 clear hx HSY
 rw [show {zaD with query:=r.query,hasQ:=r.hasQ,frag:=r.frag,hasF:=r.hasF,scheme:=b.scheme,hasS:=b.hasS,hasA:=r.hasA,user:=r.user,hasU:=r.hasU,host:=r.host,port:=r.port,hasP:=r.hasP,path:=zaG r.path}=res from HRES.out] at HS10
 clear HRES
 obtain ⟨d0,d1,d2,d3,d4,d5,d6,d7,d8,d9,d10,d11,d12⟩:=HS10.out.rs.st.row.all
 obtain ⟨s0,s1,s2,s3,s4,s5,s6,s7,s8,s9,s10,s11,s12⟩:=HS10.out.rs.st.res.all
 have rf:=HS10.out.rs.st.res.frozen
 have hEB:=zaO HS10.out.rs.st.below HS10.out.rs.st.hR res
 have hEC:=zaP HS10.out.rs.st.res res _ rfl
 unfold zaU at hEB hEC
 have HEB:=zlW hEB
 have HEC:=zlW hEC
 clear hEB hEC HS10
 go_wp2
 obtain ⟨e0,e1,e2,e3,e4,e5,e6,e7,e8,e9,e10,e11,e12⟩:=HEC.out
 refine bodyPost_ret (v:= .agg res.cells) (by simp [results,Tryz.results23,go_sem,e0,e1,e2,e3,e4,e5,e6,e7,e8,e9,e10,e11,e12,PZ.cells]) rfl ?_
 exact ⟨rfl,HEB.out⟩
theorem zcJ (b r:PZ) (w:World) (hb:b.Few 100000) (hr:r.Few 100000) (h1:r.hasS=false) (h2:r.hasA=false) (h3:(0:Int)<r.path.length) (h5: ∀h:0<(ByteArray.mk r.path.toArray).size,(ByteArray.mk r.path.toArray)[0]'h=47) (res:PZ) (hres:{zaD with query:=r.query,hasQ:=r.hasQ,frag:=r.frag,hasF:=r.hasF,scheme:=b.scheme,hasS:=b.hasS,hasA:=b.hasA,user:=b.user,hasU:=b.hasU,host:=b.host,port:=b.port,hasP:=b.hasP,path:=zaG r.path}=res):
  Calls Tryz.prog 23 #[.agg b.cells,.agg r.cells] w (zcE w res):=by
 have HS0:=zlW (QS.first 28 w b r {zaD with query:=r.query,hasQ:=r.hasQ,frag:=r.frag,hasF:=r.hasF})
 have hrp:r.path.length≤1000000:=by have:=hr.2.2.2.2.1;omega
 have hbp:b.path.length≤1000000:=by have:=hb.2.2.2.2.1;omega
 have hmg:(zaM b.path b.hasA r.path).length≤1000000:=by have:=zbA b.path r.path b.hasA;have:=hr.2.2.2.2.1;have:=hb.2.2.2.2.1;omega
 have hqz:=zaF r.path
 have HRM:=zlW (fun W=>zaJ r.path W hrp)
 have HMG:=zlW (fun W=>zaR b.path r.path b.hasA W hbp hrp)
 have HRN:=zlW (fun W=>zaJ (zaM b.path b.hasA r.path) W hmg)
 generalize zaM b.path b.hasA r.path=mg at*
 obtain ⟨x0,hx0⟩: ∃y,y=((((w.alloc (.cells b.cells 28)).alloc (.cells r.cells 28)).alloc (.cells zaD.cells 28)).alloc (.cells {zaD with query:=r.query,hasQ:=r.hasQ,frag:=r.frag,hasF:=r.hasF}.cells 28)).alloc (.cells b.cells 28):=⟨_,rfl⟩
 rw [←hx0] at HS0
 dsimp only [PZ.cells,zaD] at hx0 ⊢
 clear hb hr hbp hmg
 have H1:=zlW h1
 clear h1
 have H2:=zlW h2
 clear h2
 have H3:=zlW h3
 clear h3
 have H5:=zlW h5
 clear h5
 have HRES:=zlW hres
 clear hres
 go_enter Tryz.func23,Tryz.ntmps23
 go_upto_region 3 with fail
 rw [←hx0]
 clear hx0
 generalize w.heap.size+1+1+1+1=Q at*
 generalize w.heap.size+1+1+1=P at*
 generalize w.heap.size+1+1=R at*
 generalize w.heap.size+1=B at*
 generalize hA:w.heap.size=A at*
 obtain ⟨r0,r1,r2,r3,r4,r5,r6,r7,r8,r9,r10,r11,r12⟩:=HS0.out.rs.pb.all
 rw [H1.out] at r1
 rw [H2.out] at r5
 clear r0 r2 r3 r4 r6 r7 r8 r9 r10 r11 r12
 go_upto_region 5 with fail
 clear r1 r5
 obtain ⟨g,-,-,-,-,-,-,-,-,-,-,-,-⟩:=HS0.out.rs.pa.all
 obtain ⟨v1,-,c0,f0,-⟩:=HS0.out.rs.st.st 0 0 (.string ⟨b.scheme.toArray⟩) (by decide) (by decide)
 go_upto_region 6 with fail
 clear c0 f0 v1 g
 obtain ⟨x1,hx⟩: ∃z,z=x0.setCell ⟨P,0,none⟩ (.string ⟨b.scheme.toArray⟩):=⟨_,rfl⟩
 have HS1:Hid ((QS 28 w x1 A B R P Q b r {zaD with query:=r.query,hasQ:=r.hasQ,frag:=r.frag,hasF:=r.hasF,scheme:=b.scheme} b)):=by rw [hx];exact HS0.out.set 0 _ rfl
 rw [←hx]
 clear hx HS0
 obtain ⟨-,g,-,-,-,-,-,-,-,-,-,-,-⟩:=HS1.out.rs.pa.all
 obtain ⟨v1,-,c0,f0,-⟩:=HS1.out.rs.st.st 1 1 (.bool b.hasS) (by decide) (by decide)
 go_upto_region 7 with fail
 clear c0 f0 v1 g
 obtain ⟨x2,hx⟩: ∃z,z=x1.setCell ⟨P,1,none⟩ (.bool b.hasS):=⟨_,rfl⟩
 have HS2:Hid ((QS 28 w x2 A B R P Q b r {zaD with query:=r.query,hasQ:=r.hasQ,frag:=r.frag,hasF:=r.hasF,scheme:=b.scheme,hasS:=b.hasS} b)):=by rw [hx];exact HS1.out.set 1 _ rfl
 rw [←hx]
 clear hx HS1
 obtain ⟨r0,r1,r2,r3,r4,r5,r6,r7,r8,r9,r10,r11,r12⟩:=HS2.out.rs.pb.all
 rw [H1.out] at r1
 rw [H2.out] at r5
 clear r0 r2 r3 r4 r5 r6 r7 r8 r9 r10 r11 r12
 go_upto_region 10 with fail
 clear r1
 obtain ⟨-,-,-,-,-,g,-,-,-,-,-,-,-⟩:=HS2.out.pq.all
 obtain ⟨v1,-,c0,f0,-⟩:=HS2.out.rs.st.st 5 5 (.bool b.hasA) (by decide) (by decide)
 go_upto_region 11 with fail
 clear c0 f0 v1 g
 obtain ⟨x3,hx⟩: ∃z,z=x2.setCell ⟨P,5,none⟩ (.bool b.hasA):=⟨_,rfl⟩
 have HS3:Hid ((QS 28 w x3 A B R P Q b r {zaD with query:=r.query,hasQ:=r.hasQ,frag:=r.frag,hasF:=r.hasF,scheme:=b.scheme,hasS:=b.hasS,hasA:=b.hasA} b)):=by rw [hx];exact HS2.out.set 5 _ rfl
 rw [←hx]
 clear hx HS2
 obtain ⟨-,-,g,-,-,-,-,-,-,-,-,-,-⟩:=HS3.out.pq.all
 obtain ⟨v1,-,c0,f0,-⟩:=HS3.out.rs.st.st 2 2 (.string ⟨b.user.toArray⟩) (by decide) (by decide)
 go_upto_region 12 with fail
 clear c0 f0 v1 g
 obtain ⟨x4,hx⟩: ∃z,z=x3.setCell ⟨P,2,none⟩ (.string ⟨b.user.toArray⟩):=⟨_,rfl⟩
 have HS4:Hid ((QS 28 w x4 A B R P Q b r {zaD with query:=r.query,hasQ:=r.hasQ,frag:=r.frag,hasF:=r.hasF,scheme:=b.scheme,hasS:=b.hasS,hasA:=b.hasA,user:=b.user} b)):=by rw [hx];exact HS3.out.set 2 _ rfl
 rw [←hx]
 clear hx HS3
 obtain ⟨-,-,-,g,-,-,-,-,-,-,-,-,-⟩:=HS4.out.pq.all
 obtain ⟨v1,-,c0,f0,-⟩:=HS4.out.rs.st.st 3 3 (.bool b.hasU) (by decide) (by decide)
 go_upto_region 13 with fail
 clear c0 f0 v1 g
 obtain ⟨x5,hx⟩: ∃z,z=x4.setCell ⟨P,3,none⟩ (.bool b.hasU):=⟨_,rfl⟩
 have HS5:Hid ((QS 28 w x5 A B R P Q b r {zaD with query:=r.query,hasQ:=r.hasQ,frag:=r.frag,hasF:=r.hasF,scheme:=b.scheme,hasS:=b.hasS,hasA:=b.hasA,user:=b.user,hasU:=b.hasU} b)):=by rw [hx];exact HS4.out.set 3 _ rfl
 rw [←hx]
 clear hx HS4
 obtain ⟨-,-,-,-,g,-,-,-,-,-,-,-,-⟩:=HS5.out.pq.all
 obtain ⟨v1,-,c0,f0,-⟩:=HS5.out.rs.st.st 4 4 (.string ⟨b.host.toArray⟩) (by decide) (by decide)
 go_upto_region 14 with fail
 clear c0 f0 v1 g
 obtain ⟨x6,hx⟩: ∃z,z=x5.setCell ⟨P,4,none⟩ (.string ⟨b.host.toArray⟩):=⟨_,rfl⟩
 have HS6:Hid ((QS 28 w x6 A B R P Q b r {zaD with query:=r.query,hasQ:=r.hasQ,frag:=r.frag,hasF:=r.hasF,scheme:=b.scheme,hasS:=b.hasS,hasA:=b.hasA,user:=b.user,hasU:=b.hasU,host:=b.host} b)):=by rw [hx];exact HS5.out.set 4 _ rfl
 rw [←hx]
 clear hx HS5
 obtain ⟨-,-,-,-,-,-,g,-,-,-,-,-,-⟩:=HS6.out.pq.all
 obtain ⟨v1,-,c0,f0,-⟩:=HS6.out.rs.st.st 6 6 (.string ⟨b.port.toArray⟩) (by decide) (by decide)
 go_upto_region 15 with fail
 clear c0 f0 v1 g
 obtain ⟨x7,hx⟩: ∃z,z=x6.setCell ⟨P,6,none⟩ (.string ⟨b.port.toArray⟩):=⟨_,rfl⟩
 have HS7:Hid ((QS 28 w x7 A B R P Q b r {zaD with query:=r.query,hasQ:=r.hasQ,frag:=r.frag,hasF:=r.hasF,scheme:=b.scheme,hasS:=b.hasS,hasA:=b.hasA,user:=b.user,hasU:=b.hasU,host:=b.host,port:=b.port} b)):=by rw [hx];exact HS6.out.set 6 _ rfl
 rw [←hx]
 clear hx HS6
 obtain ⟨-,-,-,-,-,-,-,g,-,-,-,-,-⟩:=HS7.out.pq.all
 obtain ⟨v1,-,c0,f0,-⟩:=HS7.out.rs.st.st 7 7 (.bool b.hasP) (by decide) (by decide)
 go_upto_region 16 with fail
 clear c0 f0 v1 g
 obtain ⟨x8,hx⟩: ∃z,z=x7.setCell ⟨P,7,none⟩ (.bool b.hasP):=⟨_,rfl⟩
 have HS8:Hid ((QS 28 w x8 A B R P Q b r {zaD with query:=r.query,hasQ:=r.hasQ,frag:=r.frag,hasF:=r.hasF,scheme:=b.scheme,hasS:=b.hasS,hasA:=b.hasA,user:=b.user,hasU:=b.hasU,host:=b.host,port:=b.port,hasP:=b.hasP} b)):=by rw [hx];exact HS7.out.set 7 _ rfl
 rw [←hx]
 clear hx HS7
 obtain ⟨r0,r1,r2,r3,r4,r5,r6,r7,r8,r9,r10,r11,r12⟩:=HS8.out.rs.pb.all
 rw [H1.out] at r1
 rw [H2.out] at r5
 clear r0 r2 r3 r4 r6 r7 r9 r11 r12
 have h5:=H5.out (by rw [hqz];have:=H3.out;omega)
 have h3:=H3.out
 go_wp2_with fail
 refine (HRM.out _).mono ?_
 rintro e y ⟨rfl,hy⟩
 clear r1 r5 r8 r10 h5 h3
 have HSY:=zlW (HS8.out.keep hy)
 clear hy HS8
 obtain ⟨v1,-,c0,f0,-⟩:=HSY.out.rs.st.st 8 8 (.string ⟨(zaG r.path).toArray⟩) (by decide) (by decide)
 go_upto_region 18 with fail
 clear c0 f0 v1
 obtain ⟨x9,hx⟩: ∃z,z=y.setCell ⟨P,8,none⟩ (.string ⟨(zaG r.path).toArray⟩):=⟨_,rfl⟩
 have HS9:Hid ((QS 28 w x9 A B R P Q b r {zaD with query:=r.query,hasQ:=r.hasQ,frag:=r.frag,hasF:=r.hasF,scheme:=b.scheme,hasS:=b.hasS,hasA:=b.hasA,user:=b.user,hasU:=b.hasU,host:=b.host,port:=b.port,hasP:=b.hasP,path:=zaG r.path} b)):=by rw [hx];exact HSY.out.set 8 _ rfl
 rw [←hx]
 clear hx HSY
 rw [show {zaD with query:=r.query,hasQ:=r.hasQ,frag:=r.frag,hasF:=r.hasF,scheme:=b.scheme,hasS:=b.hasS,hasA:=b.hasA,user:=b.user,hasU:=b.hasU,host:=b.host,port:=b.port,hasP:=b.hasP,path:=zaG r.path}=res from HRES.out] at HS9
 clear HRES
 obtain ⟨d0,d1,d2,d3,d4,d5,d6,d7,d8,d9,d10,d11,d12⟩:=HS9.out.rs.st.row.all
 obtain ⟨s0,s1,s2,s3,s4,s5,s6,s7,s8,s9,s10,s11,s12⟩:=HS9.out.rs.st.res.all
 have rf:=HS9.out.rs.st.res.frozen
 have hEB:=zaO HS9.out.rs.st.below HS9.out.rs.st.hR res
 have hEC:=zaP HS9.out.rs.st.res res _ rfl
 unfold zaU at hEB hEC
 have HEB:=zlW hEB
 have HEC:=zlW hEC
 clear hEB hEC HS9
 go_wp2
 obtain ⟨e0,e1,e2,e3,e4,e5,e6,e7,e8,e9,e10,e11,e12⟩:=HEC.out
 refine bodyPost_ret (v:= .agg res.cells) (by simp [results,Tryz.results23,go_sem,e0,e1,e2,e3,e4,e5,e6,e7,e8,e9,e10,e11,e12,PZ.cells]) rfl ?_
 exact ⟨rfl,HEB.out⟩
theorem zcO (b r:PZ) (w:World) (hb:b.Few 100000) (hr:r.Few 100000) (h1:r.hasS=false) (h2:r.hasA=false) (h3:r.path=[]) (h4:r.hasQ=true) (res:PZ) (hres:{zaD with query:=r.query,hasQ:=r.hasQ,frag:=r.frag,hasF:=r.hasF,scheme:=b.scheme,hasS:=b.hasS,hasA:=b.hasA,user:=b.user,hasU:=b.hasU,host:=b.host,port:=b.port,hasP:=b.hasP,path:=b.path}=res):
  Calls Tryz.prog 23 #[.agg b.cells,.agg r.cells] w (zcE w res):=by
 have HS0:=zlW (QS.first 28 w b r {zaD with query:=r.query,hasQ:=r.hasQ,frag:=r.frag,hasF:=r.hasF})
 have hrp:r.path.length≤1000000:=by have:=hr.2.2.2.2.1;omega
 have hbp:b.path.length≤1000000:=by have:=hb.2.2.2.2.1;omega
 have hmg:(zaM b.path b.hasA r.path).length≤1000000:=by have:=zbA b.path r.path b.hasA;have:=hr.2.2.2.2.1;have:=hb.2.2.2.2.1;omega
 have hqz:=zaF r.path
 have HRM:=zlW (fun W=>zaJ r.path W hrp)
 have HMG:=zlW (fun W=>zaR b.path r.path b.hasA W hbp hrp)
 have HRN:=zlW (fun W=>zaJ (zaM b.path b.hasA r.path) W hmg)
 generalize zaM b.path b.hasA r.path=mg at*
 obtain ⟨x0,hx0⟩: ∃y,y=((((w.alloc (.cells b.cells 28)).alloc (.cells r.cells 28)).alloc (.cells zaD.cells 28)).alloc (.cells {zaD with query:=r.query,hasQ:=r.hasQ,frag:=r.frag,hasF:=r.hasF}.cells 28)).alloc (.cells b.cells 28):=⟨_,rfl⟩
 rw [←hx0] at HS0
 dsimp only [PZ.cells,zaD] at hx0 ⊢
 clear hb hr hbp hmg
 have H1:=zlW h1
 clear h1
 have H2:=zlW h2
 clear h2
 have H3:=zlW h3
 clear h3
 have H4:=zlW h4
 clear h4
 have HRES:=zlW hres
 clear hres
 go_enter Tryz.func23,Tryz.ntmps23
 go_upto_region 3 with fail
 rw [←hx0]
 clear hx0
 generalize w.heap.size+1+1+1+1=Q at*
 generalize w.heap.size+1+1+1=P at*
 generalize w.heap.size+1+1=R at*
 generalize w.heap.size+1=B at*
 generalize hA:w.heap.size=A at*
 obtain ⟨r0,r1,r2,r3,r4,r5,r6,r7,r8,r9,r10,r11,r12⟩:=HS0.out.rs.pb.all
 rw [H1.out] at r1
 rw [H2.out] at r5
 rw [H4.out] at r10
 rw [H3.out] at r8
 clear r0 r2 r3 r4 r6 r7 r8 r9 r10 r11 r12
 go_upto_region 5 with fail
 clear r1 r5
 obtain ⟨g,-,-,-,-,-,-,-,-,-,-,-,-⟩:=HS0.out.rs.pa.all
 obtain ⟨v1,-,c0,f0,-⟩:=HS0.out.rs.st.st 0 0 (.string ⟨b.scheme.toArray⟩) (by decide) (by decide)
 go_upto_region 6 with fail
 clear c0 f0 v1 g
 obtain ⟨x1,hx⟩: ∃z,z=x0.setCell ⟨P,0,none⟩ (.string ⟨b.scheme.toArray⟩):=⟨_,rfl⟩
 have HS1:Hid ((QS 28 w x1 A B R P Q b r {zaD with query:=r.query,hasQ:=r.hasQ,frag:=r.frag,hasF:=r.hasF,scheme:=b.scheme} b)):=by rw [hx];exact HS0.out.set 0 _ rfl
 rw [←hx]
 clear hx HS0
 obtain ⟨-,g,-,-,-,-,-,-,-,-,-,-,-⟩:=HS1.out.rs.pa.all
 obtain ⟨v1,-,c0,f0,-⟩:=HS1.out.rs.st.st 1 1 (.bool b.hasS) (by decide) (by decide)
 go_upto_region 7 with fail
 clear c0 f0 v1 g
 obtain ⟨x2,hx⟩: ∃z,z=x1.setCell ⟨P,1,none⟩ (.bool b.hasS):=⟨_,rfl⟩
 have HS2:Hid ((QS 28 w x2 A B R P Q b r {zaD with query:=r.query,hasQ:=r.hasQ,frag:=r.frag,hasF:=r.hasF,scheme:=b.scheme,hasS:=b.hasS} b)):=by rw [hx];exact HS1.out.set 1 _ rfl
 rw [←hx]
 clear hx HS1
 obtain ⟨r0,r1,r2,r3,r4,r5,r6,r7,r8,r9,r10,r11,r12⟩:=HS2.out.rs.pb.all
 rw [H1.out] at r1
 rw [H2.out] at r5
 rw [H4.out] at r10
 rw [H3.out] at r8
 clear r0 r2 r3 r4 r5 r6 r7 r8 r9 r10 r11 r12
 go_upto_region 10 with fail
 clear r1
 obtain ⟨-,-,-,-,-,g,-,-,-,-,-,-,-⟩:=HS2.out.pq.all
 obtain ⟨v1,-,c0,f0,-⟩:=HS2.out.rs.st.st 5 5 (.bool b.hasA) (by decide) (by decide)
 go_upto_region 11 with fail
 clear c0 f0 v1 g
 obtain ⟨x3,hx⟩: ∃z,z=x2.setCell ⟨P,5,none⟩ (.bool b.hasA):=⟨_,rfl⟩
 have HS3:Hid ((QS 28 w x3 A B R P Q b r {zaD with query:=r.query,hasQ:=r.hasQ,frag:=r.frag,hasF:=r.hasF,scheme:=b.scheme,hasS:=b.hasS,hasA:=b.hasA} b)):=by rw [hx];exact HS2.out.set 5 _ rfl
 rw [←hx]
 clear hx HS2
 obtain ⟨-,-,g,-,-,-,-,-,-,-,-,-,-⟩:=HS3.out.pq.all
 obtain ⟨v1,-,c0,f0,-⟩:=HS3.out.rs.st.st 2 2 (.string ⟨b.user.toArray⟩) (by decide) (by decide)
 go_upto_region 12 with fail
 clear c0 f0 v1 g
 obtain ⟨x4,hx⟩: ∃z,z=x3.setCell ⟨P,2,none⟩ (.string ⟨b.user.toArray⟩):=⟨_,rfl⟩
 have HS4:Hid ((QS 28 w x4 A B R P Q b r {zaD with query:=r.query,hasQ:=r.hasQ,frag:=r.frag,hasF:=r.hasF,scheme:=b.scheme,hasS:=b.hasS,hasA:=b.hasA,user:=b.user} b)):=by rw [hx];exact HS3.out.set 2 _ rfl
 rw [←hx]
 clear hx HS3
 obtain ⟨-,-,-,g,-,-,-,-,-,-,-,-,-⟩:=HS4.out.pq.all
 obtain ⟨v1,-,c0,f0,-⟩:=HS4.out.rs.st.st 3 3 (.bool b.hasU) (by decide) (by decide)
 go_upto_region 13 with fail
 clear c0 f0 v1 g
 obtain ⟨x5,hx⟩: ∃z,z=x4.setCell ⟨P,3,none⟩ (.bool b.hasU):=⟨_,rfl⟩
 have HS5:Hid ((QS 28 w x5 A B R P Q b r {zaD with query:=r.query,hasQ:=r.hasQ,frag:=r.frag,hasF:=r.hasF,scheme:=b.scheme,hasS:=b.hasS,hasA:=b.hasA,user:=b.user,hasU:=b.hasU} b)):=by rw [hx];exact HS4.out.set 3 _ rfl
 rw [←hx]
 clear hx HS4
 obtain ⟨-,-,-,-,g,-,-,-,-,-,-,-,-⟩:=HS5.out.pq.all
 obtain ⟨v1,-,c0,f0,-⟩:=HS5.out.rs.st.st 4 4 (.string ⟨b.host.toArray⟩) (by decide) (by decide)
 go_upto_region 14 with fail
 clear c0 f0 v1 g
 obtain ⟨x6,hx⟩: ∃z,z=x5.setCell ⟨P,4,none⟩ (.string ⟨b.host.toArray⟩):=⟨_,rfl⟩
 have HS6:Hid ((QS 28 w x6 A B R P Q b r {zaD with query:=r.query,hasQ:=r.hasQ,frag:=r.frag,hasF:=r.hasF,scheme:=b.scheme,hasS:=b.hasS,hasA:=b.hasA,user:=b.user,hasU:=b.hasU,host:=b.host} b)):=by rw [hx];exact HS5.out.set 4 _ rfl
 rw [←hx]
 clear hx HS5
 obtain ⟨-,-,-,-,-,-,g,-,-,-,-,-,-⟩:=HS6.out.pq.all
 obtain ⟨v1,-,c0,f0,-⟩:=HS6.out.rs.st.st 6 6 (.string ⟨b.port.toArray⟩) (by decide) (by decide)
 go_upto_region 15 with fail
 clear c0 f0 v1 g
 obtain ⟨x7,hx⟩: ∃z,z=x6.setCell ⟨P,6,none⟩ (.string ⟨b.port.toArray⟩):=⟨_,rfl⟩
 have HS7:Hid ((QS 28 w x7 A B R P Q b r {zaD with query:=r.query,hasQ:=r.hasQ,frag:=r.frag,hasF:=r.hasF,scheme:=b.scheme,hasS:=b.hasS,hasA:=b.hasA,user:=b.user,hasU:=b.hasU,host:=b.host,port:=b.port} b)):=by rw [hx];exact HS6.out.set 6 _ rfl
 rw [←hx]
 clear hx HS6
 obtain ⟨-,-,-,-,-,-,-,g,-,-,-,-,-⟩:=HS7.out.pq.all
 obtain ⟨v1,-,c0,f0,-⟩:=HS7.out.rs.st.st 7 7 (.bool b.hasP) (by decide) (by decide)
 go_upto_region 16 with fail
 clear c0 f0 v1 g
 obtain ⟨x8,hx⟩: ∃z,z=x7.setCell ⟨P,7,none⟩ (.bool b.hasP):=⟨_,rfl⟩
 have HS8:Hid ((QS 28 w x8 A B R P Q b r {zaD with query:=r.query,hasQ:=r.hasQ,frag:=r.frag,hasF:=r.hasF,scheme:=b.scheme,hasS:=b.hasS,hasA:=b.hasA,user:=b.user,hasU:=b.hasU,host:=b.host,port:=b.port,hasP:=b.hasP} b)):=by rw [hx];exact HS7.out.set 7 _ rfl
 rw [←hx]
 clear hx HS7
 obtain ⟨r0,r1,r2,r3,r4,r5,r6,r7,r8,r9,r10,r11,r12⟩:=HS8.out.rs.pb.all
 rw [H1.out] at r1
 rw [H2.out] at r5
 rw [H4.out] at r10
 rw [H3.out] at r8
 clear r0 r2 r3 r4 r6 r7 r9 r11 r12
 go_upto_region 20 with fail
 clear r1 r5 r8 r10
 obtain ⟨-,-,-,-,-,-,-,-,g,-,-,-,-⟩:=HS8.out.rs.pa.all
 obtain ⟨v1,-,c0,f0,-⟩:=HS8.out.rs.st.st 8 8 (.string ⟨b.path.toArray⟩) (by decide) (by decide)
 go_upto_region 21 with fail
 clear c0 f0 v1 g
 obtain ⟨x9,hx⟩: ∃z,z=x8.setCell ⟨P,8,none⟩ (.string ⟨b.path.toArray⟩):=⟨_,rfl⟩
 have HS9:Hid ((QS 28 w x9 A B R P Q b r {zaD with query:=r.query,hasQ:=r.hasQ,frag:=r.frag,hasF:=r.hasF,scheme:=b.scheme,hasS:=b.hasS,hasA:=b.hasA,user:=b.user,hasU:=b.hasU,host:=b.host,port:=b.port,hasP:=b.hasP,path:=b.path} b)):=by rw [hx];exact HS8.out.set 8 _ rfl
 rw [←hx]
 clear hx HS8
 obtain ⟨-,-,-,-,-,-,-,-,-,-,r10,-,-⟩:=HS9.out.rs.pb.all
 rw [H4.out] at r10
 go_upto_region 24 with fail
 clear r10
 rw [show {zaD with query:=r.query,hasQ:=r.hasQ,frag:=r.frag,hasF:=r.hasF,scheme:=b.scheme,hasS:=b.hasS,hasA:=b.hasA,user:=b.user,hasU:=b.hasU,host:=b.host,port:=b.port,hasP:=b.hasP,path:=b.path}=res from HRES.out] at HS9
 clear HRES
 obtain ⟨d0,d1,d2,d3,d4,d5,d6,d7,d8,d9,d10,d11,d12⟩:=HS9.out.rs.st.row.all
 obtain ⟨s0,s1,s2,s3,s4,s5,s6,s7,s8,s9,s10,s11,s12⟩:=HS9.out.rs.st.res.all
 have rf:=HS9.out.rs.st.res.frozen
 have hEB:=zaO HS9.out.rs.st.below HS9.out.rs.st.hR res
 have hEC:=zaP HS9.out.rs.st.res res _ rfl
 unfold zaU at hEB hEC
 have HEB:=zlW hEB
 have HEC:=zlW hEC
 clear hEB hEC HS9
 go_wp2
 obtain ⟨e0,e1,e2,e3,e4,e5,e6,e7,e8,e9,e10,e11,e12⟩:=HEC.out
 refine bodyPost_ret (v:= .agg res.cells) (by simp [results,Tryz.results23,go_sem,e0,e1,e2,e3,e4,e5,e6,e7,e8,e9,e10,e11,e12,PZ.cells]) rfl ?_
 exact ⟨rfl,HEB.out⟩
theorem zcT (b r:PZ) (w:World) (hb:b.Few 100000) (hr:r.Few 100000) (h1:r.hasS=false) (h2:r.hasA=false) (h3:r.path=[]) (h4:r.hasQ=false) (res:PZ) (hres:{zaD with query:=b.query,hasQ:=b.hasQ,frag:=r.frag,hasF:=r.hasF,scheme:=b.scheme,hasS:=b.hasS,hasA:=b.hasA,user:=b.user,hasU:=b.hasU,host:=b.host,port:=b.port,hasP:=b.hasP,path:=b.path}=res):
  Calls Tryz.prog 23 #[.agg b.cells,.agg r.cells] w (zcE w res):=by
 have HS0:=zlW (QS.first 28 w b r {zaD with query:=r.query,hasQ:=r.hasQ,frag:=r.frag,hasF:=r.hasF})
 have hrp:r.path.length≤1000000:=by have:=hr.2.2.2.2.1;omega
 have hbp:b.path.length≤1000000:=by have:=hb.2.2.2.2.1;omega
 have hmg:(zaM b.path b.hasA r.path).length≤1000000:=by have:=zbA b.path r.path b.hasA;have:=hr.2.2.2.2.1;have:=hb.2.2.2.2.1;omega
 have hqz:=zaF r.path
 have HRM:=zlW (fun W=>zaJ r.path W hrp)
 have HMG:=zlW (fun W=>zaR b.path r.path b.hasA W hbp hrp)
 have HRN:=zlW (fun W=>zaJ (zaM b.path b.hasA r.path) W hmg)
 generalize zaM b.path b.hasA r.path=mg at*
 obtain ⟨x0,hx0⟩: ∃y,y=((((w.alloc (.cells b.cells 28)).alloc (.cells r.cells 28)).alloc (.cells zaD.cells 28)).alloc (.cells {zaD with query:=r.query,hasQ:=r.hasQ,frag:=r.frag,hasF:=r.hasF}.cells 28)).alloc (.cells b.cells 28):=⟨_,rfl⟩
 rw [←hx0] at HS0
 dsimp only [PZ.cells,zaD] at hx0 ⊢
 clear hb hr hbp hmg
 have H1:=zlW h1
 clear h1
 have H2:=zlW h2
 clear h2
 have H3:=zlW h3
 clear h3
 have H4:=zlW h4
 clear h4
 have HRES:=zlW hres
 clear hres
 go_enter Tryz.func23,Tryz.ntmps23
 go_upto_region 3 with fail
 rw [←hx0]
 clear hx0
 generalize w.heap.size+1+1+1+1=Q at*
 generalize w.heap.size+1+1+1=P at*
 generalize w.heap.size+1+1=R at*
 generalize w.heap.size+1=B at*
 generalize hA:w.heap.size=A at*
 obtain ⟨r0,r1,r2,r3,r4,r5,r6,r7,r8,r9,r10,r11,r12⟩:=HS0.out.rs.pb.all
 rw [H1.out] at r1
 rw [H2.out] at r5
 rw [H4.out] at r10
 rw [H3.out] at r8
 clear r0 r2 r3 r4 r6 r7 r8 r9 r10 r11 r12
 go_upto_region 5 with fail
 clear r1 r5
 obtain ⟨g,-,-,-,-,-,-,-,-,-,-,-,-⟩:=HS0.out.rs.pa.all
 obtain ⟨v1,-,c0,f0,-⟩:=HS0.out.rs.st.st 0 0 (.string ⟨b.scheme.toArray⟩) (by decide) (by decide)
 go_upto_region 6 with fail
 clear c0 f0 v1 g
 obtain ⟨x1,hx⟩: ∃z,z=x0.setCell ⟨P,0,none⟩ (.string ⟨b.scheme.toArray⟩):=⟨_,rfl⟩
 have HS1:Hid ((QS 28 w x1 A B R P Q b r {zaD with query:=r.query,hasQ:=r.hasQ,frag:=r.frag,hasF:=r.hasF,scheme:=b.scheme} b)):=by rw [hx];exact HS0.out.set 0 _ rfl
 rw [←hx]
 clear hx HS0
 obtain ⟨-,g,-,-,-,-,-,-,-,-,-,-,-⟩:=HS1.out.rs.pa.all
 obtain ⟨v1,-,c0,f0,-⟩:=HS1.out.rs.st.st 1 1 (.bool b.hasS) (by decide) (by decide)
 go_upto_region 7 with fail
 clear c0 f0 v1 g
 obtain ⟨x2,hx⟩: ∃z,z=x1.setCell ⟨P,1,none⟩ (.bool b.hasS):=⟨_,rfl⟩
 have HS2:Hid ((QS 28 w x2 A B R P Q b r {zaD with query:=r.query,hasQ:=r.hasQ,frag:=r.frag,hasF:=r.hasF,scheme:=b.scheme,hasS:=b.hasS} b)):=by rw [hx];exact HS1.out.set 1 _ rfl
 rw [←hx]
 clear hx HS1
 obtain ⟨r0,r1,r2,r3,r4,r5,r6,r7,r8,r9,r10,r11,r12⟩:=HS2.out.rs.pb.all
 rw [H1.out] at r1
 rw [H2.out] at r5
 rw [H4.out] at r10
 rw [H3.out] at r8
 clear r0 r2 r3 r4 r5 r6 r7 r8 r9 r10 r11 r12
 go_upto_region 10 with fail
 clear r1
 obtain ⟨-,-,-,-,-,g,-,-,-,-,-,-,-⟩:=HS2.out.pq.all
 obtain ⟨v1,-,c0,f0,-⟩:=HS2.out.rs.st.st 5 5 (.bool b.hasA) (by decide) (by decide)
 go_upto_region 11 with fail
 clear c0 f0 v1 g
 obtain ⟨x3,hx⟩: ∃z,z=x2.setCell ⟨P,5,none⟩ (.bool b.hasA):=⟨_,rfl⟩
 have HS3:Hid ((QS 28 w x3 A B R P Q b r {zaD with query:=r.query,hasQ:=r.hasQ,frag:=r.frag,hasF:=r.hasF,scheme:=b.scheme,hasS:=b.hasS,hasA:=b.hasA} b)):=by rw [hx];exact HS2.out.set 5 _ rfl
 rw [←hx]
 clear hx HS2
 obtain ⟨-,-,g,-,-,-,-,-,-,-,-,-,-⟩:=HS3.out.pq.all
 obtain ⟨v1,-,c0,f0,-⟩:=HS3.out.rs.st.st 2 2 (.string ⟨b.user.toArray⟩) (by decide) (by decide)
 go_upto_region 12 with fail
 clear c0 f0 v1 g
 obtain ⟨x4,hx⟩: ∃z,z=x3.setCell ⟨P,2,none⟩ (.string ⟨b.user.toArray⟩):=⟨_,rfl⟩
 have HS4:Hid ((QS 28 w x4 A B R P Q b r {zaD with query:=r.query,hasQ:=r.hasQ,frag:=r.frag,hasF:=r.hasF,scheme:=b.scheme,hasS:=b.hasS,hasA:=b.hasA,user:=b.user} b)):=by rw [hx];exact HS3.out.set 2 _ rfl
 rw [←hx]
 clear hx HS3
 obtain ⟨-,-,-,g,-,-,-,-,-,-,-,-,-⟩:=HS4.out.pq.all
 obtain ⟨v1,-,c0,f0,-⟩:=HS4.out.rs.st.st 3 3 (.bool b.hasU) (by decide) (by decide)
 go_upto_region 13 with fail
 clear c0 f0 v1 g
 obtain ⟨x5,hx⟩: ∃z,z=x4.setCell ⟨P,3,none⟩ (.bool b.hasU):=⟨_,rfl⟩
 have HS5:Hid ((QS 28 w x5 A B R P Q b r {zaD with query:=r.query,hasQ:=r.hasQ,frag:=r.frag,hasF:=r.hasF,scheme:=b.scheme,hasS:=b.hasS,hasA:=b.hasA,user:=b.user,hasU:=b.hasU} b)):=by rw [hx];exact HS4.out.set 3 _ rfl
 rw [←hx]
 clear hx HS4
 obtain ⟨-,-,-,-,g,-,-,-,-,-,-,-,-⟩:=HS5.out.pq.all
 obtain ⟨v1,-,c0,f0,-⟩:=HS5.out.rs.st.st 4 4 (.string ⟨b.host.toArray⟩) (by decide) (by decide)
 go_upto_region 14 with fail
 clear c0 f0 v1 g
 obtain ⟨x6,hx⟩: ∃z,z=x5.setCell ⟨P,4,none⟩ (.string ⟨b.host.toArray⟩):=⟨_,rfl⟩
 have HS6:Hid ((QS 28 w x6 A B R P Q b r {zaD with query:=r.query,hasQ:=r.hasQ,frag:=r.frag,hasF:=r.hasF,scheme:=b.scheme,hasS:=b.hasS,hasA:=b.hasA,user:=b.user,hasU:=b.hasU,host:=b.host} b)):=by rw [hx];exact HS5.out.set 4 _ rfl
 rw [←hx]
 clear hx HS5
 obtain ⟨-,-,-,-,-,-,g,-,-,-,-,-,-⟩:=HS6.out.pq.all
 obtain ⟨v1,-,c0,f0,-⟩:=HS6.out.rs.st.st 6 6 (.string ⟨b.port.toArray⟩) (by decide) (by decide)
 go_upto_region 15 with fail
 clear c0 f0 v1 g
 obtain ⟨x7,hx⟩: ∃z,z=x6.setCell ⟨P,6,none⟩ (.string ⟨b.port.toArray⟩):=⟨_,rfl⟩
 have HS7:Hid ((QS 28 w x7 A B R P Q b r {zaD with query:=r.query,hasQ:=r.hasQ,frag:=r.frag,hasF:=r.hasF,scheme:=b.scheme,hasS:=b.hasS,hasA:=b.hasA,user:=b.user,hasU:=b.hasU,host:=b.host,port:=b.port} b)):=by rw [hx];exact HS6.out.set 6 _ rfl
 rw [←hx]
 clear hx HS6
 obtain ⟨-,-,-,-,-,-,-,g,-,-,-,-,-⟩:=HS7.out.pq.all
 obtain ⟨v1,-,c0,f0,-⟩:=HS7.out.rs.st.st 7 7 (.bool b.hasP) (by decide) (by decide)
 go_upto_region 16 with fail
 clear c0 f0 v1 g
 obtain ⟨x8,hx⟩: ∃z,z=x7.setCell ⟨P,7,none⟩ (.bool b.hasP):=⟨_,rfl⟩
 have HS8:Hid ((QS 28 w x8 A B R P Q b r {zaD with query:=r.query,hasQ:=r.hasQ,frag:=r.frag,hasF:=r.hasF,scheme:=b.scheme,hasS:=b.hasS,hasA:=b.hasA,user:=b.user,hasU:=b.hasU,host:=b.host,port:=b.port,hasP:=b.hasP} b)):=by rw [hx];exact HS7.out.set 7 _ rfl
 rw [←hx]
 clear hx HS7
 obtain ⟨r0,r1,r2,r3,r4,r5,r6,r7,r8,r9,r10,r11,r12⟩:=HS8.out.rs.pb.all
 rw [H1.out] at r1
 rw [H2.out] at r5
 rw [H4.out] at r10
 rw [H3.out] at r8
 clear r0 r2 r3 r4 r6 r7 r9 r11 r12
 go_upto_region 20 with fail
 clear r1 r5 r8 r10
 obtain ⟨-,-,-,-,-,-,-,-,g,-,-,-,-⟩:=HS8.out.rs.pa.all
 obtain ⟨v1,-,c0,f0,-⟩:=HS8.out.rs.st.st 8 8 (.string ⟨b.path.toArray⟩) (by decide) (by decide)
 go_upto_region 21 with fail
 clear c0 f0 v1 g
 obtain ⟨x9,hx⟩: ∃z,z=x8.setCell ⟨P,8,none⟩ (.string ⟨b.path.toArray⟩):=⟨_,rfl⟩
 have HS9:Hid ((QS 28 w x9 A B R P Q b r {zaD with query:=r.query,hasQ:=r.hasQ,frag:=r.frag,hasF:=r.hasF,scheme:=b.scheme,hasS:=b.hasS,hasA:=b.hasA,user:=b.user,hasU:=b.hasU,host:=b.host,port:=b.port,hasP:=b.hasP,path:=b.path} b)):=by rw [hx];exact HS8.out.set 8 _ rfl
 rw [←hx]
 clear hx HS8
 obtain ⟨-,-,-,-,-,-,-,-,-,-,r10,-,-⟩:=HS9.out.rs.pb.all
 rw [H4.out] at r10
 go_upto_region 22 with fail
 clear r10
 obtain ⟨-,-,-,-,-,-,-,-,-,g,-,-,-⟩:=HS9.out.rs.pa.all
 obtain ⟨v1,-,c0,f0,-⟩:=HS9.out.rs.st.st 9 9 (.string ⟨b.query.toArray⟩) (by decide) (by decide)
 go_upto_region 23 with fail
 clear c0 f0 v1 g
 obtain ⟨x10,hx⟩: ∃z,z=x9.setCell ⟨P,9,none⟩ (.string ⟨b.query.toArray⟩):=⟨_,rfl⟩
 have HS10:Hid ((QS 28 w x10 A B R P Q b r {zaD with query:=b.query,hasQ:=r.hasQ,frag:=r.frag,hasF:=r.hasF,scheme:=b.scheme,hasS:=b.hasS,hasA:=b.hasA,user:=b.user,hasU:=b.hasU,host:=b.host,port:=b.port,hasP:=b.hasP,path:=b.path} b)):=by rw [hx];exact HS9.out.set 9 _ rfl
 rw [←hx]
 clear hx HS9
 obtain ⟨-,-,-,-,-,-,-,-,-,-,g,-,-⟩:=HS10.out.rs.pa.all
 obtain ⟨v1,-,c0,f0,-⟩:=HS10.out.rs.st.st 10 10 (.bool b.hasQ) (by decide) (by decide)
 go_upto_region 24 with fail
 clear c0 f0 v1 g
 obtain ⟨x11,hx⟩: ∃z,z=x10.setCell ⟨P,10,none⟩ (.bool b.hasQ):=⟨_,rfl⟩
 have HS11:Hid ((QS 28 w x11 A B R P Q b r {zaD with query:=b.query,hasQ:=b.hasQ,frag:=r.frag,hasF:=r.hasF,scheme:=b.scheme,hasS:=b.hasS,hasA:=b.hasA,user:=b.user,hasU:=b.hasU,host:=b.host,port:=b.port,hasP:=b.hasP,path:=b.path} b)):=by rw [hx];exact HS10.out.set 10 _ rfl
 rw [←hx]
 clear hx HS10
 rw [show {zaD with query:=b.query,hasQ:=b.hasQ,frag:=r.frag,hasF:=r.hasF,scheme:=b.scheme,hasS:=b.hasS,hasA:=b.hasA,user:=b.user,hasU:=b.hasU,host:=b.host,port:=b.port,hasP:=b.hasP,path:=b.path}=res from HRES.out] at HS11
 clear HRES
 obtain ⟨d0,d1,d2,d3,d4,d5,d6,d7,d8,d9,d10,d11,d12⟩:=HS11.out.rs.st.row.all
 obtain ⟨s0,s1,s2,s3,s4,s5,s6,s7,s8,s9,s10,s11,s12⟩:=HS11.out.rs.st.res.all
 have rf:=HS11.out.rs.st.res.frozen
 have hEB:=zaO HS11.out.rs.st.below HS11.out.rs.st.hR res
 have hEC:=zaP HS11.out.rs.st.res res _ rfl
 unfold zaU at hEB hEC
 have HEB:=zlW hEB
 have HEC:=zlW hEC
 clear hEB hEC HS11
 go_wp2
 obtain ⟨e0,e1,e2,e3,e4,e5,e6,e7,e8,e9,e10,e11,e12⟩:=HEC.out
 refine bodyPost_ret (v:= .agg res.cells) (by simp [results,Tryz.results23,go_sem,e0,e1,e2,e3,e4,e5,e6,e7,e8,e9,e10,e11,e12,PZ.cells]) rfl ?_
 exact ⟨rfl,HEB.out⟩
theorem zcI (b r:PZ) (w:World) (hb:b.Few 100000) (hr:r.Few 100000) (h1:r.hasS=false) (h2:r.hasA=false) (h3:(0:Int)<r.path.length) (h4:(r.path==[])=false) (h5: ∀h:0<(ByteArray.mk r.path.toArray).size,((((ByteArray.mk r.path.toArray)[0]'h).toNat:Int)==47)=false) (res:PZ) (hres:{zaD with query:=r.query,hasQ:=r.hasQ,frag:=r.frag,hasF:=r.hasF,scheme:=b.scheme,hasS:=b.hasS,hasA:=b.hasA,user:=b.user,hasU:=b.hasU,host:=b.host,port:=b.port,hasP:=b.hasP,path:=zaG (zaM b.path b.hasA r.path)}=res):
  Calls Tryz.prog 23 #[.agg b.cells,.agg r.cells] w (zcE w res):=by
 have HS0:=zlW (QS.first 28 w b r {zaD with query:=r.query,hasQ:=r.hasQ,frag:=r.frag,hasF:=r.hasF})
 have hrp:r.path.length≤1000000:=by have:=hr.2.2.2.2.1;omega
 have hbp:b.path.length≤1000000:=by have:=hb.2.2.2.2.1;omega
 have hmg:(zaM b.path b.hasA r.path).length≤1000000:=by have:=zbA b.path r.path b.hasA;have:=hr.2.2.2.2.1;have:=hb.2.2.2.2.1;omega
 have hqz:=zaF r.path
 have HRM:=zlW (fun W=>zaJ r.path W hrp)
 have HMG:=zlW (fun W=>zaR b.path r.path b.hasA W hbp hrp)
 have HRN:=zlW (fun W=>zaJ (zaM b.path b.hasA r.path) W hmg)
 generalize zaM b.path b.hasA r.path=mg at*
 obtain ⟨x0,hx0⟩: ∃y,y=((((w.alloc (.cells b.cells 28)).alloc (.cells r.cells 28)).alloc (.cells zaD.cells 28)).alloc (.cells {zaD with query:=r.query,hasQ:=r.hasQ,frag:=r.frag,hasF:=r.hasF}.cells 28)).alloc (.cells b.cells 28):=⟨_,rfl⟩
 rw [←hx0] at HS0
 dsimp only [PZ.cells,zaD] at hx0 ⊢
 clear hb hr hbp hmg
 have H1:=zlW h1
 clear h1
 have H2:=zlW h2
 clear h2
 have H3:=zlW h3
 clear h3
 have H4:=zlW h4
 clear h4
 have H5:=zlW h5
 clear h5
 have HRES:=zlW hres
 clear hres
 go_enter Tryz.func23,Tryz.ntmps23
 go_upto_region 3 with fail
 rw [←hx0]
 clear hx0
 generalize w.heap.size+1+1+1+1=Q at*
 generalize w.heap.size+1+1+1=P at*
 generalize w.heap.size+1+1=R at*
 generalize w.heap.size+1=B at*
 generalize hA:w.heap.size=A at*
 obtain ⟨r0,r1,r2,r3,r4,r5,r6,r7,r8,r9,r10,r11,r12⟩:=HS0.out.rs.pb.all
 rw [H1.out] at r1
 rw [H2.out] at r5
 clear r0 r2 r3 r4 r6 r7 r8 r9 r10 r11 r12
 go_upto_region 5 with fail
 clear r1 r5
 obtain ⟨g,-,-,-,-,-,-,-,-,-,-,-,-⟩:=HS0.out.rs.pa.all
 obtain ⟨v1,-,c0,f0,-⟩:=HS0.out.rs.st.st 0 0 (.string ⟨b.scheme.toArray⟩) (by decide) (by decide)
 go_upto_region 6 with fail
 clear c0 f0 v1 g
 obtain ⟨x1,hx⟩: ∃z,z=x0.setCell ⟨P,0,none⟩ (.string ⟨b.scheme.toArray⟩):=⟨_,rfl⟩
 have HS1:Hid ((QS 28 w x1 A B R P Q b r {zaD with query:=r.query,hasQ:=r.hasQ,frag:=r.frag,hasF:=r.hasF,scheme:=b.scheme} b)):=by rw [hx];exact HS0.out.set 0 _ rfl
 rw [←hx]
 clear hx HS0
 obtain ⟨-,g,-,-,-,-,-,-,-,-,-,-,-⟩:=HS1.out.rs.pa.all
 obtain ⟨v1,-,c0,f0,-⟩:=HS1.out.rs.st.st 1 1 (.bool b.hasS) (by decide) (by decide)
 go_upto_region 7 with fail
 clear c0 f0 v1 g
 obtain ⟨x2,hx⟩: ∃z,z=x1.setCell ⟨P,1,none⟩ (.bool b.hasS):=⟨_,rfl⟩
 have HS2:Hid ((QS 28 w x2 A B R P Q b r {zaD with query:=r.query,hasQ:=r.hasQ,frag:=r.frag,hasF:=r.hasF,scheme:=b.scheme,hasS:=b.hasS} b)):=by rw [hx];exact HS1.out.set 1 _ rfl
 rw [←hx]
 clear hx HS1
 obtain ⟨r0,r1,r2,r3,r4,r5,r6,r7,r8,r9,r10,r11,r12⟩:=HS2.out.rs.pb.all
 rw [H1.out] at r1
 rw [H2.out] at r5
 clear r0 r2 r3 r4 r5 r6 r7 r8 r9 r10 r11 r12
 go_upto_region 10 with fail
 clear r1
 obtain ⟨-,-,-,-,-,g,-,-,-,-,-,-,-⟩:=HS2.out.pq.all
 obtain ⟨v1,-,c0,f0,-⟩:=HS2.out.rs.st.st 5 5 (.bool b.hasA) (by decide) (by decide)
 go_upto_region 11 with fail
 clear c0 f0 v1 g
 obtain ⟨x3,hx⟩: ∃z,z=x2.setCell ⟨P,5,none⟩ (.bool b.hasA):=⟨_,rfl⟩
 have HS3:Hid ((QS 28 w x3 A B R P Q b r {zaD with query:=r.query,hasQ:=r.hasQ,frag:=r.frag,hasF:=r.hasF,scheme:=b.scheme,hasS:=b.hasS,hasA:=b.hasA} b)):=by rw [hx];exact HS2.out.set 5 _ rfl
 rw [←hx]
 clear hx HS2
 obtain ⟨-,-,g,-,-,-,-,-,-,-,-,-,-⟩:=HS3.out.pq.all
 obtain ⟨v1,-,c0,f0,-⟩:=HS3.out.rs.st.st 2 2 (.string ⟨b.user.toArray⟩) (by decide) (by decide)
 go_upto_region 12 with fail
 clear c0 f0 v1 g
 obtain ⟨x4,hx⟩: ∃z,z=x3.setCell ⟨P,2,none⟩ (.string ⟨b.user.toArray⟩):=⟨_,rfl⟩
 have HS4:Hid ((QS 28 w x4 A B R P Q b r {zaD with query:=r.query,hasQ:=r.hasQ,frag:=r.frag,hasF:=r.hasF,scheme:=b.scheme,hasS:=b.hasS,hasA:=b.hasA,user:=b.user} b)):=by rw [hx];exact HS3.out.set 2 _ rfl
 rw [←hx]
 clear hx HS3
 obtain ⟨-,-,-,g,-,-,-,-,-,-,-,-,-⟩:=HS4.out.pq.all
 obtain ⟨v1,-,c0,f0,-⟩:=HS4.out.rs.st.st 3 3 (.bool b.hasU) (by decide) (by decide)
 go_upto_region 13 with fail
 clear c0 f0 v1 g
 obtain ⟨x5,hx⟩: ∃z,z=x4.setCell ⟨P,3,none⟩ (.bool b.hasU):=⟨_,rfl⟩
 have HS5:Hid ((QS 28 w x5 A B R P Q b r {zaD with query:=r.query,hasQ:=r.hasQ,frag:=r.frag,hasF:=r.hasF,scheme:=b.scheme,hasS:=b.hasS,hasA:=b.hasA,user:=b.user,hasU:=b.hasU} b)):=by rw [hx];exact HS4.out.set 3 _ rfl
 rw [←hx]
 clear hx HS4
 obtain ⟨-,-,-,-,g,-,-,-,-,-,-,-,-⟩:=HS5.out.pq.all
 obtain ⟨v1,-,c0,f0,-⟩:=HS5.out.rs.st.st 4 4 (.string ⟨b.host.toArray⟩) (by decide) (by decide)
 go_upto_region 14 with fail
 clear c0 f0 v1 g
 obtain ⟨x6,hx⟩: ∃z,z=x5.setCell ⟨P,4,none⟩ (.string ⟨b.host.toArray⟩):=⟨_,rfl⟩
 have HS6:Hid ((QS 28 w x6 A B R P Q b r {zaD with query:=r.query,hasQ:=r.hasQ,frag:=r.frag,hasF:=r.hasF,scheme:=b.scheme,hasS:=b.hasS,hasA:=b.hasA,user:=b.user,hasU:=b.hasU,host:=b.host} b)):=by rw [hx];exact HS5.out.set 4 _ rfl
 rw [←hx]
 clear hx HS5
 obtain ⟨-,-,-,-,-,-,g,-,-,-,-,-,-⟩:=HS6.out.pq.all
 obtain ⟨v1,-,c0,f0,-⟩:=HS6.out.rs.st.st 6 6 (.string ⟨b.port.toArray⟩) (by decide) (by decide)
 go_upto_region 15 with fail
 clear c0 f0 v1 g
 obtain ⟨x7,hx⟩: ∃z,z=x6.setCell ⟨P,6,none⟩ (.string ⟨b.port.toArray⟩):=⟨_,rfl⟩
 have HS7:Hid ((QS 28 w x7 A B R P Q b r {zaD with query:=r.query,hasQ:=r.hasQ,frag:=r.frag,hasF:=r.hasF,scheme:=b.scheme,hasS:=b.hasS,hasA:=b.hasA,user:=b.user,hasU:=b.hasU,host:=b.host,port:=b.port} b)):=by rw [hx];exact HS6.out.set 6 _ rfl
 rw [←hx]
 clear hx HS6
 obtain ⟨-,-,-,-,-,-,-,g,-,-,-,-,-⟩:=HS7.out.pq.all
 obtain ⟨v1,-,c0,f0,-⟩:=HS7.out.rs.st.st 7 7 (.bool b.hasP) (by decide) (by decide)
 go_upto_region 16 with fail
 clear c0 f0 v1 g
 obtain ⟨x8,hx⟩: ∃z,z=x7.setCell ⟨P,7,none⟩ (.bool b.hasP):=⟨_,rfl⟩
 have HS8:Hid ((QS 28 w x8 A B R P Q b r {zaD with query:=r.query,hasQ:=r.hasQ,frag:=r.frag,hasF:=r.hasF,scheme:=b.scheme,hasS:=b.hasS,hasA:=b.hasA,user:=b.user,hasU:=b.hasU,host:=b.host,port:=b.port,hasP:=b.hasP} b)):=by rw [hx];exact HS7.out.set 7 _ rfl
 rw [←hx]
 clear hx HS7
 obtain ⟨r0,r1,r2,r3,r4,r5,r6,r7,r8,r9,r10,r11,r12⟩:=HS8.out.rs.pb.all
 rw [H1.out] at r1
 rw [H2.out] at r5
 clear r0 r2 r3 r4 r6 r7 r9 r11 r12
 have h5:=H5.out (by rw [hqz];have:=H3.out;omega)
 have h3:=H3.out
 have h4:=H4.out
 go_upto_region 25 with fail
 clear r1 r5 r8 r10 h5 h3 h4
 obtain ⟨-,r1,-,-,-,-,-,-,r8,-,-,-,-⟩:=HS8.out.rs.pb.all
 obtain ⟨-,-,-,-,-,b5,-,-,b8,-,-,-,-⟩:=HS8.out.rs.pa.all
 go_wp2_with fail
 refine (HMG.out _).mono ?_
 rintro e y ⟨rfl,rfl⟩
 go_wp2_with fail
 refine (HRN.out _).mono ?_
 rintro e y ⟨rfl,hy⟩
 clear r1 r8 b5 b8
 have HSY:=zlW (HS8.out.keep hy)
 clear hy HS8
 obtain ⟨v1,-,c0,f0,-⟩:=HSY.out.rs.st.st 8 8 (.string ⟨(zaG mg).toArray⟩) (by decide) (by decide)
 go_upto_region 26 with fail
 clear c0 f0 v1
 obtain ⟨x9,hx⟩: ∃z,z=y.setCell ⟨P,8,none⟩ (.string ⟨(zaG mg).toArray⟩):=⟨_,rfl⟩
 have HS9:Hid ((QS 28 w x9 A B R P Q b r {zaD with query:=r.query,hasQ:=r.hasQ,frag:=r.frag,hasF:=r.hasF,scheme:=b.scheme,hasS:=b.hasS,hasA:=b.hasA,user:=b.user,hasU:=b.hasU,host:=b.host,port:=b.port,hasP:=b.hasP,path:=zaG mg} b)):=by rw [hx];exact HSY.out.set 8 _ rfl
 rw [←hx]
 clear hx HSY
 rw [show {zaD with query:=r.query,hasQ:=r.hasQ,frag:=r.frag,hasF:=r.hasF,scheme:=b.scheme,hasS:=b.hasS,hasA:=b.hasA,user:=b.user,hasU:=b.hasU,host:=b.host,port:=b.port,hasP:=b.hasP,path:=zaG mg}=res from HRES.out] at HS9
 clear HRES
 obtain ⟨d0,d1,d2,d3,d4,d5,d6,d7,d8,d9,d10,d11,d12⟩:=HS9.out.rs.st.row.all
 obtain ⟨s0,s1,s2,s3,s4,s5,s6,s7,s8,s9,s10,s11,s12⟩:=HS9.out.rs.st.res.all
 have rf:=HS9.out.rs.st.res.frozen
 have hEB:=zaO HS9.out.rs.st.below HS9.out.rs.st.hR res
 have hEC:=zaP HS9.out.rs.st.res res _ rfl
 unfold zaU at hEB hEC
 have HEB:=zlW hEB
 have HEC:=zlW hEC
 clear hEB hEC HS9
 go_wp2
 obtain ⟨e0,e1,e2,e3,e4,e5,e6,e7,e8,e9,e10,e11,e12⟩:=HEC.out
 refine bodyPost_ret (v:= .agg res.cells) (by simp [results,Tryz.results23,go_sem,e0,e1,e2,e3,e4,e5,e6,e7,e8,e9,e10,e11,e12,PZ.cells]) rfl ?_
 exact ⟨rfl,HEB.out⟩
theorem zcU (b r:PZ) (w:World) (hb:b.Few 100000) (hr:r.Few 100000):
  Calls Tryz.prog 23 #[.agg b.cells,.agg r.cells] w (zcE w (zaT b r)):=by
 have hp:zbI b r=if r.hasS=true∨r.hasA=true∨r.path.head? =some 47 then zaG r.path else if r.path=[] then b.path else zaG (zaM b.path b.hasA r.path):=rfl
 unfold zaT
 by_cases h1:r.hasS=true
 ·rw [if_pos h1,hp,if_pos (.inl h1)]
  exact zcS b r w hb hr h1 _ (by rw [←h1])
 ·have n1:=Bool.not_eq_true _▸h1
  rw [if_neg h1]
  by_cases h2:r.hasA=true
  ·rw [if_pos h2,hp,if_pos (.inr (.inl h2))]
   exact zcL b r w hb hr n1 h2 _ rfl
  ·have n2:=Bool.not_eq_true _▸h2
   rw [if_neg h2]
   by_cases h3:r.path=[]
   ·have hc: ¬(r.hasS=true∨r.hasA=true∨r.path.head? =some 47):=by
     rintro (q|q|q)
     ·exact h1 q
     ·exact h2 q
     ·rw [h3] at q;cases q
    rw [if_neg hc,if_pos h3] at hp
    rw [hp]
    by_cases h4:r.hasQ=true
    ·rw [if_neg (by rintro ⟨_,q⟩;rw [q] at h4;cases h4)]
     exact zcO b r w hb hr n1 n2 h3 h4 _ rfl
    ·have n4:=Bool.not_eq_true _▸h4
     rw [if_pos ⟨h3,n4⟩]
     exact zcT b r w hb hr n1 n2 h3 n4 _ rfl
   ·rw [if_neg (show ¬(r.path=[]∧r.hasQ=false) from fun q=>h3 q.1)]
    have hl:0<r.path.length:=List.length_pos_iff.2 h3
    by_cases h4:r.path.head? =some 47
    ·rw [if_pos (.inr (.inr h4))] at hp
     rw [hp]
     refine zcJ b r w hb hr n1 n2 (by omega) (fun h=> ?_) _ rfl
     rw [ziM r.path 0 hl]
     rw [List.head?_eq_getElem?,List.getElem?_eq_getElem hl] at h4
     exact Option.some.inj h4
    ·rw [if_neg (by rintro (q|q|q);exact h1 q;exact h2 q;exact h4 q),if_neg h3] at hp
     rw [hp]
     refine zcI b r w hb hr n1 n2 (by omega) (by rw [beq_eq_false_iff_ne];exact h3) (fun h=> ?_) _ rfl
     rw [ziM r.path 0 hl]
     rw [List.head?_eq_getElem?,List.getElem?_eq_getElem hl] at h4
     have:((r.path[0].toNat:Int)==47)=(r.path[0]==47):=byteI r.path[0] 47
     rw [this,beq_eq_false_iff_ne]
     exact fun q=>h4 (by rw [q])
theorem zeV {b r:PZ} {n:Nat} (hb:b.Few n) (hr:r.Few n):(zaT b r).Few (2*n+1):=by
 have hp:=zeL b r
 obtain ⟨b1,b2,b3,b4,b5,b6,b7⟩:=hb
 obtain ⟨r1,r2,r3,r4,r5,r6,r7⟩:=hr
 unfold zaT
 split
 ·refine ⟨?_,?_,?_,?_,?_,?_,?_⟩<;>simp only<;>omega
 ·split
  ·refine ⟨?_,?_,?_,?_,?_,?_,?_⟩<;>simp only<;>omega
  ·split
   ·refine ⟨?_,?_,?_,?_,?_,?_,?_⟩<;>simp only<;>omega
   ·refine ⟨?_,?_,?_,?_,?_,?_,?_⟩<;>simp only<;>omega
end
end Go.Proofs.YtmjappnpedjlnaaGreatDoor
