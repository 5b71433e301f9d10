/-
  What the law AuthorityStrict leans on, and its walk (33 of 35).
-/
import Derived.Deep.RegionHeld3
import Derived.Test.YtmjappnpedjlnaaGreatDoorAuthorityStrictPkK
import Derived.Test.YtmjappnpedjlnaaGreatDoorAuthorityStrictPkg
namespace Go.Proofs.YtmjappnpedjlnaaGreatDoor
set_option maxRecDepth 100000
set_option maxHeartbeats 16000000
abbrev z0P := @Lib.hid
section
open Go.RowKit
theorem zvA (p:PZ):(zeQ p).1.host.In:=by
 unfold zeQ
 split
 ·exact trivial
 ·split
  ·exact trivial
  ·split
   ·exact trivial
   ·rename_i h
    split
    ·exact trivial
    ·exact (zwR (Decidable.not_not.1 h)).inn
theorem zmE {t:TypeId} {x:World} {g:Nat} {b0 b1 b2 b3 b4 b5 b6 b7:Value} (h:x.heap[g]? =some (.cells #[b0,b1,b2,b3,b4,b5,b6,b7] t)):x.cell? ⟨g,0,none⟩=some b0∧x.cell? ⟨g,1,none⟩=some b1∧x.cell? ⟨g,2,none⟩=some b2∧x.cell? ⟨g,3,none⟩=some b3∧x.cell? ⟨g,4,none⟩=some b4∧x.cell? ⟨g,5,none⟩=some b5∧x.cell? ⟨g,6,none⟩=some b6∧x.cell? ⟨g,7,none⟩=some b7:=⟨zaG h 0,zaG h 1,zaG h 2,zaG h 3,zaG h 4,zaG h 5,zaG h 6,zaG h 7⟩
theorem authorityStrict_walk (p:PZ) (w0:p.Few maxLen) (w:World) (hpow:PowTab w) (hbru:BruTab w) (hmax:MaxVar w):
  Calls Tryz.prog 8 #[.agg p.cells] w fun e w'=>e= .returned (.bool true)∧Below w.heap.size w w':=by
 have hb0:Below w.heap.size w (w.alloc (.cells p.cells 24)):=(Below.refl _ w).alloc (Nat.le_refl _) _
 have hp0:=PB.new 24 w p
 obtain ⟨x0,hx0⟩: ∃y,y=w.alloc (.cells p.cells 24):=⟨_,rfl⟩
 rw [←hx0] at hb0 hp0
 have HA:=z0P (aw18 x0 (zaF hpow hb0) (zaD hbru hb0) (zaC hmax hb0))
 have HMX:=z0P (fun y (hy:Below w.heap.size w y)=>zaC hmax hy)
 have H0:=z0P hb0
 have P0:=z0P hp0
 have z0:=zaA p.scheme
 have z4:=zaA p.host
 have z6:=zaA p.port
 clear hpow hbru hmax hb0 hp0
 obtain ⟨q0,q1,q2,q3,q4,q5,q6⟩:=w0
 clear q1 q4 q5 q6
 dsimp only [PZ.cells] at hx0 ⊢
 go_enter Tryz.func8,Tryz.ntmps8
 go_wp2_with fail
 rw [←hx0]
 clear hx0
 refine HA.out.mono ?_
 rintro e x1 ⟨rfl,hx1⟩
 have P1':=z0P (P0.out.below hx1)
 have C1:=z0P (zaY H0.out hx1)
 clear HA H0 P0 hx1
 obtain ⟨a0,-,-,-,a4,-,a6,-,-,-,-,-,-⟩:=P1'.out.all
 by_cases hl1:500<p.scheme.length
 ·clear P1' HMX
  go_wp2
  go_ret
  exact ⟨rfl,C1.out⟩
 have hl1:p.scheme.length≤500:=Nat.not_lt.1 hl1
 by_cases hl2:500<p.host.length
 ·clear P1' HMX
  go_wp2
  go_ret
  exact ⟨rfl,C1.out⟩
 have hl2:p.host.length≤500:=Nat.not_lt.1 hl2
 by_cases hl3:500<p.port.length
 ·clear P1' HMX
  go_wp2
  go_ret
  exact ⟨rfl,C1.out⟩
 have hl3:p.port.length≤500:=Nat.not_lt.1 hl3
 go_upto_region 5 with fail
 clear a0 a4 a6 q0 q2 q3 z0 z4 z6
 have HST:=z0P (fun W (hm:MaxVar W)=>zlM p W (by omega) (by omega) (by omega) hm)
 have HRS:=z0P (fun W=>ziH p W (by omega) (by omega) (by omega))
 have hin:=zvA p
 clear hl1 hl2 hl3
 generalize zeQ p=x at*
 obtain ⟨s,er⟩:=x
 simp only at hin
 obtain ⟨k,n,b,hi,lo,hvv⟩:=ziQ s.host
 have HRC:Hid (s.rcells= #[.string ⟨s.scheme.toArray⟩,.int .i64 k,.string ⟨n.toArray⟩,.bool b,.int .u64 hi,.int .u64 lo,.int .i64 s.port,.bool s.user]):=zdM hvv
 unfold zpR at HRS
 simp only at HRS
 have hrs:=fun W=>HRS.out W
 simp only [HRC.out] at hrs
 have HRS:=z0P hrs
 clear hvv hrs
 obtain ⟨hv,hv1,hvs⟩: ∃hv,s.host.val=hv∧(hv= .nilIface∨ ∃it iv,hv= .iface it iv):=by
  rcases s.host.shape with h|⟨it,iv,h⟩
  ·exact ⟨_,h,.inl rfl⟩
  ·exact ⟨_,h,.inr ⟨it,iv,rfl⟩⟩
 have HVV:=z0P hv1
 unfold zrO SZ.cells at HST
 simp only at HST
 have hst:=fun W hm=>HST.out W hm
 simp only [HVV.out] at hst
 have HST:=z0P hst
 clear hv1 hst
 obtain ⟨a0,a1,a2,a3,a4,a5,a6,a7,a8,a9,a10,a11,a12⟩:=P1'.out.all
 have HSX:=z0P (HST.out x1 (HMX.out x1 C1.out))
 clear HST HMX
 have HGD: ∀(pp qq:Operand) (W:World),(eqGuard .eql 62 pp qq (.agg #[.string ⟨s.scheme.toArray⟩,.int .i64 k,.string ⟨n.toArray⟩,.bool b,.int .u64 hi,.int .u64 lo,.int .i64 s.port,.bool s.user]) (.agg #[.string ⟨s.scheme.toArray⟩,.int .i64 k,.string ⟨n.toArray⟩,.bool b,.int .u64 hi,.int .u64 lo,.int .i64 s.port,.bool s.user])).run Tryz.prog W= .ok () W:=by intro pp qq W;kernel_rfl
 have HEQ:=zxF s.scheme k n b hi lo s.port s.user
 have HGD:=z0P HGD
 have HEQ:=z0P HEQ
 have her:(er==er)=true:=by simp
 rcases hvs with rfl|⟨it,iv,rfl⟩
 ·go_wp2_with fail
  refine HSX.out.mono ?_
  rintro e x2 ⟨rfl,hx2⟩
  clear a0 a1 a2 a3 a4 a5 a6 a7 a8 a9 a10 a11 a12 HSX
  obtain ⟨y2,hy2⟩: ∃y,y=x2.alloc (.cells #[.string ⟨s.scheme.toArray⟩,.nilIface,.int .i64 s.port,.bool s.user] 53):=⟨_,rfl⟩
  have hby:Below x2.heap.size x2 y2:=by rw [hy2];exact (Below.refl _ _).alloc (Nat.le_refl _) _
  have hr2:y2.heap[x2.heap.size]? =some (.cells #[.string ⟨s.scheme.toArray⟩,.nilIface,.int .i64 s.port,.bool s.user] 53):=by rw [hy2];exact heap_alloc_new x2 _
  have HC2:=z0P (zaY (zaY C1.out hx2) hby)
  have P2':=z0P ((P1'.out.below hx2).below hby)
  obtain ⟨P1,hP1⟩: ∃g,g=x2.heap.size:=⟨_,rfl⟩
  rw [←hP1] at hr2
  have HR2:=z0P hr2
  clear C1 P1' hx2 hby hr2
  go_upto_region 6 with fail
  rw [←hy2,←hP1]
  clear hy2 hP1
  obtain ⟨a0,a1,a2,a3,a4,a5,a6,a7,a8,a9,a10,a11,a12⟩:=P2'.out.all
  go_wp2_with fail
  refine (HRS.out _).mono ?_
  rintro e x3 ⟨rfl,hx3⟩
  clear a0 a1 a2 a3 a4 a5 a6 a7 a8 a9 a10 a11 a12 HRS
  obtain ⟨y3,hy3⟩: ∃y,y=x3.alloc (.cells #[.string ⟨s.scheme.toArray⟩,.int .i64 k,.string ⟨n.toArray⟩,.bool b,.int .u64 hi,.int .u64 lo,.int .i64 s.port,.bool s.user] 62):=⟨_,rfl⟩
  have hby:Below x3.heap.size x3 y3:=by rw [hy3];exact (Below.refl _ _).alloc (Nat.le_refl _) _
  have hr3:y3.heap[x3.heap.size]? =some (.cells #[.string ⟨s.scheme.toArray⟩,.int .i64 k,.string ⟨n.toArray⟩,.bool b,.int .u64 hi,.int .u64 lo,.int .i64 s.port,.bool s.user] 62):=by rw [hy3];exact heap_alloc_new x3 _
  have hr2:=(hby.block _ (zbA ((hx3.block _ (zbA HR2.out)).trans HR2.out))).trans ((hx3.block _ (zbA HR2.out)).trans HR2.out)
  have HC3:=z0P (zaY (zaY HC2.out hx3) hby)
  obtain ⟨P2,hP2⟩: ∃g,g=x3.heap.size:=⟨_,rfl⟩
  rw [←hP2] at hr3
  have HKK:Hid (∀W,Below y3.heap.size y3 W→W.cell? ⟨P1,0,none⟩=some (.string ⟨s.scheme.toArray⟩)∧W.cell? ⟨P1,1,none⟩=some (.nilIface)∧W.cell? ⟨P1,2,none⟩=some (.int .i64 s.port)∧W.cell? ⟨P1,3,none⟩=some (.bool s.user)∧W.cell? ⟨P2,0,none⟩=some (.string ⟨s.scheme.toArray⟩)∧W.cell? ⟨P2,1,none⟩=some (.int .i64 k)∧W.cell? ⟨P2,2,none⟩=some (.string ⟨n.toArray⟩)∧W.cell? ⟨P2,3,none⟩=some (.bool b)∧W.cell? ⟨P2,4,none⟩=some (.int .u64 hi)∧W.cell? ⟨P2,5,none⟩=some (.int .u64 lo)∧W.cell? ⟨P2,6,none⟩=some (.int .i64 s.port)∧W.cell? ⟨P2,7,none⟩=some (.bool s.user)):=fun W hb=>by
   obtain ⟨c0,c1,c2,c3⟩:=zhQ ((hb.block _ (zbA hr2)).trans hr2)
   obtain ⟨d0,d1,d2,d3,d4,d5,d6,d7⟩:=zmE ((hb.block _ (zbA hr3)).trans hr3)
   exact ⟨c0,c1,c2,c3,d0,d1,d2,d3,d4,d5,d6,d7⟩
  have HOF:Hid (∀W,Below y3.heap.size y3 W→Calls Tryz.prog 32 #[.agg #[.string ⟨s.scheme.toArray⟩,.nilIface,.int .i64 s.port,.bool s.user]] W fun e w'=>e= .returned (.agg #[.string ⟨s.scheme.toArray⟩,.int .i64 k,.string ⟨n.toArray⟩,.bool b,.int .u64 hi,.int .u64 lo,.int .i64 s.port,.bool s.user])∧Below y3.heap.size y3 w'):=fun W hW=>by
   have h:=zpN s W hin
   unfold SZ.cells at h
   rw [HVV.out] at h
   exact h.mono (fun e w' h=>⟨h.1.trans (by rw [HRC.out]),zaY hW h.2⟩)
  clear hin HC2 P2' hx3 hby hr3 hr2 HR2
  go_upto_region 7 with fail
  rw [←hy3,←hP2]
  clear hy3 hP2
  have hgd:=HGD.out
  have heq:=HEQ.out
  clear HGD HEQ
  go_region_held3 (fun W=>W.cell? ⟨P1,0,none⟩=some (.string ⟨s.scheme.toArray⟩)∧W.cell? ⟨P1,1,none⟩=some (.nilIface)∧W.cell? ⟨P1,2,none⟩=some (.int .i64 s.port)∧W.cell? ⟨P1,3,none⟩=some (.bool s.user)∧W.cell? ⟨P2,0,none⟩=some (.string ⟨s.scheme.toArray⟩)∧W.cell? ⟨P2,1,none⟩=some (.int .i64 k)∧W.cell? ⟨P2,2,none⟩=some (.string ⟨n.toArray⟩)∧W.cell? ⟨P2,3,none⟩=some (.bool b)∧W.cell? ⟨P2,4,none⟩=some (.int .u64 hi)∧W.cell? ⟨P2,5,none⟩=some (.int .u64 lo)∧W.cell? ⟨P2,6,none⟩=some (.int .i64 s.port)∧W.cell? ⟨P2,7,none⟩=some (.bool s.user))
   (first|exact HKK.out _ (zcY _)|exact HKK.out _ hb5)
   (first
    |(go_simp;go_at_call 32;((with_reducible refine (HOF.out _ (zcY _)).mono ?_);rintro e x5 ⟨rfl,hb5⟩)))
  all_goals
   have HF:=z0P (zaY HC3.out hb5)
   clear hb5 HKK HOF
   go_wp2
   go_ret
   exact ⟨rfl,HF.out⟩
 ·go_wp2_with fail
  refine HSX.out.mono ?_
  rintro e x2 ⟨rfl,hx2⟩
  clear a0 a1 a2 a3 a4 a5 a6 a7 a8 a9 a10 a11 a12 HSX
  obtain ⟨y2,hy2⟩: ∃y,y=x2.alloc (.cells #[.string ⟨s.scheme.toArray⟩,.iface it iv,.int .i64 s.port,.bool s.user] 53):=⟨_,rfl⟩
  have hby:Below x2.heap.size x2 y2:=by rw [hy2];exact (Below.refl _ _).alloc (Nat.le_refl _) _
  have hr2:y2.heap[x2.heap.size]? =some (.cells #[.string ⟨s.scheme.toArray⟩,.iface it iv,.int .i64 s.port,.bool s.user] 53):=by rw [hy2];exact heap_alloc_new x2 _
  have HC2:=z0P (zaY (zaY C1.out hx2) hby)
  have P2':=z0P ((P1'.out.below hx2).below hby)
  obtain ⟨P1,hP1⟩: ∃g,g=x2.heap.size:=⟨_,rfl⟩
  rw [←hP1] at hr2
  have HR2:=z0P hr2
  clear C1 P1' hx2 hby hr2
  go_upto_region 6 with fail
  rw [←hy2,←hP1]
  clear hy2 hP1
  obtain ⟨a0,a1,a2,a3,a4,a5,a6,a7,a8,a9,a10,a11,a12⟩:=P2'.out.all
  go_wp2_with fail
  refine (HRS.out _).mono ?_
  rintro e x3 ⟨rfl,hx3⟩
  clear a0 a1 a2 a3 a4 a5 a6 a7 a8 a9 a10 a11 a12 HRS
  obtain ⟨y3,hy3⟩: ∃y,y=x3.alloc (.cells #[.string ⟨s.scheme.toArray⟩,.int .i64 k,.string ⟨n.toArray⟩,.bool b,.int .u64 hi,.int .u64 lo,.int .i64 s.port,.bool s.user] 62):=⟨_,rfl⟩
  have hby:Below x3.heap.size x3 y3:=by rw [hy3];exact (Below.refl _ _).alloc (Nat.le_refl _) _
  have hr3:y3.heap[x3.heap.size]? =some (.cells #[.string ⟨s.scheme.toArray⟩,.int .i64 k,.string ⟨n.toArray⟩,.bool b,.int .u64 hi,.int .u64 lo,.int .i64 s.port,.bool s.user] 62):=by rw [hy3];exact heap_alloc_new x3 _
  have hr2:=(hby.block _ (zbA ((hx3.block _ (zbA HR2.out)).trans HR2.out))).trans ((hx3.block _ (zbA HR2.out)).trans HR2.out)
  have HC3:=z0P (zaY (zaY HC2.out hx3) hby)
  obtain ⟨P2,hP2⟩: ∃g,g=x3.heap.size:=⟨_,rfl⟩
  rw [←hP2] at hr3
  have HKK:Hid (∀W,Below y3.heap.size y3 W→W.cell? ⟨P1,0,none⟩=some (.string ⟨s.scheme.toArray⟩)∧W.cell? ⟨P1,1,none⟩=some (.iface it iv)∧W.cell? ⟨P1,2,none⟩=some (.int .i64 s.port)∧W.cell? ⟨P1,3,none⟩=some (.bool s.user)∧W.cell? ⟨P2,0,none⟩=some (.string ⟨s.scheme.toArray⟩)∧W.cell? ⟨P2,1,none⟩=some (.int .i64 k)∧W.cell? ⟨P2,2,none⟩=some (.string ⟨n.toArray⟩)∧W.cell? ⟨P2,3,none⟩=some (.bool b)∧W.cell? ⟨P2,4,none⟩=some (.int .u64 hi)∧W.cell? ⟨P2,5,none⟩=some (.int .u64 lo)∧W.cell? ⟨P2,6,none⟩=some (.int .i64 s.port)∧W.cell? ⟨P2,7,none⟩=some (.bool s.user)):=fun W hb=>by
   obtain ⟨c0,c1,c2,c3⟩:=zhQ ((hb.block _ (zbA hr2)).trans hr2)
   obtain ⟨d0,d1,d2,d3,d4,d5,d6,d7⟩:=zmE ((hb.block _ (zbA hr3)).trans hr3)
   exact ⟨c0,c1,c2,c3,d0,d1,d2,d3,d4,d5,d6,d7⟩
  have HOF:Hid (∀W,Below y3.heap.size y3 W→Calls Tryz.prog 32 #[.agg #[.string ⟨s.scheme.toArray⟩,.iface it iv,.int .i64 s.port,.bool s.user]] W fun e w'=>e= .returned (.agg #[.string ⟨s.scheme.toArray⟩,.int .i64 k,.string ⟨n.toArray⟩,.bool b,.int .u64 hi,.int .u64 lo,.int .i64 s.port,.bool s.user])∧Below y3.heap.size y3 w'):=fun W hW=>by
   have h:=zpN s W hin
   unfold SZ.cells at h
   rw [HVV.out] at h
   exact h.mono (fun e w' h=>⟨h.1.trans (by rw [HRC.out]),zaY hW h.2⟩)
  clear hin HC2 P2' hx3 hby hr3 hr2 HR2
  go_upto_region 7 with fail
  rw [←hy3,←hP2]
  clear hy3 hP2
  have hgd:=HGD.out
  have heq:=HEQ.out
  clear HGD HEQ
  go_region_held3 (fun W=>W.cell? ⟨P1,0,none⟩=some (.string ⟨s.scheme.toArray⟩)∧W.cell? ⟨P1,1,none⟩=some (.iface it iv)∧W.cell? ⟨P1,2,none⟩=some (.int .i64 s.port)∧W.cell? ⟨P1,3,none⟩=some (.bool s.user)∧W.cell? ⟨P2,0,none⟩=some (.string ⟨s.scheme.toArray⟩)∧W.cell? ⟨P2,1,none⟩=some (.int .i64 k)∧W.cell? ⟨P2,2,none⟩=some (.string ⟨n.toArray⟩)∧W.cell? ⟨P2,3,none⟩=some (.bool b)∧W.cell? ⟨P2,4,none⟩=some (.int .u64 hi)∧W.cell? ⟨P2,5,none⟩=some (.int .u64 lo)∧W.cell? ⟨P2,6,none⟩=some (.int .i64 s.port)∧W.cell? ⟨P2,7,none⟩=some (.bool s.user))
   (first|exact HKK.out _ (zcY _)|exact HKK.out _ hb5)
   (first
    |(go_simp;go_at_call 32;((with_reducible refine (HOF.out _ (zcY _)).mono ?_);rintro e x5 ⟨rfl,hb5⟩)))
  all_goals
   have HF:=z0P (zaY HC3.out hb5)
   clear hb5 HKK HOF
   go_wp2
   go_ret
   exact ⟨rfl,HF.out⟩
end
end Go.Proofs.YtmjappnpedjlnaaGreatDoor
