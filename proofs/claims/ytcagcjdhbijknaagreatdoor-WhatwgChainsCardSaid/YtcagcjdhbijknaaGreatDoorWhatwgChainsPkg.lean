/-
  What the law WhatwgChains leans on, and its walk (32 of 33).
-/
import Derived.Deep.RegionHeld3
import Derived.Test.YtcagcjdhbijknaaGreatDoorWhatwgChainsPkK
import Derived.Test.YtcagcjdhbijknaaGreatDoorWhatwgChainsPka
import Derived.Test.YtcagcjdhbijknaaGreatDoorWhatwgChainsPkc
import Derived.Test.YtcagcjdhbijknaaGreatDoorWhatwgChainsPkf
namespace Go.Proofs.YtcagcjdhbijknaaGreatDoor
set_option maxRecDepth 100000
set_option maxHeartbeats 16000000
abbrev yiW := @Lib.hid
section
open Go.RowKit
theorem whatwgChains_walk (a0:ByteArray) (a1:Option Addr) (len1 cap1:Nat) (z1:List ByteArray) (_w0:a0.size≤maxLen) (w:World) (w1:IsTRow w a1 len1 cap1 z1) (hpow:PowTab w) (hbru:BruTab w) (hmax:MaxVar w):
  Calls Tryz.prog 3 #[.string a0,.slice a1 len1 cap1] w fun e w'=>e= .returned (.bool true)∧Below w.heap.size w w':=by
 obtain ⟨l,rfl⟩: ∃l:List UInt8,a0=⟨l.toArray⟩:=⟨a0.data.toList,by simp⟩
 have hz:=zaA l
 have HTM:=yiW hmax
 have HA:=yiW (aw14 w hpow hbru hmax)
 clear hpow hbru hmax
 obtain ⟨ps,hps⟩: ∃ps,ps=z1.map (fun z=>z.data.toList):=⟨_,rfl⟩
 have hrow:RowS w a1 ps:=by rw [hps];exact w1.rowS
 obtain ⟨hl1,hmc,hbd,-⟩:=w1
 have hlen:len1=ps.length:=by rw [hps];simp [hl1]
 subst hlen
 clear hps hl1
 have HROW:=yiW hrow
 have HMC:=yiW hmc
 clear hrow hmc
 obtain ⟨sm,hsm⟩: ∃b,zoY ([l]++ps)=b:=⟨_,rfl⟩
 have HAP:Hid (∀(x:World) (v:Value),PV x v ([l]++ps)→Calls Tryz.prog 5 #[v] x (zeF x sm)):=fun x v h=>by
  rw [←hsm];exact zxW v _ x h (by simp;omega)
 cases sm with
 |false=>
  go_enter Tryz.func3,Tryz.ntmps3
  go_wp2_with fail
  refine HA.out.mono ?_
  rintro e x1 ⟨rfl,hx1⟩
  have HX1:=yiW hx1
  have HR1:=yiW ((HROW.out.keep hx1).keep ((Below.refl x1.heap.size x1).alloc (Nat.le_refl _) (.cells #[.string ⟨l.toArray⟩] 9)))
  have HAL:=yiW ((Below.refl x1.heap.size x1).alloc (Nat.le_refl _) (.cells #[.string ⟨l.toArray⟩] 9))
  clear hx1
  go_wp2_with (at_builtin;refine zuZ _ rfl _ _ rfl x1.heap.size _ a1 cap1 [l] ps rfl (zvG x1 l) rfl HMC.out HR1.out (by simp;omega) (by simp) ?_;intro v0 x3 hp0 hgr0 hat0)
  have hb3:Below x1.heap.size (x1.alloc (.cells #[.string ⟨l.toArray⟩] 9)) x3:=⟨hgr0.os,hgr0.tape,hgr0.output,hgr0.size,fun b hb=>hgr0.block b (Nat.lt_of_lt_of_le hb HAL.out.size) (fun e=>by have e2:b=x1.heap.size:=Option.some.inj e;omega)⟩
  have HC3:=yiW (zaC HX1.out (HAL.out.trans hb3))
  have HP0:=yiW hp0.pv
  clear hp0 hgr0 hat0 hb3 HAL HR1 HX1
  go_wp2_with fail
  refine (HAP.out _ _ HP0.out).mono ?_
  rintro e x1 ⟨rfl,hb4⟩
  have hx1:=zaC HC3.out hb4
  clear hb4 HC3 HP0
  go_wp2
  go_ret
  exact ⟨rfl,hx1⟩
 |true=>
 have hsm2:l.length≤1000∧(∀x∈ps,x.length≤1000)∧ps.length≤7:=by
  unfold zoY at hsm
  simp at hsm
  exact ⟨hsm.1.1,hsm.1.2,by omega⟩
 clear hsm
 obtain ⟨hl,hml,hps7⟩:=hsm2
 have HA1:=yiW (fun W (hW:Below w.heap.size w W)=>z2O l a1 cap1 ps W (zaG HTM.out hW) (by omega) (HROW.out.keep hW) (by omega) (fun x hx=>by have:=hml x hx;omega) (fun x _=>z3X x))
 have HRP:=yiW (fun W (hW:Below w.heap.size w W)=>ztN l a1 cap1 ps W (by omega) (HROW.out.keep hW) (by omega) (fun x hx=>by have:=hml x hx;omega))
 have hin:=zuF ps _ (z6F l)
 have hpl:(zeD (zaQ l none) ps).1.path.length≤1000000:=by
  have:=zqD ps _ _ (zfQ l none 0 (fun u e=>by cases e))
  omega
 clear hml
 generalize zeD (zaQ l none) ps=rr at*
 obtain ⟨v,er⟩:=rr
 simp only at hin hpl
 have hsh: ∃hv,v.host.val=hv∧(hv= .nilIface∨ ∃it iv,hv= .iface it iv):=by
  rcases v.host.shape with h|⟨it,iv,h⟩
  ·exact ⟨_,h,.inl rfl⟩
  ·exact ⟨_,h,.inr ⟨it,iv,rfl⟩⟩
 obtain ⟨hv,hvv,hvs⟩:=hsh
 have hee:(er==er)=true:=by simp
 rcases hvs with rfl|⟨it,iv,rfl⟩
 all_goals
  have HVV:=yiW hvv
  clear hvv
  go_enter Tryz.func3,Tryz.ntmps3
  go_wp2_with fail
  refine HA.out.mono ?_
  rintro e x1 ⟨rfl,hx1⟩
  have HX1:=yiW hx1
  have HR1:=yiW ((HROW.out.keep hx1).keep ((Below.refl x1.heap.size x1).alloc (Nat.le_refl _) (.cells #[.string ⟨l.toArray⟩] 9)))
  have HAL:=yiW ((Below.refl x1.heap.size x1).alloc (Nat.le_refl _) (.cells #[.string ⟨l.toArray⟩] 9))
  clear hx1
  go_wp2_with (at_builtin;refine zuZ _ rfl _ _ rfl x1.heap.size _ a1 cap1 [l] ps rfl (zvG x1 l) rfl HMC.out HR1.out (by simp;omega) (by simp) ?_;intro v0 x3 hp0 hgr0 hat0)
  have hb3:Below x1.heap.size (x1.alloc (.cells #[.string ⟨l.toArray⟩] 9)) x3:=⟨hgr0.os,hgr0.tape,hgr0.output,hgr0.size,fun b hb=>hgr0.block b (Nat.lt_of_lt_of_le hb HAL.out.size) (fun e=>by have e2:b=x1.heap.size:=Option.some.inj e;omega)⟩
  have HC3:=yiW (zaC HX1.out (HAL.out.trans hb3))
  have HP0:=yiW hp0.pv
  clear hp0 hgr0 hat0 hb3 HAL HR1 HX1
  go_wp2_with fail
  refine (HAP.out _ _ HP0.out).mono ?_
  rintro e x1 ⟨rfl,hb4⟩
  have hx1:=zaC HC3.out hb4
  clear hb4 HC3 HP0
  go_wp2_with fail
  refine (HA1.out _ hx1).mono ?_
  rintro e x2 ⟨pa,rfl,hp2,hb2⟩
  obtain ⟨aa,an,ac,rfl⟩:=hp2.pv.shape
  obtain ⟨y2,hy2⟩: ∃y,y=x2.alloc (.cells (v.cells (.slice aa an ac)) 28):=⟨_,rfl⟩
  have hd2:Below x2.heap.size x2 y2:=by rw [hy2];exact zbQ x2 _
  have hU2:UB y2 x2.heap.size v (.slice aa an ac):=by rw [hy2];exact UB.new x2 v _
  have hPA2:=hp2.pv.keep hd2
  have HC2:=yiW (zaC (zaC hx1 hb2) hd2)
  obtain ⟨ga,hga⟩: ∃g,g=x2.heap.size:=⟨_,rfl⟩
  rw [←hga] at hU2
  simp only [UZ.cells] at hy2 ⊢
  rw [HVV.out] at hy2 ⊢
  clear hx1 hb2 hd2 hp2
  go_wp2_with fail
  rw [←hy2,←hga]
  clear hy2 hga
  refine (HRP.out _ (HC2.out)).mono ?_
  rintro e x4 ⟨pb,rfl,hp4,hb4⟩
  obtain ⟨ba,bn,bc,rfl⟩:=hp4.shape
  obtain ⟨y4,hy4⟩: ∃y,y=x4.alloc (.cells (v.ref (.slice ba bn bc)) 38):=⟨_,rfl⟩
  have hd4:Below x4.heap.size x4 y4:=by rw [hy4];exact zcC x4 _
  have hV4:VB y4 x4.heap.size v (.slice ba bn bc):=by rw [hy4];exact VB.new x4 v _
  have hU4:UB y4 ga v (.slice aa an ac):=(hU2.below hb4).below hd4
  have hPA:=(hPA2.keep hb4).keep hd4
  have hPB:=hp4.keep hd4
  have HC4:=yiW (zaC (zaC HC2.out hb4) hd4)
  obtain ⟨gb,hgb⟩: ∃g,g=x4.heap.size:=⟨_,rfl⟩
  rw [←hgb] at hV4
  simp only [UZ.ref] at hy4 ⊢
  clear hb4 hd4 hp4 hU2 hPA2
  have HKK:Hid (∀x,Below y4.heap.size y4 x→x.cell? ⟨ga,0,none⟩=some (.string ⟨v.scheme.toArray⟩)∧x.cell? ⟨ga,1,none⟩=some (.string ⟨v.user.toArray⟩)∧x.cell? ⟨ga,2,none⟩=some (.string ⟨v.pass.toArray⟩)∧x.cell? ⟨ga,3,none⟩=some (v.host.val)∧x.cell? ⟨ga,4,none⟩=some (.int .i64 v.port)∧x.cell? ⟨ga,5,none⟩=some (.slice aa an ac)∧x.cell? ⟨ga,6,none⟩=some (.string ⟨v.query.toArray⟩)∧x.cell? ⟨ga,7,none⟩=some (.bool v.hasQ)∧x.cell? ⟨ga,8,none⟩=some (.string ⟨v.frag.toArray⟩)∧x.cell? ⟨ga,9,none⟩=some (.bool v.hasF)∧x.cell? ⟨gb,0,none⟩=some (.string ⟨v.scheme.toArray⟩)∧x.cell? ⟨gb,1,none⟩=some (.string ⟨v.user.toArray⟩)∧x.cell? ⟨gb,2,none⟩=some (.string ⟨v.pass.toArray⟩)∧x.cell? ⟨gb,3,none⟩=some (.int .i64 (hk v.host))∧x.cell? ⟨gb,4,none⟩=some (.string ⟨(hn v.host).toArray⟩)∧x.cell? ⟨gb,5,none⟩=some (.bool (hbit v.host))∧x.cell? ⟨gb,6,none⟩=some (.int .u64 (hhi v.host))∧x.cell? ⟨gb,7,none⟩=some (.int .u64 (hlo v.host))∧x.cell? ⟨gb,8,none⟩=some (.int .i64 v.port)∧x.cell? ⟨gb,9,none⟩=some (.slice ba bn bc)∧x.cell? ⟨gb,10,none⟩=some (.string ⟨v.query.toArray⟩)∧x.cell? ⟨gb,11,none⟩=some (.bool v.hasQ)∧x.cell? ⟨gb,12,none⟩=some (.string ⟨v.frag.toArray⟩)∧x.cell? ⟨gb,13,none⟩=some (.bool v.hasF)):=fun x hb=>by
   obtain ⟨d0,d1,d2,d3,d4,d5,d6,d7,d8,d9,-⟩:=(hU4.below hb).all
   obtain ⟨f0,f1,f2,f3,f4,f5,f6,f7,f8,f9,f10,f11,f12,f13,-⟩:=(hV4.below hb).all
   exact ⟨d0,d1,d2,d3,d4,d5,d6,d7,d8,d9,f0,f1,f2,f3,f4,f5,f6,f7,f8,f9,f10,f11,f12,f13⟩
  have HOF:Hid (∀W,Below y4.heap.size y4 W→Calls Tryz.prog 9 #[.agg #[.string ⟨v.scheme.toArray⟩,.string ⟨v.user.toArray⟩,.string ⟨v.pass.toArray⟩,v.host.val,.int .i64 v.port,.slice aa an ac,.string ⟨v.query.toArray⟩,.bool v.hasQ,.string ⟨v.frag.toArray⟩,.bool v.hasF]] W fun e w'=>e= .returned (.agg #[.string ⟨v.scheme.toArray⟩,.string ⟨v.user.toArray⟩,.string ⟨v.pass.toArray⟩,.int .i64 (hk v.host),.string ⟨(hn v.host).toArray⟩,.bool (hbit v.host),.int .u64 (hhi v.host),.int .u64 (hlo v.host),.int .i64 v.port,.slice aa an ac,.string ⟨v.query.toArray⟩,.bool v.hasQ,.string ⟨v.frag.toArray⟩,.bool v.hasF])∧Below y4.heap.size y4 w'):=fun W hW=>by
   have:=ybB v aa an ac W hin
   simp only [UZ.cells] at this
   exact this.mono (fun e w' h=>⟨h.1,zaC hW h.2⟩)
  have HSM:Hid (∀W,Below y4.heap.size y4 W→Calls Tryz.prog 8 #[.agg #[.string ⟨v.scheme.toArray⟩,.string ⟨v.user.toArray⟩,.string ⟨v.pass.toArray⟩,.int .i64 (hk v.host),.string ⟨(hn v.host).toArray⟩,.bool (hbit v.host),.int .u64 (hhi v.host),.int .u64 (hlo v.host),.int .i64 v.port,.slice aa an ac,.string ⟨v.query.toArray⟩,.bool v.hasQ,.string ⟨v.frag.toArray⟩,.bool v.hasF],.agg #[.string ⟨v.scheme.toArray⟩,.string ⟨v.user.toArray⟩,.string ⟨v.pass.toArray⟩,.int .i64 (hk v.host),.string ⟨(hn v.host).toArray⟩,.bool (hbit v.host),.int .u64 (hhi v.host),.int .u64 (hlo v.host),.int .i64 v.port,.slice ba bn bc,.string ⟨v.query.toArray⟩,.bool v.hasQ,.string ⟨v.frag.toArray⟩,.bool v.hasF]] W fun e w'=>e= .returned (.bool true)∧Below y4.heap.size y4 w'):=fun W hW=>(zrM v (.slice aa an ac) (.slice ba bn bc) W (hPA.keep hW) (hPB.keep hW) (by omega)).mono (fun e w' h=>⟨h.1,zaC hW h.2⟩)
  clear hU4 hV4 hPA hPB
  go_wp2_with fail
  rw [←hy4,←hgb]
  clear hy4 hgb
  go_region_held3 (fun W=>W.cell? ⟨ga,0,none⟩=some (.string ⟨v.scheme.toArray⟩)∧W.cell? ⟨ga,1,none⟩=some (.string ⟨v.user.toArray⟩)∧W.cell? ⟨ga,2,none⟩=some (.string ⟨v.pass.toArray⟩)∧W.cell? ⟨ga,3,none⟩=some (v.host.val)∧W.cell? ⟨ga,4,none⟩=some (.int .i64 v.port)∧W.cell? ⟨ga,5,none⟩=some (.slice aa an ac)∧W.cell? ⟨ga,6,none⟩=some (.string ⟨v.query.toArray⟩)∧W.cell? ⟨ga,7,none⟩=some (.bool v.hasQ)∧W.cell? ⟨ga,8,none⟩=some (.string ⟨v.frag.toArray⟩)∧W.cell? ⟨ga,9,none⟩=some (.bool v.hasF)∧W.cell? ⟨gb,0,none⟩=some (.string ⟨v.scheme.toArray⟩)∧W.cell? ⟨gb,1,none⟩=some (.string ⟨v.user.toArray⟩)∧W.cell? ⟨gb,2,none⟩=some (.string ⟨v.pass.toArray⟩)∧W.cell? ⟨gb,3,none⟩=some (.int .i64 (hk v.host))∧W.cell? ⟨gb,4,none⟩=some (.string ⟨(hn v.host).toArray⟩)∧W.cell? ⟨gb,5,none⟩=some (.bool (hbit v.host))∧W.cell? ⟨gb,6,none⟩=some (.int .u64 (hhi v.host))∧W.cell? ⟨gb,7,none⟩=some (.int .u64 (hlo v.host))∧W.cell? ⟨gb,8,none⟩=some (.int .i64 v.port)∧W.cell? ⟨gb,9,none⟩=some (.slice ba bn bc)∧W.cell? ⟨gb,10,none⟩=some (.string ⟨v.query.toArray⟩)∧W.cell? ⟨gb,11,none⟩=some (.bool v.hasQ)∧W.cell? ⟨gb,12,none⟩=some (.string ⟨v.frag.toArray⟩)∧W.cell? ⟨gb,13,none⟩=some (.bool v.hasF))
   (first|exact HKK.out _ (zbB _)|exact HKK.out _ hb5|exact HKK.out _ hb6)
   (first
    |(go_simp;go_at_call 9;((with_reducible refine (HOF.out _ (zbB _)).mono ?_);rintro e x5 ⟨rfl,hb5⟩))
    |(go_simp;go_at_call 8;((with_reducible refine (HSM.out _ hb5).mono ?_);rintro e x6 ⟨rfl,hb6⟩)))
  have HF:=yiW (zaC HC4.out hb6)
  clear hb5 hb6
  go_wp2
  go_ret
  exact ⟨rfl,HF.out⟩
end
end Go.Proofs.YtcagcjdhbijknaaGreatDoor
