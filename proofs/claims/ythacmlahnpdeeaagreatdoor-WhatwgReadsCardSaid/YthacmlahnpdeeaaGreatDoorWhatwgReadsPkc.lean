/-
  What the law WhatwgReads leans on, and its walk (28 of 29).
-/
import Derived.Deep.RegionHeld3
import Derived.Test.YthacmlahnpdeeaaGreatDoorWhatwgReadsPkK
import Derived.Test.YthacmlahnpdeeaaGreatDoorWhatwgReadsPkR
import Derived.Test.YthacmlahnpdeeaaGreatDoorWhatwgReadsPkZ
import Derived.Test.YthacmlahnpdeeaaGreatDoorWhatwgReadsPkb
namespace Go.Proofs.YthacmlahnpdeeaaGreatDoor
set_option maxRecDepth 100000
set_option maxHeartbeats 16000000
section
open Go.RowKit
theorem whatwgReads_walk (a0:ByteArray) (_w0:a0.size≤maxLen) (w:World) (hpow:PowTab w) (hbru:BruTab w) (hmax:MaxVar w):
  Calls Tryz.prog 3 #[.string a0] w fun e w'=>e= .returned (.bool true)∧Below w.heap.size w w':=by
 obtain ⟨l,rfl⟩: ∃l:List UInt8,a0=⟨l.toArray⟩:=⟨a0.data.toList,by simp⟩
 have hz:=zaA l
 have HTM:=Lib.hid hmax
 have HA:=Lib.hid (aw14 w hpow hbru hmax)
 clear hpow hbru hmax
 by_cases hbig:5000<l.length
 ·go_enter Tryz.func3,Tryz.ntmps3
  go_wp2_with fail
  refine HA.out.mono ?_
  rintro e x1 ⟨rfl,hx1⟩
  go_wp2
  go_ret
  exact ⟨rfl,hx1⟩
 have HA1:=Lib.hid (fun W (hW:MaxVar W)=>z1M l W hW (by omega))
 have HRP:=Lib.hid (fun W=>zsS l W (by omega))
 have hin:=z0P l
 have hpl:=zyJ l none 0 (fun u e=>by cases e)
 generalize zdY l none=rr at*
 obtain ⟨v,er⟩:=rr
 simp only at hin hpl
 have hsh: ∃hv,v.host.val=hv∧(hv= .nilIface∨ ∃it iv,hv= .iface it iv):=by
  rcases v.host.shape with h|⟨it,iv,h⟩
  ·exact ⟨_,h,.inl rfl⟩
  ·exact ⟨_,h,.inr ⟨it,iv,rfl⟩⟩
 obtain ⟨hv,hvv,hvs⟩:=hsh
 have hee:(er==er)=true:=by simp
 rw [←zeC] at HRP
 unfold zbF at HRP
 rcases hvs with rfl|⟨it,iv,rfl⟩
 all_goals
  have HVV:=Lib.hid hvv
  clear hvv
  go_enter Tryz.func3,Tryz.ntmps3
  go_wp2_with fail
  refine HA.out.mono ?_
  rintro e x1 ⟨rfl,hx1⟩
  go_wp2_with fail
  refine (HA1.out _ (zaF HTM.out hx1)).mono ?_
  rintro e x2 ⟨pa,rfl,hp2,hb2⟩
  obtain ⟨aa,an,ac,rfl⟩:=hp2.pv.shape
  obtain ⟨y2,hy2⟩: ∃y,y=x2.alloc (.cells (v.cells (.slice aa an ac)) 27):=⟨_,rfl⟩
  have hd2:Below x2.heap.size x2 y2:=by rw [hy2];exact zcP x2 _
  have hU2:UB y2 x2.heap.size v (.slice aa an ac):=by rw [hy2];exact UB.new x2 v _
  have hPA2:=hp2.pv.keep hd2
  have HC2:=Lib.hid (zaK (zaK hx1 hb2) hd2)
  obtain ⟨ga,hga⟩: ∃g,g=x2.heap.size:=⟨_,rfl⟩
  rw [←hga] at hU2
  simp only [UZ.cells] at hy2 ⊢
  rw [HVV.out] at hy2 ⊢
  clear hx1 hb2 hd2 hp2
  go_wp2_with fail
  rw [←hy2,←hga]
  clear hy2 hga
  refine (HRP.out _).mono ?_
  rintro e x4 ⟨pb,rfl,hp4,hb4⟩
  obtain ⟨ba,bn,bc,rfl⟩:=hp4.pv.shape
  obtain ⟨y4,hy4⟩: ∃y,y=x4.alloc (.cells (v.ref (.slice ba bn bc)) 37):=⟨_,rfl⟩
  have hd4:Below x4.heap.size x4 y4:=by rw [hy4];exact zcQ x4 _
  have hV4:VB y4 x4.heap.size v (.slice ba bn bc):=by rw [hy4];exact VB.new x4 v _
  have hU4:UB y4 ga v (.slice aa an ac):=(hU2.below hb4).below hd4
  have hPA:=(hPA2.keep hb4).keep hd4
  have hPB:=hp4.pv.keep hd4
  have HC4:=Lib.hid (zaK (zaK HC2.out hb4) hd4)
  obtain ⟨gb,hgb⟩: ∃g,g=x4.heap.size:=⟨_,rfl⟩
  rw [←hgb] at hV4
  simp only [UZ.ref] at hy4 ⊢
  clear hb4 hd4 hp4 hU2 hPA2
  have HKK:Hid (∀x,Below y4.heap.size y4 x→x.cell? ⟨ga,0,none⟩=some (.string ⟨v.scheme.toArray⟩)∧x.cell? ⟨ga,1,none⟩=some (.string ⟨v.user.toArray⟩)∧x.cell? ⟨ga,2,none⟩=some (.string ⟨v.pass.toArray⟩)∧x.cell? ⟨ga,3,none⟩=some (v.host.val)∧x.cell? ⟨ga,4,none⟩=some (.int .i64 v.port)∧x.cell? ⟨ga,5,none⟩=some (.slice aa an ac)∧x.cell? ⟨ga,6,none⟩=some (.string ⟨v.query.toArray⟩)∧x.cell? ⟨ga,7,none⟩=some (.bool v.hasQ)∧x.cell? ⟨ga,8,none⟩=some (.string ⟨v.frag.toArray⟩)∧x.cell? ⟨ga,9,none⟩=some (.bool v.hasF)∧x.cell? ⟨gb,0,none⟩=some (.string ⟨v.scheme.toArray⟩)∧x.cell? ⟨gb,1,none⟩=some (.string ⟨v.user.toArray⟩)∧x.cell? ⟨gb,2,none⟩=some (.string ⟨v.pass.toArray⟩)∧x.cell? ⟨gb,3,none⟩=some (.int .i64 (hk v.host))∧x.cell? ⟨gb,4,none⟩=some (.string ⟨(hn v.host).toArray⟩)∧x.cell? ⟨gb,5,none⟩=some (.bool (hbit v.host))∧x.cell? ⟨gb,6,none⟩=some (.int .u64 (hhi v.host))∧x.cell? ⟨gb,7,none⟩=some (.int .u64 (hlo v.host))∧x.cell? ⟨gb,8,none⟩=some (.int .i64 v.port)∧x.cell? ⟨gb,9,none⟩=some (.slice ba bn bc)∧x.cell? ⟨gb,10,none⟩=some (.string ⟨v.query.toArray⟩)∧x.cell? ⟨gb,11,none⟩=some (.bool v.hasQ)∧x.cell? ⟨gb,12,none⟩=some (.string ⟨v.frag.toArray⟩)∧x.cell? ⟨gb,13,none⟩=some (.bool v.hasF)):=fun x hb=>by
   obtain ⟨d0,d1,d2,d3,d4,d5,d6,d7,d8,d9,-⟩:=(hU4.below hb).all
   obtain ⟨f0,f1,f2,f3,f4,f5,f6,f7,f8,f9,f10,f11,f12,f13,-⟩:=(hV4.below hb).all
   exact ⟨d0,d1,d2,d3,d4,d5,d6,d7,d8,d9,f0,f1,f2,f3,f4,f5,f6,f7,f8,f9,f10,f11,f12,f13⟩
  have HOF:Hid (∀W,Below y4.heap.size y4 W→Calls Tryz.prog 10 #[.agg #[.string ⟨v.scheme.toArray⟩,.string ⟨v.user.toArray⟩,.string ⟨v.pass.toArray⟩,v.host.val,.int .i64 v.port,.slice aa an ac,.string ⟨v.query.toArray⟩,.bool v.hasQ,.string ⟨v.frag.toArray⟩,.bool v.hasF]] W fun e w'=>e= .returned (.agg #[.string ⟨v.scheme.toArray⟩,.string ⟨v.user.toArray⟩,.string ⟨v.pass.toArray⟩,.int .i64 (hk v.host),.string ⟨(hn v.host).toArray⟩,.bool (hbit v.host),.int .u64 (hhi v.host),.int .u64 (hlo v.host),.int .i64 v.port,.slice aa an ac,.string ⟨v.query.toArray⟩,.bool v.hasQ,.string ⟨v.frag.toArray⟩,.bool v.hasF])∧Below y4.heap.size y4 w'):=fun W hW=>by
   have:=z6Z v aa an ac W hin
   simp only [UZ.cells] at this
   exact this.mono (fun e w' h=>⟨h.1,zaK hW h.2⟩)
  have HSM:Hid (∀W,Below y4.heap.size y4 W→Calls Tryz.prog 9 #[.agg #[.string ⟨v.scheme.toArray⟩,.string ⟨v.user.toArray⟩,.string ⟨v.pass.toArray⟩,.int .i64 (hk v.host),.string ⟨(hn v.host).toArray⟩,.bool (hbit v.host),.int .u64 (hhi v.host),.int .u64 (hlo v.host),.int .i64 v.port,.slice aa an ac,.string ⟨v.query.toArray⟩,.bool v.hasQ,.string ⟨v.frag.toArray⟩,.bool v.hasF],.agg #[.string ⟨v.scheme.toArray⟩,.string ⟨v.user.toArray⟩,.string ⟨v.pass.toArray⟩,.int .i64 (hk v.host),.string ⟨(hn v.host).toArray⟩,.bool (hbit v.host),.int .u64 (hhi v.host),.int .u64 (hlo v.host),.int .i64 v.port,.slice ba bn bc,.string ⟨v.query.toArray⟩,.bool v.hasQ,.string ⟨v.frag.toArray⟩,.bool v.hasF]] W fun e w'=>e= .returned (.bool true)∧Below y4.heap.size y4 w'):=fun W hW=>(zoX v (.slice aa an ac) (.slice ba bn bc) W (hPA.keep hW) (hPB.keep hW) (by omega)).mono (fun e w' h=>⟨h.1,zaK hW h.2⟩)
  clear hU4 hV4 hPA hPB
  go_wp2_with fail
  rw [←hy4,←hgb]
  clear hy4 hgb
  go_region_held3 (fun W=>W.cell? ⟨ga,0,none⟩=some (.string ⟨v.scheme.toArray⟩)∧W.cell? ⟨ga,1,none⟩=some (.string ⟨v.user.toArray⟩)∧W.cell? ⟨ga,2,none⟩=some (.string ⟨v.pass.toArray⟩)∧W.cell? ⟨ga,3,none⟩=some (v.host.val)∧W.cell? ⟨ga,4,none⟩=some (.int .i64 v.port)∧W.cell? ⟨ga,5,none⟩=some (.slice aa an ac)∧W.cell? ⟨ga,6,none⟩=some (.string ⟨v.query.toArray⟩)∧W.cell? ⟨ga,7,none⟩=some (.bool v.hasQ)∧W.cell? ⟨ga,8,none⟩=some (.string ⟨v.frag.toArray⟩)∧W.cell? ⟨ga,9,none⟩=some (.bool v.hasF)∧W.cell? ⟨gb,0,none⟩=some (.string ⟨v.scheme.toArray⟩)∧W.cell? ⟨gb,1,none⟩=some (.string ⟨v.user.toArray⟩)∧W.cell? ⟨gb,2,none⟩=some (.string ⟨v.pass.toArray⟩)∧W.cell? ⟨gb,3,none⟩=some (.int .i64 (hk v.host))∧W.cell? ⟨gb,4,none⟩=some (.string ⟨(hn v.host).toArray⟩)∧W.cell? ⟨gb,5,none⟩=some (.bool (hbit v.host))∧W.cell? ⟨gb,6,none⟩=some (.int .u64 (hhi v.host))∧W.cell? ⟨gb,7,none⟩=some (.int .u64 (hlo v.host))∧W.cell? ⟨gb,8,none⟩=some (.int .i64 v.port)∧W.cell? ⟨gb,9,none⟩=some (.slice ba bn bc)∧W.cell? ⟨gb,10,none⟩=some (.string ⟨v.query.toArray⟩)∧W.cell? ⟨gb,11,none⟩=some (.bool v.hasQ)∧W.cell? ⟨gb,12,none⟩=some (.string ⟨v.frag.toArray⟩)∧W.cell? ⟨gb,13,none⟩=some (.bool v.hasF))
   (first|exact HKK.out _ (zdE _)|exact HKK.out _ hb5|exact HKK.out _ hb6)
   (first
    |(go_simp;go_at_call 10;((with_reducible refine (HOF.out _ (zdE _)).mono ?_);rintro e x5 ⟨rfl,hb5⟩))
    |(go_simp;go_at_call 9;((with_reducible refine (HSM.out _ hb5).mono ?_);rintro e x6 ⟨rfl,hb6⟩)))
  have HF:=Lib.hid (zaK HC4.out hb6)
  clear hb5 hb6
  go_wp2
  go_ret
  exact ⟨rfl,HF.out⟩
end
end Go.Proofs.YthacmlahnpdeeaaGreatDoor
