/-
  What the law ResolveMeets leans on, and its walk (45 of 46).
-/
import Derived.Test.YtmjappnpedjlnaaGreatDoorResolveMeetsPkK
import Derived.Test.YtmjappnpedjlnaaGreatDoorResolveMeetsPko
import Derived.Test.YtmjappnpedjlnaaGreatDoorResolveMeetsPkr
import Derived.Test.YtmjappnpedjlnaaGreatDoorResolveMeetsPkf
import Derived.Test.YtmjappnpedjlnaaGreatDoorResolveMeetsPks
import Derived.Test.YtmjappnpedjlnaaGreatDoorResolveMeetsPkm
namespace Go.Proofs.YtmjappnpedjlnaaGreatDoor
set_option maxRecDepth 100000
set_option maxHeartbeats 16000000
abbrev yqH := @Lib.hid
abbrev yqI := @Nat.le_refl
abbrev yqJ := @decide_eq_false
section
open Go.RowKit
theorem z1E: ∀ps:List (List UInt8),ps.length≤(zbK ps).length
 |[]=>yqI _
 |s::r=>by
  have:=z1E r
  show r.length+1≤(47::(s++zbK r)).length
  rw [List.length_cons,List.length_append]
  omega
def okC (c:UInt8):Bool:=(decide (97≤c.toNat)&&decide (c.toNat≤122))||c==46||c==47
theorem yaV {s:List UInt8} (h: ∀c∈s,okC c=true):zdB s:=fun c hc=>by
 have:=h c hc
 unfold okC at this
 simp only [Bool.or_eq_true,Bool.and_eq_true,decide_eq_true_eq,beq_iff_eq] at this
 rcases this with (q|q)|q
 ·exact .inl q
 ·exact .inr (.inl q)
 ·exact .inr (.inr q)
theorem z8K {l s:List UInt8} {v:UZ} {er:Int} (hr:zbF l none=(v,er)) (he:er=0) (h1:l.length≤300) (h2:s.length≤300) (hs:zdB s) (h3:s.take 2≠[47,47]) {b:PZ} (hb:zaW sixB (zcW v)=(b,0)):
  z3K sixB (zcW v) s=(zfQ (lowU v s),0)∧zbF s (some v)=(lowU v s,0)∧(zfQ (lowU v s)).length≤4096:=by
 have hv:(zbF l none).1=v:=by rw [hr]
 obtain ⟨m1,m2,m3,m4,m5,m6⟩:=yeL (t:=l) (s:=s) (by rw [hr];exact he) h1 h2 hs h3 sixB (by rw [hv,hb])
 rw [hv] at m1 m3 m4 m5 m6
 have h4:=(ziF (six:=sixB) (s:=zbJ (zcH (lowU v s))) (by rw [m4])).1
 have h5:=ygO (x:=zcW v) (s:=s) m1 rfl m2 (by rw [m3];exact m4)
 rw [m3,m5] at h5
 rw [m5] at h4
 exact ⟨h5,m6,h4⟩
theorem z3C {l:List UInt8} {v:UZ} {er:Int} (hr:zbF l none=(v,er)) (he:er=0) (hl:l.length≤300):zfE v∧(zcW v).length≤4000∧v.user.length+v.pass.length≤4000∧v.path.length≤4000:=by
 have hv:(zbF l none).1=v:=by rw [hr]
 have h0:(zbF l none).2=0:=by rw [hr];exact he
 have h1:=zoJ l none (fun u e=>by cases e) h0
 have h2:=zwU h0
 have h3:=zuF l
 rw [hv] at h1 h2 h3
 have:=z1E v.path
 exact ⟨h1,by omega,by omega,by omega⟩
theorem zmL (u:UZ) (s:List UInt8):(lowU u s).host=u.host:=by unfold lowU;split<;>rfl
theorem zzS (u:UZ) (s:List UInt8):(lowU u s).port=u.port:=by unfold lowU;split<;>rfl
theorem z0K (u:UZ) (s:List UInt8):(lowU u s).user=u.user:=by unfold lowU;split<;>rfl
theorem z2T (u:UZ) (s:List UInt8):(lowU u s).pass=u.pass:=by unfold lowU;split<;>rfl
theorem zmB (c d:UInt8):(c==d)=decide (c.toNat=d.toNat):=by
 rw [Bool.eq_iff_iff,beq_iff_eq,decide_eq_true_eq]
 exact ⟨fun h=>by rw [h],fun h=>UInt8.toNat_inj.1 h⟩
theorem resolveMeets_walk (a0 a1:ByteArray) (_w0:a0.size≤maxLen) (_w1:a1.size≤maxLen) (w:World) (hpow:PowTab w) (hbru:BruTab w) (hmax:MaxVar w) (hutf:Lib.Utf8Tabs 0 1 w):
  Calls Tryz.prog 7 #[.string a0,.string a1] w fun e w'=>e= .returned (.bool true)∧Below w.heap.size w w':=by
 obtain ⟨l,rfl⟩: ∃l:List UInt8,a0=⟨l.toArray⟩:=⟨a0.data.toList,by simp⟩
 obtain ⟨s,rfl⟩: ∃l:List UInt8,a1=⟨l.toArray⟩:=⟨a1.data.toList,by simp⟩
 have hzl:=zaB l
 have hz:=zaB s
 have HA:=yqH (aw17 w hpow hbru hmax)
 have HMU:=yqH (fun y (hy:Below w.heap.size w y)=>(⟨zaA hmax hy,zeM hutf hy,zaD hpow hy,zaC hbru hy⟩:MaxVar y∧Lib.Utf8Tabs 0 1 y∧PowTab y∧BruTab y))
 have HAB:=yqH (fun W (hW:MaxVar W)=>z8G l W hW)
 have HME:=yqH (fun v er h1 h2 h3 h4 h5 h6 b h7=>z8K (l:=l) (s:=s) (v:=v) (er:=er) h1 h2 h3 h4 h5 h6 (b:=b) h7)
 have HRF:=yqH (fun v er h1 h2 h3=>z3C (l:=l) (v:=v) (er:=er) h1 h2 h3)
 clear hpow hbru hmax hutf
 generalize zbF l none=rr at*
 obtain ⟨v,er⟩:=rr
 have HME:=yqH (fun h2 h3 h4 h5 h6 b h7=>HME.out v er rfl h2 h3 h4 h5 h6 b h7)
 have HRF:=yqH (fun h2 h3=>HRF.out v er rfl h2 h3)
 obtain ⟨kk,hkk⟩: ∃k,k=(!(er==0)||decide (300<l.length)||decide (300<s.length)||(decide (1<s.length)&&s.take 2==[47,47])):=⟨_,rfl⟩
 have HKF:Hid (kk=false→er=0∧l.length≤300∧s.length≤300∧s.take 2≠[47,47]):=fun h=>by
  rw [h] at hkk
  have hkk:=hkk.symm
  simp only [Bool.or_eq_false_iff,Bool.not_eq_false',beq_iff_eq,decide_eq_false_iff_not,Bool.and_eq_false_iff] at hkk
  refine ⟨hkk.1.1.1,by omega,by omega,fun q=> ?_⟩
  rcases hkk.2 with g|g
  ·have:=congrArg List.length q
   rw [List.length_take] at this
   simp only [List.length_cons,List.length_nil] at this
   omega
  ·rw [q] at g;cases g
 have HKK:=yqH hkk
 clear hkk
 have hsh: ∃hv,v.host.val=hv∧(hv= .nilIface∨ ∃it iv,hv= .iface it iv):=by
  rcases v.host.shape with h|⟨it,iv,h⟩
  ·exact ⟨_,h,.inl rfl⟩
  ·exact ⟨_,h,.inr ⟨it,iv,rfl⟩⟩
 obtain ⟨hv,hvv,hvs⟩:=hsh
 rcases hvs with rfl|⟨it,iv,rfl⟩
 ·have HVV:=yqH hvv
  clear hvv
  go_enter Tryz.func7,Tryz.ntmps7
  go_wp2_with fail
  refine HA.out.mono ?_
  rintro e x1 ⟨rfl,hx1⟩
  go_wp2_with fail
  refine (HAB.out _ (HMU.out x1 hx1).1).mono ?_
  rintro e x2 ⟨pa,rfl,hp2,hb2⟩
  obtain ⟨aa,an,ac,rfl⟩:=hp2.pv.shape
  obtain ⟨y2,hy2⟩: ∃y,y=x2.alloc (.cells (v.cells (.slice aa an ac)) 47):=⟨_,rfl⟩
  have hd2:Below x2.heap.size x2 y2:=by rw [hy2];exact zaY x2 _
  have hU2:UB y2 x2.heap.size v (.slice aa an ac):=by rw [hy2];exact UB.new x2 v _
  have hPA2:=hp2.pv.keep hd2
  have hC2:=zaF (zaF hx1 hb2) hd2
  obtain ⟨ga,hga⟩: ∃g,g=x2.heap.size:=⟨_,rfl⟩
  have hgs:ga<y2.heap.size:=by rw [hga];exact zaM hU2
  rw [←hga] at hU2
  have HU2:=yqH hU2
  have HPA:=yqH hPA2
  have HC2:=yqH hC2
  simp only [UZ.cells] at hy2 ⊢
  rw [HVV.out] at hy2 ⊢
  clear hx1 hb2 hd2 hp2 hU2 hPA2 hC2 HA HAB
  go_upto_region 4 with fail
  rw [←hy2,←hga]
  clear hy2 hga
  go_cut [43] (fun bv wc=>bv= .bool kk∧wc=y2)
  case first=>
   by_cases c1:er=0
   rotate_left
   ·have:kk=true:=by rw [HKK.out];simp [c1]
    subst this
    have hne:(er !=0)=true:=bne_iff_ne.2 c1
    clear HKF HKK HME HRF HU2 HPA HC2 c1
    go_wp2
    go_meet
    exact ⟨rfl,rfl⟩
   subst c1
   by_cases c2:300<l.length
   ·have:kk=true:=by rw [HKK.out];simp [c2]
    subst this
    clear HKF HKK HME HRF HU2 HPA HC2
    go_wp2
    go_meet
    exact ⟨rfl,rfl⟩
   have c2':l.length≤300:=Nat.not_lt.1 c2
   by_cases c3:300<s.length
   ·have:kk=true:=by rw [HKK.out];simp [c3]
    subst this
    clear HKF HKK HME HRF HU2 HPA HC2 c2
    go_wp2
    go_meet
    exact ⟨rfl,rfl⟩
   have c3':s.length≤300:=Nat.not_lt.1 c3
   by_cases c4:1<s.length
   ·have t0: ∀W,(Instr.slice 9 (.string ⟨s.toArray⟩) none (some (.int .i64 2)) none).run Tryz.prog W= .ok (.string ⟨(s.take 2).toArray⟩) W:=zjG s 2 (by omega)
    have hq:kk=(s.take 2==[47,47]):=by rw [HKK.out];simp [c2,c3,c4]
    clear HKF HKK HME HRF HU2 HPA HC2 c2 c3
    generalize hx:s.take 2=s2 at*
    subst hq
    clear hx
    have d2:decide ((300:Int)<(l.length:Int))=false:=yqJ (by omega)
    have d3:decide ((300:Int)<(s.length:Int))=false:=yqJ (by omega)
    go_wp2
    go_meet
    first|exact ⟨rfl,rfl⟩|exact ⟨by rw [d2,d3];rfl,rfl⟩|exact ⟨by simp [d2,d3],rfl⟩
   ·have:kk=false:=by rw [HKK.out];simp [c2,c3,c4]
    subst this
    have c4':s.length≤1:=Nat.not_lt.1 c4
    clear HKF HKK HME HRF HU2 HPA HC2 c2 c3 c4
    have d2:decide ((300:Int)<(l.length:Int))=false:=yqJ (by omega)
    have d3:decide ((300:Int)<(s.length:Int))=false:=yqJ (by omega)
    go_wp2
    go_meet
    first|exact ⟨rfl,rfl⟩|exact ⟨by rw [d2,d3];rfl,rfl⟩|exact ⟨by simp [d2,d3],rfl⟩
  case rest=>
   obtain ⟨rfl,rfl⟩:=hcut
   clear HKK
   cases kk with
   |true=>
    clear HKF HME HRF HU2 HPA
    go_wp2
    go_ret
    exact ⟨rfl,HC2.out⟩
   |false=>
   obtain ⟨k1,k2,k3,k4⟩:=HKF.out rfl
   clear HKF
   subst k1
   have HRG:=yqH (HRF.out (by first|rfl|trivial) k2)
   have HMF:=yqH (fun h5 b h7=>HME.out (by first|rfl|trivial) k2 k3 h5 k4 b h7)
   clear HME HRF
   have HK3:=yqH k3
   clear k2 k4
   go_wp2
   go_loopg [4] s.length (fun gf o wx=> ∃(pos:Nat),o= .bool false∧wx.heap[wc.heap.size]? =some (.stringIter ⟨s.toArray⟩ pos)∧Below wc.heap.size wc wx∧pos≤s.length∧Hid (∀c∈s.take pos,okC c=true)∧s.length≤pos+gf)
   case atStart=>exact ⟨0,rfl,World.iter_heap wc _ 0,(Below.refl _ wc).alloc (yqI _) _,Nat.zero_le _,(fun c h=>by cases h),by omega⟩
   case round=>
    obtain ⟨pos,rfl,hit,hbw,hpl,HS,hgf⟩:=hrel
    by_cases hps:pos<s.length
    ·obtain ⟨g',rfl⟩: ∃g',gk=g'+1:=⟨gk - 1,by omega⟩
     have hps':pos<(ByteArray.mk s.toArray).size:=by rw [hz];exact hps
     have hnx: ∀ty,(Instr.next (.pointer (some ⟨wc.heap.size,0,none⟩)) true ty).run Tryz.prog wr=_:=fun ty=>Lib.run_next_any_at wr wc.heap.size _ pos ty hit hps'
     have hba:(ByteArray.mk s.toArray)[pos]=s[pos]:=rfl
     have htk:s.take (pos+1)=s.take pos++[s[pos]]:=by rw [List.take_add_one,List.getElem?_eq_getElem hps];rfl
     by_cases hlow:(ByteArray.mk s.toArray)[pos].toNat<128
     ·rw [decode_ascii _ pos hps' hlow,hba] at hnx
      rw [hba] at hlow
      have hit2:=Lib.iterAt_heap wr wc.heap.size _ pos (pos+1) hit
      have hbw2:=Lib.below_iterAt hbw (k:=wc.heap.size) (yqI _) ⟨s.toArray⟩ (pos+1)
      simp only at hnx
      generalize wr.iterAt wc.heap.size ⟨s.toArray⟩ (pos+1)=wi at*
      obtain ⟨c,hc⟩: ∃c,s[pos]=c:=⟨_,rfl⟩
      rw [hc] at hnx hlow htk
      have hko:okC c=((decide (97≤c.toNat)&&decide (c.toNat≤122))||(decide (c.toNat=46)||decide (c.toNat=47))):=by
       unfold okC
       rw [show (c==46)=decide (c.toNat=46) from zmB c 46,show (c==47)=decide (c.toNat=47) from zmB c 47,Bool.or_assoc]
      have HS2:Hid (okC c=true→ ∀d∈s.take (pos+1),okC d=true):=fun h d hd=>by
       rw [htk] at hd
       rcases List.mem_append.1 hd with hd|hd
       ·exact HS.out d hd
       ·simp only [List.mem_singleton] at hd
        rw [hd];exact h
      clear hc htk hba hit hbw hps' HS
      generalize okC c=ok at*
      generalize c.toNat=cn at*
      have hcs:(97≤cn∧cn≤122)∨cn=46∨cn=47∨(cn<97∧cn≠46∧cn≠47)∨122<cn:=by omega
      rcases hcs with ⟨g1,g2⟩|rfl|rfl|⟨g1,g2,g3⟩|g1
      ·obtain rfl:ok=true:=by rw [hko];simp [g1,g2]
       have HF:=yqH (HS2.out rfl)
       clear HS2 hko HMF HRG HU2 HPA HMU
       go_wp2
       go_roundg g'
       case measure=>omega
       case rel=>exact ⟨pos+1,rfl,hit2,hbw2,by omega,HF.out,by omega⟩
      ·obtain rfl:ok=true:=by rw [hko];rfl
       have HF:=yqH (HS2.out rfl)
       clear HS2 hko HMF HRG HU2 HPA HMU
       go_wp2
       go_roundg g'
       case measure=>omega
       case rel=>exact ⟨pos+1,rfl,hit2,hbw2,by omega,HF.out,by omega⟩
      ·obtain rfl:ok=true:=by rw [hko];rfl
       have HF:=yqH (HS2.out rfl)
       clear HS2 hko HMF HRG HU2 HPA HMU
       go_wp2
       go_roundg g'
       case measure=>omega
       case rel=>exact ⟨pos+1,rfl,hit2,hbw2,by omega,HF.out,by omega⟩
      ·have HF:=yqH (zaF HC2.out hbw2)
       have n1:((cn:Int) !=46)=true:=bne_iff_ne.2 (by omega)
       have n2:((cn:Int) !=47)=true:=bne_iff_ne.2 (by omega)
       clear HS2 hko HMF HRG HU2 HPA HMU g2 g3
       go_wp2
       go_ret
       exact ⟨rfl,HF.out⟩
      ·have HF:=yqH (zaF HC2.out hbw2)
       have n1:((cn:Int) !=46)=true:=bne_iff_ne.2 (by omega)
       have n2:((cn:Int) !=47)=true:=bne_iff_ne.2 (by omega)
       clear HS2 hko HMF HRG HU2 HPA HMU
       go_wp2
       go_ret
       exact ⟨rfl,HF.out⟩
     ·have hhi:=zoU _ pos hps' hlow
      obtain ⟨R,hR⟩: ∃R,(Utf8.decode ⟨s.toArray⟩ pos).1=R:=⟨_,rfl⟩
      rw [hR] at hhi hnx
      have hbw2:=Lib.below_iterAt hbw (k:=wc.heap.size) (yqI _) ⟨s.toArray⟩ (pos+(Utf8.decode ⟨s.toArray⟩ pos).2)
      generalize wr.iterAt wc.heap.size ⟨s.toArray⟩ (pos+(Utf8.decode ⟨s.toArray⟩ pos).2)=wi at*
      have HF:=yqH (zaF HC2.out hbw2)
      have g0:122<R:=by omega
      have n1:((R:Int) !=46)=true:=bne_iff_ne.2 (by omega)
      have n2:((R:Int) !=47)=true:=bne_iff_ne.2 (by omega)
      clear hR hba hlow HMF HRG HU2 HPA HMU HS htk
      go_wp2
      go_ret
      exact ⟨rfl,HF.out⟩
    ·have hps': ¬pos<(ByteArray.mk s.toArray).size:=by rw [hz];exact hps
     have hnx: ∀ty,(Instr.next (.pointer (some ⟨wc.heap.size,0,none⟩)) true ty).run Tryz.prog wr=_:=fun ty=>Lib.run_next_end_at wr wc.heap.size _ pos ty hit hps'
     have hlp:zdB s:=yaV (by have:=HS.out;rwa [List.take_of_length_le (by omega)] at this)
     have HMG:=yqH (HMF.out hlp)
     obtain ⟨hu,f1,f2,f3⟩:=HRG.out
     have HUX:=yqH (HU2.out.below hbw)
     have HPX:=yqH (HPA.out.keep hbw)
     have HCX:=yqH (zaF HC2.out hbw)
     have HBR:=yqH (fun W pv (hp:PV W pv v.path) (h1:PowTab W) (h2:BruTab W)=>zlG v pv W hp hu.host.inn (by have:=hu.port;omega) (by omega) (by omega) h1 h2)
     have HPR:=yqH (fun W (hm:MaxVar W) (hu:Lib.Utf8Tabs 0 1 W)=>zfF (zcW v) W hm hu)
     have HTX:=yqH (fun W (hm:MaxVar W) (hu:Lib.Utf8Tabs 0 1 W)=>zqY (zcW v) s W hm hu)
     have HPB:=yqH (fun U W pv (hm:MaxVar W) (hub:UB W U v pv) (hp:PV W pv v.path)=>zlS s U v pv W hm (by have:=HK3.out;omega) hu.sch hu.host.ne (by omega) hub hp (zvL s))
     have HV2:=yqH (fun W pv (hp:PV W pv (lowU v s).path) (hl:(zfQ (lowU v s)).length≤4096) (h1:PowTab W) (h2:BruTab W)=>zqN (lowU v s) pv W hp (by rw [zmL];exact hu.host.inn) (by rw [zzS];have:=hu.port;omega) (by omega) (by rw [z0K,z2T];omega) h1 h2)
     clear hu f1 f2 f3 HRG HMF hlp HS hit hbw hps' HU2 HPA HC2 hgf
     have hlt:ga<wr.heap.size:=zaM HUX.out
     obtain ⟨u0,u1,u2,u3,u4,u5,u6,u7,u8,u9,-⟩:=HUX.out.all
     rw [HVV.out] at u3
     have HB1:=yqH (HBR.out wr _ HPX.out (HMU.out wr HCX.out).2.2.1 (HMU.out wr HCX.out).2.2.2)
     simp only [UZ.cells] at HB1
     rw [HVV.out] at HB1
     go_wp2_with fail
     refine HB1.out.mono ?_
     rintro e x4 ⟨rfl,hx4⟩
     have HC4:=yqH (zaF HCX.out hx4)
     have HU4:=yqH (HUX.out.below hx4)
     have HP4:=yqH (HPX.out.keep hx4)
     have HPR:=yqH (HPR.out x4 (HMU.out x4 HC4.out).1 (HMU.out x4 HC4.out).2.1)
     clear u0 u1 u2 u3 u4 u5 u6 u7 u8 u9 HB1 HUX HPX HCX hx4 hlt
     generalize hpx:zaW sixB (zcW v)=px at*
     obtain ⟨b,f⟩:=px
     go_wp2_with fail
     refine HPR.out.mono ?_
     rintro e x5 ⟨rfl,hx5⟩
     obtain ⟨y5,hy5⟩: ∃y,y=x5.alloc (.cells b.cells 24):=⟨_,rfl⟩
     have hby:Below x5.heap.size x5 y5:=by rw [hy5];exact (Below.refl _ _).alloc (yqI _) _
     have HC5:=yqH (zaF (zaF HC4.out hx5) hby)
     have HU5:=yqH ((HU4.out.below hx5).below hby)
     have HP5:=yqH ((HP4.out.keep hx5).keep hby)
     clear HPR HC4 HU4 HP4 hx5 hby
     dsimp only [PZ.cells] at hy5 ⊢
     go_upto_region 12 with fail
     rw [←hy5]
     clear hy5
     by_cases hf:f=0
     rotate_left
     ·have hne:(f !=0)=true:=bne_iff_ne.2 hf
      clear hf HMG HBR HTX HPB HV2 HU5 HP5 hpx HMU
      go_wp2
      go_ret
      exact ⟨rfl,HC5.out⟩
     subst hf
     obtain ⟨m1,m2,m3⟩:=HMG.out b rfl
     rw [m1] at HTX
     rw [m2] at HPB
     have HV2:=yqH (fun W pv hp h1 h2=>HV2.out W pv hp m3 h1 h2)
     have hh2:(lowU v s).host=v.host:=zmL v s
     clear HMG m1 m2 m3 hpx
     have htt:(zfQ (lowU v s)==zfQ (lowU v s))=true:=by simp
     generalize zfQ (lowU v s)=tx at*
     generalize lowU v s=v2 at*
     have HB1:=yqH (HBR.out y5 _ HP5.out (HMU.out y5 HC5.out).2.2.1 (HMU.out y5 HC5.out).2.2.2)
     simp only [UZ.cells] at HB1
     rw [HVV.out] at HB1
     obtain ⟨u0,u1,u2,u3,u4,u5,u6,u7,u8,u9,-⟩:=HU5.out.all
     rw [HVV.out] at u3
     go_upto_region 14 with fail
     go_wp2_with fail
     refine HB1.out.mono ?_
     rintro e x6 ⟨rfl,hx6⟩
     have HC6:=yqH (zaF HC5.out hx6)
     have HU6:=yqH (HU5.out.below hx6)
     have HP6:=yqH (HP5.out.keep hx6)
     have HTX:=yqH (HTX.out x6 (HMU.out x6 HC6.out).1 (HMU.out x6 HC6.out).2.1)
     clear u0 u1 u2 u3 u4 u5 u6 u7 u8 u9 HB1 HU5 HP5 HC5 hx6 HBR
     go_wp2_with fail
     refine HTX.out.mono ?_
     rintro e x7 ⟨rfl,hx7⟩
     have HC7:=yqH (zaF HC6.out hx7)
     have HU7:=yqH (HU6.out.below hx7)
     have HP7:=yqH (HP6.out.keep hx7)
     have HPB:=yqH (HPB.out ga x7 _ (HMU.out x7 HC7.out).1 HU7.out HP7.out)
     clear HTX HU6 HP6 HC6 hx7
     go_wp2_with fail
     refine HPB.out.mono ?_
     rintro e x8 ⟨pb,rfl,hp8,hx8⟩
     obtain ⟨ba,bn,bc,rfl⟩:=hp8.pv.shape
     obtain ⟨y8,hy8⟩: ∃y,y=x8.alloc (.cells (v2.cells (.slice ba bn bc)) 47):=⟨_,rfl⟩
     have hd8:Below x8.heap.size x8 y8:=by rw [hy8];exact zaY x8 _
     have hU8:UB y8 x8.heap.size v2 (.slice ba bn bc):=by rw [hy8];exact UB.new x8 v2 _
     have hP8:=hp8.pv.keep hd8
     have HC8:=yqH (zaF (zaF HC7.out hx8) hd8)
     obtain ⟨gb,hgb⟩: ∃g,g=x8.heap.size:=⟨_,rfl⟩
     rw [←hgb] at hU8
     have HT8:=yqH (HV2.out y8 _ hP8 (HMU.out y8 HC8.out).2.2.1 (HMU.out y8 HC8.out).2.2.2)
     have HU8:=yqH hU8
     have hvv2:v2.host.val= .nilIface:=by rw [hh2];exact HVV.out
     simp only [UZ.cells] at hy8 HT8 ⊢
     rw [hvv2] at hy8 HT8 ⊢
     have HVW:=yqH hvv2
     clear HPB HU7 HP7 HC7 hx8 hd8 hU8 hP8 HV2 HMU hh2 hvv2 hp8
     go_upto_region 16 with fail
     rw [←hy8,←hgb]
     clear hy8 hgb
     obtain ⟨u0,u1,u2,u3,u4,u5,u6,u7,u8,u9,-⟩:=HU8.out.all
     rw [HVW.out] at u3
     go_wp2_with fail
     refine HT8.out.mono ?_
     rintro e x9 ⟨rfl,hx9⟩
     have HC9:=yqH (zaF HC8.out hx9)
     clear u0 u1 u2 u3 u4 u5 u6 u7 u8 u9 HT8 HU8 HC8 hx9
     go_wp2
     go_ret
     exact ⟨rfl,HC9.out⟩
 ·have HVV:=yqH hvv
  clear hvv
  go_enter Tryz.func7,Tryz.ntmps7
  go_wp2_with fail
  refine HA.out.mono ?_
  rintro e x1 ⟨rfl,hx1⟩
  go_wp2_with fail
  refine (HAB.out _ (HMU.out x1 hx1).1).mono ?_
  rintro e x2 ⟨pa,rfl,hp2,hb2⟩
  obtain ⟨aa,an,ac,rfl⟩:=hp2.pv.shape
  obtain ⟨y2,hy2⟩: ∃y,y=x2.alloc (.cells (v.cells (.slice aa an ac)) 47):=⟨_,rfl⟩
  have hd2:Below x2.heap.size x2 y2:=by rw [hy2];exact zaY x2 _
  have hU2:UB y2 x2.heap.size v (.slice aa an ac):=by rw [hy2];exact UB.new x2 v _
  have hPA2:=hp2.pv.keep hd2
  have hC2:=zaF (zaF hx1 hb2) hd2
  obtain ⟨ga,hga⟩: ∃g,g=x2.heap.size:=⟨_,rfl⟩
  have hgs:ga<y2.heap.size:=by rw [hga];exact zaM hU2
  rw [←hga] at hU2
  have HU2:=yqH hU2
  have HPA:=yqH hPA2
  have HC2:=yqH hC2
  simp only [UZ.cells] at hy2 ⊢
  rw [HVV.out] at hy2 ⊢
  clear hx1 hb2 hd2 hp2 hU2 hPA2 hC2 HA HAB
  go_upto_region 4 with fail
  rw [←hy2,←hga]
  clear hy2 hga
  go_cut [43] (fun bv wc=>bv= .bool kk∧wc=y2)
  case first=>
   by_cases c1:er=0
   rotate_left
   ·have:kk=true:=by rw [HKK.out];simp [c1]
    subst this
    have hne:(er !=0)=true:=bne_iff_ne.2 c1
    clear HKF HKK HME HRF HU2 HPA HC2 c1
    go_wp2
    go_meet
    exact ⟨rfl,rfl⟩
   subst c1
   by_cases c2:300<l.length
   ·have:kk=true:=by rw [HKK.out];simp [c2]
    subst this
    clear HKF HKK HME HRF HU2 HPA HC2
    go_wp2
    go_meet
    exact ⟨rfl,rfl⟩
   have c2':l.length≤300:=Nat.not_lt.1 c2
   by_cases c3:300<s.length
   ·have:kk=true:=by rw [HKK.out];simp [c3]
    subst this
    clear HKF HKK HME HRF HU2 HPA HC2 c2
    go_wp2
    go_meet
    exact ⟨rfl,rfl⟩
   have c3':s.length≤300:=Nat.not_lt.1 c3
   by_cases c4:1<s.length
   ·have t0: ∀W,(Instr.slice 9 (.string ⟨s.toArray⟩) none (some (.int .i64 2)) none).run Tryz.prog W= .ok (.string ⟨(s.take 2).toArray⟩) W:=zjG s 2 (by omega)
    have hq:kk=(s.take 2==[47,47]):=by rw [HKK.out];simp [c2,c3,c4]
    clear HKF HKK HME HRF HU2 HPA HC2 c2 c3
    generalize hx:s.take 2=s2 at*
    subst hq
    clear hx
    have d2:decide ((300:Int)<(l.length:Int))=false:=yqJ (by omega)
    have d3:decide ((300:Int)<(s.length:Int))=false:=yqJ (by omega)
    go_wp2
    go_meet
    first|exact ⟨rfl,rfl⟩|exact ⟨by rw [d2,d3];rfl,rfl⟩|exact ⟨by simp [d2,d3],rfl⟩
   ·have:kk=false:=by rw [HKK.out];simp [c2,c3,c4]
    subst this
    have c4':s.length≤1:=Nat.not_lt.1 c4
    clear HKF HKK HME HRF HU2 HPA HC2 c2 c3 c4
    have d2:decide ((300:Int)<(l.length:Int))=false:=yqJ (by omega)
    have d3:decide ((300:Int)<(s.length:Int))=false:=yqJ (by omega)
    go_wp2
    go_meet
    first|exact ⟨rfl,rfl⟩|exact ⟨by rw [d2,d3];rfl,rfl⟩|exact ⟨by simp [d2,d3],rfl⟩
  case rest=>
   obtain ⟨rfl,rfl⟩:=hcut
   clear HKK
   cases kk with
   |true=>
    clear HKF HME HRF HU2 HPA
    go_wp2
    go_ret
    exact ⟨rfl,HC2.out⟩
   |false=>
   obtain ⟨k1,k2,k3,k4⟩:=HKF.out rfl
   clear HKF
   subst k1
   have HRG:=yqH (HRF.out (by first|rfl|trivial) k2)
   have HMF:=yqH (fun h5 b h7=>HME.out (by first|rfl|trivial) k2 k3 h5 k4 b h7)
   clear HME HRF
   have HK3:=yqH k3
   clear k2 k4
   go_wp2
   go_loopg [4] s.length (fun gf o wx=> ∃(pos:Nat),o= .bool false∧wx.heap[wc.heap.size]? =some (.stringIter ⟨s.toArray⟩ pos)∧Below wc.heap.size wc wx∧pos≤s.length∧Hid (∀c∈s.take pos,okC c=true)∧s.length≤pos+gf)
   case atStart=>exact ⟨0,rfl,World.iter_heap wc _ 0,(Below.refl _ wc).alloc (yqI _) _,Nat.zero_le _,(fun c h=>by cases h),by omega⟩
   case round=>
    obtain ⟨pos,rfl,hit,hbw,hpl,HS,hgf⟩:=hrel
    by_cases hps:pos<s.length
    ·obtain ⟨g',rfl⟩: ∃g',gk=g'+1:=⟨gk - 1,by omega⟩
     have hps':pos<(ByteArray.mk s.toArray).size:=by rw [hz];exact hps
     have hnx: ∀ty,(Instr.next (.pointer (some ⟨wc.heap.size,0,none⟩)) true ty).run Tryz.prog wr=_:=fun ty=>Lib.run_next_any_at wr wc.heap.size _ pos ty hit hps'
     have hba:(ByteArray.mk s.toArray)[pos]=s[pos]:=rfl
     have htk:s.take (pos+1)=s.take pos++[s[pos]]:=by rw [List.take_add_one,List.getElem?_eq_getElem hps];rfl
     by_cases hlow:(ByteArray.mk s.toArray)[pos].toNat<128
     ·rw [decode_ascii _ pos hps' hlow,hba] at hnx
      rw [hba] at hlow
      have hit2:=Lib.iterAt_heap wr wc.heap.size _ pos (pos+1) hit
      have hbw2:=Lib.below_iterAt hbw (k:=wc.heap.size) (yqI _) ⟨s.toArray⟩ (pos+1)
      simp only at hnx
      generalize wr.iterAt wc.heap.size ⟨s.toArray⟩ (pos+1)=wi at*
      obtain ⟨c,hc⟩: ∃c,s[pos]=c:=⟨_,rfl⟩
      rw [hc] at hnx hlow htk
      have hko:okC c=((decide (97≤c.toNat)&&decide (c.toNat≤122))||(decide (c.toNat=46)||decide (c.toNat=47))):=by
       unfold okC
       rw [show (c==46)=decide (c.toNat=46) from zmB c 46,show (c==47)=decide (c.toNat=47) from zmB c 47,Bool.or_assoc]
      have HS2:Hid (okC c=true→ ∀d∈s.take (pos+1),okC d=true):=fun h d hd=>by
       rw [htk] at hd
       rcases List.mem_append.1 hd with hd|hd
       ·exact HS.out d hd
       ·simp only [List.mem_singleton] at hd
        rw [hd];exact h
      clear hc htk hba hit hbw hps' HS
      generalize okC c=ok at*
      generalize c.toNat=cn at*
      have hcs:(97≤cn∧cn≤122)∨cn=46∨cn=47∨(cn<97∧cn≠46∧cn≠47)∨122<cn:=by omega
      rcases hcs with ⟨g1,g2⟩|rfl|rfl|⟨g1,g2,g3⟩|g1
      ·obtain rfl:ok=true:=by rw [hko];simp [g1,g2]
       have HF:=yqH (HS2.out rfl)
       clear HS2 hko HMF HRG HU2 HPA HMU
       go_wp2
       go_roundg g'
       case measure=>omega
       case rel=>exact ⟨pos+1,rfl,hit2,hbw2,by omega,HF.out,by omega⟩
      ·obtain rfl:ok=true:=by rw [hko];rfl
       have HF:=yqH (HS2.out rfl)
       clear HS2 hko HMF HRG HU2 HPA HMU
       go_wp2
       go_roundg g'
       case measure=>omega
       case rel=>exact ⟨pos+1,rfl,hit2,hbw2,by omega,HF.out,by omega⟩
      ·obtain rfl:ok=true:=by rw [hko];rfl
       have HF:=yqH (HS2.out rfl)
       clear HS2 hko HMF HRG HU2 HPA HMU
       go_wp2
       go_roundg g'
       case measure=>omega
       case rel=>exact ⟨pos+1,rfl,hit2,hbw2,by omega,HF.out,by omega⟩
      ·have HF:=yqH (zaF HC2.out hbw2)
       have n1:((cn:Int) !=46)=true:=bne_iff_ne.2 (by omega)
       have n2:((cn:Int) !=47)=true:=bne_iff_ne.2 (by omega)
       clear HS2 hko HMF HRG HU2 HPA HMU g2 g3
       go_wp2
       go_ret
       exact ⟨rfl,HF.out⟩
      ·have HF:=yqH (zaF HC2.out hbw2)
       have n1:((cn:Int) !=46)=true:=bne_iff_ne.2 (by omega)
       have n2:((cn:Int) !=47)=true:=bne_iff_ne.2 (by omega)
       clear HS2 hko HMF HRG HU2 HPA HMU
       go_wp2
       go_ret
       exact ⟨rfl,HF.out⟩
     ·have hhi:=zoU _ pos hps' hlow
      obtain ⟨R,hR⟩: ∃R,(Utf8.decode ⟨s.toArray⟩ pos).1=R:=⟨_,rfl⟩
      rw [hR] at hhi hnx
      have hbw2:=Lib.below_iterAt hbw (k:=wc.heap.size) (yqI _) ⟨s.toArray⟩ (pos+(Utf8.decode ⟨s.toArray⟩ pos).2)
      generalize wr.iterAt wc.heap.size ⟨s.toArray⟩ (pos+(Utf8.decode ⟨s.toArray⟩ pos).2)=wi at*
      have HF:=yqH (zaF HC2.out hbw2)
      have g0:122<R:=by omega
      have n1:((R:Int) !=46)=true:=bne_iff_ne.2 (by omega)
      have n2:((R:Int) !=47)=true:=bne_iff_ne.2 (by omega)
      clear hR hba hlow HMF HRG HU2 HPA HMU HS htk
      go_wp2
      go_ret
      exact ⟨rfl,HF.out⟩
    ·have hps': ¬pos<(ByteArray.mk s.toArray).size:=by rw [hz];exact hps
     have hnx: ∀ty,(Instr.next (.pointer (some ⟨wc.heap.size,0,none⟩)) true ty).run Tryz.prog wr=_:=fun ty=>Lib.run_next_end_at wr wc.heap.size _ pos ty hit hps'
     have hlp:zdB s:=yaV (by have:=HS.out;rwa [List.take_of_length_le (by omega)] at this)
     have HMG:=yqH (HMF.out hlp)
     obtain ⟨hu,f1,f2,f3⟩:=HRG.out
     have HUX:=yqH (HU2.out.below hbw)
     have HPX:=yqH (HPA.out.keep hbw)
     have HCX:=yqH (zaF HC2.out hbw)
     have HBR:=yqH (fun W pv (hp:PV W pv v.path) (h1:PowTab W) (h2:BruTab W)=>zlG v pv W hp hu.host.inn (by have:=hu.port;omega) (by omega) (by omega) h1 h2)
     have HPR:=yqH (fun W (hm:MaxVar W) (hu:Lib.Utf8Tabs 0 1 W)=>zfF (zcW v) W hm hu)
     have HTX:=yqH (fun W (hm:MaxVar W) (hu:Lib.Utf8Tabs 0 1 W)=>zqY (zcW v) s W hm hu)
     have HPB:=yqH (fun U W pv (hm:MaxVar W) (hub:UB W U v pv) (hp:PV W pv v.path)=>zlS s U v pv W hm (by have:=HK3.out;omega) hu.sch hu.host.ne (by omega) hub hp (zvL s))
     have HV2:=yqH (fun W pv (hp:PV W pv (lowU v s).path) (hl:(zfQ (lowU v s)).length≤4096) (h1:PowTab W) (h2:BruTab W)=>zqN (lowU v s) pv W hp (by rw [zmL];exact hu.host.inn) (by rw [zzS];have:=hu.port;omega) (by omega) (by rw [z0K,z2T];omega) h1 h2)
     clear hu f1 f2 f3 HRG HMF hlp HS hit hbw hps' HU2 HPA HC2 hgf
     have hlt:ga<wr.heap.size:=zaM HUX.out
     obtain ⟨u0,u1,u2,u3,u4,u5,u6,u7,u8,u9,-⟩:=HUX.out.all
     rw [HVV.out] at u3
     have HB1:=yqH (HBR.out wr _ HPX.out (HMU.out wr HCX.out).2.2.1 (HMU.out wr HCX.out).2.2.2)
     simp only [UZ.cells] at HB1
     rw [HVV.out] at HB1
     go_wp2_with fail
     refine HB1.out.mono ?_
     rintro e x4 ⟨rfl,hx4⟩
     have HC4:=yqH (zaF HCX.out hx4)
     have HU4:=yqH (HUX.out.below hx4)
     have HP4:=yqH (HPX.out.keep hx4)
     have HPR:=yqH (HPR.out x4 (HMU.out x4 HC4.out).1 (HMU.out x4 HC4.out).2.1)
     clear u0 u1 u2 u3 u4 u5 u6 u7 u8 u9 HB1 HUX HPX HCX hx4 hlt
     generalize hpx:zaW sixB (zcW v)=px at*
     obtain ⟨b,f⟩:=px
     go_wp2_with fail
     refine HPR.out.mono ?_
     rintro e x5 ⟨rfl,hx5⟩
     obtain ⟨y5,hy5⟩: ∃y,y=x5.alloc (.cells b.cells 24):=⟨_,rfl⟩
     have hby:Below x5.heap.size x5 y5:=by rw [hy5];exact (Below.refl _ _).alloc (yqI _) _
     have HC5:=yqH (zaF (zaF HC4.out hx5) hby)
     have HU5:=yqH ((HU4.out.below hx5).below hby)
     have HP5:=yqH ((HP4.out.keep hx5).keep hby)
     clear HPR HC4 HU4 HP4 hx5 hby
     dsimp only [PZ.cells] at hy5 ⊢
     go_upto_region 12 with fail
     rw [←hy5]
     clear hy5
     by_cases hf:f=0
     rotate_left
     ·have hne:(f !=0)=true:=bne_iff_ne.2 hf
      clear hf HMG HBR HTX HPB HV2 HU5 HP5 hpx HMU
      go_wp2
      go_ret
      exact ⟨rfl,HC5.out⟩
     subst hf
     obtain ⟨m1,m2,m3⟩:=HMG.out b rfl
     rw [m1] at HTX
     rw [m2] at HPB
     have HV2:=yqH (fun W pv hp h1 h2=>HV2.out W pv hp m3 h1 h2)
     have hh2:(lowU v s).host=v.host:=zmL v s
     clear HMG m1 m2 m3 hpx
     have htt:(zfQ (lowU v s)==zfQ (lowU v s))=true:=by simp
     generalize zfQ (lowU v s)=tx at*
     generalize lowU v s=v2 at*
     have HB1:=yqH (HBR.out y5 _ HP5.out (HMU.out y5 HC5.out).2.2.1 (HMU.out y5 HC5.out).2.2.2)
     simp only [UZ.cells] at HB1
     rw [HVV.out] at HB1
     obtain ⟨u0,u1,u2,u3,u4,u5,u6,u7,u8,u9,-⟩:=HU5.out.all
     rw [HVV.out] at u3
     go_upto_region 14 with fail
     go_wp2_with fail
     refine HB1.out.mono ?_
     rintro e x6 ⟨rfl,hx6⟩
     have HC6:=yqH (zaF HC5.out hx6)
     have HU6:=yqH (HU5.out.below hx6)
     have HP6:=yqH (HP5.out.keep hx6)
     have HTX:=yqH (HTX.out x6 (HMU.out x6 HC6.out).1 (HMU.out x6 HC6.out).2.1)
     clear u0 u1 u2 u3 u4 u5 u6 u7 u8 u9 HB1 HU5 HP5 HC5 hx6 HBR
     go_wp2_with fail
     refine HTX.out.mono ?_
     rintro e x7 ⟨rfl,hx7⟩
     have HC7:=yqH (zaF HC6.out hx7)
     have HU7:=yqH (HU6.out.below hx7)
     have HP7:=yqH (HP6.out.keep hx7)
     have HPB:=yqH (HPB.out ga x7 _ (HMU.out x7 HC7.out).1 HU7.out HP7.out)
     clear HTX HU6 HP6 HC6 hx7
     go_wp2_with fail
     refine HPB.out.mono ?_
     rintro e x8 ⟨pb,rfl,hp8,hx8⟩
     obtain ⟨ba,bn,bc,rfl⟩:=hp8.pv.shape
     obtain ⟨y8,hy8⟩: ∃y,y=x8.alloc (.cells (v2.cells (.slice ba bn bc)) 47):=⟨_,rfl⟩
     have hd8:Below x8.heap.size x8 y8:=by rw [hy8];exact zaY x8 _
     have hU8:UB y8 x8.heap.size v2 (.slice ba bn bc):=by rw [hy8];exact UB.new x8 v2 _
     have hP8:=hp8.pv.keep hd8
     have HC8:=yqH (zaF (zaF HC7.out hx8) hd8)
     obtain ⟨gb,hgb⟩: ∃g,g=x8.heap.size:=⟨_,rfl⟩
     rw [←hgb] at hU8
     have HT8:=yqH (HV2.out y8 _ hP8 (HMU.out y8 HC8.out).2.2.1 (HMU.out y8 HC8.out).2.2.2)
     have HU8:=yqH hU8
     have hvv2:v2.host.val= .iface it iv:=by rw [hh2];exact HVV.out
     simp only [UZ.cells] at hy8 HT8 ⊢
     rw [hvv2] at hy8 HT8 ⊢
     have HVW:=yqH hvv2
     clear HPB HU7 HP7 HC7 hx8 hd8 hU8 hP8 HV2 HMU hh2 hvv2 hp8
     go_upto_region 16 with fail
     rw [←hy8,←hgb]
     clear hy8 hgb
     obtain ⟨u0,u1,u2,u3,u4,u5,u6,u7,u8,u9,-⟩:=HU8.out.all
     rw [HVW.out] at u3
     go_wp2_with fail
     refine HT8.out.mono ?_
     rintro e x9 ⟨rfl,hx9⟩
     have HC9:=yqH (zaF HC8.out hx9)
     clear u0 u1 u2 u3 u4 u5 u6 u7 u8 u9 HT8 HU8 HC8 hx9
     go_wp2
     go_ret
     exact ⟨rfl,HC9.out⟩
end
end Go.Proofs.YtmjappnpedjlnaaGreatDoor
