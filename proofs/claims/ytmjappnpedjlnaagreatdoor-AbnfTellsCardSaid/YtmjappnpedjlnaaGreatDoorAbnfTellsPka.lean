/-
  What the law AbnfTells leans on, and its walk (26 of 27).
-/
import Derived.Deep.RegionHeld3
import Derived.Test.YtmjappnpedjlnaaGreatDoorAbnfTellsPkK
import Derived.Test.YtmjappnpedjlnaaGreatDoorAbnfTellsPkZ
namespace Go.Proofs.YtmjappnpedjlnaaGreatDoor
set_option maxRecDepth 100000
set_option maxHeartbeats 16000000
abbrev zxW := @Lib.hid
section
open Go.RowKit
def zoZ (p:PZ):Bool:=decide ((p.scheme.length:Int)≤500)&&decide ((p.user.length:Int)≤500)&&decide ((p.host.length:Int)≤500)&&decide ((p.port.length:Int)≤500)&&decide ((p.path.length:Int)≤500)&&decide ((p.query.length:Int)≤500)&&decide ((p.frag.length:Int)≤500)
theorem ztF {p:PZ} (h:zoZ p=true):p.Few 500:=by
 unfold zoZ at h
 simp only [Bool.and_eq_true,decide_eq_true_eq] at h
 unfold PZ.Few
 omega
theorem zsM (p:PZ) (w:World) (hp:p.Few maxLen):Calls Tryz.prog 13 #[.agg p.cells] w (zbH w (zoZ p)):=by
 have hb:Below w.heap.size w (w.alloc (.cells p.cells 24)):=(Below.refl _ w).alloc (Nat.le_refl _) _
 obtain ⟨d0,d1,d2,d3,d4,d5,d6,d7,d8,d9,d10,d11,d12⟩:=(PB.new 24 w p).all
 have HB:=zxW hb
 have z0:=zaA p.scheme
 have z2:=zaA p.user
 have z4:=zaA p.host
 have z6:=zaA p.port
 have z8:=zaA p.path
 have z9:=zaA p.query
 have z11:=zaA p.frag
 have HF:Hid (zoZ p=(decide ((p.scheme.length:Int)≤500)&&decide ((p.user.length:Int)≤500)&&decide ((p.host.length:Int)≤500)&&decide ((p.port.length:Int)≤500)&&decide ((p.path.length:Int)≤500)&&decide ((p.query.length:Int)≤500)&&decide ((p.frag.length:Int)≤500))):=rfl
 generalize zoZ p=res at*
 obtain ⟨h1,h2,h3,h4,h5,h6,h7⟩:=hp
 dsimp only [PZ.cells] at HB d0 d2 d4 d6 d8 d9 d11 ⊢
 clear d1 d3 d5 d7 d10 d12 hb
 generalize p.scheme.length=n0 at*
 generalize p.user.length=n2 at*
 generalize p.host.length=n4 at*
 generalize p.port.length=n6 at*
 generalize p.path.length=n8 at*
 generalize p.query.length=n9 at*
 generalize p.frag.length=n11 at*
 have key: ∀n:Nat,decide ((n:Int)≤500)=true∨decide ((n:Int)≤500)=false:=fun n=>by cases decide ((n:Int)≤500)<;>simp
 rcases key n0 with q0|q0
 rcases key n2 with q2|q2
 rcases key n4 with q4|q4
 rcases key n6 with q6|q6
 rcases key n8 with q8|q8
 rcases key n9 with q9|q9
 rcases key n11 with q11|q11
 all_goals
  have HF2:=HF.out
  simp only [*,Bool.and_true,Bool.false_and,Bool.and_false] at HF2
  have HF2:=zxW HF2
  clear HF key
  simp only [decide_eq_true_eq,decide_eq_false_iff_not] at*
  go_enter Tryz.func13,Tryz.ntmps13
  go_wp2
  go_ret
  obtain rfl:=HF2.out
  exact ⟨rfl,HB.out⟩
theorem abnfTells_walk (p:PZ) (a1 a2:ByteArray) (w0:p.Few maxLen) (_w1:a1.size≤maxLen) (_w2:a2.size≤maxLen) (w:World) (hpow:PowTab w) (hbru:BruTab w) (hmax:MaxVar w) (hutf:Lib.Utf8Tabs 0 1 w):
  Calls Tryz.prog 4 #[.agg p.cells,.string a1,.string a2] w fun e w'=>e= .returned (.bool true)∧Below w.heap.size w w':=by
 obtain ⟨s,rfl⟩: ∃l:List UInt8,a1=⟨l.toArray⟩:=⟨a1.data.toList,by simp⟩
 obtain ⟨of,rfl⟩: ∃l:List UInt8,a2=⟨l.toArray⟩:=⟨a2.data.toList,by simp⟩
 have hzs:=zaA s
 have hzo:=zaA of
 have hb0:Below w.heap.size w (w.alloc (.cells p.cells 24)):=(Below.refl _ w).alloc (Nat.le_refl _) _
 have hp0:=PB.new 24 w p
 obtain ⟨x0,hx0⟩: ∃y,y=w.alloc (.cells p.cells 24):=⟨_,rfl⟩
 rw [←hx0] at hb0 hp0
 have HA:=zxW (aw15 x0 (zaE hpow hb0) (zaD hbru hb0) (zaC hmax hb0))
 have HMU:=zxW (fun y (hy:Below w.heap.size w y)=>(And.intro (zaC hmax hy) (zdI hutf hy):MaxVar y∧Lib.Utf8Tabs 0 1 y))
 have HFA:=zxW (fun W=>zsM p W w0)
 have hfa:=zxW (fun h=>ztF (p:=p) h)
 have H0:=zxW hb0
 have P0:=zxW hp0
 clear hpow hbru hmax hutf w0 hb0 hp0
 generalize zoZ p=ka at*
 dsimp only [PZ.cells] at hx0 HFA ⊢
 go_enter Tryz.func4,Tryz.ntmps4
 go_wp2_with fail
 rw [←hx0]
 clear hx0
 refine HA.out.mono ?_
 rintro e x1 ⟨rfl,hx1⟩
 have P1:=zxW (P0.out.below hx1)
 have C1:=zxW (zaV H0.out hx1)
 clear HA H0 P0 hx1
 obtain ⟨a0,a1,a2,a3,a4,a5,a6,a7,a8,a9,a10,a11,a12⟩:=P1.out.all
 go_wp2_with fail
 refine (HFA.out _).mono ?_
 rintro e x2 ⟨rfl,hx2⟩
 have P2:=zxW (P1.out.below hx2)
 have C2:=zxW (zaV C1.out hx2)
 clear a0 a1 a2 a3 a4 a5 a6 a7 a8 a9 a10 a11 a12 HFA P1 C1 hx2
 by_cases ha:ka=false
 ·subst ha
  clear P2 hfa HMU
  go_wp2
  go_ret
  exact ⟨rfl,C2.out⟩
 obtain rfl:ka=true:=by cases ka;exact absurd rfl ha;rfl
 clear ha
 by_cases hl1:500<s.length
 ·clear P2 hfa HMU
  go_wp2
  go_ret
  exact ⟨rfl,C2.out⟩
 have hl1:s.length≤500:=Nat.not_lt.1 hl1
 by_cases hl2:20<of.length
 ·clear P2 hfa HMU
  go_wp2
  go_ret
  exact ⟨rfl,C2.out⟩
 have hl2:of.length≤20:=Nat.not_lt.1 hl2
 have fa:=hfa.out (by first|rfl|trivial)
 have HM2:Hid (∀W,Below x2.heap.size x2 W→MaxVar W∧Lib.Utf8Tabs 0 1 W):=fun W hW=>HMU.out W (zaV C2.out hW)
 have HTX:Hid (∀W,Below x2.heap.size x2 W→Calls Tryz.prog 14 #[.agg #[.string ⟨p.scheme.toArray⟩,.bool p.hasS,.string ⟨p.user.toArray⟩,.bool p.hasU,.string ⟨p.host.toArray⟩,.bool p.hasA,.string ⟨p.port.toArray⟩,.bool p.hasP,.string ⟨p.path.toArray⟩,.string ⟨p.query.toArray⟩,.bool p.hasQ,.string ⟨p.frag.toArray⟩,.bool p.hasF]] W fun e w'=>e= .returned (.string ⟨(zbL p).toArray⟩)∧Below x2.heap.size x2 w'):=fun W hW=>(ziY p W (fa.mono (by omega))).mono (fun e w' h=>⟨h.1,zaV hW h.2⟩)
 have HTR:Hid (∀W,Below x2.heap.size x2 W→Calls Tryz.prog 15 #[.agg #[.string ⟨p.scheme.toArray⟩,.bool p.hasS,.string ⟨p.user.toArray⟩,.bool p.hasU,.string ⟨p.host.toArray⟩,.bool p.hasA,.string ⟨p.port.toArray⟩,.bool p.hasP,.string ⟨p.path.toArray⟩,.string ⟨p.query.toArray⟩,.bool p.hasQ,.string ⟨p.frag.toArray⟩,.bool p.hasF]] W fun e w'=>e= .returned (.string ⟨(zbL p).toArray⟩)∧Below x2.heap.size x2 w'):=fun W hW=>(zfL p W (fa.mono (by omega))).mono (fun e w' h=>⟨h.1,zaV hW h.2⟩)
 have HRX:Hid (∀W,Below x2.heap.size x2 W→Calls Tryz.prog 16 #[.agg #[.string ⟨p.scheme.toArray⟩,.bool p.hasS,.string ⟨p.user.toArray⟩,.bool p.hasU,.string ⟨p.host.toArray⟩,.bool p.hasA,.string ⟨p.port.toArray⟩,.bool p.hasP,.string ⟨p.path.toArray⟩,.string ⟨p.query.toArray⟩,.bool p.hasQ,.string ⟨p.frag.toArray⟩,.bool p.hasF]] W fun e w'=>e= .returned (.bool (zeK sixB p))∧Below x2.heap.size x2 w'):=fun W hW=>(zmI p W (fa.mono (by omega)) (HM2.out W hW).1 (HM2.out W hW).2).mono (fun e w' h=>⟨h.1,zaV hW h.2⟩)
 have HRR:Hid (∀W,Below x2.heap.size x2 W→Calls Tryz.prog 17 #[.agg #[.string ⟨p.scheme.toArray⟩,.bool p.hasS,.string ⟨p.user.toArray⟩,.bool p.hasU,.string ⟨p.host.toArray⟩,.bool p.hasA,.string ⟨p.port.toArray⟩,.bool p.hasP,.string ⟨p.path.toArray⟩,.string ⟨p.query.toArray⟩,.bool p.hasQ,.string ⟨p.frag.toArray⟩,.bool p.hasF]] W fun e w'=>e= .returned (.bool (zeK sixB p))∧Below x2.heap.size x2 w'):=fun W hW=>(zhY p W (fa.mono (by omega))).mono (fun e w' h=>⟨h.1,zaV hW h.2⟩)
 have HIX:Hid (∀W,Below x2.heap.size x2 W→Calls Tryz.prog 18 #[.string ⟨s.toArray⟩,.string ⟨of.toArray⟩] W fun e w'=>e= .returned (.bool (isA of s))∧Below x2.heap.size x2 w'):=fun W hW=>(zeQ s of W (by omega) (HM2.out W hW).2).mono (fun e w' h=>⟨h.1,zaV hW h.2⟩)
 have HIR:Hid (∀W,Below x2.heap.size x2 W→Calls Tryz.prog 19 #[.string ⟨s.toArray⟩,.string ⟨of.toArray⟩] W fun e w'=>e= .returned (.bool (isA of s))∧Below x2.heap.size x2 w'):=fun W hW=>(zcA s of W (by omega) (by omega)).mono (fun e w' h=>⟨h.1,h.2▸hW⟩)
 have h1:(zbL p==zbL p)=true:=by simp
 have h2:(zeK sixB p==zeK sixB p)=true:=by simp
 have h3:(isA of s==isA of s)=true:=by simp
 have HKK:Hid (∀W,Below x2.heap.size x2 W→W.cell? ⟨w.heap.size,0,none⟩=some (.string ⟨p.scheme.toArray⟩)∧W.cell? ⟨w.heap.size,1,none⟩=some (.bool p.hasS)∧W.cell? ⟨w.heap.size,2,none⟩=some (.string ⟨p.user.toArray⟩)∧W.cell? ⟨w.heap.size,3,none⟩=some (.bool p.hasU)∧W.cell? ⟨w.heap.size,4,none⟩=some (.string ⟨p.host.toArray⟩)∧W.cell? ⟨w.heap.size,5,none⟩=some (.bool p.hasA)∧W.cell? ⟨w.heap.size,6,none⟩=some (.string ⟨p.port.toArray⟩)∧W.cell? ⟨w.heap.size,7,none⟩=some (.bool p.hasP)∧W.cell? ⟨w.heap.size,8,none⟩=some (.string ⟨p.path.toArray⟩)∧W.cell? ⟨w.heap.size,9,none⟩=some (.string ⟨p.query.toArray⟩)∧W.cell? ⟨w.heap.size,10,none⟩=some (.bool p.hasQ)∧W.cell? ⟨w.heap.size,11,none⟩=some (.string ⟨p.frag.toArray⟩)∧W.cell? ⟨w.heap.size,12,none⟩=some (.bool p.hasF)):=fun W hb=>by
  obtain ⟨a0,a1,a2,a3,a4,a5,a6,a7,a8,a9,a10,a11,a12⟩:=(P2.out.below hb).all
  exact ⟨a0,a1,a2,a3,a4,a5,a6,a7,a8,a9,a10,a11,a12⟩
 clear hfa fa HMU HM2 P2
 generalize zbL p=tx at*
 generalize zeK sixB p=rb at*
 generalize isA of s=ib at*
 go_wp2_with fail
 go_region_held3 (fun W=>W.cell? ⟨w.heap.size,0,none⟩=some (.string ⟨p.scheme.toArray⟩)∧W.cell? ⟨w.heap.size,1,none⟩=some (.bool p.hasS)∧W.cell? ⟨w.heap.size,2,none⟩=some (.string ⟨p.user.toArray⟩)∧W.cell? ⟨w.heap.size,3,none⟩=some (.bool p.hasU)∧W.cell? ⟨w.heap.size,4,none⟩=some (.string ⟨p.host.toArray⟩)∧W.cell? ⟨w.heap.size,5,none⟩=some (.bool p.hasA)∧W.cell? ⟨w.heap.size,6,none⟩=some (.string ⟨p.port.toArray⟩)∧W.cell? ⟨w.heap.size,7,none⟩=some (.bool p.hasP)∧W.cell? ⟨w.heap.size,8,none⟩=some (.string ⟨p.path.toArray⟩)∧W.cell? ⟨w.heap.size,9,none⟩=some (.string ⟨p.query.toArray⟩)∧W.cell? ⟨w.heap.size,10,none⟩=some (.bool p.hasQ)∧W.cell? ⟨w.heap.size,11,none⟩=some (.string ⟨p.frag.toArray⟩)∧W.cell? ⟨w.heap.size,12,none⟩=some (.bool p.hasF))
  (first|exact HKK.out _ (zaR _)|exact HKK.out _ hb5)
  (first
   |(go_simp;go_at_call 14;((with_reducible refine (HTX.out _ hb5).mono ?_);rintro e x5 ⟨rfl,hb5⟩))
   |(go_simp;go_at_call 14;((with_reducible refine (HTX.out _ (zaR _)).mono ?_);rintro e x5 ⟨rfl,hb5⟩))
   |(go_simp;go_at_call 15;((with_reducible refine (HTR.out _ hb5).mono ?_);rintro e x5 ⟨rfl,hb5⟩))
   |(go_simp;go_at_call 15;((with_reducible refine (HTR.out _ (zaR _)).mono ?_);rintro e x5 ⟨rfl,hb5⟩))
   |(go_simp;go_at_call 16;((with_reducible refine (HRX.out _ hb5).mono ?_);rintro e x5 ⟨rfl,hb5⟩))
   |(go_simp;go_at_call 16;((with_reducible refine (HRX.out _ (zaR _)).mono ?_);rintro e x5 ⟨rfl,hb5⟩))
   |(go_simp;go_at_call 17;((with_reducible refine (HRR.out _ hb5).mono ?_);rintro e x5 ⟨rfl,hb5⟩))
   |(go_simp;go_at_call 17;((with_reducible refine (HRR.out _ (zaR _)).mono ?_);rintro e x5 ⟨rfl,hb5⟩))
   |(go_simp;go_at_call 18;((with_reducible refine (HIX.out _ hb5).mono ?_);rintro e x5 ⟨rfl,hb5⟩))
   |(go_simp;go_at_call 18;((with_reducible refine (HIX.out _ (zaR _)).mono ?_);rintro e x5 ⟨rfl,hb5⟩))
   |(go_simp;go_at_call 19;((with_reducible refine (HIR.out _ hb5).mono ?_);rintro e x5 ⟨rfl,hb5⟩))
   |(go_simp;go_at_call 19;((with_reducible refine (HIR.out _ (zaR _)).mono ?_);rintro e x5 ⟨rfl,hb5⟩)))
 all_goals
  have HF:=zxW (zaV C2.out hb5)
  clear hb5 HKK HTX HTR HRX HRR HIX HIR
  go_wp2
  go_ret
  exact ⟨rfl,HF.out⟩
end
end Go.Proofs.YtmjappnpedjlnaaGreatDoor
