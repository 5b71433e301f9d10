/-
  What the law ResolveParts leans on, and its walk (41 of 42).
-/
import Derived.Deep.RegionHeld3
import Derived.Test.YtmjappnpedjlnaaGreatDoorResolvePartsPkK
import Derived.Test.YtmjappnpedjlnaaGreatDoorResolvePartsPkm
import Derived.Test.YtmjappnpedjlnaaGreatDoorResolvePartsPko
import Derived.Test.YtmjappnpedjlnaaGreatDoorResolvePartsPkn
namespace Go.Proofs.YtmjappnpedjlnaaGreatDoor
set_option maxRecDepth 100000
set_option maxHeartbeats 16000000
abbrev zlX := @Lib.hid
section
open Go.RowKit
def zeR (p:PZ):Bool:=decide ((p.scheme.length:Int)≤300)&&decide ((p.user.length:Int)≤300)&&decide ((p.host.length:Int)≤300)&&decide ((p.port.length:Int)≤300)&&decide ((p.path.length:Int)≤300)&&decide ((p.query.length:Int)≤300)&&decide ((p.frag.length:Int)≤300)
theorem zfJ {p:PZ} (h:zeR p=true):p.Few 300:=by
 unfold zeR at h
 simp only [Bool.and_eq_true,decide_eq_true_eq] at h
 unfold PZ.Few
 omega
theorem zdQ (p:PZ) (w:World) (hp:p.Few maxLen):Calls Tryz.prog 21 #[.agg p.cells] w (zlA w (zeR p)):=by
 have hb:Below w.heap.size w (w.alloc (.cells p.cells 24)):=(Below.refl _ w).alloc (Nat.le_refl _) _
 obtain ⟨d0,d1,d2,d3,d4,d5,d6,d7,d8,d9,d10,d11,d12⟩:=(PB.new 24 w p).all
 have HB:=zlX hb
 have z0:=zaF p.scheme
 have z2:=zaF p.user
 have z4:=zaF p.host
 have z6:=zaF p.port
 have z8:=zaF p.path
 have z9:=zaF p.query
 have z11:=zaF p.frag
 have HF:Hid (zeR p=(decide ((p.scheme.length:Int)≤300)&&decide ((p.user.length:Int)≤300)&&decide ((p.host.length:Int)≤300)&&decide ((p.port.length:Int)≤300)&&decide ((p.path.length:Int)≤300)&&decide ((p.query.length:Int)≤300)&&decide ((p.frag.length:Int)≤300))):=rfl
 generalize zeR p=res at*
 obtain ⟨h1,h2,h3,h4,h5,h6,h7⟩:=hp
 dsimp only [PZ.cells] at HB d0 d2 d4 d6 d8 d9 d11 ⊢
 clear d1 d3 d5 d7 d10 d12 hb
 generalize p.scheme.length=n0 at*
 generalize p.user.length=n2 at*
 generalize p.host.length=n4 at*
 generalize p.port.length=n6 at*
 generalize p.path.length=n8 at*
 generalize p.query.length=n9 at*
 generalize p.frag.length=n11 at*
 have key: ∀n:Nat,decide ((n:Int)≤300)=true∨decide ((n:Int)≤300)=false:=fun n=>by cases decide ((n:Int)≤300)<;>simp
 rcases key n0 with q0|q0
 rcases key n2 with q2|q2
 rcases key n4 with q4|q4
 rcases key n6 with q6|q6
 rcases key n8 with q8|q8
 rcases key n9 with q9|q9
 rcases key n11 with q11|q11
 all_goals
  have HF2:=HF.out
  simp only [*,Bool.and_true,Bool.false_and,Bool.and_false] at HF2
  have HF2:=zlX HF2
  clear HF key
  simp only [decide_eq_true_eq,decide_eq_false_iff_not] at*
  go_enter Tryz.func21,Tryz.ntmps21
  go_wp2
  go_ret
  obtain rfl:=HF2.out
  exact ⟨rfl,HB.out⟩
theorem zjP {t:TypeId} {x:World} {A B:Nat} {a b:PZ} (h1:PB t x A a) (h2:PB t x B b): ∀W,Below x.heap.size x W→W.cell? ⟨A,0,none⟩=some (.string ⟨a.scheme.toArray⟩)∧W.cell? ⟨A,1,none⟩=some (.bool a.hasS)∧W.cell? ⟨A,2,none⟩=some (.string ⟨a.user.toArray⟩)∧W.cell? ⟨A,3,none⟩=some (.bool a.hasU)∧W.cell? ⟨A,4,none⟩=some (.string ⟨a.host.toArray⟩)∧W.cell? ⟨A,5,none⟩=some (.bool a.hasA)∧W.cell? ⟨A,6,none⟩=some (.string ⟨a.port.toArray⟩)∧W.cell? ⟨A,7,none⟩=some (.bool a.hasP)∧W.cell? ⟨A,8,none⟩=some (.string ⟨a.path.toArray⟩)∧W.cell? ⟨A,9,none⟩=some (.string ⟨a.query.toArray⟩)∧W.cell? ⟨A,10,none⟩=some (.bool a.hasQ)∧W.cell? ⟨A,11,none⟩=some (.string ⟨a.frag.toArray⟩)∧W.cell? ⟨A,12,none⟩=some (.bool a.hasF)∧W.cell? ⟨B,0,none⟩=some (.string ⟨b.scheme.toArray⟩)∧W.cell? ⟨B,1,none⟩=some (.bool b.hasS)∧W.cell? ⟨B,2,none⟩=some (.string ⟨b.user.toArray⟩)∧W.cell? ⟨B,3,none⟩=some (.bool b.hasU)∧W.cell? ⟨B,4,none⟩=some (.string ⟨b.host.toArray⟩)∧W.cell? ⟨B,5,none⟩=some (.bool b.hasA)∧W.cell? ⟨B,6,none⟩=some (.string ⟨b.port.toArray⟩)∧W.cell? ⟨B,7,none⟩=some (.bool b.hasP)∧W.cell? ⟨B,8,none⟩=some (.string ⟨b.path.toArray⟩)∧W.cell? ⟨B,9,none⟩=some (.string ⟨b.query.toArray⟩)∧W.cell? ⟨B,10,none⟩=some (.bool b.hasQ)∧W.cell? ⟨B,11,none⟩=some (.string ⟨b.frag.toArray⟩)∧W.cell? ⟨B,12,none⟩=some (.bool b.hasF):=fun W hb=>by
 obtain ⟨a0,a1,a2,a3,a4,a5,a6,a7,a8,a9,a10,a11,a12⟩:=(h1.below hb).all
 obtain ⟨b0,b1,b2,b3,b4,b5,b6,b7,b8,b9,b10,b11,b12⟩:=(h2.below hb).all
 exact ⟨a0,a1,a2,a3,a4,a5,a6,a7,a8,a9,a10,a11,a12,b0,b1,b2,b3,b4,b5,b6,b7,b8,b9,b10,b11,b12⟩
theorem resolveParts_walk (a b:PZ) (w0:a.Few maxLen) (w1:b.Few maxLen) (w:World) (hpow:PowTab w) (hbru:BruTab w) (hmax:MaxVar w):
  Calls Tryz.prog 5 #[.agg a.cells,.agg b.cells] w fun e w'=>e= .returned (.bool true)∧Below w.heap.size w w':=by
 obtain ⟨h1,h2,h3,h4⟩:=zbX 24 w a b
 obtain ⟨x0,hx0⟩: ∃y,y=(w.alloc (.cells a.cells 24)).alloc (.cells b.cells 24):=⟨_,rfl⟩
 rw [←hx0] at h1 h2 h3 h4
 have HA:=zlX (aw17 x0 (zaC hpow h3) (zaA hbru h3) (zaB hmax h3))
 have HFA:=zlX (fun W=>zdQ a W w0)
 have HFB:=zlX (fun W=>zdQ b W w1)
 have hfa:=zlX (fun h=>zfJ (p:=a) h)
 have hfb:=zlX (fun h=>zfJ (p:=b) h)
 have H3:=zlX h3
 have H1:=zlX h1
 have H2:=zlX h2
 clear hpow hbru hmax w0 w1 h1 h2 h3 h4
 generalize zeR a=ka at*
 generalize zeR b=kb at*
 dsimp only [PZ.cells] at hx0 HFA HFB ⊢
 go_enter Tryz.func5,Tryz.ntmps5
 go_wp2_with fail
 rw [←hx0]
 clear hx0
 refine HA.out.mono ?_
 rintro e x1 ⟨rfl,hx1⟩
 have P1:=zlX (H1.out.below hx1)
 have P2:=zlX (H2.out.below hx1)
 have C1:=zlX (zaS H3.out hx1)
 clear HA H1 H2 H3 hx1
 obtain ⟨a0,a1,a2,a3,a4,a5,a6,a7,a8,a9,a10,a11,a12⟩:=P1.out.all
 go_wp2_with fail
 refine (HFA.out _).mono ?_
 rintro e x2 ⟨rfl,hx2⟩
 have P1b:=zlX (P1.out.below hx2)
 have P2b:=zlX (P2.out.below hx2)
 have C2:=zlX (zaS C1.out hx2)
 clear a0 a1 a2 a3 a4 a5 a6 a7 a8 a9 a10 a11 a12 HFA P1 P2 C1 hx2
 by_cases ha:ka=false
 ·subst ha
  clear P1b P2b HFB hfa hfb
  go_wp2
  go_ret
  exact ⟨rfl,C2.out⟩
 obtain rfl:ka=true:=by cases ka;exact absurd rfl ha;rfl
 clear ha
 obtain ⟨a0,a1,a2,a3,a4,a5,a6,a7,a8,a9,a10,a11,a12⟩:=P2b.out.all
 go_wp2_with fail
 refine (HFB.out _).mono ?_
 rintro e x3 ⟨rfl,hx3⟩
 have P1c:=zlX (P1b.out.below hx3)
 have P2c:=zlX (P2b.out.below hx3)
 have C3:=zlX (zaS C2.out hx3)
 clear a0 a1 a2 a3 a4 a5 a6 a7 a8 a9 a10 a11 a12 HFB P1b P2b C2 hx3
 by_cases hb:kb=false
 ·subst hb
  clear P1c P2c hfa hfb
  go_wp2
  go_ret
  exact ⟨rfl,C3.out⟩
 obtain rfl:kb=true:=by cases kb;exact absurd rfl hb;rfl
 clear hb
 have fa:=hfa.out (by first|rfl|trivial)
 have fb:=hfb.out (by first|rfl|trivial)
 have hrf:=zeV fa fb
 have HEQ: ∀W:World,(binOp .eql 28 (.agg (zaT a b).cells) (.agg (zaT a b).cells)).run Tryz.prog W= .ok (.bool true) W:=fun W=>by
  rw [eqR _ _ (hrf.mono (by omega)) (hrf.mono (by omega)) W]
  simp
 have HG:=zjQ (zaT a b).cells (zaT a b).cells
 have HPP:Hid (∀W,Below x3.heap.size x3 W→Calls Tryz.prog 22 #[.agg #[.string ⟨a.scheme.toArray⟩,.bool a.hasS,.string ⟨a.user.toArray⟩,.bool a.hasU,.string ⟨a.host.toArray⟩,.bool a.hasA,.string ⟨a.port.toArray⟩,.bool a.hasP,.string ⟨a.path.toArray⟩,.string ⟨a.query.toArray⟩,.bool a.hasQ,.string ⟨a.frag.toArray⟩,.bool a.hasF],.agg #[.string ⟨b.scheme.toArray⟩,.bool b.hasS,.string ⟨b.user.toArray⟩,.bool b.hasU,.string ⟨b.host.toArray⟩,.bool b.hasA,.string ⟨b.port.toArray⟩,.bool b.hasP,.string ⟨b.path.toArray⟩,.string ⟨b.query.toArray⟩,.bool b.hasQ,.string ⟨b.frag.toArray⟩,.bool b.hasF]] W fun e w'=>e= .returned (.agg (zaT a b).cells)∧Below x3.heap.size x3 w'):=fun W hW=>(zeM a b W (fa.mono (by omega)) (fb.mono (by omega))).mono (fun e w' h=>⟨h.1,zaS hW h.2⟩)
 have HRR:Hid (∀W,Below x3.heap.size x3 W→Calls Tryz.prog 23 #[.agg #[.string ⟨a.scheme.toArray⟩,.bool a.hasS,.string ⟨a.user.toArray⟩,.bool a.hasU,.string ⟨a.host.toArray⟩,.bool a.hasA,.string ⟨a.port.toArray⟩,.bool a.hasP,.string ⟨a.path.toArray⟩,.string ⟨a.query.toArray⟩,.bool a.hasQ,.string ⟨a.frag.toArray⟩,.bool a.hasF],.agg #[.string ⟨b.scheme.toArray⟩,.bool b.hasS,.string ⟨b.user.toArray⟩,.bool b.hasU,.string ⟨b.host.toArray⟩,.bool b.hasA,.string ⟨b.port.toArray⟩,.bool b.hasP,.string ⟨b.path.toArray⟩,.string ⟨b.query.toArray⟩,.bool b.hasQ,.string ⟨b.frag.toArray⟩,.bool b.hasF]] W fun e w'=>e= .returned (.agg (zaT a b).cells)∧Below x3.heap.size x3 w'):=fun W hW=>(zcU a b W (fa.mono (by omega)) (fb.mono (by omega))).mono (fun e w' h=>⟨h.1,zaS hW h.2⟩)
 have HKK:=zlX (zjP P1c.out P2c.out)
 clear hfa hfb fa fb hrf P1c P2c
 generalize zaT a b=q at*
 dsimp only [PZ.cells] at HEQ HG HPP HRR
 go_wp2_with fail
 go_region_held3 (fun W=>W.cell? ⟨w.heap.size,0,none⟩=some (.string ⟨a.scheme.toArray⟩)∧W.cell? ⟨w.heap.size,1,none⟩=some (.bool a.hasS)∧W.cell? ⟨w.heap.size,2,none⟩=some (.string ⟨a.user.toArray⟩)∧W.cell? ⟨w.heap.size,3,none⟩=some (.bool a.hasU)∧W.cell? ⟨w.heap.size,4,none⟩=some (.string ⟨a.host.toArray⟩)∧W.cell? ⟨w.heap.size,5,none⟩=some (.bool a.hasA)∧W.cell? ⟨w.heap.size,6,none⟩=some (.string ⟨a.port.toArray⟩)∧W.cell? ⟨w.heap.size,7,none⟩=some (.bool a.hasP)∧W.cell? ⟨w.heap.size,8,none⟩=some (.string ⟨a.path.toArray⟩)∧W.cell? ⟨w.heap.size,9,none⟩=some (.string ⟨a.query.toArray⟩)∧W.cell? ⟨w.heap.size,10,none⟩=some (.bool a.hasQ)∧W.cell? ⟨w.heap.size,11,none⟩=some (.string ⟨a.frag.toArray⟩)∧W.cell? ⟨w.heap.size,12,none⟩=some (.bool a.hasF)∧W.cell? ⟨w.heap.size+1,0,none⟩=some (.string ⟨b.scheme.toArray⟩)∧W.cell? ⟨w.heap.size+1,1,none⟩=some (.bool b.hasS)∧W.cell? ⟨w.heap.size+1,2,none⟩=some (.string ⟨b.user.toArray⟩)∧W.cell? ⟨w.heap.size+1,3,none⟩=some (.bool b.hasU)∧W.cell? ⟨w.heap.size+1,4,none⟩=some (.string ⟨b.host.toArray⟩)∧W.cell? ⟨w.heap.size+1,5,none⟩=some (.bool b.hasA)∧W.cell? ⟨w.heap.size+1,6,none⟩=some (.string ⟨b.port.toArray⟩)∧W.cell? ⟨w.heap.size+1,7,none⟩=some (.bool b.hasP)∧W.cell? ⟨w.heap.size+1,8,none⟩=some (.string ⟨b.path.toArray⟩)∧W.cell? ⟨w.heap.size+1,9,none⟩=some (.string ⟨b.query.toArray⟩)∧W.cell? ⟨w.heap.size+1,10,none⟩=some (.bool b.hasQ)∧W.cell? ⟨w.heap.size+1,11,none⟩=some (.string ⟨b.frag.toArray⟩)∧W.cell? ⟨w.heap.size+1,12,none⟩=some (.bool b.hasF))
  (first|exact HKK.out _ (zaH _)|exact HKK.out _ hb6|exact HKK.out _ hb5)
  (first
   |(go_simp;go_at_call 22;((with_reducible refine (HPP.out _ hb5).mono ?_);rintro e x6 ⟨rfl,hb6⟩))
   |(go_simp;go_at_call 22;((with_reducible refine (HPP.out _ (zaH _)).mono ?_);rintro e x5 ⟨rfl,hb5⟩))
   |(go_simp;go_at_call 23;((with_reducible refine (HRR.out _ hb5).mono ?_);rintro e x6 ⟨rfl,hb6⟩))
   |(go_simp;go_at_call 23;((with_reducible refine (HRR.out _ (zaH _)).mono ?_);rintro e x5 ⟨rfl,hb5⟩)))
 all_goals
  have HF:=zlX (zaS C3.out hb6)
  clear hb5 hb6 HKK HPP HRR
  go_wp2
  go_ret
  exact ⟨rfl,HF.out⟩
end
end Go.Proofs.YtmjappnpedjlnaaGreatDoor
