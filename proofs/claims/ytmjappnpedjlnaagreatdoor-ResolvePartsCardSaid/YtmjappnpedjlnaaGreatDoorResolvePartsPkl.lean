/-
  What the law ResolveParts leans on, and its walk (37 of 42).
-/
import Derived.Test.YtmjappnpedjlnaaGreatDoorResolvePartsPka
import Derived.Test.YtmjappnpedjlnaaGreatDoorResolvePartsPkZ
import Derived.Test.YtmjappnpedjlnaaGreatDoorResolvePartsPkg
import Derived.Test.YtmjappnpedjlnaaGreatDoorResolvePartsPkk
namespace Go.Proofs.YtmjappnpedjlnaaGreatDoor
set_option maxRecDepth 100000
set_option maxHeartbeats 16000000
section
open Go.RowKit
theorem zbX (t:TypeId) (w:World) (b r:PZ):PB t ((w.alloc (.cells b.cells t)).alloc (.cells r.cells t)) w.heap.size b∧PB t ((w.alloc (.cells b.cells t)).alloc (.cells r.cells t)) (w.heap.size+1) r∧Below w.heap.size w ((w.alloc (.cells b.cells t)).alloc (.cells r.cells t))∧w.heap.size+2=((w.alloc (.cells b.cells t)).alloc (.cells r.cells t)).heap.size:=by
 have s0:(w.alloc (.cells b.cells t)).heap.size=w.heap.size+1:=by simp
 have h1:=PB.new t (w.alloc (.cells b.cells t)) r
 rw [s0] at h1
 exact ⟨(PB.new t w b).below ((Below.refl _ _).alloc (Nat.le_refl _) _),h1,((Below.refl _ w).alloc (Nat.le_refl _) _).alloc (by simp) _,by simp⟩
theorem zjW (l:List UInt8):(Lib.hasPrefix l [47]=true∧l.head? =some 47)∨(Lib.hasPrefix l [47]=false∧l.head? ≠some 47):=by
 cases l with
 |nil=>exact .inr ⟨rfl,by simp⟩
 |cons c l=>
  by_cases h:c=47
  ·subst h;exact .inl ⟨rfl,rfl⟩
  ·refine .inr ⟨?_,by simp [h]⟩
   show ((47:UInt8)==c&&true)=false
   rw [Bool.and_true,beq_eq_false_iff_ne]
   exact fun e=>h e.symm
theorem zbL (b r:PZ) (w:World) (hb:b.Few 100000) (hr:r.Few 100000):
  Calls Tryz.prog 60 #[.agg b.cells,.agg r.cells] w (zfZ w (zbI b r)):=by
 obtain ⟨h1,h2,h3,h4⟩:=zbX 24 w b r
 have hbp:=hb.2.2.2.2.1
 have hrp:=hr.2.2.2.2.1
 have hmg:=zbA b.path r.path b.hasA
 have HPX:Hid (∀W,Calls Tryz.prog 110 #[.string ⟨r.path.toArray⟩,.string ⟨#[47]⟩] W fun e w'=>e= .returned (.bool (Lib.hasPrefix r.path [47]))∧W=w'):=fun W=>(Tryz.strings_HasPrefix ⟨r.path.toArray⟩ ⟨#[47]⟩ W).mono (fun e w' h=>⟨h.1,h.2.symm⟩)
 have HRM:=Lib.hid (fun W=>zcH r.path W (by omega))
 have HMG:=Lib.hid (fun W=>zeY b.path r.path b.hasA W (by omega) (by omega))
 have HRN:=Lib.hid (fun W=>zcH (zaM b.path b.hasA r.path) W (by omega))
 have HF:Hid (zbI b r=if r.hasS=true∨r.hasA=true∨r.path.head? =some 47 then zaG r.path else if r.path=[] then b.path else zaG (zaM b.path b.hasA r.path)):=rfl
 have hph:=zjW r.path
 obtain ⟨x0,hx0⟩: ∃y,y=(w.alloc (.cells b.cells 24)).alloc (.cells r.cells 24):=⟨_,rfl⟩
 rw [←hx0] at h1 h2 h3 h4
 obtain ⟨-,-,-,-,-,b5,-,-,b8,-,-,-,-⟩:=h1.all
 obtain ⟨-,r1,-,-,-,r5,-,-,r8,-,-,-,-⟩:=h2.all
 have HB:=Lib.hid h3
 dsimp only [PZ.cells] at hx0 ⊢
 clear h1 h2 h3 h4 hb hr hmg
 generalize zbI b r=res at*
 generalize zaM b.path b.hasA r.path=mg at*
 generalize hbq:b.path=bp at*
 generalize hrq:r.path=rp at*
 generalize b.hasA=ba at*
 generalize r.hasS=rs at*
 generalize r.hasA=ra at*
 clear hbq hrq hbp hrp
 by_cases c1:rs=true
 ·subst c1
  have HF2:Hid (res=zaG rp):=by show _=_;rw [HF.out,if_pos (.inl rfl)]
  clear HF HPX HMG HRN hph b5 b8 r5
  go_enter Tryz.func60,Tryz.ntmps60
  go_upto_region 1 with fail
  rw [←hx0]
  clear hx0
  go_wp2_with fail
  refine (HRM.out _).mono ?_
  rintro e y ⟨rfl,hy⟩
  have HY:=Lib.hid (zaS HB.out hy)
  go_wp2
  go_ret
  obtain rfl:=HF2.out
  exact ⟨rfl,HY.out⟩
 obtain rfl:rs=false:=Bool.not_eq_true _▸c1
 by_cases c2:ra=true
 ·subst c2
  have HF2:Hid (res=zaG rp):=by show _=_;rw [HF.out,if_pos (.inr (.inl rfl))]
  clear HF HPX HMG HRN hph b5 b8
  go_enter Tryz.func60,Tryz.ntmps60
  go_upto_region 1 with fail
  rw [←hx0]
  clear hx0
  go_wp2_with fail
  refine (HRM.out _).mono ?_
  rintro e y ⟨rfl,hy⟩
  have HY:=Lib.hid (zaS HB.out hy)
  go_wp2
  go_ret
  obtain rfl:=HF2.out
  exact ⟨rfl,HY.out⟩
 obtain rfl:ra=false:=Bool.not_eq_true _▸c2
 rcases hph with ⟨p1,p2⟩|⟨p1,p2⟩
 ·have HF2:Hid (res=zaG rp):=by show _=_;rw [HF.out,if_pos (.inr (.inr p2))]
  rw [p1] at HPX
  clear HF HMG HRN b5 b8 p1 p2
  go_enter Tryz.func60,Tryz.ntmps60
  go_upto_region 1 with fail
  rw [←hx0]
  clear hx0
  go_wp2_with fail
  refine (HPX.out _).mono ?_
  rintro e y ⟨rfl,rfl⟩
  go_wp2_with fail
  refine (HRM.out _).mono ?_
  rintro e y ⟨rfl,hy⟩
  have HY:=Lib.hid (zaS HB.out hy)
  go_wp2
  go_ret
  obtain rfl:=HF2.out
  exact ⟨rfl,HY.out⟩
 rw [p1] at HPX
 have hc: ¬(false=true∨false=true∨rp.head? =some 47):=by rintro (q|q|q);cases q;cases q;exact p2 q
 by_cases c3:rp=[]
 ·have HF2:Hid (res=bp):=by show _=_;rw [HF.out,if_neg hc,if_pos c3]
  have he:(rp==[])=true:=by rw [c3];rfl
  clear HF HMG HRN HRM p1 p2 c3 hc b5
  go_enter Tryz.func60,Tryz.ntmps60
  go_upto_region 1 with fail
  rw [←hx0]
  clear hx0
  go_wp2_with fail
  refine (HPX.out _).mono ?_
  rintro e y ⟨rfl,rfl⟩
  go_wp2
  go_ret
  obtain rfl:=HF2.out
  exact ⟨rfl,HB.out⟩
 ·have HF2:Hid (res=zaG mg):=by show _=_;rw [HF.out,if_neg hc,if_neg c3]
  have he:(rp==[])=false:=by rw [beq_eq_false_iff_ne];exact c3
  clear HF HRM p1 p2 c3 hc
  go_enter Tryz.func60,Tryz.ntmps60
  go_upto_region 1 with fail
  rw [←hx0]
  clear hx0
  go_wp2_with fail
  refine (HPX.out _).mono ?_
  rintro e y ⟨rfl,rfl⟩
  go_wp2_with fail
  refine (HMG.out _).mono ?_
  rintro e y ⟨rfl,rfl⟩
  go_wp2_with fail
  refine (HRN.out _).mono ?_
  rintro e y ⟨rfl,hy⟩
  have HY:=Lib.hid (zaS HB.out hy)
  go_wp2
  go_ret
  obtain rfl:=HF2.out
  exact ⟨rfl,HY.out⟩
end
end Go.Proofs.YtmjappnpedjlnaaGreatDoor
