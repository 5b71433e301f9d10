/-
  What the law AbnfMeets leans on, and its walk (33 of 35).
-/
import Derived.Deep.RegionHeld3
import Derived.Test.YtppgdppmheiocaaGreatDoorAbnfMeetsPke
import Derived.Test.YtppgdppmheiocaaGreatDoorAbnfMeetsPkU
import Derived.Test.YtppgdppmheiocaaGreatDoorAbnfMeetsPkT
import Derived.Test.YtppgdppmheiocaaGreatDoorAbnfMeetsPkI
namespace Go.Proofs.YtppgdppmheiocaaGreatDoor
set_option maxRecDepth 100000
set_option maxHeartbeats 16000000
abbrev yiL := @Lib.hid
abbrev yiM := @Nat.le_of_lt
section
open Go.RowKit
theorem z0D (u:UZ):zfF u=u.scheme++[58,47,47]++whoU u++zbX u++askU u:=by unfold zfF z3A;rfl
theorem z2D (u:UZ) (pv:Value) (w:World) (hl:u.user.length+u.pass.length≤1000000):
  Calls Tryz.prog 94 #[.agg (u.cells pv)] w (zeL w (whoU u)):=by
 have hbb:=zbD w (u.cells pv)
 by_cases h1:u.pass=[]
 ·have hp:u.pass.isEmpty=true:=by rw [h1];rfl
  by_cases h2:u.user=[]
  ·have hq:u.user.isEmpty=true:=by rw [h2];rfl
   have HF:=yiL (ycO h1 h2)
   simp only [UZ.cells] at hbb ⊢
   clear h1 h2
   go_enter Tryz.func94,Tryz.ntmps94
   go_wp2
   go_ret
   exact ⟨by rw [HF.out];rfl,hbb⟩
  ·have hq:u.user.isEmpty=false:=by rw [List.isEmpty_eq_false_iff];exact h2
   have HF:=yiL (ybH h1 h2)
   have a1: ∀W,(Op.stringOp .add ⟨u.user.toArray⟩ ⟨#[64]⟩).run Tryz.prog W= .ok (.string ⟨(u.user++[64]).toArray⟩) W:=zfI u.user [64] (by simp;omega)
   generalize u.user++[64]=t1 at*
   simp only [UZ.cells] at hbb ⊢
   clear h1 h2
   go_enter Tryz.func94,Tryz.ntmps94
   go_wp2
   go_ret
   exact ⟨by rw [HF.out];try rfl,hbb⟩
 ·have hp:u.pass.isEmpty=false:=by rw [List.isEmpty_eq_false_iff];exact h1
  have HF:=yiL (z9H h1)
  have a1: ∀W,(Op.stringOp .add ⟨u.user.toArray⟩ ⟨#[58]⟩).run Tryz.prog W= .ok (.string ⟨(u.user++[58]).toArray⟩) W:=zfI u.user [58] (by simp;omega)
  have a2: ∀W,(Op.stringOp .add ⟨(u.user++[58]).toArray⟩ ⟨u.pass.toArray⟩).run Tryz.prog W= .ok (.string ⟨(u.user++[58]++u.pass).toArray⟩) W:=zfI (u.user++[58]) u.pass (by simp;omega)
  have a3: ∀W,(Op.stringOp .add ⟨(u.user++[58]++u.pass).toArray⟩ ⟨#[64]⟩).run Tryz.prog W= .ok (.string ⟨(u.user++[58]++u.pass++[64]).toArray⟩) W:=zfI (u.user++[58]++u.pass) [64] (by simp;omega)
  generalize u.user++[58]++u.pass++[64]=t3 at*
  generalize u.user++[58]++u.pass=t2 at*
  generalize u.user++[58]=t1 at*
  simp only [UZ.cells] at hbb ⊢
  clear h1
  go_enter Tryz.func94,Tryz.ntmps94
  go_wp2
  go_ret
  exact ⟨by rw [HF.out];try rfl,hbb⟩
theorem z3S {u:UZ} (h:u.port= -1):zbX u=zcN u.host:=by unfold zbX;rw [if_pos h]
theorem znU {u:UZ} (h:u.port≠ -1):zbX u=zcN u.host++[58]++Lib.itoa u.port:=by unfold zbX;rw [if_neg h]
theorem zmC (u:UZ) (pv:Value) (w:World) (hi:u.host.In) (hp: -9223372036854775808≤u.port∧u.port≤9223372036854775807) (hl:(zbX u).length≤1000000) (hpow:PowTab w) (hbru:BruTab w):
  Calls Tryz.prog 95 #[.agg (u.cells pv)] w (zeL w (zbX u)):=by
 obtain ⟨x0,hx0⟩: ∃y,y=w.alloc (.cells (u.cells pv) 42):=⟨_,rfl⟩
 have hbb:Below w.heap.size w x0:=by rw [hx0];exact zbD w _
 have hU:UB x0 w.heap.size u pv:=by rw [hx0];exact UB.new w u pv
 have hws:=zaR hU
 have HB:=yiL hbb
 have HKK:Hid (∀x,Below x0.heap.size x0 x→x.cell? ⟨w.heap.size,3,none⟩=some u.host.val∧x.cell? ⟨w.heap.size,4,none⟩=some (.int .i64 u.port)):=fun x hb=>by
  have h:=hU.below hb
  exact ⟨h.all.2.2.2.1,h.all.2.2.2.2.1⟩
 have HW:Hid (∀W,Below x0.heap.size x0 W→Calls Tryz.prog 130 #[u.host.val] W fun e w'=>e= .returned (.string ⟨(zcN u.host).toArray⟩)∧Below x0.heap.size x0 w'):=fun W hW=>(zoO u.host W hi (zaD hpow (hbb.trans (hW.mono (yiM hws)))) (zaA hbru (hbb.trans (hW.mono (yiM hws))))).mono (fun e w' h=>⟨h.1,zaO hW h.2⟩)
 have HI:Hid (∀W,Below x0.heap.size x0 W→Calls Tryz.prog 131 #[.int .i64 u.port] W fun e w'=>e= .returned (.string ⟨(Lib.itoa u.port).toArray⟩)∧Below x0.heap.size x0 w'):=fun W hW=>(z4D u.port W hp.1 hp.2 (zaD hpow (hbb.trans (hW.mono (yiM hws))))).mono (fun e w' h=>⟨h.1,zaO hW h.2⟩)
 obtain ⟨-,-,-,d3,d4,-⟩:=hU.all
 have hws2:w.heap.size≤x0.heap.size:=yiM hws
 simp only [UZ.cells] at hx0
 clear hU hbb hpow hbru
 by_cases h1:u.port= -1
 ·have HF:=yiL (z3S h1)
  have e1:(u.port==(-1:Int))=true:=by rw [h1];rfl
  simp only [UZ.cells]
  rw [h1]
  rw [h1] at hx0 d4
  rw [hx0] at d3 d4
  clear h1
  go_enter Tryz.func95,Tryz.ntmps95
  go_wp2_with fail
  rw [←hx0]
  refine (HW.out _ (Below.refl _ _)).mono ?_
  rintro e x1 ⟨rfl,hb1⟩
  clear hx0 d3 d4
  go_wp2
  go_ret
  exact ⟨by rw [HF.out];try rfl,HB.out.trans (hb1.mono hws2)⟩
 ·have HF:=yiL (znU h1)
  have e1:(u.port==(-1:Int))=false:=beq_eq_false_iff_ne.2 h1
  rw [znU h1] at hl
  simp only [List.length_append,List.length_cons,List.length_nil] at hl
  have a1: ∀W,(Op.stringOp .add ⟨(zcN u.host).toArray⟩ ⟨#[58]⟩).run Tryz.prog W= .ok (.string ⟨(zcN u.host++[58]).toArray⟩) W:=zfI _ [58] (by simp;omega)
  have a2: ∀W,(Op.stringOp .add ⟨(zcN u.host++[58]).toArray⟩ ⟨(Lib.itoa u.port).toArray⟩).run Tryz.prog W= .ok (.string ⟨(zcN u.host++[58]++Lib.itoa u.port).toArray⟩) W:=zfI _ _ (by simp;omega)
  rw [hx0] at d3 d4
  generalize zcN u.host++[58]++Lib.itoa u.port=t2 at*
  generalize zcN u.host++[58]=t1 at*
  generalize zcN u.host=t0 at*
  generalize Lib.itoa u.port=ti at*
  simp only [UZ.cells]
  go_enter Tryz.func95,Tryz.ntmps95
  go_wp2_with fail
  rw [←hx0]
  clear hx0 d3 d4 h1 hl
  go_region_held3 (fun W=>W.cell? ⟨w.heap.size,3,none⟩=some u.host.val∧W.cell? ⟨w.heap.size,4,none⟩=some (.int .i64 u.port))
   (first|exact HKK.out _ (zaW _)|exact HKK.out _ hb1|exact HKK.out _ hb2)
   (first
    |(go_simp;go_at_call 130;((with_reducible refine (HW.out _ (zaW _)).mono ?_);rintro e x1 ⟨rfl,hb1⟩))
    |(go_simp;go_at_call 131;((with_reducible refine (HI.out _ hb1).mono ?_);rintro e x2 ⟨rfl,hb2⟩)))
  go_wp2
  go_ret
  exact ⟨by rw [HF.out];try rfl,HB.out.trans (hb2.mono hws2)⟩
structure AB (w wr:World) (b:Nat) (u:UZ) (pv:Value) (acc:List UInt8):Prop where
 below:Below w.heap.size w wr
 eb:b=w.heap.size+1
 ub:UB wr w.heap.size u pv
 isb:Lib.IsBuilderF 67 5 b b (Lib.byteCells acc) wr
 size:b<wr.heap.size
theorem AB.write {w wr:World} {b:Nat} {u:UZ} {pv:Value} {acc s:List UInt8} (h:AB w wr b u pv acc) (hl:acc.length+s.length≤1000000000):
  Calls Tryz.prog 56 #[.pointer (some ⟨b,0,none⟩),.string ⟨s.toArray⟩] wr fun e x=>(∃n:Int,e= .returned (.tuple #[.int .i64 n,.nilIface]))∧AB w x b u pv (acc++s):=by
 refine (Tryz.Builder_WriteString_k b b _ _ _ h.isb (by rw [Lib.byteCells_length,zaE];omega) (yiM h.size)).mono ?_
 rintro e x ⟨rfl,h4,b4,k4⟩
 have hle:w.heap.size≤b:=by rw [h.eb];omega
 have hlt:w.heap.size<b:=by rw [h.eb];omega
 refine ⟨⟨_,rfl⟩,⟨h.below.trans (b4.mono hle),h.eb,(b4.block _ hlt).trans h.ub,?_,Nat.lt_of_lt_of_le h.size b4.size⟩⟩
 rw [Lib.byteCells_append]
 exact .inr h4
theorem AB.first (w:World) (u:UZ) (pv:Value):AB w ((w.alloc (.cells (u.cells pv) 42)).alloc (.cells #[.pointer none,.slice none 0 0] 67)) (w.heap.size+1) u pv []:=by
 have h0:=UB.new w u pv
 have hs:(w.alloc (.cells (u.cells pv) 42)).heap.size=w.heap.size+1:=by simp
 refine ⟨((Below.refl _ w).alloc (Nat.le_refl _) _).alloc (by simp) _,rfl,h0.below ((Below.refl _ _).alloc (Nat.le_refl _) _),?_,by simp⟩
 have:=Lib.IsBuilderF.of (Lib.fresh_isBuilder 67 5 (w.alloc (.cells (u.cells pv) 42)))
 rw [hs] at this
 exact this
theorem zpR {l:List (List UInt8)} {k:Nat} (hk:k<l.length):zbA (l.take (k+1))=zbA (l.take k)++([47]++l.getD k []):=by
 rw [List.take_succ_eq_append_getElem hk,zyJ]
 simp [List.getD,List.getElem?_eq_getElem hk]
theorem z5W (l:List (List UInt8)) (k:Nat):(zbA (l.take k)).length≤(zbA l).length:=by
 induction l generalizing k with
 |nil=>simp
 |cons a r ih=>
  match k with
  |0=>simp [zbA]
  |k+1=>have:=ih k;simp only [List.take_succ_cons,zbA,List.length_append,List.length_cons];omega
theorem z9Z (l:List (List UInt8)) (k:Nat) (hk:k<l.length):(l.getD k []).length+1≤(zbA l).length:=by
 have h1:=z5W l (k+1)
 rw [zpR hk,List.length_append,List.length_append] at h1
 simp only [List.length_cons,List.length_nil] at h1
 omega
theorem zmX: ∀l:List (List UInt8),l.length≤(zbA l).length
 |[]=>Nat.le_refl _
 |a::r=>by have:=zmX r;simp only [zbA,List.length_append,List.length_cons];omega
theorem ycY {u:UZ} (h:u.hasQ=true):askU u=zbA u.path++([63]++u.query):=by unfold askU;rw [if_pos h];rfl
theorem askU_n {u:UZ} (h:u.hasQ=false):askU u=zbA u.path:=by unfold askU;rw [if_neg (by rw [h];decide),List.append_nil]
theorem zqC (u:UZ) (pv:Value) (w:World) (hpv:PV w pv u.path) (hl:(askU u).length≤1000000):
  Calls Tryz.prog 22 #[.agg (u.cells pv)] w (zeL w (askU u)):=by
 obtain ⟨N,hN⟩: ∃N,u.path.length=N:=⟨_,rfl⟩
 have hsl:(zbA u.path).length≤1000000:=by
  unfold askU at hl
  rw [List.length_append] at hl
  omega
 have hNl:N≤1000000:=by have:=zmX u.path;omega
 obtain ⟨ma,mc,hmv,hcells⟩: ∃ma mc,pv= .slice ma N mc∧ ∀x,Below w.heap.size w x→ ∀j,j<N→ ∃g,ma=some ⟨g,0,none⟩∧x.cell? ⟨g,j,none⟩=some (.string ⟨(u.path.getD j []).toArray⟩):=by
  rcases hpv with ⟨h1,h2⟩|⟨g,c,h1,_,h3⟩
  ·exact ⟨none,0,by rw [h2,←hN,h1];rfl,fun x _ j hj=>by rw [←hN,h1] at hj;cases hj⟩
  ·exact ⟨_,_,by rw [h1,hN],fun x hb j hj=>⟨g,rfl,(h3.keep hb).2 j (by omega)⟩⟩
 subst hmv
 have HCELL:=yiL hcells
 have HN:=yiL hN
 obtain ⟨x0,hx0⟩: ∃y,y=(w.alloc (.cells (u.cells (.slice ma N mc)) 42)).alloc (.cells #[.pointer none,.slice none 0 0] 67):=⟨_,rfl⟩
 have hA0:AB w x0 (w.heap.size+1) u (.slice ma N mc) []:=by rw [hx0];exact AB.first w u _
 have HA0:=yiL hA0
 obtain ⟨-,-,-,-,-,d5,-⟩:=hA0.ub.all
 simp only [UZ.cells] at hx0 ⊢
 rw [hx0] at d5
 have HLEN:=yiL hl
 clear hpv hcells hA0 hN hl
 go_enter Tryz.func22,Tryz.ntmps22
 go_wp2
 rw [←hx0]
 clear hx0 d5
 go_loopw [9] (fun i wr=> ∃k:Nat,k≤N∧i= .int .i64 k∧Hid (AB w wr (w.heap.size+1) u (.slice ma N mc) (zbA (u.path.take k)))) (fun i _=>N - (intOf i).toNat)
 case atStart=>exact ⟨0,Nat.zero_le _,rfl,HA0⟩
 case round=>
  obtain ⟨k,hk,rfl,HA⟩:=hrel
  clear HA0
  by_cases hlt:k<N
  ·obtain ⟨mg,rfl,hcell⟩:=HCELL.out _ HA.out.below k hlt
   have hsg:=z9Z u.path k (by rw [HN.out];exact hlt)
   have hsk:=z5W u.path k
   have HST:=yiL (zpR (l:=u.path) (k:=k) (by rw [HN.out];exact hlt))
   obtain ⟨s,hs⟩: ∃s,u.path.getD k []=s:=⟨_,rfl⟩
   rw [hs] at hcell hsg HST
   have a1: ∀W,(Op.stringOp .add ⟨#[47]⟩ ⟨s.toArray⟩).run Tryz.prog W= .ok (.string ⟨([47]++s).toArray⟩) W:=zfI [47] s (by simp;omega)
   have HW:=yiL (HA.out.write (s:=[47]++s) (by simp;omega))
   rw [←HST.out] at HW
   generalize [47]++s=q at*
   clear hs HA
   go_wp2_with fail
   refine HW.out.mono ?_
   rintro e x ⟨⟨n,rfl⟩,hab⟩
   have HAB:=yiL hab
   clear hab HW hcell
   go_wp2
   go_roundw
   case rel=>exact ⟨k+1,by omega,by go_num,HAB.out⟩
   case measure=>simp [intOf];omega
  ·have hkN:k=N:=by omega
   have hacc:u.path.take k=u.path:=List.take_of_length_le (by rw [HN.out];omega)
   rw [hacc] at HA
   obtain ⟨-,-,-,-,-,-,d6,d7,-⟩:=HA.out.ub.all
   cases hq:u.hasQ with
   |true=>
    have HF:=yiL (ycY hq)
    have hl2:=HLEN.out
    rw [ycY hq] at hl2
    simp only [List.length_append,List.length_cons,List.length_nil] at hl2
    rw [hq] at d7
    have a1: ∀W,(Op.stringOp .add ⟨#[63]⟩ ⟨u.query.toArray⟩).run Tryz.prog W= .ok (.string ⟨([63]++u.query).toArray⟩) W:=zfI [63] u.query (by simp;omega)
    have HW:=yiL (HA.out.write (s:=[63]++u.query) (by simp;omega))
    generalize zbA u.path++([63]++u.query)=t2 at*
    generalize [63]++u.query=q at*
    clear hq hl2 HLEN HA
    go_wp2_with fail
    refine HW.out.mono ?_
    rintro e x ⟨⟨n,rfl⟩,hab⟩
    have hsz:w.heap.size+1≤x.heap.size:=yiM hab.size
    have HAB:=yiL hab
    clear hab HW d6 d7
    go_wp2_with fail
    refine (Tryz.Builder_String_any_k (w.heap.size+1) (w.heap.size+1) _ _ HAB.out.isb hsz).mono ?_
    rintro e x5 ⟨rfl,_,b5,_⟩
    go_wp2
    go_ret
    exact ⟨by rw [HF.out];try rfl,HAB.out.below.trans (b5.mono (by omega))⟩
   |false=>
    have HF:=yiL (askU_n hq)
    rw [hq] at d7
    have hsz:w.heap.size+1≤wr.heap.size:=yiM HA.out.size
    generalize zbA u.path=t2 at*
    clear hq HLEN
    go_wp2_with fail
    clear d6 d7
    refine (Tryz.Builder_String_any_k (w.heap.size+1) (w.heap.size+1) _ _ HA.out.isb hsz).mono ?_
    rintro e x5 ⟨rfl,_,b5,_⟩
    go_wp2
    go_ret
    exact ⟨by rw [HF.out];try rfl,HA.out.below.trans (b5.mono (by omega))⟩
theorem zzP (u:UZ) (pv:Value) (w:World) (hpv:PV w pv u.path) (hi:u.host.In) (hp: -9223372036854775808≤u.port∧u.port≤9223372036854775807) (hl:(zfF u).length≤1000000) (hul:u.user.length+u.pass.length≤1000000) (hpow:PowTab w) (hbru:BruTab w):
  Calls Tryz.prog 55 #[.agg (u.cells pv)] w (zeL w (zfF u)):=by
 obtain ⟨x0,hx0⟩: ∃y,y=w.alloc (.cells (u.cells pv) 42):=⟨_,rfl⟩
 have hbb:Below w.heap.size w x0:=by rw [hx0];exact zbD w _
 have hU:UB x0 w.heap.size u pv:=by rw [hx0];exact UB.new w u pv
 have hws2:w.heap.size≤x0.heap.size:=yiM (zaR hU)
 have HB:=yiL hbb
 have HUP:=yiL (fun W (hW:Below x0.heap.size x0 W)=>hbb.trans (hW.mono hws2))
 have HKK:Hid (∀x,Below x0.heap.size x0 x→x.cell? ⟨w.heap.size,0,none⟩=some (.string ⟨u.scheme.toArray⟩)∧x.cell? ⟨w.heap.size,1,none⟩=some (.string ⟨u.user.toArray⟩)∧x.cell? ⟨w.heap.size,2,none⟩=some (.string ⟨u.pass.toArray⟩)∧x.cell? ⟨w.heap.size,3,none⟩=some (u.host.val)∧x.cell? ⟨w.heap.size,4,none⟩=some (.int .i64 u.port)∧x.cell? ⟨w.heap.size,5,none⟩=some (pv)∧x.cell? ⟨w.heap.size,6,none⟩=some (.string ⟨u.query.toArray⟩)∧x.cell? ⟨w.heap.size,7,none⟩=some (.bool u.hasQ)∧x.cell? ⟨w.heap.size,8,none⟩=some (.string ⟨u.frag.toArray⟩)∧x.cell? ⟨w.heap.size,9,none⟩=some (.bool u.hasF)):=fun x hb=>by
  have h:=hU.below hb
  obtain ⟨d0,d1,d2,d3,d4,d5,d6,d7,d8,d9,-⟩:=h.all
  exact ⟨d0,d1,d2,d3,d4,d5,d6,d7,d8,d9⟩
 have HF:=yiL (z0D u)
 rw [z0D u] at hl
 simp only [List.length_append,List.length_cons,List.length_nil] at hl
 have HWH:Hid (∀W,Below x0.heap.size x0 W→Calls Tryz.prog 94 #[.agg #[.string ⟨u.scheme.toArray⟩,.string ⟨u.user.toArray⟩,.string ⟨u.pass.toArray⟩,u.host.val,.int .i64 u.port,pv,.string ⟨u.query.toArray⟩,.bool u.hasQ,.string ⟨u.frag.toArray⟩,.bool u.hasF]] W fun e w'=>e= .returned (.string ⟨(whoU u).toArray⟩)∧Below x0.heap.size x0 w'):=fun W hW=>(z2D u pv W hul).mono (fun e w' h=>⟨h.1,zaO hW h.2⟩)
 have HAU:Hid (∀W,Below x0.heap.size x0 W→Calls Tryz.prog 95 #[.agg #[.string ⟨u.scheme.toArray⟩,.string ⟨u.user.toArray⟩,.string ⟨u.pass.toArray⟩,u.host.val,.int .i64 u.port,pv,.string ⟨u.query.toArray⟩,.bool u.hasQ,.string ⟨u.frag.toArray⟩,.bool u.hasF]] W fun e w'=>e= .returned (.string ⟨(zbX u).toArray⟩)∧Below x0.heap.size x0 w'):=fun W hW=>(zmC u pv W hi hp (by omega) (zaD hpow (HUP.out W hW)) (zaA hbru (HUP.out W hW))).mono (fun e w' h=>⟨h.1,zaO hW h.2⟩)
 have HAS:Hid (∀W,Below x0.heap.size x0 W→Calls Tryz.prog 22 #[.agg #[.string ⟨u.scheme.toArray⟩,.string ⟨u.user.toArray⟩,.string ⟨u.pass.toArray⟩,u.host.val,.int .i64 u.port,pv,.string ⟨u.query.toArray⟩,.bool u.hasQ,.string ⟨u.frag.toArray⟩,.bool u.hasF]] W fun e w'=>e= .returned (.string ⟨(askU u).toArray⟩)∧Below x0.heap.size x0 w'):=fun W hW=>(zqC u pv W (hpv.keep (HUP.out W hW)) (by omega)).mono (fun e w' h=>⟨h.1,zaO hW h.2⟩)
 have a1: ∀W,(Op.stringOp .add ⟨u.scheme.toArray⟩ ⟨#[58,47,47]⟩).run Tryz.prog W= .ok (.string ⟨(u.scheme++[58,47,47]).toArray⟩) W:=zfI _ [58,47,47] (by simp;omega)
 have a2: ∀W,(Op.stringOp .add ⟨(u.scheme++[58,47,47]).toArray⟩ ⟨(whoU u).toArray⟩).run Tryz.prog W= .ok (.string ⟨(u.scheme++[58,47,47]++whoU u).toArray⟩) W:=zfI _ _ (by simp;omega)
 have a3: ∀W,(Op.stringOp .add ⟨(u.scheme++[58,47,47]++whoU u).toArray⟩ ⟨(zbX u).toArray⟩).run Tryz.prog W= .ok (.string ⟨(u.scheme++[58,47,47]++whoU u++zbX u).toArray⟩) W:=zfI _ _ (by simp;omega)
 have a4: ∀W,(Op.stringOp .add ⟨(u.scheme++[58,47,47]++whoU u++zbX u).toArray⟩ ⟨(askU u).toArray⟩).run Tryz.prog W= .ok (.string ⟨(u.scheme++[58,47,47]++whoU u++zbX u++askU u).toArray⟩) W:=zfI _ _ (by simp;omega)
 generalize u.scheme++[58,47,47]++whoU u++zbX u++askU u=t4 at*
 generalize u.scheme++[58,47,47]++whoU u++zbX u=t3 at*
 generalize u.scheme++[58,47,47]++whoU u=t2 at*
 generalize u.scheme++[58,47,47]=t1 at*
 generalize whoU u=tw at*
 generalize zbX u=ta at*
 generalize askU u=tk at*
 simp only [UZ.cells] at hx0 ⊢
 clear hU hbb hl hpow hbru hpv hp hul hi
 go_enter Tryz.func55,Tryz.ntmps55
 go_wp2_with fail
 rw [←hx0]
 clear hx0
 go_region_held3 (fun W=>W.cell? ⟨w.heap.size,0,none⟩=some (.string ⟨u.scheme.toArray⟩)∧W.cell? ⟨w.heap.size,1,none⟩=some (.string ⟨u.user.toArray⟩)∧W.cell? ⟨w.heap.size,2,none⟩=some (.string ⟨u.pass.toArray⟩)∧W.cell? ⟨w.heap.size,3,none⟩=some (u.host.val)∧W.cell? ⟨w.heap.size,4,none⟩=some (.int .i64 u.port)∧W.cell? ⟨w.heap.size,5,none⟩=some (pv)∧W.cell? ⟨w.heap.size,6,none⟩=some (.string ⟨u.query.toArray⟩)∧W.cell? ⟨w.heap.size,7,none⟩=some (.bool u.hasQ)∧W.cell? ⟨w.heap.size,8,none⟩=some (.string ⟨u.frag.toArray⟩)∧W.cell? ⟨w.heap.size,9,none⟩=some (.bool u.hasF))
  (first|exact HKK.out _ (zaW _)|exact HKK.out _ hb1|exact HKK.out _ hb2|exact HKK.out _ hb3)
  (first
   |(go_simp;go_at_call 94;((with_reducible refine (HWH.out _ (zaW _)).mono ?_);rintro e x1 ⟨rfl,hb1⟩))
   |(go_simp;go_at_call 95;((with_reducible refine (HAU.out _ hb1).mono ?_);rintro e x2 ⟨rfl,hb2⟩))
   |(go_simp;go_at_call 22;((with_reducible refine (HAS.out _ hb2).mono ?_);rintro e x3 ⟨rfl,hb3⟩)))
 go_wp2
 go_ret
 exact ⟨by rw [HF.out];try rfl,HB.out.trans (hb3.mono hws2)⟩
theorem z5Q {u:UZ} (h:u.hasF=true):zcF u=zfF u++[35]++u.frag:=by unfold zcF;rw [if_pos h];simp
theorem yfY {u:UZ} (h:u.hasF=false):zcF u=zfF u:=by unfold zcF;rw [if_neg (by rw [h];decide),List.append_nil]
theorem zyG (u:UZ) (pv:Value) (w:World) (hpv:PV w pv u.path) (hi:u.host.In) (hp: -9223372036854775808≤u.port∧u.port≤9223372036854775807) (hl:(zcF u).length≤1000000) (hul:u.user.length+u.pass.length≤1000000) (hpow:PowTab w) (hbru:BruTab w):
  Calls Tryz.prog 21 #[.agg (u.cells pv)] w (zeL w (zcF u)):=by
 obtain ⟨x0,hx0⟩: ∃y,y=w.alloc (.cells (u.cells pv) 42):=⟨_,rfl⟩
 have hbb:Below w.heap.size w x0:=by rw [hx0];exact zbD w _
 have hU:UB x0 w.heap.size u pv:=by rw [hx0];exact UB.new w u pv
 have hws2:w.heap.size≤x0.heap.size:=yiM (zaR hU)
 have HB:=yiL hbb
 have HUP:=yiL (fun W (hW:Below x0.heap.size x0 W)=>hbb.trans (hW.mono hws2))
 have HKK:Hid (∀x,Below x0.heap.size x0 x→x.cell? ⟨w.heap.size,0,none⟩=some (.string ⟨u.scheme.toArray⟩)∧x.cell? ⟨w.heap.size,1,none⟩=some (.string ⟨u.user.toArray⟩)∧x.cell? ⟨w.heap.size,2,none⟩=some (.string ⟨u.pass.toArray⟩)∧x.cell? ⟨w.heap.size,3,none⟩=some (u.host.val)∧x.cell? ⟨w.heap.size,4,none⟩=some (.int .i64 u.port)∧x.cell? ⟨w.heap.size,5,none⟩=some (pv)∧x.cell? ⟨w.heap.size,6,none⟩=some (.string ⟨u.query.toArray⟩)∧x.cell? ⟨w.heap.size,7,none⟩=some (.bool u.hasQ)∧x.cell? ⟨w.heap.size,8,none⟩=some (.string ⟨u.frag.toArray⟩)∧x.cell? ⟨w.heap.size,9,none⟩=some (.bool u.hasF)):=fun x hb=>by
  have h:=hU.below hb
  obtain ⟨d0,d1,d2,d3,d4,d5,d6,d7,d8,d9,-⟩:=h.all
  exact ⟨d0,d1,d2,d3,d4,d5,d6,d7,d8,d9⟩
 obtain ⟨d0,d1,d2,d3,d4,d5,d6,d7,d8,d9,-⟩:=hU.all
 have hbl:(zfF u).length≤1000000:=by unfold zcF at hl;rw [List.length_append] at hl;omega
 have HBA:Hid (∀W,Below x0.heap.size x0 W→Calls Tryz.prog 55 #[.agg #[.string ⟨u.scheme.toArray⟩,.string ⟨u.user.toArray⟩,.string ⟨u.pass.toArray⟩,u.host.val,.int .i64 u.port,pv,.string ⟨u.query.toArray⟩,.bool u.hasQ,.string ⟨u.frag.toArray⟩,.bool u.hasF]] W fun e w'=>e= .returned (.string ⟨(zfF u).toArray⟩)∧Below x0.heap.size x0 w'):=fun W hW=>(zzP u pv W (hpv.keep (HUP.out W hW)) hi hp hbl hul (zaD hpow (HUP.out W hW)) (zaA hbru (HUP.out W hW))).mono (fun e w' h=>⟨h.1,zaO hW h.2⟩)
 clear hU hbb hpow hbru hpv hp hul hi
 cases hf:u.hasF with
 |false=>
  have HF:=yiL (yfY hf)
  rw [hf] at d9 HBA
  simp only [UZ.cells] at hx0 ⊢
  rw [hf] at hx0 ⊢
  rw [hx0] at d0 d1 d2 d3 d4 d5 d6 d7 d8 d9
  generalize zfF u=tb at*
  clear hf hl hbl
  go_enter Tryz.func21,Tryz.ntmps21
  go_wp2_with fail
  rw [←hx0]
  clear hx0 d0 d1 d2 d3 d4 d5 d6 d7 d8 d9
  refine (HBA.out _ (Below.refl _ _)).mono ?_
  rintro e x1 ⟨rfl,hb1⟩
  go_wp2
  go_ret
  exact ⟨by rw [HF.out];try rfl,HB.out.trans (hb1.mono hws2)⟩
 |true=>
  have HF:=yiL (z5Q hf)
  rw [z5Q hf] at hl
  simp only [List.length_append,List.length_cons,List.length_nil] at hl
  have a1: ∀W,(Op.stringOp .add ⟨(zfF u).toArray⟩ ⟨#[35]⟩).run Tryz.prog W= .ok (.string ⟨(zfF u++[35]).toArray⟩) W:=zfI _ [35] (by simp;omega)
  have a2: ∀W,(Op.stringOp .add ⟨(zfF u++[35]).toArray⟩ ⟨u.frag.toArray⟩).run Tryz.prog W= .ok (.string ⟨(zfF u++[35]++u.frag).toArray⟩) W:=zfI _ _ (by simp;omega)
  generalize zfF u++[35]++u.frag=t2 at*
  generalize zfF u++[35]=t1 at*
  generalize zfF u=tb at*
  rw [hf] at d9 HBA HKK
  simp only [UZ.cells] at hx0 ⊢
  rw [hf] at hx0 ⊢
  rw [hx0] at d0 d1 d2 d3 d4 d5 d6 d7 d8 d9
  clear hf hl hbl
  go_enter Tryz.func21,Tryz.ntmps21
  go_wp2_with fail
  rw [←hx0]
  clear hx0 d0 d1 d2 d3 d4 d5 d6 d7 d8 d9
  go_region_held3 (fun W=>W.cell? ⟨w.heap.size,0,none⟩=some (.string ⟨u.scheme.toArray⟩)∧W.cell? ⟨w.heap.size,1,none⟩=some (.string ⟨u.user.toArray⟩)∧W.cell? ⟨w.heap.size,2,none⟩=some (.string ⟨u.pass.toArray⟩)∧W.cell? ⟨w.heap.size,3,none⟩=some (u.host.val)∧W.cell? ⟨w.heap.size,4,none⟩=some (.int .i64 u.port)∧W.cell? ⟨w.heap.size,5,none⟩=some (pv)∧W.cell? ⟨w.heap.size,6,none⟩=some (.string ⟨u.query.toArray⟩)∧W.cell? ⟨w.heap.size,7,none⟩=some (.bool u.hasQ)∧W.cell? ⟨w.heap.size,8,none⟩=some (.string ⟨u.frag.toArray⟩)∧W.cell? ⟨w.heap.size,9,none⟩=some (.bool true))
   (first|exact HKK.out _ (zaW _)|exact HKK.out _ hb1)
   (first
    |(go_simp;go_at_call 55;((with_reducible refine (HBA.out _ (zaW _)).mono ?_);rintro e x1 ⟨rfl,hb1⟩)))
  go_wp2
  go_ret
  exact ⟨by rw [HF.out];try rfl,HB.out.trans (hb1.mono hws2)⟩
end
end Go.Proofs.YtppgdppmheiocaaGreatDoor
