/-
  What the law WhatwgClean leans on, and its walk (28 of 31).
-/
import Derived.Deep.RegionHeld3
import Derived.Test.YthacmlahnpdeeaaGreatDoorWhatwgCleanPkV
import Derived.Test.YthacmlahnpdeeaaGreatDoorWhatwgCleanPkb
import Derived.Test.YthacmlahnpdeeaaGreatDoorWhatwgCleanPkJ
import Derived.Test.YthacmlahnpdeeaaGreatDoorWhatwgCleanPkW
import Derived.Test.YthacmlahnpdeeaaGreatDoorWhatwgCleanPkN
namespace Go.Proofs.YthacmlahnpdeeaaGreatDoor
set_option maxRecDepth 100000
set_option maxHeartbeats 16000000
section
open Go.RowKit
theorem ybX (u:UZ):zhY u=u.scheme++[58,47,47]++whoU u++zjB u++askU u:=by unfold zhY headU;rfl
theorem z7R (u:UZ) (pv:Value) (w:World) (hl:u.user.length+u.pass.length≤1000000):
  Calls Tryz.prog 65 #[.agg (u.cells pv)] w (zeB w (whoU u)):=by
 have hbb:=zaI w (u.cells pv)
 by_cases h1:u.pass=[]
 ·have hp:u.pass.isEmpty=true:=by rw [h1];rfl
  by_cases h2:u.user=[]
  ·have hq:u.user.isEmpty=true:=by rw [h2];rfl
   have HF:=Lib.hid (yhN h1 h2)
   simp only [UZ.cells] at hbb ⊢
   clear h1 h2
   go_enter Tryz.func65,Tryz.ntmps65
   go_wp2
   go_ret
   exact ⟨by rw [HF.out];rfl,hbb⟩
  ·have hq:u.user.isEmpty=false:=by rw [List.isEmpty_eq_false_iff];exact h2
   have HF:=Lib.hid (ygA h1 h2)
   have a1: ∀W,(Op.stringOp .add ⟨u.user.toArray⟩ ⟨#[64]⟩).run Tryz.prog W= .ok (.string ⟨(u.user++[64]).toArray⟩) W:=zgI u.user [64] (by simp;omega)
   generalize u.user++[64]=t1 at*
   simp only [UZ.cells] at hbb ⊢
   clear h1 h2
   go_enter Tryz.func65,Tryz.ntmps65
   go_wp2
   go_ret
   exact ⟨by rw [HF.out];try rfl,hbb⟩
 ·have hp:u.pass.isEmpty=false:=by rw [List.isEmpty_eq_false_iff];exact h1
  have HF:=Lib.hid (yfN h1)
  have a1: ∀W,(Op.stringOp .add ⟨u.user.toArray⟩ ⟨#[58]⟩).run Tryz.prog W= .ok (.string ⟨(u.user++[58]).toArray⟩) W:=zgI u.user [58] (by simp;omega)
  have a2: ∀W,(Op.stringOp .add ⟨(u.user++[58]).toArray⟩ ⟨u.pass.toArray⟩).run Tryz.prog W= .ok (.string ⟨(u.user++[58]++u.pass).toArray⟩) W:=zgI (u.user++[58]) u.pass (by simp;omega)
  have a3: ∀W,(Op.stringOp .add ⟨(u.user++[58]++u.pass).toArray⟩ ⟨#[64]⟩).run Tryz.prog W= .ok (.string ⟨(u.user++[58]++u.pass++[64]).toArray⟩) W:=zgI (u.user++[58]++u.pass) [64] (by simp;omega)
  generalize u.user++[58]++u.pass++[64]=t3 at*
  generalize u.user++[58]++u.pass=t2 at*
  generalize u.user++[58]=t1 at*
  simp only [UZ.cells] at hbb ⊢
  clear h1
  go_enter Tryz.func65,Tryz.ntmps65
  go_wp2
  go_ret
  exact ⟨by rw [HF.out];try rfl,hbb⟩
theorem z7J {u:UZ} (h:u.port= -1):zjB u=zfG u.host:=by unfold zjB;rw [if_pos h]
theorem zrO {u:UZ} (h:u.port≠ -1):zjB u=zfG u.host++[58]++Lib.itoa u.port:=by unfold zjB;rw [if_neg h]
theorem znR (u:UZ) (pv:Value) (w:World) (hi:u.host.In) (hp: -9223372036854775808≤u.port∧u.port≤9223372036854775807) (hl:(zjB u).length≤1000000) (hpow:PowTab w) (hbru:BruTab w):
  Calls Tryz.prog 66 #[.agg (u.cells pv)] w (zeB w (zjB u)):=by
 obtain ⟨x0,hx0⟩: ∃y,y=w.alloc (.cells (u.cells pv) 27):=⟨_,rfl⟩
 have hbb:Below w.heap.size w x0:=by rw [hx0];exact zaI w _
 have hU:UB x0 w.heap.size u pv:=by rw [hx0];exact UB.new w u pv
 have hws:=zaC hU
 have HB:=Lib.hid hbb
 have HKK:Hid (∀x,Below x0.heap.size x0 x→x.cell? ⟨w.heap.size,3,none⟩=some u.host.val∧x.cell? ⟨w.heap.size,4,none⟩=some (.int .i64 u.port)):=fun x hb=>by
  have h:=hU.below hb
  exact ⟨h.all.2.2.2.1,h.all.2.2.2.2.1⟩
 have HW:Hid (∀W,Below x0.heap.size x0 W→Calls Tryz.prog 95 #[u.host.val] W fun e w'=>e= .returned (.string ⟨(zfG u.host).toArray⟩)∧Below x0.heap.size x0 w'):=fun W hW=>(zkN u.host W hi (zbB hpow (hbb.trans (hW.mono (Nat.le_of_lt hws)))) (zaL hbru (hbb.trans (hW.mono (Nat.le_of_lt hws))))).mono (fun e w' h=>⟨h.1,zaF hW h.2⟩)
 have HI:Hid (∀W,Below x0.heap.size x0 W→Calls Tryz.prog 108 #[.int .i64 u.port] W fun e w'=>e= .returned (.string ⟨(Lib.itoa u.port).toArray⟩)∧Below x0.heap.size x0 w'):=fun W hW=>(ycR u.port W hp.1 hp.2 (zbB hpow (hbb.trans (hW.mono (Nat.le_of_lt hws))))).mono (fun e w' h=>⟨h.1,zaF hW h.2⟩)
 obtain ⟨-,-,-,d3,d4,-⟩:=hU.all
 have hws2:w.heap.size≤x0.heap.size:=Nat.le_of_lt hws
 simp only [UZ.cells] at hx0
 clear hU hbb hpow hbru
 by_cases h1:u.port= -1
 ·have HF:=Lib.hid (z7J h1)
  have e1:(u.port==(-1:Int))=true:=by rw [h1];rfl
  simp only [UZ.cells]
  rw [h1]
  rw [h1] at hx0 d4
  rw [hx0] at d3 d4
  clear h1
  go_enter Tryz.func66,Tryz.ntmps66
  go_wp2_with fail
  rw [←hx0]
  refine (HW.out _ (Below.refl _ _)).mono ?_
  rintro e x1 ⟨rfl,hb1⟩
  clear hx0 d3 d4
  go_wp2
  go_ret
  exact ⟨by rw [HF.out];try rfl,HB.out.trans (hb1.mono hws2)⟩
 ·have HF:=Lib.hid (zrO h1)
  have e1:(u.port==(-1:Int))=false:=beq_eq_false_iff_ne.2 h1
  rw [zrO h1] at hl
  simp only [List.length_append,List.length_cons,List.length_nil] at hl
  have a1: ∀W,(Op.stringOp .add ⟨(zfG u.host).toArray⟩ ⟨#[58]⟩).run Tryz.prog W= .ok (.string ⟨(zfG u.host++[58]).toArray⟩) W:=zgI _ [58] (by simp;omega)
  have a2: ∀W,(Op.stringOp .add ⟨(zfG u.host++[58]).toArray⟩ ⟨(Lib.itoa u.port).toArray⟩).run Tryz.prog W= .ok (.string ⟨(zfG u.host++[58]++Lib.itoa u.port).toArray⟩) W:=zgI _ _ (by simp;omega)
  rw [hx0] at d3 d4
  generalize zfG u.host++[58]++Lib.itoa u.port=t2 at*
  generalize zfG u.host++[58]=t1 at*
  generalize zfG u.host=t0 at*
  generalize Lib.itoa u.port=ti at*
  simp only [UZ.cells]
  go_enter Tryz.func66,Tryz.ntmps66
  go_wp2_with fail
  rw [←hx0]
  clear hx0 d3 d4 h1 hl
  go_region_held3 (fun W=>W.cell? ⟨w.heap.size,3,none⟩=some u.host.val∧W.cell? ⟨w.heap.size,4,none⟩=some (.int .i64 u.port))
   (first|exact HKK.out _ (zbG _)|exact HKK.out _ hb1|exact HKK.out _ hb2)
   (first
    |(go_simp;go_at_call 95;((with_reducible refine (HW.out _ (zbG _)).mono ?_);rintro e x1 ⟨rfl,hb1⟩))
    |(go_simp;go_at_call 108;((with_reducible refine (HI.out _ hb1).mono ?_);rintro e x2 ⟨rfl,hb2⟩)))
  go_wp2
  go_ret
  exact ⟨by rw [HF.out];try rfl,HB.out.trans (hb2.mono hws2)⟩
/-- a URL in its box,and what is written of it -/
structure AB (w wr:World) (b:Nat) (u:UZ) (pv:Value) (acc:List UInt8):Prop where
 below:Below w.heap.size w wr
 eb:b=w.heap.size+1
 ub:UB wr w.heap.size u pv
 isb:Lib.IsBuilderF 130 5 b b (Lib.byteCells acc) wr
 size:b<wr.heap.size
theorem AB.write {w wr:World} {b:Nat} {u:UZ} {pv:Value} {acc s:List UInt8} (h:AB w wr b u pv acc) (hl:acc.length+s.length≤1000000000):
  Calls Tryz.prog 109 #[.pointer (some ⟨b,0,none⟩),.string ⟨s.toArray⟩] wr fun e x=>(∃n:Int,e= .returned (.tuple #[.int .i64 n,.nilIface]))∧AB w x b u pv (acc++s):=by
 refine (Tryz.Builder_WriteString_k b b _ _ _ h.isb (by rw [Lib.byteCells_length,zaJ];omega) (Nat.le_of_lt h.size)).mono ?_
 rintro e x ⟨rfl,h4,b4,k4⟩
 have hle:w.heap.size≤b:=by rw [h.eb];omega
 have hlt:w.heap.size<b:=by rw [h.eb];omega
 refine ⟨⟨_,rfl⟩,⟨h.below.trans (b4.mono hle),h.eb,(b4.block _ hlt).trans h.ub,?_,Nat.lt_of_lt_of_le h.size b4.size⟩⟩
 rw [Lib.byteCells_append]
 exact .inr h4
theorem AB.first (w:World) (u:UZ) (pv:Value):AB w ((w.alloc (.cells (u.cells pv) 27)).alloc (.cells #[.pointer none,.slice none 0 0] 130)) (w.heap.size+1) u pv []:=by
 have h0:=UB.new w u pv
 have hs:(w.alloc (.cells (u.cells pv) 27)).heap.size=w.heap.size+1:=by simp
 refine ⟨((Below.refl _ w).alloc (Nat.le_refl _) _).alloc (by simp) _,rfl,h0.below ((Below.refl _ _).alloc (Nat.le_refl _) _),?_,by simp⟩
 have:=Lib.IsBuilderF.of (Lib.fresh_isBuilder 130 5 (w.alloc (.cells (u.cells pv) 27)))
 rw [hs] at this
 exact this
theorem zvT {l:List (List UInt8)} {k:Nat} (hk:k<l.length):zgJ (l.take (k+1))=zgJ (l.take k)++([47]++l.getD k []):=by
 rw [List.take_succ_eq_append_getElem hk,z3D]
 simp [List.getD,List.getElem?_eq_getElem hk]
theorem z7B (l:List (List UInt8)) (k:Nat):(zgJ (l.take k)).length≤(zgJ l).length:=by
 induction l generalizing k with
 |nil=>simp
 |cons a r ih=>
  match k with
  |0=>simp [zgJ]
  |k+1=>have:=ih k;simp only [List.take_succ_cons,zgJ,List.length_append,List.length_cons];omega
theorem yfO (l:List (List UInt8)) (k:Nat) (hk:k<l.length):(l.getD k []).length+1≤(zgJ l).length:=by
 have h1:=z7B l (k+1)
 rw [zvT hk,List.length_append,List.length_append] at h1
 simp only [List.length_cons,List.length_nil] at h1
 omega
theorem zqD: ∀l:List (List UInt8),l.length≤(zgJ l).length
 |[]=>Nat.le_refl _
 |a::r=>by have:=zqD r;simp only [zgJ,List.length_append,List.length_cons];omega
theorem yiW {u:UZ} (h:u.hasQ=true):askU u=zgJ u.path++([63]++u.query):=by unfold askU;rw [if_pos h];rfl
theorem askU_n {u:UZ} (h:u.hasQ=false):askU u=zgJ u.path:=by unfold askU;rw [if_neg (by rw [h];decide),List.append_nil]
theorem z8B (u:UZ) (pv:Value) (w:World) (hpv:PV w pv u.path) (hl:(askU u).length≤1000000):
  Calls Tryz.prog 67 #[.agg (u.cells pv)] w (zeB w (askU u)):=by
 obtain ⟨N,hN⟩: ∃N,u.path.length=N:=⟨_,rfl⟩
 have hsl:(zgJ u.path).length≤1000000:=by
  unfold askU at hl
  rw [List.length_append] at hl
  omega
 have hNl:N≤1000000:=by have:=zqD u.path;omega
 obtain ⟨ma,mc,hmv,hcells⟩: ∃ma mc,pv= .slice ma N mc∧ ∀x,Below w.heap.size w x→ ∀j,j<N→ ∃g,ma=some ⟨g,0,none⟩∧x.cell? ⟨g,j,none⟩=some (.string ⟨(u.path.getD j []).toArray⟩):=by
  rcases hpv with ⟨h1,h2⟩|⟨g,c,h1,_,h3⟩
  ·exact ⟨none,0,by rw [h2,←hN,h1];rfl,fun x _ j hj=>by rw [←hN,h1] at hj;cases hj⟩
  ·exact ⟨_,_,by rw [h1,hN],fun x hb j hj=>⟨g,rfl,(h3.keep hb).2 j (by omega)⟩⟩
 subst hmv
 have HCELL:=Lib.hid hcells
 have HN:=Lib.hid hN
 obtain ⟨x0,hx0⟩: ∃y,y=(w.alloc (.cells (u.cells (.slice ma N mc)) 27)).alloc (.cells #[.pointer none,.slice none 0 0] 130):=⟨_,rfl⟩
 have hA0:AB w x0 (w.heap.size+1) u (.slice ma N mc) []:=by rw [hx0];exact AB.first w u _
 have HA0:=Lib.hid hA0
 obtain ⟨-,-,-,-,-,d5,-⟩:=hA0.ub.all
 simp only [UZ.cells] at hx0 ⊢
 rw [hx0] at d5
 have HLEN:=Lib.hid hl
 clear hpv hcells hA0 hN hl
 go_enter Tryz.func67,Tryz.ntmps67
 go_wp2
 rw [←hx0]
 clear hx0 d5
 go_loopw [9] (fun i wr=> ∃k:Nat,k≤N∧i= .int .i64 k∧Hid (AB w wr (w.heap.size+1) u (.slice ma N mc) (zgJ (u.path.take k)))) (fun i _=>N - (intOf i).toNat)
 case atStart=>exact ⟨0,Nat.zero_le _,rfl,HA0⟩
 case round=>
  obtain ⟨k,hk,rfl,HA⟩:=hrel
  clear HA0
  by_cases hlt:k<N
  ·obtain ⟨mg,rfl,hcell⟩:=HCELL.out _ HA.out.below k hlt
   have hsg:=yfO u.path k (by rw [HN.out];exact hlt)
   have hsk:=z7B u.path k
   have HST:=Lib.hid (zvT (l:=u.path) (k:=k) (by rw [HN.out];exact hlt))
   obtain ⟨s,hs⟩: ∃s,u.path.getD k []=s:=⟨_,rfl⟩
   rw [hs] at hcell hsg HST
   have a1: ∀W,(Op.stringOp .add ⟨#[47]⟩ ⟨s.toArray⟩).run Tryz.prog W= .ok (.string ⟨([47]++s).toArray⟩) W:=zgI [47] s (by simp;omega)
   have HW:=Lib.hid (HA.out.write (s:=[47]++s) (by simp;omega))
   rw [←HST.out] at HW
   generalize [47]++s=q at*
   clear hs HA
   go_wp2_with fail
   refine HW.out.mono ?_
   rintro e x ⟨⟨n,rfl⟩,hab⟩
   have HAB:=Lib.hid hab
   clear hab HW hcell
   go_wp2
   go_roundw
   case rel=>exact ⟨k+1,by omega,by go_num,HAB.out⟩
   case measure=>simp [intOf];omega
  ·have hkN:k=N:=by omega
   have hacc:u.path.take k=u.path:=List.take_of_length_le (by rw [HN.out];omega)
   rw [hacc] at HA
   obtain ⟨-,-,-,-,-,-,d6,d7,-⟩:=HA.out.ub.all
   cases hq:u.hasQ with
   |true=>
    have HF:=Lib.hid (yiW hq)
    have hl2:=HLEN.out
    rw [yiW hq] at hl2
    simp only [List.length_append,List.length_cons,List.length_nil] at hl2
    rw [hq] at d7
    have a1: ∀W,(Op.stringOp .add ⟨#[63]⟩ ⟨u.query.toArray⟩).run Tryz.prog W= .ok (.string ⟨([63]++u.query).toArray⟩) W:=zgI [63] u.query (by simp;omega)
    have HW:=Lib.hid (HA.out.write (s:=[63]++u.query) (by simp;omega))
    generalize zgJ u.path++([63]++u.query)=t2 at*
    generalize [63]++u.query=q at*
    clear hq hl2 HLEN HA
    go_wp2_with fail
    refine HW.out.mono ?_
    rintro e x ⟨⟨n,rfl⟩,hab⟩
    have hsz:w.heap.size+1≤x.heap.size:=Nat.le_of_lt hab.size
    have HAB:=Lib.hid hab
    clear hab HW d6 d7
    go_wp2_with fail
    refine (Tryz.Builder_String_any_k (w.heap.size+1) (w.heap.size+1) _ _ HAB.out.isb hsz).mono ?_
    rintro e x5 ⟨rfl,_,b5,_⟩
    go_wp2
    go_ret
    exact ⟨by rw [HF.out];try rfl,HAB.out.below.trans (b5.mono (by omega))⟩
   |false=>
    have HF:=Lib.hid (askU_n hq)
    rw [hq] at d7
    have hsz:w.heap.size+1≤wr.heap.size:=Nat.le_of_lt HA.out.size
    generalize zgJ u.path=t2 at*
    clear hq HLEN
    go_wp2_with fail
    clear d6 d7
    refine (Tryz.Builder_String_any_k (w.heap.size+1) (w.heap.size+1) _ _ HA.out.isb hsz).mono ?_
    rintro e x5 ⟨rfl,_,b5,_⟩
    go_wp2
    go_ret
    exact ⟨by rw [HF.out];try rfl,HA.out.below.trans (b5.mono (by omega))⟩
theorem z3W (u:UZ) (pv:Value) (w:World) (hpv:PV w pv u.path) (hi:u.host.In) (hp: -9223372036854775808≤u.port∧u.port≤9223372036854775807) (hl:(zhY u).length≤1000000) (hul:u.user.length+u.pass.length≤1000000) (hpow:PowTab w) (hbru:BruTab w):
  Calls Tryz.prog 33 #[.agg (u.cells pv)] w (zeB w (zhY u)):=by
 obtain ⟨x0,hx0⟩: ∃y,y=w.alloc (.cells (u.cells pv) 27):=⟨_,rfl⟩
 have hbb:Below w.heap.size w x0:=by rw [hx0];exact zaI w _
 have hU:UB x0 w.heap.size u pv:=by rw [hx0];exact UB.new w u pv
 have hws2:w.heap.size≤x0.heap.size:=Nat.le_of_lt (zaC hU)
 have HB:=Lib.hid hbb
 have HUP:=Lib.hid (fun W (hW:Below x0.heap.size x0 W)=>hbb.trans (hW.mono hws2))
 have HKK:Hid (∀x,Below x0.heap.size x0 x→x.cell? ⟨w.heap.size,0,none⟩=some (.string ⟨u.scheme.toArray⟩)∧x.cell? ⟨w.heap.size,1,none⟩=some (.string ⟨u.user.toArray⟩)∧x.cell? ⟨w.heap.size,2,none⟩=some (.string ⟨u.pass.toArray⟩)∧x.cell? ⟨w.heap.size,3,none⟩=some (u.host.val)∧x.cell? ⟨w.heap.size,4,none⟩=some (.int .i64 u.port)∧x.cell? ⟨w.heap.size,5,none⟩=some (pv)∧x.cell? ⟨w.heap.size,6,none⟩=some (.string ⟨u.query.toArray⟩)∧x.cell? ⟨w.heap.size,7,none⟩=some (.bool u.hasQ)∧x.cell? ⟨w.heap.size,8,none⟩=some (.string ⟨u.frag.toArray⟩)∧x.cell? ⟨w.heap.size,9,none⟩=some (.bool u.hasF)):=fun x hb=>by
  have h:=hU.below hb
  obtain ⟨d0,d1,d2,d3,d4,d5,d6,d7,d8,d9,-⟩:=h.all
  exact ⟨d0,d1,d2,d3,d4,d5,d6,d7,d8,d9⟩
 have HF:=Lib.hid (ybX u)
 rw [ybX u] at hl
 simp only [List.length_append,List.length_cons,List.length_nil] at hl
 have HWH:Hid (∀W,Below x0.heap.size x0 W→Calls Tryz.prog 65 #[.agg #[.string ⟨u.scheme.toArray⟩,.string ⟨u.user.toArray⟩,.string ⟨u.pass.toArray⟩,u.host.val,.int .i64 u.port,pv,.string ⟨u.query.toArray⟩,.bool u.hasQ,.string ⟨u.frag.toArray⟩,.bool u.hasF]] W fun e w'=>e= .returned (.string ⟨(whoU u).toArray⟩)∧Below x0.heap.size x0 w'):=fun W hW=>(z7R u pv W hul).mono (fun e w' h=>⟨h.1,zaF hW h.2⟩)
 have HAU:Hid (∀W,Below x0.heap.size x0 W→Calls Tryz.prog 66 #[.agg #[.string ⟨u.scheme.toArray⟩,.string ⟨u.user.toArray⟩,.string ⟨u.pass.toArray⟩,u.host.val,.int .i64 u.port,pv,.string ⟨u.query.toArray⟩,.bool u.hasQ,.string ⟨u.frag.toArray⟩,.bool u.hasF]] W fun e w'=>e= .returned (.string ⟨(zjB u).toArray⟩)∧Below x0.heap.size x0 w'):=fun W hW=>(znR u pv W hi hp (by omega) (zbB hpow (HUP.out W hW)) (zaL hbru (HUP.out W hW))).mono (fun e w' h=>⟨h.1,zaF hW h.2⟩)
 have HAS:Hid (∀W,Below x0.heap.size x0 W→Calls Tryz.prog 67 #[.agg #[.string ⟨u.scheme.toArray⟩,.string ⟨u.user.toArray⟩,.string ⟨u.pass.toArray⟩,u.host.val,.int .i64 u.port,pv,.string ⟨u.query.toArray⟩,.bool u.hasQ,.string ⟨u.frag.toArray⟩,.bool u.hasF]] W fun e w'=>e= .returned (.string ⟨(askU u).toArray⟩)∧Below x0.heap.size x0 w'):=fun W hW=>(z8B u pv W (hpv.keep (HUP.out W hW)) (by omega)).mono (fun e w' h=>⟨h.1,zaF hW h.2⟩)
 have a1: ∀W,(Op.stringOp .add ⟨u.scheme.toArray⟩ ⟨#[58,47,47]⟩).run Tryz.prog W= .ok (.string ⟨(u.scheme++[58,47,47]).toArray⟩) W:=zgI _ [58,47,47] (by simp;omega)
 have a2: ∀W,(Op.stringOp .add ⟨(u.scheme++[58,47,47]).toArray⟩ ⟨(whoU u).toArray⟩).run Tryz.prog W= .ok (.string ⟨(u.scheme++[58,47,47]++whoU u).toArray⟩) W:=zgI _ _ (by simp;omega)
 have a3: ∀W,(Op.stringOp .add ⟨(u.scheme++[58,47,47]++whoU u).toArray⟩ ⟨(zjB u).toArray⟩).run Tryz.prog W= .ok (.string ⟨(u.scheme++[58,47,47]++whoU u++zjB u).toArray⟩) W:=zgI _ _ (by simp;omega)
 have a4: ∀W,(Op.stringOp .add ⟨(u.scheme++[58,47,47]++whoU u++zjB u).toArray⟩ ⟨(askU u).toArray⟩).run Tryz.prog W= .ok (.string ⟨(u.scheme++[58,47,47]++whoU u++zjB u++askU u).toArray⟩) W:=zgI _ _ (by simp;omega)
 generalize u.scheme++[58,47,47]++whoU u++zjB u++askU u=t4 at*
 generalize u.scheme++[58,47,47]++whoU u++zjB u=t3 at*
 generalize u.scheme++[58,47,47]++whoU u=t2 at*
 generalize u.scheme++[58,47,47]=t1 at*
 generalize whoU u=tw at*
 generalize zjB u=ta at*
 generalize askU u=tk at*
 simp only [UZ.cells] at hx0 ⊢
 clear hU hbb hl hpow hbru hpv hp hul hi
 go_enter Tryz.func33,Tryz.ntmps33
 go_wp2_with fail
 rw [←hx0]
 clear hx0
 go_region_held3 (fun W=>W.cell? ⟨w.heap.size,0,none⟩=some (.string ⟨u.scheme.toArray⟩)∧W.cell? ⟨w.heap.size,1,none⟩=some (.string ⟨u.user.toArray⟩)∧W.cell? ⟨w.heap.size,2,none⟩=some (.string ⟨u.pass.toArray⟩)∧W.cell? ⟨w.heap.size,3,none⟩=some (u.host.val)∧W.cell? ⟨w.heap.size,4,none⟩=some (.int .i64 u.port)∧W.cell? ⟨w.heap.size,5,none⟩=some (pv)∧W.cell? ⟨w.heap.size,6,none⟩=some (.string ⟨u.query.toArray⟩)∧W.cell? ⟨w.heap.size,7,none⟩=some (.bool u.hasQ)∧W.cell? ⟨w.heap.size,8,none⟩=some (.string ⟨u.frag.toArray⟩)∧W.cell? ⟨w.heap.size,9,none⟩=some (.bool u.hasF))
  (first|exact HKK.out _ (zbG _)|exact HKK.out _ hb1|exact HKK.out _ hb2|exact HKK.out _ hb3)
  (first
   |(go_simp;go_at_call 65;((with_reducible refine (HWH.out _ (zbG _)).mono ?_);rintro e x1 ⟨rfl,hb1⟩))
   |(go_simp;go_at_call 66;((with_reducible refine (HAU.out _ hb1).mono ?_);rintro e x2 ⟨rfl,hb2⟩))
   |(go_simp;go_at_call 67;((with_reducible refine (HAS.out _ hb2).mono ?_);rintro e x3 ⟨rfl,hb3⟩)))
 go_wp2
 go_ret
 exact ⟨by rw [HF.out];try rfl,HB.out.trans (hb3.mono hws2)⟩
theorem ybN {u:UZ} (h:u.hasF=true):znM u=zhY u++[35]++u.frag:=by unfold znM;rw [if_pos h];simp
theorem ymA {u:UZ} (h:u.hasF=false):znM u=zhY u:=by unfold znM;rw [if_neg (by rw [h];decide),List.append_nil]
theorem ziX (u:UZ) (pv:Value) (w:World) (hpv:PV w pv u.path) (hi:u.host.In) (hp: -9223372036854775808≤u.port∧u.port≤9223372036854775807) (hl:(znM u).length≤1000000) (hul:u.user.length+u.pass.length≤1000000) (hpow:PowTab w) (hbru:BruTab w):
  Calls Tryz.prog 19 #[.agg (u.cells pv)] w (zeB w (znM u)):=by
 obtain ⟨x0,hx0⟩: ∃y,y=w.alloc (.cells (u.cells pv) 27):=⟨_,rfl⟩
 have hbb:Below w.heap.size w x0:=by rw [hx0];exact zaI w _
 have hU:UB x0 w.heap.size u pv:=by rw [hx0];exact UB.new w u pv
 have hws2:w.heap.size≤x0.heap.size:=Nat.le_of_lt (zaC hU)
 have HB:=Lib.hid hbb
 have HUP:=Lib.hid (fun W (hW:Below x0.heap.size x0 W)=>hbb.trans (hW.mono hws2))
 have HKK:Hid (∀x,Below x0.heap.size x0 x→x.cell? ⟨w.heap.size,0,none⟩=some (.string ⟨u.scheme.toArray⟩)∧x.cell? ⟨w.heap.size,1,none⟩=some (.string ⟨u.user.toArray⟩)∧x.cell? ⟨w.heap.size,2,none⟩=some (.string ⟨u.pass.toArray⟩)∧x.cell? ⟨w.heap.size,3,none⟩=some (u.host.val)∧x.cell? ⟨w.heap.size,4,none⟩=some (.int .i64 u.port)∧x.cell? ⟨w.heap.size,5,none⟩=some (pv)∧x.cell? ⟨w.heap.size,6,none⟩=some (.string ⟨u.query.toArray⟩)∧x.cell? ⟨w.heap.size,7,none⟩=some (.bool u.hasQ)∧x.cell? ⟨w.heap.size,8,none⟩=some (.string ⟨u.frag.toArray⟩)∧x.cell? ⟨w.heap.size,9,none⟩=some (.bool u.hasF)):=fun x hb=>by
  have h:=hU.below hb
  obtain ⟨d0,d1,d2,d3,d4,d5,d6,d7,d8,d9,-⟩:=h.all
  exact ⟨d0,d1,d2,d3,d4,d5,d6,d7,d8,d9⟩
 obtain ⟨d0,d1,d2,d3,d4,d5,d6,d7,d8,d9,-⟩:=hU.all
 have hbl:(zhY u).length≤1000000:=by unfold znM at hl;rw [List.length_append] at hl;omega
 have HBA:Hid (∀W,Below x0.heap.size x0 W→Calls Tryz.prog 33 #[.agg #[.string ⟨u.scheme.toArray⟩,.string ⟨u.user.toArray⟩,.string ⟨u.pass.toArray⟩,u.host.val,.int .i64 u.port,pv,.string ⟨u.query.toArray⟩,.bool u.hasQ,.string ⟨u.frag.toArray⟩,.bool u.hasF]] W fun e w'=>e= .returned (.string ⟨(zhY u).toArray⟩)∧Below x0.heap.size x0 w'):=fun W hW=>(z3W u pv W (hpv.keep (HUP.out W hW)) hi hp hbl hul (zbB hpow (HUP.out W hW)) (zaL hbru (HUP.out W hW))).mono (fun e w' h=>⟨h.1,zaF hW h.2⟩)
 clear hU hbb hpow hbru hpv hp hul hi
 cases hf:u.hasF with
 |false=>
  have HF:=Lib.hid (ymA hf)
  rw [hf] at d9 HBA
  simp only [UZ.cells] at hx0 ⊢
  rw [hf] at hx0 ⊢
  rw [hx0] at d0 d1 d2 d3 d4 d5 d6 d7 d8 d9
  generalize zhY u=tb at*
  clear hf hl hbl
  go_enter Tryz.func19,Tryz.ntmps19
  go_wp2_with fail
  rw [←hx0]
  clear hx0 d0 d1 d2 d3 d4 d5 d6 d7 d8 d9
  refine (HBA.out _ (Below.refl _ _)).mono ?_
  rintro e x1 ⟨rfl,hb1⟩
  go_wp2
  go_ret
  exact ⟨by rw [HF.out];try rfl,HB.out.trans (hb1.mono hws2)⟩
 |true=>
  have HF:=Lib.hid (ybN hf)
  rw [ybN hf] at hl
  simp only [List.length_append,List.length_cons,List.length_nil] at hl
  have a1: ∀W,(Op.stringOp .add ⟨(zhY u).toArray⟩ ⟨#[35]⟩).run Tryz.prog W= .ok (.string ⟨(zhY u++[35]).toArray⟩) W:=zgI _ [35] (by simp;omega)
  have a2: ∀W,(Op.stringOp .add ⟨(zhY u++[35]).toArray⟩ ⟨u.frag.toArray⟩).run Tryz.prog W= .ok (.string ⟨(zhY u++[35]++u.frag).toArray⟩) W:=zgI _ _ (by simp;omega)
  generalize zhY u++[35]++u.frag=t2 at*
  generalize zhY u++[35]=t1 at*
  generalize zhY u=tb at*
  rw [hf] at d9 HBA HKK
  simp only [UZ.cells] at hx0 ⊢
  rw [hf] at hx0 ⊢
  rw [hx0] at d0 d1 d2 d3 d4 d5 d6 d7 d8 d9
  clear hf hl hbl
  go_enter Tryz.func19,Tryz.ntmps19
  go_wp2_with fail
  rw [←hx0]
  clear hx0 d0 d1 d2 d3 d4 d5 d6 d7 d8 d9
  go_region_held3 (fun W=>W.cell? ⟨w.heap.size,0,none⟩=some (.string ⟨u.scheme.toArray⟩)∧W.cell? ⟨w.heap.size,1,none⟩=some (.string ⟨u.user.toArray⟩)∧W.cell? ⟨w.heap.size,2,none⟩=some (.string ⟨u.pass.toArray⟩)∧W.cell? ⟨w.heap.size,3,none⟩=some (u.host.val)∧W.cell? ⟨w.heap.size,4,none⟩=some (.int .i64 u.port)∧W.cell? ⟨w.heap.size,5,none⟩=some (pv)∧W.cell? ⟨w.heap.size,6,none⟩=some (.string ⟨u.query.toArray⟩)∧W.cell? ⟨w.heap.size,7,none⟩=some (.bool u.hasQ)∧W.cell? ⟨w.heap.size,8,none⟩=some (.string ⟨u.frag.toArray⟩)∧W.cell? ⟨w.heap.size,9,none⟩=some (.bool true))
   (first|exact HKK.out _ (zbG _)|exact HKK.out _ hb1)
   (first
    |(go_simp;go_at_call 33;((with_reducible refine (HBA.out _ (zbG _)).mono ?_);rintro e x1 ⟨rfl,hb1⟩)))
  go_wp2
  go_ret
  exact ⟨by rw [HF.out];try rfl,HB.out.trans (hb1.mono hws2)⟩
end

section
open Go.RowKit
theorem zzS (w:World) (hbru:BruTab w) (hmax:MaxVar w):
  Calls Tryz.prog 63 #[] w fun e w'=>e= .returned (.bool true)∧Below w.heap.size w w':=by
 go_enter Tryz.func63,Tryz.ntmps63
 go_wp2_with fail
 refine (zxK _ hbru hmax).mono ?_
 rintro e w' ⟨rfl,hb⟩
 go_wp2
 go_ret
 exact ⟨rfl,hb⟩
/-- the chapter's URL -/
def ex13:UZ:=⟨zdZ,[],[],.name [97,46,98],8080,[[120],[]],[],false,[],false⟩
theorem yiZ:znM ex13=[104,116,116,112,58,47,47,97,46,98,58,56,48,56,48,47,120,47]:=by decide+kernel
theorem zqM (W:World):Calls Tryz.prog 37 #[.string ⟨#[104,116,116,112]⟩] W fun e w'=>e= .returned (.int .i64 80)∧W=w':=zeN zdZ W
/-- the box's facts -/
theorem ykH {w x:World} {g:Nat} (h:UB x w.heap.size ex13 (.slice (some ⟨g,0,none⟩) 2 2)):x.cell? ⟨w.heap.size,0,none⟩=some (.string ⟨#[104,116,116,112]⟩)∧x.cell? ⟨w.heap.size,1,none⟩=some (.string ⟨#[]⟩)∧x.cell? ⟨w.heap.size,2,none⟩=some (.string ⟨#[]⟩)∧x.cell? ⟨w.heap.size,3,none⟩=some (.iface 83 (.string ⟨#[97,46,98]⟩))∧x.cell? ⟨w.heap.size,4,none⟩=some (.int .i64 8080)∧x.cell? ⟨w.heap.size,5,none⟩=some (.slice (some ⟨g,0,none⟩) 2 2)∧x.cell? ⟨w.heap.size,6,none⟩=some (.string ⟨#[]⟩)∧x.cell? ⟨w.heap.size,7,none⟩=some (.bool false)∧x.cell? ⟨w.heap.size,8,none⟩=some (.string ⟨#[]⟩)∧x.cell? ⟨w.heap.size,9,none⟩=some (.bool false):=by
 obtain ⟨d0,d1,d2,d3,d4,d5,d6,d7,d8,d9,-⟩:=h.all
 exact ⟨d0,d1,d2,d3,d4,d5,d6,d7,d8,d9⟩
theorem ygV (w:World) (g:Nat):UB (w.alloc (.cells #[.string ⟨#[104,116,116,112]⟩,.string ⟨#[]⟩,.string ⟨#[]⟩,.iface 83 (.string ⟨#[97,46,98]⟩),.int .i64 8080,.slice (some ⟨g,0,none⟩) 2 2,.string ⟨#[]⟩,.bool false,.string ⟨#[]⟩,.bool false] 27)) w.heap.size ex13 (.slice (some ⟨g,0,none⟩) 2 2):=heap_alloc_new w _
theorem ylN (g:Nat) (w:World):Calls Tryz.prog 104 #[.agg #[.string ⟨#[104,116,116,112]⟩,.string ⟨#[]⟩,.string ⟨#[]⟩,.iface 83 (.string ⟨#[97,46,98]⟩),.int .i64 8080,.slice (some ⟨g,0,none⟩) 2 2,.string ⟨#[]⟩,.bool false,.string ⟨#[]⟩,.bool false]] w (zcN w true):=by
 obtain ⟨x0,hx0⟩: ∃y,y=w.alloc (.cells #[.string ⟨#[104,116,116,112]⟩,.string ⟨#[]⟩,.string ⟨#[]⟩,.iface 83 (.string ⟨#[97,46,98]⟩),.int .i64 8080,.slice (some ⟨g,0,none⟩) 2 2,.string ⟨#[]⟩,.bool false,.string ⟨#[]⟩,.bool false] 27):=⟨_,rfl⟩
 have hU:UB x0 w.heap.size ex13 (.slice (some ⟨g,0,none⟩) 2 2):=by rw [hx0];exact ygV w g
 have hbb:Below w.heap.size w x0:=by rw [hx0];exact zaI w _
 have hlt:=zaC hU
 have HKK:Hid (∀x,Below x0.heap.size x0 x→x.cell? ⟨w.heap.size,0,none⟩=some (.string ⟨#[104,116,116,112]⟩)∧x.cell? ⟨w.heap.size,4,none⟩=some (.int .i64 8080)):=fun x hb=>by
  have h:=ykH (hU.below hb)
  exact ⟨h.1,h.2.2.2.2.1⟩
 have HB:=Lib.hid hbb
 have HOW:Hid (∀W,Below x0.heap.size x0 W→Calls Tryz.prog 37 #[.string ⟨#[104,116,116,112]⟩] W fun e w'=>e= .returned (.int .i64 80)∧Below x0.heap.size x0 w'):=fun W hW=>(zqM W).mono (fun e w' h=>⟨h.1,by rw [←h.2];exact hW⟩)
 clear hU hbb
 go_enter Tryz.func104,Tryz.ntmps104
 go_wp2_with fail
 rw [←hx0]
 clear hx0
 go_region_held3 (fun W=>W.cell? ⟨w.heap.size,0,none⟩=some (.string ⟨#[104,116,116,112]⟩)∧W.cell? ⟨w.heap.size,4,none⟩=some (.int .i64 8080))
  (first|exact HKK.out _ (zbG _)|exact HKK.out _ hb1)
  (first|(go_simp;go_at_call 37;((with_reducible refine (HOW.out _ (zbG _)).mono ?_);rintro e x1 ⟨rfl,hb1⟩)))
 go_wp2
 go_ret
 exact zaO rfl (HB.out.trans (hb1.mono (Nat.le_of_lt hlt)))
theorem asc1 {l:List UInt8} (h: ∀c∈l,c.toNat<128): ∀(j:Nat) b,(ByteArray.mk l.toArray).data.toList[j]? =some b→b.toNat<128:=fun j b e=>h b (by rw [zaW] at e;exact List.mem_of_getElem? e)
theorem ykP (g:Nat) (w:World) (hs:Seen w g [[120],[]]):Calls Tryz.prog 105 #[.agg #[.string ⟨#[104,116,116,112]⟩,.string ⟨#[]⟩,.string ⟨#[]⟩,.iface 83 (.string ⟨#[97,46,98]⟩),.int .i64 8080,.slice (some ⟨g,0,none⟩) 2 2,.string ⟨#[]⟩,.bool false,.string ⟨#[]⟩,.bool false]] w (zcN w true):=by
 obtain ⟨x0,hx0⟩: ∃y,y=w.alloc (.cells #[.string ⟨#[104,116,116,112]⟩,.string ⟨#[]⟩,.string ⟨#[]⟩,.iface 83 (.string ⟨#[97,46,98]⟩),.int .i64 8080,.slice (some ⟨g,0,none⟩) 2 2,.string ⟨#[]⟩,.bool false,.string ⟨#[]⟩,.bool false] 27):=⟨_,rfl⟩
 have hU:UB x0 w.heap.size ex13 (.slice (some ⟨g,0,none⟩) 2 2):=by rw [hx0];exact ygV w g
 have hbb:Below w.heap.size w x0:=by rw [hx0];exact zaI w _
 have hlt:=zaC hU
 have HKK:Hid (∀x,Below x0.heap.size x0 x→x.cell? ⟨w.heap.size,5,none⟩=some (.slice (some ⟨g,0,none⟩) 2 2)∧x.cell? ⟨g,0,none⟩=some (.string ⟨#[120]⟩)∧x.cell? ⟨g,1,none⟩=some (.string ⟨#[]⟩)):=fun x hb=>by
  have h:=ykH (hU.below hb)
  have hk:=hs.keep (hbb.trans (hb.mono (Nat.le_of_lt hlt)))
  exact ⟨h.2.2.2.2.2.1,hk.2 0 (by decide),hk.2 1 (by decide)⟩
 have HB:=Lib.hid hbb
 have HCA:Hid (∀W,Below x0.heap.size x0 W→Calls Tryz.prog 158 #[.string ⟨#[120]⟩,.string ⟨#[47,92,63,35]⟩] W fun e w'=>e= .returned (.bool false)∧Below x0.heap.size x0 w'):=fun W hW=>(Tryz.strings_ContainsAny_laid ⟨#[120]⟩ ⟨#[47,92,63,35]⟩ W (by decide) (by decide) (asc1 (l:=[120]) (by decide)) (asc1 (l:=[47,92,63,35]) (by decide))).mono (fun e w' h=>⟨h.1.trans (by rw [show Lib.containsAny (ByteArray.mk #[120]).data.toList (ByteArray.mk #[47,92,63,35]).data.toList=false by decide+kernel]),zaF hW h.2⟩)
 have HCB:Hid (∀W,Below x0.heap.size x0 W→Calls Tryz.prog 158 #[.string ⟨#[]⟩,.string ⟨#[47,92,63,35]⟩] W fun e w'=>e= .returned (.bool false)∧Below x0.heap.size x0 w'):=fun W hW=>(Tryz.strings_ContainsAny_laid ⟨#[]⟩ ⟨#[47,92,63,35]⟩ W (by decide) (by decide) (asc1 (l:=[]) (by decide)) (asc1 (l:=[47,92,63,35]) (by decide))).mono (fun e w' h=>⟨h.1.trans (by rw [show Lib.containsAny (ByteArray.mk #[]).data.toList (ByteArray.mk #[47,92,63,35]).data.toList=false by decide+kernel]),zaF hW h.2⟩)
 obtain ⟨q5,-,-⟩:=HKK.out x0 (Below.refl _ _)
 rw [hx0] at q5
 clear hU hbb hs
 go_enter Tryz.func105,Tryz.ntmps105
 go_wp2
 rw [←hx0]
 clear hx0 q5
 go_loopw [8] (fun i wr=> ∃k:Nat,k≤2∧i= .int .i64 k∧Hid (Below x0.heap.size x0 wr)) (fun i _=>2 - (intOf i).toNat)
 case atStart=>exact ⟨0,by omega,rfl,Below.refl _ _⟩
 case round=>
  obtain ⟨k,hk,rfl,HBW⟩:=hrel
  obtain ⟨c5,c0,c1⟩:=HKK.out _ HBW.out
  rcases (show k=0∨k=1∨k=2 by omega) with rfl|rfl|rfl
  ·go_wp2_with fail
   refine (HCA.out _ HBW.out).mono ?_
   rintro e x1 ⟨rfl,hb1⟩
   have HB1:=Lib.hid hb1
   clear hb1 c5 c0 c1
   go_wp2
   go_roundw
   case rel=>exact ⟨1,by omega,rfl,HB1.out⟩
   case measure=>simp [intOf]
  ·go_wp2_with fail
   refine (HCB.out _ HBW.out).mono ?_
   rintro e x1 ⟨rfl,hb1⟩
   have HB1:=Lib.hid hb1
   clear hb1 c5 c0 c1
   go_wp2
   go_roundw
   case rel=>exact ⟨2,by omega,rfl,HB1.out⟩
   case measure=>simp [intOf]
  ·go_wp2
   go_ret
   exact zaO rfl (HB.out.trans (HBW.out.mono (Nat.le_of_lt hlt)))
theorem rqry13 (g:Nat) (w:World):Calls Tryz.prog 106 #[.agg #[.string ⟨#[104,116,116,112]⟩,.string ⟨#[]⟩,.string ⟨#[]⟩,.iface 83 (.string ⟨#[97,46,98]⟩),.int .i64 8080,.slice (some ⟨g,0,none⟩) 2 2,.string ⟨#[]⟩,.bool false,.string ⟨#[]⟩,.bool false]] w (zcN w true):=by
 have hbb:=zaI w #[.string ⟨#[104,116,116,112]⟩,.string ⟨#[]⟩,.string ⟨#[]⟩,.iface 83 (.string ⟨#[97,46,98]⟩),.int .i64 8080,.slice (some ⟨g,0,none⟩) 2 2,.string ⟨#[]⟩,.bool false,.string ⟨#[]⟩,.bool false]
 go_enter Tryz.func106,Tryz.ntmps106
 go_wp2
 go_ret
 exact zaO rfl hbb
theorem rfrg13 (g:Nat) (w:World):Calls Tryz.prog 107 #[.agg #[.string ⟨#[104,116,116,112]⟩,.string ⟨#[]⟩,.string ⟨#[]⟩,.iface 83 (.string ⟨#[97,46,98]⟩),.int .i64 8080,.slice (some ⟨g,0,none⟩) 2 2,.string ⟨#[]⟩,.bool false,.string ⟨#[]⟩,.bool false]] w (zcN w true):=by
 have hbb:=zaI w #[.string ⟨#[104,116,116,112]⟩,.string ⟨#[]⟩,.string ⟨#[]⟩,.iface 83 (.string ⟨#[97,46,98]⟩),.int .i64 8080,.slice (some ⟨g,0,none⟩) 2 2,.string ⟨#[]⟩,.bool false,.string ⟨#[]⟩,.bool false]
 go_enter Tryz.func107,Tryz.ntmps107
 go_wp2
 go_ret
 exact zaO rfl hbb
theorem z8X:yaY (.name [97,46,98])=true:=by decide+kernel
theorem z0P (g:Nat) (w:World) (hs:Seen w g [[120],[]]):Calls Tryz.prog 64 #[.agg #[.string ⟨#[104,116,116,112]⟩,.string ⟨#[]⟩,.string ⟨#[]⟩,.iface 83 (.string ⟨#[97,46,98]⟩),.int .i64 8080,.slice (some ⟨g,0,none⟩) 2 2,.string ⟨#[]⟩,.bool false,.string ⟨#[]⟩,.bool false]] w (zcN w true):=by
 obtain ⟨x0,hx0⟩: ∃y,y=w.alloc (.cells #[.string ⟨#[104,116,116,112]⟩,.string ⟨#[]⟩,.string ⟨#[]⟩,.iface 83 (.string ⟨#[97,46,98]⟩),.int .i64 8080,.slice (some ⟨g,0,none⟩) 2 2,.string ⟨#[]⟩,.bool false,.string ⟨#[]⟩,.bool false] 27):=⟨_,rfl⟩
 have hU:UB x0 w.heap.size ex13 (.slice (some ⟨g,0,none⟩) 2 2):=by rw [hx0];exact ygV w g
 have hbb:Below w.heap.size w x0:=by rw [hx0];exact zaI w _
 have hlt:=Nat.le_of_lt (zaC hU)
 have HKK:Hid (∀x,Below x0.heap.size x0 x→x.cell? ⟨w.heap.size,0,none⟩=some (.string ⟨#[104,116,116,112]⟩)∧x.cell? ⟨w.heap.size,1,none⟩=some (.string ⟨#[]⟩)∧x.cell? ⟨w.heap.size,2,none⟩=some (.string ⟨#[]⟩)∧x.cell? ⟨w.heap.size,3,none⟩=some (.iface 83 (.string ⟨#[97,46,98]⟩))∧x.cell? ⟨w.heap.size,4,none⟩=some (.int .i64 8080)∧x.cell? ⟨w.heap.size,5,none⟩=some (.slice (some ⟨g,0,none⟩) 2 2)∧x.cell? ⟨w.heap.size,6,none⟩=some (.string ⟨#[]⟩)∧x.cell? ⟨w.heap.size,7,none⟩=some (.bool false)∧x.cell? ⟨w.heap.size,8,none⟩=some (.string ⟨#[]⟩)∧x.cell? ⟨w.heap.size,9,none⟩=some (.bool false)):=fun x hb=>ykH (hU.below hb)
 have HB:=Lib.hid hbb
 have HSE:=Lib.hid (fun x (hb:Below x0.heap.size x0 x)=>hs.keep (hbb.trans (hb.mono hlt)))
 have HHR:Hid (∀W,Calls Tryz.prog 103 #[.iface 83 (.string ⟨#[97,46,98]⟩)] W (zcN W true)):=fun W=>by
  have:=zsF (.name [97,46,98]) W (by show (3:Nat)≤_;decide)
  rw [z8X] at this
  exact this
 obtain ⟨d0,d1,d2,d3,d4,d5,d6,d7,d8,d9⟩:=HKK.out x0 (Below.refl _ _)
 rw [hx0] at d0 d1 d2 d3 d4 d5 d6 d7 d8 d9
 clear hU hbb hs
 go_enter Tryz.func64,Tryz.ntmps64
 go_wp2_with fail
 rw [←hx0] at d0 d1 d2 d3 d4 d5 d6 d7 d8 d9 ⊢
 clear hx0
 refine (zqM _).mono ?_
 rintro e w' ⟨rfl,rfl⟩
 go_wp2_with fail
 refine (HHR.out _).mono ?_
 rintro e x1 ⟨rfl,hb1⟩
 clear d0 d1 d2 d3 d4 d5 d6 d7 d8 d9
 obtain ⟨d0,d1,d2,d3,d4,d5,d6,d7,d8,d9⟩:=HKK.out _ hb1
 go_wp2_with fail
 refine (ylN g _).mono ?_
 rintro e x2 ⟨rfl,hb2⟩
 have hc2:=zaF hb1 hb2
 clear d0 d1 d2 d3 d4 d5 d6 d7 d8 d9 hb1 hb2
 obtain ⟨d0,d1,d2,d3,d4,d5,d6,d7,d8,d9⟩:=HKK.out _ hc2
 go_wp2_with fail
 refine (ykP g _ (HSE.out _ hc2)).mono ?_
 rintro e x3 ⟨rfl,hb3⟩
 have hc3:=zaF hc2 hb3
 clear d0 d1 d2 d3 d4 d5 d6 d7 d8 d9 hc2 hb3
 obtain ⟨d0,d1,d2,d3,d4,d5,d6,d7,d8,d9⟩:=HKK.out _ hc3
 go_wp2_with fail
 refine (rqry13 g _).mono ?_
 rintro e x4 ⟨rfl,hb4⟩
 have hc4:=zaF hc3 hb4
 clear d0 d1 d2 d3 d4 d5 d6 d7 d8 d9 hc3 hb4
 obtain ⟨d0,d1,d2,d3,d4,d5,d6,d7,d8,d9⟩:=HKK.out _ hc4
 go_wp2_with fail
 refine (rfrg13 g _).mono ?_
 rintro e x5 ⟨rfl,hb5⟩
 have hc5:=zaF hc4 hb5
 clear d0 d1 d2 d3 d4 d5 d6 d7 d8 d9 hc4 hb5
 go_wp2
 go_ret
 exact zaO rfl (HB.out.trans (hc5.mono hlt))
theorem yeW (w:World) (t:TypeId):Seen (w.alloc (.cells #[.string ⟨#[120]⟩,.string ⟨#[]⟩] t)) w.heap.size [[120],[]]:=
 ⟨by simp,fun j hj=>by
  have h:=heap_alloc_new w (.cells #[.string ⟨#[120]⟩,.string ⟨#[]⟩] t)
  match j,hj with
  |0,_=>exact zaD h 0
  |1,_=>exact zaD h 1⟩
theorem zxB (w:World) (hpow:PowTab w) (hbru:BruTab w) (hmax:MaxVar w):
  Calls Tryz.prog 32 #[] w fun e w'=>e= .returned (.bool true)∧Below w.heap.size w w':=by
 have HP:Hid (Calls Tryz.prog 62 #[.string ⟨#[97,46,98]⟩] w fun e w'=>e= .returned (.tuple #[.iface 83 (.string ⟨#[97,46,98]⟩),.int .i64 0])∧Below w.heap.size w w'):=(zdD ⟨#[97,46,98]⟩ w (by decide) hmax).mono (fun e w' h=>by
  rw [show zcR (ByteArray.mk #[97,46,98]).data.toList=(.name [97,46,98],0) from ydS] at h
  exact h)
 have HTW:=Lib.hid hpow
 have HTB:=Lib.hid hbru
 have HTM:=Lib.hid hmax
 clear hpow hbru hmax
 go_enter Tryz.func32,Tryz.ntmps32
 go_wp2_with fail
 refine HP.out.mono ?_
 rintro e x1 ⟨rfl,hb1⟩
 obtain ⟨x2,hx2⟩: ∃y,y=x1.alloc (.cells #[.string ⟨#[120]⟩,.string ⟨#[]⟩] 9):=⟨_,rfl⟩
 have hb2:Below x1.heap.size x1 x2:=by rw [hx2];exact (Below.refl _ _).alloc (Nat.le_refl _) _
 have hs2:Seen x2 x1.heap.size [[120],[]]:=by rw [hx2];exact yeW x1 _
 have hsz:x2.heap.size=x1.heap.size+1:=by rw [hx2];simp
 obtain ⟨g,hg⟩: ∃g,g=x1.heap.size:=⟨_,rfl⟩
 rw [←hg] at hs2
 obtain ⟨x3,hx3⟩: ∃y,y=x2.alloc (.cells #[.string ⟨#[104,116,116,112]⟩,.string ⟨#[]⟩,.string ⟨#[]⟩,.iface 83 (.string ⟨#[97,46,98]⟩),.int .i64 8080,.slice (some ⟨g,0,none⟩) 2 2,.string ⟨#[]⟩,.bool false,.string ⟨#[]⟩,.bool false] 27):=⟨_,rfl⟩
 have hb3:Below x2.heap.size x2 x3:=by rw [hx3];exact zaI x2 _
 have hU3:UB x3 x2.heap.size ex13 (.slice (some ⟨g,0,none⟩) 2 2):=by rw [hx3];exact ygV x2 g
 have hc3:=zaF (zaF hb1 hb2) hb3
 have HSE:=Lib.hid (fun x (hb:Below x3.heap.size x3 x)=>(hs2.keep hb3).keep hb)
 have HKK:Hid (∀x,Below x3.heap.size x3 x→x.cell? ⟨x2.heap.size,0,none⟩=some (.string ⟨#[104,116,116,112]⟩)∧x.cell? ⟨x2.heap.size,1,none⟩=some (.string ⟨#[]⟩)∧x.cell? ⟨x2.heap.size,2,none⟩=some (.string ⟨#[]⟩)∧x.cell? ⟨x2.heap.size,3,none⟩=some (.iface 83 (.string ⟨#[97,46,98]⟩))∧x.cell? ⟨x2.heap.size,4,none⟩=some (.int .i64 8080)∧x.cell? ⟨x2.heap.size,5,none⟩=some (.slice (some ⟨g,0,none⟩) 2 2)∧x.cell? ⟨x2.heap.size,6,none⟩=some (.string ⟨#[]⟩)∧x.cell? ⟨x2.heap.size,7,none⟩=some (.bool false)∧x.cell? ⟨x2.heap.size,8,none⟩=some (.string ⟨#[]⟩)∧x.cell? ⟨x2.heap.size,9,none⟩=some (.bool false)):=fun x hb=>by
  obtain ⟨d0,d1,d2,d3,d4,d5,d6,d7,d8,d9,-⟩:=(hU3.below hb).all
  exact ⟨d0,d1,d2,d3,d4,d5,d6,d7,d8,d9⟩
 have HC3:=Lib.hid hc3
 rw [hx2] at hx3
 rw [hsz,←hg] at HKK
 clear hb1 hb2 hb3 hs2 hU3 hsz hx2 hc3 HP
 go_wp2_with fail
 rw [←hg,←hx3]
 clear hx3
 clear hg
 refine (zzS _ (zaL HTB.out HC3.out) (zaB HTM.out HC3.out)).mono ?_
 rintro e x4 ⟨rfl,hb4⟩
 obtain ⟨d0,d1,d2,d3,d4,d5,d6,d7,d8,d9⟩:=HKK.out _ hb4
 have hc4:=zaF HC3.out hb4
 have HTX:Hid (Calls Tryz.prog 19 #[.agg #[.string ⟨#[104,116,116,112]⟩,.string ⟨#[]⟩,.string ⟨#[]⟩,.iface 83 (.string ⟨#[97,46,98]⟩),.int .i64 8080,.slice (some ⟨g,0,none⟩) 2 2,.string ⟨#[]⟩,.bool false,.string ⟨#[]⟩,.bool false]] x4 fun e w'=>e= .returned (.string ⟨#[104,116,116,112,58,47,47,97,46,98,58,56,48,56,48,47,120,47]⟩)∧Below x4.heap.size x4 w'):=(ziX ex13 (.slice (some ⟨g,0,none⟩) 2 2) x4 (.inr ⟨g,2,rfl,Nat.le_refl _,HSE.out _ hb4⟩) trivial ⟨by decide,by decide⟩ (by rw [yiZ];decide) (by decide) (zbB HTW.out hc4) (zaL HTB.out hc4)).mono (fun e w' h=>by
  unfold zeB at h
  rw [yiZ] at h
  exact h)
 have HC4:=Lib.hid hc4
 have HB4:=Lib.hid hb4
 clear hc4 hb4
 go_wp2_with fail
 refine HTX.out.mono ?_
 rintro e x5 ⟨rfl,hb5⟩
 have HB5:=Lib.hid (zaF HB4.out hb5)
 clear d0 d1 d2 d3 d4 d5 d6 d7 d8 d9 HTX hb5
 obtain ⟨d0,d1,d2,d3,d4,d5,d6,d7,d8,d9⟩:=HKK.out _ HB5.out
 go_wp2_with fail
 refine (z0P g _ (HSE.out _ HB5.out)).mono ?_
 rintro e x6 ⟨rfl,hb6⟩
 have HC6:=Lib.hid (HC3.out.trans ((zaF HB5.out hb6).mono HC3.out.size))
 clear d0 d1 d2 d3 d4 d5 d6 d7 d8 d9 hb6
 go_wp2
 go_ret
 exact ⟨rfl,HC6.out⟩
theorem zyQ (w:World) (hpow:PowTab w) (hbru:BruTab w) (hmax:MaxVar w):
  Calls Tryz.prog 18 #[] w fun e w'=>e= .returned (.bool true)∧Below w.heap.size w w':=by
 go_enter Tryz.func18,Tryz.ntmps18
 go_wp2_with fail
 refine (zxB _ hpow hbru hmax).mono ?_
 rintro e w' ⟨rfl,hb⟩
 go_wp2
 go_ret
 exact ⟨rfl,hb⟩
theorem z2O (w:World) (l:List UInt8) (t:TypeId):Seen (w.alloc (.cells #[.string ⟨l.toArray⟩] t)) w.heap.size [l]:=
 ⟨by simp,fun j hj=>by
  have h:=heap_alloc_new w (.cells #[.string ⟨l.toArray⟩] t)
  match j,hj with
  |0,_=>exact zaD h 0⟩
theorem ex14_c:zfU (zbT [104,116,116,112,58,47,47,97,46,98,47,99,47,100] none) [[46,46,47,101]]=(zwE,0):=by rw [yiN,zfU,if_pos rfl,ex14_3];rfl
theorem ex14_d:zfU (zbT [104,116,116,112,58,47,47,97,46,98,47,99,47,100] none) [[104,116,116,112,115,58,101]]=(zwX,0):=by rw [yiN,zfU,if_pos rfl,ex14_4];rfl
theorem zuH (w:World) (hpow:PowTab w) (hbru:BruTab w) (hmax:MaxVar w):
  Calls Tryz.prog 6 #[] w fun e w'=>e= .returned (.bool true)∧Below w.heap.size w w':=by
 have HTW:=Lib.hid hpow
 have HTB:=Lib.hid hbru
 have HTM:=Lib.hid hmax
 have HA:=zhW [72,84,84,80,58,92,92,65,46,98,58,48,56,48,47,120,47,46,46,47,37,50,69,47,121,63,113,35,102] w hmax (by decide)
 rw [ex14_1] at HA
 have HA:=Lib.hid HA
 clear hpow hbru hmax
 go_enter Tryz.func6,Tryz.ntmps6
 go_wp2_with fail
 refine HA.out.mono ?_
 rintro e x1 ⟨pa,rfl,hp1,hb1⟩
 obtain ⟨aa,an,ac,rfl⟩:=hp1.pv.shape
 obtain ⟨y1,hy1⟩: ∃y,y=x1.alloc (.cells #[.string ⟨#[104,116,116,112]⟩,.string ⟨#[]⟩,.string ⟨#[]⟩,.iface 83 (.string ⟨#[97,46,98]⟩),.int .i64 (-1),.slice aa an ac,.string ⟨#[113]⟩,.bool true,.string ⟨#[102]⟩,.bool true] 27):=⟨_,rfl⟩
 have hc1:Below x1.heap.size x1 y1:=by rw [hy1];exact zaI x1 _
 have hU1:UB y1 x1.heap.size zzO (.slice aa an ac):=by rw [hy1];exact UB.new x1 zzO _
 have HUA:=Lib.hid (fun x (h:Below y1.heap.size y1 x)=>hU1.below h)
 have HPA:=Lib.hid (fun x (h:Below y1.heap.size y1 x)=>(hp1.pv.keep hc1).keep h)
 have HB1:=Lib.hid (zaF hb1 hc1)
 obtain ⟨z1,hz1⟩: ∃y,y=y1.alloc (.cells #[.string ⟨#[46,46,47,101]⟩] 9):=⟨_,rfl⟩
 have hd1:Below y1.heap.size y1 z1:=by rw [hz1];exact (Below.refl _ _).alloc (Nat.le_refl _) _
 have hs1:Seen z1 y1.heap.size [[46,46,47,101]]:=by rw [hz1];exact z2O y1 [46,46,47,101] _
 have HCA:=znS [104,116,116,112,58,47,47,97,46,98,47,99,47,100] (.slice (some ⟨y1.heap.size,0,none⟩) 1 1) [[46,46,47,101]] z1 (zaB HTM.out (zaF HB1.out hd1)) (by decide) (.inr ⟨_,_,rfl,Nat.le_refl _,hs1⟩) (by decide) (by decide)
 rw [ex14_c] at HCA
 have HCA:=Lib.hid HCA
 have HD1:=Lib.hid hd1
 obtain ⟨ga,hga⟩: ∃g,g=x1.heap.size:=⟨_,rfl⟩
 have hsy:y1.heap.size=ga+1:=by rw [hy1,hga];simp
 rw [←hga] at HUA
 rw [hsy] at HCA
 rw [hy1] at hz1
 clear hb1 hc1 hU1 hp1 hd1 hs1 HA
 simp only [UZ.cells,zzO,zdZ,HZ.val]
 go_wp2_with fail
 rw [←hga,←hz1]
 clear hga hy1 hz1
 refine HCA.out.mono ?_
 rintro e x2 ⟨pc,rfl,hp2,hb2⟩
 obtain ⟨ca,cn,cc,rfl⟩:=hp2.pv.shape
 have HZ2:=Lib.hid (HD1.out.trans (hb2.mono HD1.out.size))
 obtain ⟨y2,hy2⟩: ∃y,y=x2.alloc (.cells #[.string ⟨#[104,116,116,112]⟩,.string ⟨#[]⟩,.string ⟨#[]⟩,.iface 83 (.string ⟨#[97,46,98]⟩),.int .i64 (-1),.slice ca cn cc,.string ⟨#[]⟩,.bool false,.string ⟨#[]⟩,.bool false] 27):=⟨_,rfl⟩
 have hc2:Below x2.heap.size x2 y2:=by rw [hy2];exact zaI x2 _
 have hU2:UB y2 x2.heap.size zwE (.slice ca cn cc):=by rw [hy2];exact UB.new x2 zwE _
 have HUC:=Lib.hid (fun x (h:Below y2.heap.size y2 x)=>hU2.below h)
 have HPC:=Lib.hid (fun x (h:Below y2.heap.size y2 x)=>(hp2.pv.keep hc2).keep h)
 have HB2:=Lib.hid (HZ2.out.trans (hc2.mono HZ2.out.size))
 obtain ⟨z2,hz2⟩: ∃y,y=y2.alloc (.cells #[.string ⟨#[104,116,116,112,115,58,101]⟩] 9):=⟨_,rfl⟩
 have hd2:Below y2.heap.size y2 z2:=by rw [hz2];exact (Below.refl _ _).alloc (Nat.le_refl _) _
 have hs2:Seen z2 y2.heap.size [[104,116,116,112,115,58,101]]:=by rw [hz2];exact z2O y2 [104,116,116,112,115,58,101] _
 have hall2:=zaF HB1.out (zaF HB2.out hd2)
 have HCD:=znS [104,116,116,112,58,47,47,97,46,98,47,99,47,100] (.slice (some ⟨y2.heap.size,0,none⟩) 1 1) [[104,116,116,112,115,58,101]] z2 (zaB HTM.out hall2) (by decide) (.inr ⟨_,_,rfl,Nat.le_refl _,hs2⟩) (by decide) (by decide)
 rw [ex14_d] at HCD
 have HCD:=Lib.hid HCD
 have HD2:=Lib.hid hd2
 obtain ⟨gc,hgc⟩: ∃g,g=x2.heap.size:=⟨_,rfl⟩
 have hsy2:y2.heap.size=gc+1:=by rw [hy2,hgc];simp
 rw [←hgc] at HUC
 rw [hsy2] at HCD
 rw [hy2] at hz2
 clear hb2 hc2 hU2 hp2 hd2 hs2 HCA hall2
 simp only [UZ.cells,zwE,zdZ,HZ.val]
 go_wp2_with fail
 rw [←hgc,←hz2]
 clear hgc hy2 hz2
 refine HCD.out.mono ?_
 rintro e x3 ⟨pd,rfl,hp3,hb3⟩
 obtain ⟨da,dn,dc,rfl⟩:=hp3.pv.shape
 have HZ3:=Lib.hid (HD2.out.trans (hb3.mono HD2.out.size))
 obtain ⟨y3,hy3⟩: ∃y,y=x3.alloc (.cells #[.string ⟨#[104,116,116,112,115]⟩,.string ⟨#[]⟩,.string ⟨#[]⟩,.iface 83 (.string ⟨#[101]⟩),.int .i64 (-1),.slice da dn dc,.string ⟨#[]⟩,.bool false,.string ⟨#[]⟩,.bool false] 27):=⟨_,rfl⟩
 have hc3:Below x3.heap.size x3 y3:=by rw [hy3];exact zaI x3 _
 have hU3:UB y3 x3.heap.size zwX (.slice da dn dc):=by rw [hy3];exact UB.new x3 zwX _
 have HUD:=Lib.hid (fun x (h:Below y3.heap.size y3 x)=>hU3.below h)
 have HPD:=Lib.hid (fun x (h:Below y3.heap.size y3 x)=>(hp3.pv.keep hc3).keep h)
 have HB3:=Lib.hid (HZ3.out.trans (hc3.mono HZ3.out.size))
 have HALL:=Lib.hid (zaF HB1.out (zaF HB2.out HB3.out))
 obtain ⟨gd,hgd⟩: ∃g,g=x3.heap.size:=⟨_,rfl⟩
 rw [←hgd] at HUD
 clear hb3 hc3 hU3 hp3 HCD hsy hsy2
 simp only [UZ.cells,zwX,zdY,HZ.val]
 go_wp2_with fail
 rw [←hgd,←hy3]
 clear hgd hy3
 refine (zyQ _ (zbB HTW.out HALL.out) (zaL HTB.out HALL.out) (zaB HTM.out HALL.out)).mono ?_
 rintro e x4 ⟨rfl,hb4⟩
 have HX4:=Lib.hid hb4
 clear hb4
 have hu5:=HUA.out _ (zaF (zaF HB2.out HB3.out) HX4.out)
 obtain ⟨d0,d1,d2,d3,d4,d5,d6,d7,d8,d9,-⟩:=hu5.all
 simp only [zzO,zdZ,HZ.val] at d0 d1 d2 d3 d4 d5 d6 d7 d8 d9
 have HTX:Hid (Calls Tryz.prog 19 #[.agg #[.string ⟨#[104,116,116,112]⟩,.string ⟨#[]⟩,.string ⟨#[]⟩,.iface 83 (.string ⟨#[97,46,98]⟩),.int .i64 (-1),.slice aa an ac,.string ⟨#[113]⟩,.bool true,.string ⟨#[102]⟩,.bool true]] x4 fun e w'=>e= .returned (.string ⟨#[104,116,116,112,58,47,47,97,46,98,47,121,63,113,35,102]⟩)∧Below x4.heap.size x4 w'):=(ziX zzO (.slice aa an ac) x4 (HPA.out _ (zaF (zaF HB2.out HB3.out) HX4.out)) trivial ⟨by decide,by decide⟩ (by rw [zrH.1];decide) (by decide) (zbB HTW.out (zaF HALL.out HX4.out)) (zaL HTB.out (zaF HALL.out HX4.out))).mono (fun e w' h=>by
  unfold zeB at h
  rw [zrH.1] at h
  exact h)
 clear hu5
 go_wp2_with fail
 refine HTX.out.mono ?_
 rintro e x5 ⟨rfl,hb5⟩
 have HX5:=Lib.hid (zaF HX4.out hb5)
 clear hb5 HTX d0 d1 d2 d3 d4 d5 d6 d7 d8 d9
 have hu6:=HUC.out _ (zaF HB3.out HX5.out)
 obtain ⟨d0,d1,d2,d3,d4,d5,d6,d7,d8,d9,-⟩:=hu6.all
 simp only [zwE,zdZ,HZ.val] at d0 d1 d2 d3 d4 d5 d6 d7 d8 d9
 have HTX:Hid (Calls Tryz.prog 19 #[.agg #[.string ⟨#[104,116,116,112]⟩,.string ⟨#[]⟩,.string ⟨#[]⟩,.iface 83 (.string ⟨#[97,46,98]⟩),.int .i64 (-1),.slice ca cn cc,.string ⟨#[]⟩,.bool false,.string ⟨#[]⟩,.bool false]] x5 fun e w'=>e= .returned (.string ⟨#[104,116,116,112,58,47,47,97,46,98,47,101]⟩)∧Below x5.heap.size x5 w'):=(ziX zwE (.slice ca cn cc) x5 (HPC.out _ (zaF HB3.out HX5.out)) trivial ⟨by decide,by decide⟩ (by rw [zrH.2.1];decide) (by decide) (zbB HTW.out (zaF HALL.out HX5.out)) (zaL HTB.out (zaF HALL.out HX5.out))).mono (fun e w' h=>by
  unfold zeB at h
  rw [zrH.2.1] at h
  exact h)
 clear hu6
 go_wp2_with fail
 refine HTX.out.mono ?_
 rintro e x6 ⟨rfl,hb6⟩
 have HX6:=Lib.hid (zaF HX5.out hb6)
 clear hb6 HTX d0 d1 d2 d3 d4 d5 d6 d7 d8 d9
 have hu7:=HUD.out _ (HX6.out)
 obtain ⟨d0,d1,d2,d3,d4,d5,d6,d7,d8,d9,-⟩:=hu7.all
 simp only [zwX,zdY,HZ.val] at d0 d1 d2 d3 d4 d5 d6 d7 d8 d9
 have HTX:Hid (Calls Tryz.prog 19 #[.agg #[.string ⟨#[104,116,116,112,115]⟩,.string ⟨#[]⟩,.string ⟨#[]⟩,.iface 83 (.string ⟨#[101]⟩),.int .i64 (-1),.slice da dn dc,.string ⟨#[]⟩,.bool false,.string ⟨#[]⟩,.bool false]] x6 fun e w'=>e= .returned (.string ⟨#[104,116,116,112,115,58,47,47,101,47]⟩)∧Below x6.heap.size x6 w'):=(ziX zwX (.slice da dn dc) x6 (HPD.out _ (HX6.out)) trivial ⟨by decide,by decide⟩ (by rw [zrH.2.2];decide) (by decide) (zbB HTW.out (zaF HALL.out HX6.out)) (zaL HTB.out (zaF HALL.out HX6.out))).mono (fun e w' h=>by
  unfold zeB at h
  rw [zrH.2.2] at h
  exact h)
 clear hu7
 go_wp2_with fail
 refine HTX.out.mono ?_
 rintro e x7 ⟨rfl,hb7⟩
 have HX7:=Lib.hid (zaF HX6.out hb7)
 clear hb7 HTX d0 d1 d2 d3 d4 d5 d6 d7 d8 d9
 go_wp2
 go_ret
 exact ⟨rfl,zaF HALL.out HX7.out⟩
end

section
open Go.RowKit
theorem yhJ (p1 p2:Value) (ps:List (List UInt8)) (w:World) (h1:PV w p1 ps) (h2:PV w p2 ps) (hl:ps.length≤1000000000):
  Calls Tryz.prog 60 #[p1,p2] w (zcN w true):=by
 by_cases hn:ps=[]
 ·subst hn
  obtain ⟨a1,c1,e1⟩: ∃a c,p1= .slice a 0 c:=by
   rcases h1 with ⟨_,h⟩|⟨g,c,h,_⟩
   ·exact ⟨_,_,h⟩
   ·exact ⟨_,_,h⟩
  obtain ⟨a2,c2,e2⟩: ∃a c,p2= .slice a 0 c:=by
   rcases h2 with ⟨_,h⟩|⟨g,c,h,_⟩
   ·exact ⟨_,_,h⟩
   ·exact ⟨_,_,h⟩
  rw [e1,e2]
  refine (Tryz.slices_Equal_string_empty a1 a2 c1 0 c2 w (by decide)).mono ?_
  rintro e w' ⟨rfl,rfl⟩
  exact zaO rfl (Below.refl _ _)
 ·rcases h1 with ⟨h,_⟩|⟨g,c,rfl,hc,hs⟩
  ·exact absurd h hn
  rcases h2 with ⟨h,_⟩|⟨g2,c2,rfl,hc2,hs2⟩
  ·exact absurd h hn
  have hz:(ps.map fun p=>(⟨p.toArray⟩:ByteArray)).length=ps.length:=by simp
  have key: ∀gg,Seen w gg ps→ ∀j,j<(ps.map fun p=>(⟨p.toArray⟩:ByteArray)).length→w.cell? ⟨gg,0+j,none⟩=some (.string ((ps.map fun p=>(⟨p.toArray⟩:ByteArray)).getD j ByteArray.empty)):=fun gg hg j hj=>by
   rw [hz] at hj
   rw [Nat.zero_add,hg.2 j hj]
   simp [List.getD,List.getElem?_eq_getElem hj]
  refine (Tryz.slices_Equal_string g 0 ps.length c g2 0 ps.length c2 (ps.map fun p=>⟨p.toArray⟩) (ps.map fun p=>⟨p.toArray⟩) w (by rw [hz];exact Nat.le_refl _) (by rw [hz];exact Nat.le_refl _) (by omega) (by omega) (key g hs) (key g2 hs2)).mono ?_
  rintro e w' ⟨rfl,q,rfl⟩
  exact zaO (by simp) (zbY (Below.refl _ _) _)
theorem zpY (h:HZ) (w:World) (ho:h.In) (hpow:PowTab w) (hbru:BruTab w):
  Calls Tryz.prog 59 #[h.val,h.val] w (zcN w true):=by
 have HK:=Lib.hid (fun W=>zvJ h W)
 have HW:=Lib.hid (fun W (hb:Below w.heap.size w W)=>zkN h W ho (zbB hpow hb) (zaL hbru hb))
 clear hpow hbru
 generalize kindZ h=kz at*
 generalize zfG h=wz at*
 generalize h.val=hv at*
 go_enter Tryz.func59,Tryz.ntmps59
 go_wp2_with fail
 refine (HK.out _).mono ?_
 rintro e w' ⟨rfl,rfl⟩
 go_wp2_with fail
 refine (HK.out _).mono ?_
 rintro e w' ⟨rfl,rfl⟩
 go_wp2_with fail
 refine (HW.out _ (Below.refl _ _)).mono ?_
 rintro e x1 ⟨rfl,hb1⟩
 go_wp2_with fail
 refine (HW.out _ hb1).mono ?_
 rintro e x2 ⟨rfl,hb2⟩
 have hc:=zaF hb1 hb2
 clear hb1 hb2 HK HW
 go_wp2
 go_ret
 exact zaO rfl hc
theorem zuK {w x:World} {u:UZ} {p1 p2:Value} (h:x=(w.alloc (.cells (u.cells p1) 27)).alloc (.cells (u.cells p2) 27)):UB x w.heap.size u p1∧UB x (w.heap.size+1) u p2∧Below w.heap.size w x:=by
 have b0:=zaI w (u.cells p1)
 have u0:=UB.new w u p1
 have s0:(w.alloc (.cells (u.cells p1) 27)).heap.size=w.heap.size+1:=by simp
 generalize w.alloc (.cells (u.cells p1) 27)=x0 at*
 have b1:=zaI x0 (u.cells p2)
 have r1:=UB.new x0 u p2
 rw [←h] at b1 r1
 rw [s0] at r1
 exact ⟨u0.below b1,r1,zaF b0 b1⟩
theorem yhL (u:UZ) (p1 p2:Value) (w:World) (h1:PV w p1 u.path) (h2:PV w p2 u.path) (hl:u.path.length≤1000000000) (ho:u.host.In) (hpow:PowTab w) (hbru:BruTab w):
  Calls Tryz.prog 30 #[.agg (u.cells p1),.agg (u.cells p2)] w (zcN w true):=by
 obtain ⟨x0,hx0⟩: ∃y,y=(w.alloc (.cells (u.cells p1) 27)).alloc (.cells (u.cells p2) 27):=⟨_,rfl⟩
 obtain ⟨hU,hV,hbb⟩:=zuK hx0
 have hlt:w.heap.size≤x0.heap.size:=hbb.size
 have HKK:Hid (∀x,Below x0.heap.size x0 x→x.cell? ⟨w.heap.size,0,none⟩=some (.string ⟨u.scheme.toArray⟩)∧x.cell? ⟨w.heap.size,1,none⟩=some (.string ⟨u.user.toArray⟩)∧x.cell? ⟨w.heap.size,2,none⟩=some (.string ⟨u.pass.toArray⟩)∧x.cell? ⟨w.heap.size,3,none⟩=some (u.host.val)∧x.cell? ⟨w.heap.size,4,none⟩=some (.int .i64 u.port)∧x.cell? ⟨w.heap.size,5,none⟩=some (p1)∧x.cell? ⟨w.heap.size,6,none⟩=some (.string ⟨u.query.toArray⟩)∧x.cell? ⟨w.heap.size,7,none⟩=some (.bool u.hasQ)∧x.cell? ⟨w.heap.size,8,none⟩=some (.string ⟨u.frag.toArray⟩)∧x.cell? ⟨w.heap.size,9,none⟩=some (.bool u.hasF)):=fun x hb=>by
  obtain ⟨d0,d1,d2,d3,d4,d5,d6,d7,d8,d9,-⟩:=(hU.below hb).all
  exact ⟨d0,d1,d2,d3,d4,d5,d6,d7,d8,d9⟩
 have HLL:Hid (∀x,Below x0.heap.size x0 x→x.cell? ⟨w.heap.size+1,0,none⟩=some (.string ⟨u.scheme.toArray⟩)∧x.cell? ⟨w.heap.size+1,1,none⟩=some (.string ⟨u.user.toArray⟩)∧x.cell? ⟨w.heap.size+1,2,none⟩=some (.string ⟨u.pass.toArray⟩)∧x.cell? ⟨w.heap.size+1,3,none⟩=some (u.host.val)∧x.cell? ⟨w.heap.size+1,4,none⟩=some (.int .i64 u.port)∧x.cell? ⟨w.heap.size+1,5,none⟩=some (p2)∧x.cell? ⟨w.heap.size+1,6,none⟩=some (.string ⟨u.query.toArray⟩)∧x.cell? ⟨w.heap.size+1,7,none⟩=some (.bool u.hasQ)∧x.cell? ⟨w.heap.size+1,8,none⟩=some (.string ⟨u.frag.toArray⟩)∧x.cell? ⟨w.heap.size+1,9,none⟩=some (.bool u.hasF)):=fun x hb=>by
  obtain ⟨d0,d1,d2,d3,d4,d5,d6,d7,d8,d9,-⟩:=(hV.below hb).all
  exact ⟨d0,d1,d2,d3,d4,d5,d6,d7,d8,d9⟩
 have HB:=Lib.hid hbb
 have HSH:=Lib.hid (zpY u.host x0 ho (zbB hpow hbb) (zaL hbru hbb))
 have HEQ:=Lib.hid (fun W (hb:Below x0.heap.size x0 W)=>yhJ p1 p2 u.path W (h1.keep (hbb.trans (hb.mono hlt))) (h2.keep (hbb.trans (hb.mono hlt))) hl)
 obtain ⟨d0,d1,d2,d3,d4,d5,d6,d7,d8,d9⟩:=HKK.out x0 (Below.refl _ _)
 obtain ⟨f0,f1,f2,f3,f4,f5,f6,f7,f8,f9⟩:=HLL.out x0 (Below.refl _ _)
 simp only [UZ.cells] at hx0 ⊢
 rw [hx0] at d0 d1 d2 d3 d4 d5 d6 d7 d8 d9 f0 f1 f2 f3 f4 f5 f6 f7 f8 f9
 clear hU hV hbb h1 h2 hl ho hpow hbru
 go_enter Tryz.func30,Tryz.ntmps30
 go_wp2_with fail
 rw [←hx0]
 clear hx0 d0 d1 d2 d3 d4 d5 d6 d7 d8 d9 f0 f1 f2 f3 f4 f5 f6 f7 f8 f9
 refine HSH.out.mono ?_
 rintro e x1 ⟨rfl,hb1⟩
 obtain ⟨d0,d1,d2,d3,d4,d5,d6,d7,d8,d9⟩:=HKK.out x1 hb1
 obtain ⟨f0,f1,f2,f3,f4,f5,f6,f7,f8,f9⟩:=HLL.out x1 hb1
 go_wp2_with fail
 refine (HEQ.out _ hb1).mono ?_
 rintro e x2 ⟨rfl,hb2⟩
 have hc2:=zaF hb1 hb2
 clear d0 d1 d2 d3 d4 d5 d6 d7 d8 d9 f0 f1 f2 f3 f4 f5 f6 f7 f8 f9 hb1 hb2
 obtain ⟨d0,d1,d2,d3,d4,d5,d6,d7,d8,d9⟩:=HKK.out x2 hc2
 obtain ⟨f0,f1,f2,f3,f4,f5,f6,f7,f8,f9⟩:=HLL.out x2 hc2
 have HC:=Lib.hid (HB.out.trans (hc2.mono hlt))
 go_wp2
 go_ret
 exact zaO rfl HC.out
theorem z3K (u:UZ) (p1 p2:Value) (w:World) (h1:PV w p1 u.path) (h2:PV w p2 u.path) (hl:u.path.length≤1000000000) (ho:u.host.In) (hpow:PowTab w) (hbru:BruTab w):
  Calls Tryz.prog 16 #[.agg (u.cells p1),.agg (u.cells p2),.slice none 0 0] w (zcN w true):=by
 obtain ⟨x0,hx0⟩: ∃y,y=(w.alloc (.cells (u.cells p1) 27)).alloc (.cells (u.cells p2) 27):=⟨_,rfl⟩
 obtain ⟨hU,hV,hbb⟩:=zuK hx0
 have HB:=Lib.hid hbb
 have HIS:=Lib.hid (yhL u p1 p2 x0 (h1.keep hbb) (h2.keep hbb) hl ho (zbB hpow hbb) (zaL hbru hbb))
 obtain ⟨d0,d1,d2,d3,d4,d5,d6,d7,d8,d9,-⟩:=hU.all
 obtain ⟨f0,f1,f2,f3,f4,f5,f6,f7,f8,f9,-⟩:=hV.all
 simp only [UZ.cells] at hx0 HIS ⊢
 rw [hx0] at d0 d1 d2 d3 d4 d5 d6 d7 d8 d9 f0 f1 f2 f3 f4 f5 f6 f7 f8 f9
 clear hU hV hbb h1 h2 hl ho hpow hbru
 go_enter Tryz.func16,Tryz.ntmps16
 go_wp2_with fail
 rw [←hx0]
 clear hx0 d0 d1 d2 d3 d4 d5 d6 d7 d8 d9 f0 f1 f2 f3 f4 f5 f6 f7 f8 f9
 refine HIS.out.mono ?_
 rintro e x1 ⟨rfl,hb1⟩
 have HC:=Lib.hid (zaF HB.out hb1)
 clear hb1
 go_wp2
 go_loopw [15] (fun i wr=>i= .int .i64 0∧wr=x1) (fun _ _=>0)
 case atStart=>exact ⟨rfl,rfl⟩
 case round=>
  obtain ⟨rfl,rfl⟩:=hrel
  go_wp2
  go_ret
  exact zaO rfl HC.out
end

end Go.Proofs.YthacmlahnpdeeaaGreatDoor
