/-
  What the law ResolveMeets leans on, and its walk (44 of 46).
-/
import Derived.Deep.RegionHeld3
import Derived.Test.YtmjappnpedjlnaaGreatDoorResolveMeetsPkf
import Derived.Test.YtmjappnpedjlnaaGreatDoorResolveMeetsPkV
import Derived.Test.YtmjappnpedjlnaaGreatDoorResolveMeetsPkU
import Derived.Test.YtmjappnpedjlnaaGreatDoorResolveMeetsPkI
namespace Go.Proofs.YtmjappnpedjlnaaGreatDoor
set_option maxRecDepth 100000
set_option maxHeartbeats 16000000
abbrev yqF := @Lib.hid
abbrev yqG := @Nat.le_of_lt
section
open Go.RowKit
theorem z7X (u:UZ):zcW u=u.scheme++[58,47,47]++whoU u++zdD u++askU u:=by unfold zcW yiK;rfl
theorem z6Z (u:UZ) (pv:Value) (w:World) (hl:u.user.length+u.pass.length≤1000000):
  Calls Tryz.prog 63 #[.agg (u.cells pv)] w (zdT w (whoU u)):=by
 have hbb:=zaY w (u.cells pv)
 by_cases h1:u.pass=[]
 ·have hp:u.pass.isEmpty=true:=by rw [h1];rfl
  by_cases h2:u.user=[]
  ·have hq:u.user.isEmpty=true:=by rw [h2];rfl
   have HF:=yqF (yjO h1 h2)
   simp only [UZ.cells] at hbb ⊢
   clear h1 h2
   go_enter Tryz.func63,Tryz.ntmps63
   go_wp2
   go_ret
   exact ⟨by rw [HF.out];rfl,hbb⟩
  ·have hq:u.user.isEmpty=false:=by rw [List.isEmpty_eq_false_iff];exact h2
   have HF:=yqF (yjP h1 h2)
   have a1: ∀W,(Op.stringOp .add ⟨u.user.toArray⟩ ⟨#[64]⟩).run Tryz.prog W= .ok (.string ⟨(u.user++[64]).toArray⟩) W:=ziX u.user [64] (by simp;omega)
   generalize u.user++[64]=t1 at*
   simp only [UZ.cells] at hbb ⊢
   clear h1 h2
   go_enter Tryz.func63,Tryz.ntmps63
   go_wp2
   go_ret
   exact ⟨by rw [HF.out];try rfl,hbb⟩
 ·have hp:u.pass.isEmpty=false:=by rw [List.isEmpty_eq_false_iff];exact h1
  have HF:=yqF (yfE h1)
  have a1: ∀W,(Op.stringOp .add ⟨u.user.toArray⟩ ⟨#[58]⟩).run Tryz.prog W= .ok (.string ⟨(u.user++[58]).toArray⟩) W:=ziX u.user [58] (by simp;omega)
  have a2: ∀W,(Op.stringOp .add ⟨(u.user++[58]).toArray⟩ ⟨u.pass.toArray⟩).run Tryz.prog W= .ok (.string ⟨(u.user++[58]++u.pass).toArray⟩) W:=ziX (u.user++[58]) u.pass (by simp;omega)
  have a3: ∀W,(Op.stringOp .add ⟨(u.user++[58]++u.pass).toArray⟩ ⟨#[64]⟩).run Tryz.prog W= .ok (.string ⟨(u.user++[58]++u.pass++[64]).toArray⟩) W:=ziX (u.user++[58]++u.pass) [64] (by simp;omega)
  generalize u.user++[58]++u.pass++[64]=t3 at*
  generalize u.user++[58]++u.pass=t2 at*
  generalize u.user++[58]=t1 at*
  simp only [UZ.cells] at hbb ⊢
  clear h1
  go_enter Tryz.func63,Tryz.ntmps63
  go_wp2
  go_ret
  exact ⟨by rw [HF.out];try rfl,hbb⟩
theorem z6O {u:UZ} (h:u.port= -1):zdD u=zdG u.host:=by unfold zdD;rw [if_pos h]
theorem zpR {u:UZ} (h:u.port≠ -1):zdD u=zdG u.host++[58]++Lib.itoa u.port:=by unfold zdD;rw [if_neg h]
theorem zoN (u:UZ) (pv:Value) (w:World) (hi:u.host.In) (hp: -9223372036854775808≤u.port∧u.port≤9223372036854775807) (hl:(zdD u).length≤1000000) (hpow:PowTab w) (hbru:BruTab w):
  Calls Tryz.prog 37 #[.agg (u.cells pv)] w (zdT w (zdD u)):=by
 obtain ⟨x0,hx0⟩: ∃y,y=w.alloc (.cells (u.cells pv) 47):=⟨_,rfl⟩
 have hbb:Below w.heap.size w x0:=by rw [hx0];exact zaY w _
 have hU:UB x0 w.heap.size u pv:=by rw [hx0];exact UB.new w u pv
 have hws:=zaM hU
 have HB:=yqF hbb
 have HKK:Hid (∀x,Below x0.heap.size x0 x→x.cell? ⟨w.heap.size,3,none⟩=some u.host.val∧x.cell? ⟨w.heap.size,4,none⟩=some (.int .i64 u.port)):=fun x hb=>by
  have h:=hU.below hb
  exact ⟨h.all.2.2.2.1,h.all.2.2.2.2.1⟩
 have HW:Hid (∀W,Below x0.heap.size x0 W→Calls Tryz.prog 83 #[u.host.val] W fun e w'=>e= .returned (.string ⟨(zdG u.host).toArray⟩)∧Below x0.heap.size x0 w'):=fun W hW=>(ztA u.host W hi (zaD hpow (hbb.trans (hW.mono (yqG hws)))) (zaC hbru (hbb.trans (hW.mono (yqG hws))))).mono (fun e w' h=>⟨h.1,zaF hW h.2⟩)
 have HI:Hid (∀W,Below x0.heap.size x0 W→Calls Tryz.prog 87 #[.int .i64 u.port] W fun e w'=>e= .returned (.string ⟨(Lib.itoa u.port).toArray⟩)∧Below x0.heap.size x0 w'):=fun W hW=>(ydX u.port W hp.1 hp.2 (zaD hpow (hbb.trans (hW.mono (yqG hws))))).mono (fun e w' h=>⟨h.1,zaF hW h.2⟩)
 obtain ⟨-,-,-,d3,d4,-⟩:=hU.all
 have hws2:w.heap.size≤x0.heap.size:=yqG hws
 simp only [UZ.cells] at hx0
 clear hU hbb hpow hbru
 by_cases h1:u.port= -1
 ·have HF:=yqF (z6O h1)
  have e1:(u.port==(-1:Int))=true:=by rw [h1];rfl
  simp only [UZ.cells]
  rw [h1]
  rw [h1] at hx0 d4
  rw [hx0] at d3 d4
  clear h1
  go_enter Tryz.func37,Tryz.ntmps37
  go_wp2_with fail
  rw [←hx0]
  refine (HW.out _ (Below.refl _ _)).mono ?_
  rintro e x1 ⟨rfl,hb1⟩
  clear hx0 d3 d4
  go_wp2
  go_ret
  exact ⟨by rw [HF.out];try rfl,HB.out.trans (hb1.mono hws2)⟩
 ·have HF:=yqF (zpR h1)
  have e1:(u.port==(-1:Int))=false:=beq_eq_false_iff_ne.2 h1
  rw [zpR h1] at hl
  simp only [List.length_append,List.length_cons,List.length_nil] at hl
  have a1: ∀W,(Op.stringOp .add ⟨(zdG u.host).toArray⟩ ⟨#[58]⟩).run Tryz.prog W= .ok (.string ⟨(zdG u.host++[58]).toArray⟩) W:=ziX _ [58] (by simp;omega)
  have a2: ∀W,(Op.stringOp .add ⟨(zdG u.host++[58]).toArray⟩ ⟨(Lib.itoa u.port).toArray⟩).run Tryz.prog W= .ok (.string ⟨(zdG u.host++[58]++Lib.itoa u.port).toArray⟩) W:=ziX _ _ (by simp;omega)
  rw [hx0] at d3 d4
  generalize zdG u.host++[58]++Lib.itoa u.port=t2 at*
  generalize zdG u.host++[58]=t1 at*
  generalize zdG u.host=t0 at*
  generalize Lib.itoa u.port=ti at*
  simp only [UZ.cells]
  go_enter Tryz.func37,Tryz.ntmps37
  go_wp2_with fail
  rw [←hx0]
  clear hx0 d3 d4 h1 hl
  go_region_held3 (fun W=>W.cell? ⟨w.heap.size,3,none⟩=some u.host.val∧W.cell? ⟨w.heap.size,4,none⟩=some (.int .i64 u.port))
   (first|exact HKK.out _ (zaG _)|exact HKK.out _ hb1|exact HKK.out _ hb2)
   (first
    |(go_simp;go_at_call 83;((with_reducible refine (HW.out _ (zaG _)).mono ?_);rintro e x1 ⟨rfl,hb1⟩))
    |(go_simp;go_at_call 87;((with_reducible refine (HI.out _ hb1).mono ?_);rintro e x2 ⟨rfl,hb2⟩)))
  go_wp2
  go_ret
  exact ⟨by rw [HF.out];try rfl,HB.out.trans (hb2.mono hws2)⟩
structure AB (w wr:World) (b:Nat) (u:UZ) (pv:Value) (acc:List UInt8):Prop where
 below:Below w.heap.size w wr
 eb:b=w.heap.size+1
 ub:UB wr w.heap.size u pv
 isb:Lib.IsBuilderF 121 5 b b (Lib.byteCells acc) wr
 size:b<wr.heap.size
theorem AB.write {w wr:World} {b:Nat} {u:UZ} {pv:Value} {acc s:List UInt8} (h:AB w wr b u pv acc) (hl:acc.length+s.length≤1000000000):
  Calls Tryz.prog 114 #[.pointer (some ⟨b,0,none⟩),.string ⟨s.toArray⟩] wr fun e x=>(∃n:Int,e= .returned (.tuple #[.int .i64 n,.nilIface]))∧AB w x b u pv (acc++s):=by
 refine (Tryz.Builder_WriteString_k b b _ _ _ h.isb (by rw [Lib.byteCells_length,zaB];omega) (yqG h.size)).mono ?_
 rintro e x ⟨rfl,h4,b4,k4⟩
 have hle:w.heap.size≤b:=by rw [h.eb];omega
 have hlt:w.heap.size<b:=by rw [h.eb];omega
 refine ⟨⟨_,rfl⟩,⟨h.below.trans (b4.mono hle),h.eb,(b4.block _ hlt).trans h.ub,?_,Nat.lt_of_lt_of_le h.size b4.size⟩⟩
 rw [Lib.byteCells_append]
 exact .inr h4
theorem AB.first (w:World) (u:UZ) (pv:Value):AB w ((w.alloc (.cells (u.cells pv) 47)).alloc (.cells #[.pointer none,.slice none 0 0] 121)) (w.heap.size+1) u pv []:=by
 have h0:=UB.new w u pv
 have hs:(w.alloc (.cells (u.cells pv) 47)).heap.size=w.heap.size+1:=by simp
 refine ⟨((Below.refl _ w).alloc (Nat.le_refl _) _).alloc (by simp) _,rfl,h0.below ((Below.refl _ _).alloc (Nat.le_refl _) _),?_,by simp⟩
 have:=Lib.IsBuilderF.of (Lib.fresh_isBuilder 121 5 (w.alloc (.cells (u.cells pv) 47)))
 rw [hs] at this
 exact this
theorem zvS {l:List (List UInt8)} {k:Nat} (hk:k<l.length):zbK (l.take (k+1))=zbK (l.take k)++([47]++l.getD k []):=by
 rw [List.take_succ_eq_append_getElem hk,z3G]
 simp [List.getD,List.getElem?_eq_getElem hk]
theorem z6H (l:List (List UInt8)) (k:Nat):(zbK (l.take k)).length≤(zbK l).length:=by
 induction l generalizing k with
 |nil=>simp
 |cons a r ih=>
  match k with
  |0=>simp [zbK]
  |k+1=>have:=ih k;simp only [List.take_succ_cons,zbK,List.length_append,List.length_cons];omega
theorem yiV (l:List (List UInt8)) (k:Nat) (hk:k<l.length):(l.getD k []).length+1≤(zbK l).length:=by
 have h1:=z6H l (k+1)
 rw [zvS hk,List.length_append,List.length_append] at h1
 simp only [List.length_cons,List.length_nil] at h1
 omega
theorem zqL: ∀l:List (List UInt8),l.length≤(zbK l).length
 |[]=>Nat.le_refl _
 |a::r=>by have:=zqL r;simp only [zbK,List.length_append,List.length_cons];omega
theorem ykL {u:UZ} (h:u.hasQ=true):askU u=zbK u.path++([63]++u.query):=by unfold askU;rw [if_pos h];rfl
theorem askU_n {u:UZ} (h:u.hasQ=false):askU u=zbK u.path:=by unfold askU;rw [if_neg (by rw [h];decide),List.append_nil]
theorem ybK (u:UZ) (pv:Value) (w:World) (hpv:PV w pv u.path) (hl:(askU u).length≤1000000):
  Calls Tryz.prog 64 #[.agg (u.cells pv)] w (zdT w (askU u)):=by
 obtain ⟨N,hN⟩: ∃N,u.path.length=N:=⟨_,rfl⟩
 have hsl:(zbK u.path).length≤1000000:=by
  unfold askU at hl
  rw [List.length_append] at hl
  omega
 have hNl:N≤1000000:=by have:=zqL u.path;omega
 obtain ⟨ma,mc,hmv,hcells⟩: ∃ma mc,pv= .slice ma N mc∧ ∀x,Below w.heap.size w x→ ∀j,j<N→ ∃g,ma=some ⟨g,0,none⟩∧x.cell? ⟨g,j,none⟩=some (.string ⟨(u.path.getD j []).toArray⟩):=by
  rcases hpv with ⟨h1,h2⟩|⟨g,c,h1,_,h3⟩
  ·exact ⟨none,0,by rw [h2,←hN,h1];rfl,fun x _ j hj=>by rw [←hN,h1] at hj;cases hj⟩
  ·exact ⟨_,_,by rw [h1,hN],fun x hb j hj=>⟨g,rfl,(h3.keep hb).2 j (by omega)⟩⟩
 subst hmv
 have HCELL:=yqF hcells
 have HN:=yqF hN
 obtain ⟨x0,hx0⟩: ∃y,y=(w.alloc (.cells (u.cells (.slice ma N mc)) 47)).alloc (.cells #[.pointer none,.slice none 0 0] 121):=⟨_,rfl⟩
 have hA0:AB w x0 (w.heap.size+1) u (.slice ma N mc) []:=by rw [hx0];exact AB.first w u _
 have HA0:=yqF hA0
 obtain ⟨-,-,-,-,-,d5,-⟩:=hA0.ub.all
 simp only [UZ.cells] at hx0 ⊢
 rw [hx0] at d5
 have HLEN:=yqF hl
 clear hpv hcells hA0 hN hl
 go_enter Tryz.func64,Tryz.ntmps64
 go_wp2
 rw [←hx0]
 clear hx0 d5
 go_loopw [9] (fun i wr=> ∃k:Nat,k≤N∧i= .int .i64 k∧Hid (AB w wr (w.heap.size+1) u (.slice ma N mc) (zbK (u.path.take k)))) (fun i _=>N - (intOf i).toNat)
 case atStart=>exact ⟨0,Nat.zero_le _,rfl,HA0⟩
 case round=>
  obtain ⟨k,hk,rfl,HA⟩:=hrel
  clear HA0
  by_cases hlt:k<N
  ·obtain ⟨mg,rfl,hcell⟩:=HCELL.out _ HA.out.below k hlt
   have hsg:=yiV u.path k (by rw [HN.out];exact hlt)
   have hsk:=z6H u.path k
   have HST:=yqF (zvS (l:=u.path) (k:=k) (by rw [HN.out];exact hlt))
   obtain ⟨s,hs⟩: ∃s,u.path.getD k []=s:=⟨_,rfl⟩
   rw [hs] at hcell hsg HST
   have a1: ∀W,(Op.stringOp .add ⟨#[47]⟩ ⟨s.toArray⟩).run Tryz.prog W= .ok (.string ⟨([47]++s).toArray⟩) W:=ziX [47] s (by simp;omega)
   have HW:=yqF (HA.out.write (s:=[47]++s) (by simp;omega))
   rw [←HST.out] at HW
   generalize [47]++s=q at*
   clear hs HA
   go_wp2_with fail
   refine HW.out.mono ?_
   rintro e x ⟨⟨n,rfl⟩,hab⟩
   have HAB:=yqF hab
   clear hab HW hcell
   go_wp2
   go_roundw
   case rel=>exact ⟨k+1,by omega,by go_num,HAB.out⟩
   case measure=>simp [intOf];omega
  ·have hkN:k=N:=by omega
   have hacc:u.path.take k=u.path:=List.take_of_length_le (by rw [HN.out];omega)
   rw [hacc] at HA
   obtain ⟨-,-,-,-,-,-,d6,d7,-⟩:=HA.out.ub.all
   cases hq:u.hasQ with
   |true=>
    have HF:=yqF (ykL hq)
    have hl2:=HLEN.out
    rw [ykL hq] at hl2
    simp only [List.length_append,List.length_cons,List.length_nil] at hl2
    rw [hq] at d7
    have a1: ∀W,(Op.stringOp .add ⟨#[63]⟩ ⟨u.query.toArray⟩).run Tryz.prog W= .ok (.string ⟨([63]++u.query).toArray⟩) W:=ziX [63] u.query (by simp;omega)
    have HW:=yqF (HA.out.write (s:=[63]++u.query) (by simp;omega))
    generalize zbK u.path++([63]++u.query)=t2 at*
    generalize [63]++u.query=q at*
    clear hq hl2 HLEN HA
    go_wp2_with fail
    refine HW.out.mono ?_
    rintro e x ⟨⟨n,rfl⟩,hab⟩
    have hsz:w.heap.size+1≤x.heap.size:=yqG hab.size
    have HAB:=yqF hab
    clear hab HW d6 d7
    go_wp2_with fail
    refine (Tryz.Builder_String_any_k (w.heap.size+1) (w.heap.size+1) _ _ HAB.out.isb hsz).mono ?_
    rintro e x5 ⟨rfl,_,b5,_⟩
    go_wp2
    go_ret
    exact ⟨by rw [HF.out];try rfl,HAB.out.below.trans (b5.mono (by omega))⟩
   |false=>
    have HF:=yqF (askU_n hq)
    rw [hq] at d7
    have hsz:w.heap.size+1≤wr.heap.size:=yqG HA.out.size
    generalize zbK u.path=t2 at*
    clear hq HLEN
    go_wp2_with fail
    clear d6 d7
    refine (Tryz.Builder_String_any_k (w.heap.size+1) (w.heap.size+1) _ _ HA.out.isb hsz).mono ?_
    rintro e x5 ⟨rfl,_,b5,_⟩
    go_wp2
    go_ret
    exact ⟨by rw [HF.out];try rfl,HA.out.below.trans (b5.mono (by omega))⟩
theorem zlG (u:UZ) (pv:Value) (w:World) (hpv:PV w pv u.path) (hi:u.host.In) (hp: -9223372036854775808≤u.port∧u.port≤9223372036854775807) (hl:(zcW u).length≤1000000) (hul:u.user.length+u.pass.length≤1000000) (hpow:PowTab w) (hbru:BruTab w):
  Calls Tryz.prog 26 #[.agg (u.cells pv)] w (zdT w (zcW u)):=by
 obtain ⟨x0,hx0⟩: ∃y,y=w.alloc (.cells (u.cells pv) 47):=⟨_,rfl⟩
 have hbb:Below w.heap.size w x0:=by rw [hx0];exact zaY w _
 have hU:UB x0 w.heap.size u pv:=by rw [hx0];exact UB.new w u pv
 have hws2:w.heap.size≤x0.heap.size:=yqG (zaM hU)
 have HB:=yqF hbb
 have HUP:=yqF (fun W (hW:Below x0.heap.size x0 W)=>hbb.trans (hW.mono hws2))
 have HKK:Hid (∀x,Below x0.heap.size x0 x→x.cell? ⟨w.heap.size,0,none⟩=some (.string ⟨u.scheme.toArray⟩)∧x.cell? ⟨w.heap.size,1,none⟩=some (.string ⟨u.user.toArray⟩)∧x.cell? ⟨w.heap.size,2,none⟩=some (.string ⟨u.pass.toArray⟩)∧x.cell? ⟨w.heap.size,3,none⟩=some (u.host.val)∧x.cell? ⟨w.heap.size,4,none⟩=some (.int .i64 u.port)∧x.cell? ⟨w.heap.size,5,none⟩=some (pv)∧x.cell? ⟨w.heap.size,6,none⟩=some (.string ⟨u.query.toArray⟩)∧x.cell? ⟨w.heap.size,7,none⟩=some (.bool u.hasQ)∧x.cell? ⟨w.heap.size,8,none⟩=some (.string ⟨u.frag.toArray⟩)∧x.cell? ⟨w.heap.size,9,none⟩=some (.bool u.hasF)):=fun x hb=>by
  have h:=hU.below hb
  obtain ⟨d0,d1,d2,d3,d4,d5,d6,d7,d8,d9,-⟩:=h.all
  exact ⟨d0,d1,d2,d3,d4,d5,d6,d7,d8,d9⟩
 have HF:=yqF (z7X u)
 rw [z7X u] at hl
 simp only [List.length_append,List.length_cons,List.length_nil] at hl
 have HWH:Hid (∀W,Below x0.heap.size x0 W→Calls Tryz.prog 63 #[.agg #[.string ⟨u.scheme.toArray⟩,.string ⟨u.user.toArray⟩,.string ⟨u.pass.toArray⟩,u.host.val,.int .i64 u.port,pv,.string ⟨u.query.toArray⟩,.bool u.hasQ,.string ⟨u.frag.toArray⟩,.bool u.hasF]] W fun e w'=>e= .returned (.string ⟨(whoU u).toArray⟩)∧Below x0.heap.size x0 w'):=fun W hW=>(z6Z u pv W hul).mono (fun e w' h=>⟨h.1,zaF hW h.2⟩)
 have HAU:Hid (∀W,Below x0.heap.size x0 W→Calls Tryz.prog 37 #[.agg #[.string ⟨u.scheme.toArray⟩,.string ⟨u.user.toArray⟩,.string ⟨u.pass.toArray⟩,u.host.val,.int .i64 u.port,pv,.string ⟨u.query.toArray⟩,.bool u.hasQ,.string ⟨u.frag.toArray⟩,.bool u.hasF]] W fun e w'=>e= .returned (.string ⟨(zdD u).toArray⟩)∧Below x0.heap.size x0 w'):=fun W hW=>(zoN u pv W hi hp (by omega) (zaD hpow (HUP.out W hW)) (zaC hbru (HUP.out W hW))).mono (fun e w' h=>⟨h.1,zaF hW h.2⟩)
 have HAS:Hid (∀W,Below x0.heap.size x0 W→Calls Tryz.prog 64 #[.agg #[.string ⟨u.scheme.toArray⟩,.string ⟨u.user.toArray⟩,.string ⟨u.pass.toArray⟩,u.host.val,.int .i64 u.port,pv,.string ⟨u.query.toArray⟩,.bool u.hasQ,.string ⟨u.frag.toArray⟩,.bool u.hasF]] W fun e w'=>e= .returned (.string ⟨(askU u).toArray⟩)∧Below x0.heap.size x0 w'):=fun W hW=>(ybK u pv W (hpv.keep (HUP.out W hW)) (by omega)).mono (fun e w' h=>⟨h.1,zaF hW h.2⟩)
 have a1: ∀W,(Op.stringOp .add ⟨u.scheme.toArray⟩ ⟨#[58,47,47]⟩).run Tryz.prog W= .ok (.string ⟨(u.scheme++[58,47,47]).toArray⟩) W:=ziX _ [58,47,47] (by simp;omega)
 have a2: ∀W,(Op.stringOp .add ⟨(u.scheme++[58,47,47]).toArray⟩ ⟨(whoU u).toArray⟩).run Tryz.prog W= .ok (.string ⟨(u.scheme++[58,47,47]++whoU u).toArray⟩) W:=ziX _ _ (by simp;omega)
 have a3: ∀W,(Op.stringOp .add ⟨(u.scheme++[58,47,47]++whoU u).toArray⟩ ⟨(zdD u).toArray⟩).run Tryz.prog W= .ok (.string ⟨(u.scheme++[58,47,47]++whoU u++zdD u).toArray⟩) W:=ziX _ _ (by simp;omega)
 have a4: ∀W,(Op.stringOp .add ⟨(u.scheme++[58,47,47]++whoU u++zdD u).toArray⟩ ⟨(askU u).toArray⟩).run Tryz.prog W= .ok (.string ⟨(u.scheme++[58,47,47]++whoU u++zdD u++askU u).toArray⟩) W:=ziX _ _ (by simp;omega)
 generalize u.scheme++[58,47,47]++whoU u++zdD u++askU u=t4 at*
 generalize u.scheme++[58,47,47]++whoU u++zdD u=t3 at*
 generalize u.scheme++[58,47,47]++whoU u=t2 at*
 generalize u.scheme++[58,47,47]=t1 at*
 generalize whoU u=tw at*
 generalize zdD u=ta at*
 generalize askU u=tk at*
 simp only [UZ.cells] at hx0 ⊢
 clear hU hbb hl hpow hbru hpv hp hul hi
 go_enter Tryz.func26,Tryz.ntmps26
 go_wp2_with fail
 rw [←hx0]
 clear hx0
 go_region_held3 (fun W=>W.cell? ⟨w.heap.size,0,none⟩=some (.string ⟨u.scheme.toArray⟩)∧W.cell? ⟨w.heap.size,1,none⟩=some (.string ⟨u.user.toArray⟩)∧W.cell? ⟨w.heap.size,2,none⟩=some (.string ⟨u.pass.toArray⟩)∧W.cell? ⟨w.heap.size,3,none⟩=some (u.host.val)∧W.cell? ⟨w.heap.size,4,none⟩=some (.int .i64 u.port)∧W.cell? ⟨w.heap.size,5,none⟩=some (pv)∧W.cell? ⟨w.heap.size,6,none⟩=some (.string ⟨u.query.toArray⟩)∧W.cell? ⟨w.heap.size,7,none⟩=some (.bool u.hasQ)∧W.cell? ⟨w.heap.size,8,none⟩=some (.string ⟨u.frag.toArray⟩)∧W.cell? ⟨w.heap.size,9,none⟩=some (.bool u.hasF))
  (first|exact HKK.out _ (zaG _)|exact HKK.out _ hb1|exact HKK.out _ hb2|exact HKK.out _ hb3)
  (first
   |(go_simp;go_at_call 63;((with_reducible refine (HWH.out _ (zaG _)).mono ?_);rintro e x1 ⟨rfl,hb1⟩))
   |(go_simp;go_at_call 37;((with_reducible refine (HAU.out _ hb1).mono ?_);rintro e x2 ⟨rfl,hb2⟩))
   |(go_simp;go_at_call 64;((with_reducible refine (HAS.out _ hb2).mono ?_);rintro e x3 ⟨rfl,hb3⟩)))
 go_wp2
 go_ret
 exact ⟨by rw [HF.out];try rfl,HB.out.trans (hb3.mono hws2)⟩
theorem ybX {u:UZ} (h:u.hasF=true):zfQ u=zcW u++[35]++u.frag:=by unfold zfQ;rw [if_pos h];simp
theorem ynG {u:UZ} (h:u.hasF=false):zfQ u=zcW u:=by unfold zfQ;rw [if_neg (by rw [h];decide),List.append_nil]
theorem zqN (u:UZ) (pv:Value) (w:World) (hpv:PV w pv u.path) (hi:u.host.In) (hp: -9223372036854775808≤u.port∧u.port≤9223372036854775807) (hl:(zfQ u).length≤1000000) (hul:u.user.length+u.pass.length≤1000000) (hpow:PowTab w) (hbru:BruTab w):
  Calls Tryz.prog 28 #[.agg (u.cells pv)] w (zdT w (zfQ u)):=by
 obtain ⟨x0,hx0⟩: ∃y,y=w.alloc (.cells (u.cells pv) 47):=⟨_,rfl⟩
 have hbb:Below w.heap.size w x0:=by rw [hx0];exact zaY w _
 have hU:UB x0 w.heap.size u pv:=by rw [hx0];exact UB.new w u pv
 have hws2:w.heap.size≤x0.heap.size:=yqG (zaM hU)
 have HB:=yqF hbb
 have HUP:=yqF (fun W (hW:Below x0.heap.size x0 W)=>hbb.trans (hW.mono hws2))
 have HKK:Hid (∀x,Below x0.heap.size x0 x→x.cell? ⟨w.heap.size,0,none⟩=some (.string ⟨u.scheme.toArray⟩)∧x.cell? ⟨w.heap.size,1,none⟩=some (.string ⟨u.user.toArray⟩)∧x.cell? ⟨w.heap.size,2,none⟩=some (.string ⟨u.pass.toArray⟩)∧x.cell? ⟨w.heap.size,3,none⟩=some (u.host.val)∧x.cell? ⟨w.heap.size,4,none⟩=some (.int .i64 u.port)∧x.cell? ⟨w.heap.size,5,none⟩=some (pv)∧x.cell? ⟨w.heap.size,6,none⟩=some (.string ⟨u.query.toArray⟩)∧x.cell? ⟨w.heap.size,7,none⟩=some (.bool u.hasQ)∧x.cell? ⟨w.heap.size,8,none⟩=some (.string ⟨u.frag.toArray⟩)∧x.cell? ⟨w.heap.size,9,none⟩=some (.bool u.hasF)):=fun x hb=>by
  have h:=hU.below hb
  obtain ⟨d0,d1,d2,d3,d4,d5,d6,d7,d8,d9,-⟩:=h.all
  exact ⟨d0,d1,d2,d3,d4,d5,d6,d7,d8,d9⟩
 obtain ⟨d0,d1,d2,d3,d4,d5,d6,d7,d8,d9,-⟩:=hU.all
 have hbl:(zcW u).length≤1000000:=by unfold zfQ at hl;rw [List.length_append] at hl;omega
 have HBA:Hid (∀W,Below x0.heap.size x0 W→Calls Tryz.prog 26 #[.agg #[.string ⟨u.scheme.toArray⟩,.string ⟨u.user.toArray⟩,.string ⟨u.pass.toArray⟩,u.host.val,.int .i64 u.port,pv,.string ⟨u.query.toArray⟩,.bool u.hasQ,.string ⟨u.frag.toArray⟩,.bool u.hasF]] W fun e w'=>e= .returned (.string ⟨(zcW u).toArray⟩)∧Below x0.heap.size x0 w'):=fun W hW=>(zlG u pv W (hpv.keep (HUP.out W hW)) hi hp hbl hul (zaD hpow (HUP.out W hW)) (zaC hbru (HUP.out W hW))).mono (fun e w' h=>⟨h.1,zaF hW h.2⟩)
 clear hU hbb hpow hbru hpv hp hul hi
 cases hf:u.hasF with
 |false=>
  have HF:=yqF (ynG hf)
  rw [hf] at d9 HBA
  simp only [UZ.cells] at hx0 ⊢
  rw [hf] at hx0 ⊢
  rw [hx0] at d0 d1 d2 d3 d4 d5 d6 d7 d8 d9
  generalize zcW u=tb at*
  clear hf hl hbl
  go_enter Tryz.func28,Tryz.ntmps28
  go_wp2_with fail
  rw [←hx0]
  clear hx0 d0 d1 d2 d3 d4 d5 d6 d7 d8 d9
  refine (HBA.out _ (Below.refl _ _)).mono ?_
  rintro e x1 ⟨rfl,hb1⟩
  go_wp2
  go_ret
  exact ⟨by rw [HF.out];try rfl,HB.out.trans (hb1.mono hws2)⟩
 |true=>
  have HF:=yqF (ybX hf)
  rw [ybX hf] at hl
  simp only [List.length_append,List.length_cons,List.length_nil] at hl
  have a1: ∀W,(Op.stringOp .add ⟨(zcW u).toArray⟩ ⟨#[35]⟩).run Tryz.prog W= .ok (.string ⟨(zcW u++[35]).toArray⟩) W:=ziX _ [35] (by simp;omega)
  have a2: ∀W,(Op.stringOp .add ⟨(zcW u++[35]).toArray⟩ ⟨u.frag.toArray⟩).run Tryz.prog W= .ok (.string ⟨(zcW u++[35]++u.frag).toArray⟩) W:=ziX _ _ (by simp;omega)
  generalize zcW u++[35]++u.frag=t2 at*
  generalize zcW u++[35]=t1 at*
  generalize zcW u=tb at*
  rw [hf] at d9 HBA HKK
  simp only [UZ.cells] at hx0 ⊢
  rw [hf] at hx0 ⊢
  rw [hx0] at d0 d1 d2 d3 d4 d5 d6 d7 d8 d9
  clear hf hl hbl
  go_enter Tryz.func28,Tryz.ntmps28
  go_wp2_with fail
  rw [←hx0]
  clear hx0 d0 d1 d2 d3 d4 d5 d6 d7 d8 d9
  go_region_held3 (fun W=>W.cell? ⟨w.heap.size,0,none⟩=some (.string ⟨u.scheme.toArray⟩)∧W.cell? ⟨w.heap.size,1,none⟩=some (.string ⟨u.user.toArray⟩)∧W.cell? ⟨w.heap.size,2,none⟩=some (.string ⟨u.pass.toArray⟩)∧W.cell? ⟨w.heap.size,3,none⟩=some (u.host.val)∧W.cell? ⟨w.heap.size,4,none⟩=some (.int .i64 u.port)∧W.cell? ⟨w.heap.size,5,none⟩=some (pv)∧W.cell? ⟨w.heap.size,6,none⟩=some (.string ⟨u.query.toArray⟩)∧W.cell? ⟨w.heap.size,7,none⟩=some (.bool u.hasQ)∧W.cell? ⟨w.heap.size,8,none⟩=some (.string ⟨u.frag.toArray⟩)∧W.cell? ⟨w.heap.size,9,none⟩=some (.bool true))
   (first|exact HKK.out _ (zaG _)|exact HKK.out _ hb1)
   (first
    |(go_simp;go_at_call 26;((with_reducible refine (HBA.out _ (zaG _)).mono ?_);rintro e x1 ⟨rfl,hb1⟩)))
  go_wp2
  go_ret
  exact ⟨by rw [HF.out];try rfl,HB.out.trans (hb1.mono hws2)⟩
end
end Go.Proofs.YtmjappnpedjlnaaGreatDoor
