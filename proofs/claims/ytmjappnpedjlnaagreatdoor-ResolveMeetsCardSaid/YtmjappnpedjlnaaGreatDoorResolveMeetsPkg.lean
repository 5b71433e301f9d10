/-
  What the law ResolveMeets leans on, and its walk (32 of 46).
-/
import Derived.Test.YtmjappnpedjlnaaGreatDoorResolveMeetsPkN
import Derived.Test.YtmjappnpedjlnaaGreatDoorResolveMeetsPkf
import Derived.Test.YtmjappnpedjlnaaGreatDoorResolveMeetsPkY
namespace Go.Proofs.YtmjappnpedjlnaaGreatDoor
set_option maxRecDepth 100000
set_option maxHeartbeats 16000000
section
open Go.RowKit
theorem z3T (q:List UInt8) (w:World) (h0:q≠[]) (hl:q.length≤1000000):
  Calls Tryz.prog 161 #[.string ⟨q.toArray⟩] w fun e w'=>e= .returned (.string ⟨(q.take (stpN q)).toArray⟩)∧w=w':=by
 have hp:0<q.length:=List.length_pos_iff.2 h0
 have hle:=z9T h0
 have hN:stpN q=1+(segD (q.drop 1)).length:=by rw [List.drop_one];rfl
 have hs1: ∀W,(Instr.slice 9 (.string ⟨q.toArray⟩) (some (.int .i64 1)) none none).run Tryz.prog W= .ok (.string ⟨(q.drop 1).toArray⟩) W:=zdM q 1 (by omega)
 have hs2:=zjG q (stpN q) hle
 have HI:Hid (∀W,Calls Tryz.prog 107 #[.string ⟨(q.drop 1).toArray⟩,.int .u8 47] W fun e w'=>e= .returned (.int .i64 (Lib.indexByte (q.drop 1) 47))∧W=w'):=fun W=>(Tryz.strings_IndexByte ⟨(q.drop 1).toArray⟩ 47 W).mono (fun e w' h=>⟨h.1,h.2.symm⟩)
 obtain ⟨i1,i2⟩:=zqB (q.drop 1)
 have hlen:(q.drop 1).length=q.length - 1:=List.length_drop
 have hz:(ByteArray.mk q.toArray).size=q.length:=by simp [ByteArray.size]
 by_cases h47:(47:UInt8)∈q.drop 1
 ·have e:=i1 h47
  rw [e] at HI
  have hw:(1:Int)+((segD (q.drop 1)).length:Nat)=((stpN q:Nat):Int):=by rw [hN];omega
  have hk:IntKind.i64.wrap ((1:Int)+((segD (q.drop 1)).length:Nat))=((stpN q:Nat):Int):=by rw [hw];exact IntWalk.i64_in _ (by omega)
  have hd:decide ((((segD (q.drop 1)).length:Nat):Int)<0)=false:=decide_eq_false (by omega)
  clear i1 i2 e hN h47
  generalize (segD (q.drop 1)).length=m at*
  generalize q.drop 1=q1 at*
  generalize stpN q=n at*
  go_enter Tryz.func161,Tryz.ntmps161
  go_wp2_with fail
  refine (HI.out _).mono ?_
  rintro e w' ⟨rfl,rfl⟩
  go_wp2
  go_ret
  exact ⟨rfl,rfl⟩
 ·obtain ⟨e,e2⟩:=i2 h47
  rw [e] at HI
  have HF:Hid (q.take (stpN q)=q):=by show _=_;rw [hN,e2,hlen];exact List.take_of_length_le (by omega)
  clear i1 i2 e hN h47 hs2 e2
  generalize q.drop 1=q1 at*
  go_enter Tryz.func161,Tryz.ntmps161
  go_wp2_with fail
  refine (HI.out _).mono ?_
  rintro e w' ⟨rfl,rfl⟩
  go_wp2
  go_ret
  exact ⟨congrArg (fun l:List UInt8=>Ending.returned (.string ⟨l.toArray⟩)) HF.out.symm,rfl⟩
theorem zrO (B:Nat) (v:Value) (ps:List (List UInt8)) (w:World) (h:zbA B w v ps) (hl:ps.length≤10000000):
  Calls Tryz.prog 160 #[v] w fun e w'=> ∃v',e= .returned v'∧zbA B w v' ps.dropLast∧v'.ownBlock=v.ownBlock∧w=w':=by
 rcases h.cases with ⟨rfl,rfl⟩|⟨g,c,rfl,hc,_,_⟩
 ·have hs: ∀W,(Instr.slice 45 (.slice none 0 0) none (some (.int .i64 0)) none).run Tryz.prog W= .ok (.slice none 0 0) W:=fun W=>by
   rw [run_slice_h W 45 none 0 0 (by simp [Program.elem,Tryz.underlying45]) .i64 _ (by omega) (by omega)]
   rfl
  go_enter Tryz.func160,Tryz.ntmps160
  go_wp2
  go_ret
  exact ⟨_,rfl,zbA.nil _ _,rfl,rfl⟩
 ·have HP:=Lib.hid (zqR h)
  clear h
  generalize ps.length=n at*
  have hs: ∀W (k:Nat),k≤c→(Instr.slice 45 (.slice (some ⟨g,0,none⟩) n c) none (some (.int .i64 (k:Int))) none).run Tryz.prog W= .ok (.slice (some ⟨g,0,none⟩) k c) W:=fun W k hk=>by
   rw [run_slice_h W 45 (some ⟨g,0,none⟩) n c (by simp [Program.elem,Tryz.underlying45]) .i64 _ (by omega) (by omega)]
   go_simp
  match n,hc,hl,HP with
  |0,hc,hl,HP=>
   have hs0:=fun W=>hs W 0 (by omega)
   clear hs
   go_enter Tryz.func160,Tryz.ntmps160
   go_wp2
   go_ret
   exact ⟨_,rfl,HP.out,rfl,rfl⟩
  |n+1,hc,hl,HP=>
   have hs0:=fun W=>hs W n (by omega)
   have HP2:Hid (zbA B w (.slice (some ⟨g,0,none⟩) n c) ps.dropLast):=HP.out
   clear hs HP
   by_cases h0:n=0
   ·subst h0
    go_enter Tryz.func160,Tryz.ntmps160
    go_wp2
    go_ret
    exact ⟨_,rfl,HP2.out,rfl,rfl⟩
   ·have hd:0<n:=by omega
    go_enter Tryz.func160,Tryz.ntmps160
    go_wp2
    go_ret
    exact ⟨_,rfl,HP2.out,rfl,rfl⟩
theorem Segs.below {base:Nat} {x y:World} {v:Value} {out:List (List UInt8)} (h:Segs base x (.slice none 0 0) y v out):Below x.heap.size x y:=
 ⟨h.grown.os,h.grown.tape,h.grown.output,h.grown.size,fun k hk=>h.grown.block k hk (fun e=>by cases e)⟩
theorem Segs.first (w:World):Segs w.heap.size w (.slice none 0 0) w (.slice none 0 0) []:=
 ⟨zbA.nil _ _,⟨rfl,rfl,rfl,Nat.le_refl _,fun _ _ _=>rfl⟩,.inl rfl⟩
theorem znP: ∀ps:List (List UInt8),Lib.join ps []=ps.flatten
 |[]=>rfl
 |[a]=>by simp [Lib.join,List.intercalate]
 |a::b::r=>by
  have ih:=znP (b::r)
  simp [Lib.join,List.intercalate,List.intersperse] at ih ⊢
  exact ih
theorem z6P (v:Value) (ps:List (List UInt8)) (sep:ByteArray) (w:World) (B:Nat) (h:zbA B w v ps) (hb:ps.length≤1073741824) (hj:(Lib.join ps sep.data.toList).length≤1073741824):
  Calls Tryz.prog 162 #[v,.string sep] w (zdT w (Lib.join ps sep.data.toList)):=by
 rcases h.cases with ⟨rfl,rfl⟩|⟨g,c,rfl,hcap,_,hg,hc⟩
 ·refine (Tryz.strings_Join_none none 0 sep w).mono ?_
  rintro e w' ⟨rfl,rfl⟩
  exact ⟨rfl,Below.refl _ _⟩
 ·have hl:(bas ps).length=ps.length:=by simp [bas]
  have hm:(bas ps).map (fun b=>b.data.toList)=ps:=by
   rw [bas,List.map_map]
   exact (List.map_congr_left (fun x _=>by simp)).trans (List.map_id ps)
  have:=Tryz.strings_Join g 0 c (bas ps) sep w (fun j x hx=> ?_) hg (by omega) (by omega) (by rw [hm];omega)
  ·rw [hm,hl] at this
   exact this
  ·have hlt:j<(bas ps).length:=(List.getElem?_eq_some_iff.1 hx).1
   rw [Nat.zero_add,hc j (by omega),←yhV ps j (by omega)]
   simp [List.getD,hx]
theorem ygK {p l:List UInt8} {out:List (List UInt8)} (h:remD p []=remD l out) (h0:l≠[]):remD p []=remD (zjS l out).1 (zjS l out).2:=by rw [h,zdQ out h0]
theorem zrD {l p:List UInt8} (h:Lib.hasPrefix l p=true):p.length≤l.length:=by
 obtain ⟨r,rfl⟩:=z1V.1 h
 simp
theorem zlY (p:List UInt8) (w:World) (hl:p.length≤1000000):
  Calls Tryz.prog 111 #[.string ⟨p.toArray⟩] w (zdT w (zbQ p)):=by
 obtain ⟨i0,hi,hz0,hz1,hz2⟩:=info_parts Tryz.infoStr
 have HFL:=Lib.hid (zgH p)
 have HRE:Hid (zbQ p=(remD p []).flatten):=rfl
 go_enter Tryz.func111,Tryz.ntmps111
 go_wp2
 go_loopg [3,4] p.length (fun gf v s wr=> ∃(l:List UInt8) (out:List (List UInt8)),s= .string ⟨l.toArray⟩∧Hid (Segs w.heap.size w (.slice none 0 0) wr v out)∧l.length+out.length≤p.length∧l.length≤gf∧Hid (remD p []=remD l out))
 case atStart=>exact ⟨p,[],rfl,Segs.first w,by simp,Nat.le_refl _,rfl⟩
 case round=>
  obtain ⟨l,out,rfl,HSG,hlo,hgf,HS⟩:=hrel
  by_cases h0:l=[]
  ·subst h0
   have HF:Hid (zbQ p=out.flatten):=by show _=_;rw [HRE.out,HS.out,ziL]
   have hfl:=HFL.out
   rw [HF.out] at hfl
   have HJ:=Lib.hid (z6P _ out ⟨#[]⟩ wr w.heap.size HSG.out.own (by simp at hlo;omega) (by rw [show (ByteArray.mk #[]).data.toList=[] from rfl,znP];omega))
   rw [show (ByteArray.mk #[]).data.toList=[] from rfl,znP] at HJ
   have HB:=Lib.hid HSG.out.below
   clear HSG HS hfl HFL HRE
   go_wp2_with fail
   refine HJ.out.mono ?_
   rintro e w' ⟨rfl,hb⟩
   go_wp2
   go_ret
   exact ⟨congrArg (fun l:List UInt8=>Ending.returned (.string ⟨l.toArray⟩)) HF.out.symm,zaF HB.out hb⟩
  ·have hpos:0<l.length:=List.length_pos_iff.2 h0
   obtain ⟨g',rfl⟩: ∃g',gk=g'+1:=⟨gk - 1,by omega⟩
   have hE:l.isEmpty=false:=List.isEmpty_eq_false_iff.2 h0
   have hE2:(l==[])=false:=beq_eq_false_iff_ne.2 h0
   have HS2:=ygK HS.out h0
   rw [z7V out h0] at HS2
   have HST:=Lib.hid (fun W=>z3T l W h0 (by omega))
   have HWL:=Lib.hid (fun W (h:Below wr.heap.size wr W)=>zrO w.heap.size _ out W (HSG.out.keep h).own (by omega))
   have hsz:=HSG.out.below.size
   have hsp:=z9T h0
   have hsn:1≤stpN l:=by unfold stpN;omega
   have k1:= @zrD l [46,46,47]
   have k2:= @zrD l [46,47]
   have k3:= @zrD l [47,46,47]
   have k5:= @zrD l [47,46,46,47]
   have HP1:Hid (∀W,Calls Tryz.prog 110 #[.string ⟨l.toArray⟩,.string ⟨#[46,46,47]⟩] W fun e w'=>e= .returned (.bool (Lib.hasPrefix l [46,46,47]))∧W=w'):=fun W=>(Tryz.strings_HasPrefix ⟨l.toArray⟩ ⟨#[46,46,47]⟩ W).mono (fun e w' h=>⟨h.1,h.2.symm⟩)
   have HP2:Hid (∀W,Calls Tryz.prog 110 #[.string ⟨l.toArray⟩,.string ⟨#[46,47]⟩] W fun e w'=>e= .returned (.bool (Lib.hasPrefix l [46,47]))∧W=w'):=fun W=>(Tryz.strings_HasPrefix ⟨l.toArray⟩ ⟨#[46,47]⟩ W).mono (fun e w' h=>⟨h.1,h.2.symm⟩)
   have HP3:Hid (∀W,Calls Tryz.prog 110 #[.string ⟨l.toArray⟩,.string ⟨#[47,46,47]⟩] W fun e w'=>e= .returned (.bool (Lib.hasPrefix l [47,46,47]))∧W=w'):=fun W=>(Tryz.strings_HasPrefix ⟨l.toArray⟩ ⟨#[47,46,47]⟩ W).mono (fun e w' h=>⟨h.1,h.2.symm⟩)
   have HP5:Hid (∀W,Calls Tryz.prog 110 #[.string ⟨l.toArray⟩,.string ⟨#[47,46,46,47]⟩] W fun e w'=>e= .returned (.bool (Lib.hasPrefix l [47,46,46,47]))∧W=w'):=fun W=>(Tryz.strings_HasPrefix ⟨l.toArray⟩ ⟨#[47,46,46,47]⟩ W).mono (fun e w' h=>⟨h.1,h.2.symm⟩)
   have hft:=zdM l (stpN l) hsp
   have hdl:out.dropLast.length≤out.length:=by rw [List.length_dropLast];omega
   have hd1:(l.drop (stpN l)).length=l.length - stpN l:=List.length_drop
   have htl:(l.take (stpN l)).length=stpN l:=by rw [List.length_take];omega
   have hd3:(l.drop 3).length=l.length - 3:=List.length_drop
   have hd2:(l.drop 2).length=l.length - 2:=List.length_drop
   have l4:(l==[47,46])=true→2≤l.length:=fun e=>by rw [beq_iff_eq] at e;rw [e];decide
   have l6:(l==[47,46,46])=true→3≤l.length:=fun e=>by rw [beq_iff_eq] at e;rw [e];decide
   have F3:Hid (3≤l.length→ ∀W,(Instr.slice 9 (.string ⟨l.toArray⟩) (some (.int .i64 3)) none none).run Tryz.prog W= .ok (.string ⟨(l.drop 3).toArray⟩) W):=fun h=>zdM l 3 h
   have F2:Hid (2≤l.length→ ∀W,(Instr.slice 9 (.string ⟨l.toArray⟩) (some (.int .i64 2)) none none).run Tryz.prog W= .ok (.string ⟨(l.drop 2).toArray⟩) W):=fun h=>zdM l 2 h
   clear HS h0 HRE HFL
   generalize Lib.hasPrefix l [46,46,47]=b1 at*
   generalize Lib.hasPrefix l [46,47]=b2 at*
   generalize Lib.hasPrefix l [47,46,47]=b3 at*
   generalize Lib.hasPrefix l [47,46,46,47]=b5 at*
   obtain ⟨b4,e4⟩: ∃b,(l==[47,46])=b:=⟨_,rfl⟩
   obtain ⟨b6,e6⟩: ∃b,(l==[47,46,46])=b:=⟨_,rfl⟩
   obtain ⟨b7,e7⟩: ∃b,(l==[46])=b:=⟨_,rfl⟩
   obtain ⟨b8,e8⟩: ∃b,(l==[46,46])=b:=⟨_,rfl⟩
   rw [e4] at HS2 l4
   rw [e6] at HS2 l6
   rw [e7,e8] at HS2
   have HS3:=Lib.hid HS2
   clear HS2
   cases b1 with
   |true=>
    have HN:Hid (remD p []=remD (l.drop 3) out):=HS3.out
    have h3:3≤l.length:=k1 rfl
    have hs:=F3.out h3
    clear HS3 HP2 HP3 HP5 HST HWL hft e4 e6 e7 e8 F2 F3 k1 k2 k3 k5
    go_wp2_with fail
    refine (HP1.out _).mono ?_
    rintro e w' ⟨rfl,rfl⟩
    go_wp2
    go_roundg g'
    case measure=>omega
    case rel=>exact ⟨l.drop 3,out,rfl,HSG,by omega,by omega,HN.out⟩
   |false=>
   cases b2 with
   |true=>
    have HN:Hid (remD p []=remD (l.drop 2) out):=HS3.out
    have h3:2≤l.length:=k2 rfl
    have hs:=F2.out h3
    clear HS3 HP3 HP5 HST HWL hft e4 e6 e7 e8 F2 F3 k1 k2 k3 k5
    go_wp2_with fail
    refine (HP1.out _).mono ?_
    rintro e w' ⟨rfl,rfl⟩
    go_wp2_with fail
    refine (HP2.out _).mono ?_
    rintro e w' ⟨rfl,rfl⟩
    go_wp2
    go_roundg g'
    case measure=>omega
    case rel=>exact ⟨l.drop 2,out,rfl,HSG,by omega,by omega,HN.out⟩
   |false=>
   cases b3 with
   |true=>
    have HN:Hid (remD p []=remD (l.drop 2) out):=HS3.out
    have h3:3≤l.length:=k3 rfl
    have hs:=F2.out (by omega)
    clear HS3 HP5 HST HWL hft e4 e6 e7 e8 F2 F3 k1 k2 k3 k5
    go_wp2_with fail
    refine (HP1.out _).mono ?_
    rintro e w' ⟨rfl,rfl⟩
    go_wp2_with fail
    refine (HP2.out _).mono ?_
    rintro e w' ⟨rfl,rfl⟩
    go_wp2_with fail
    refine (HP3.out _).mono ?_
    rintro e w' ⟨rfl,rfl⟩
    go_wp2
    go_roundg g'
    case measure=>omega
    case rel=>exact ⟨l.drop 2,out,rfl,HSG,by omega,by omega,HN.out⟩
   |false=>
   go_wp2_with fail
   refine (HP1.out _).mono ?_
   rintro e w' ⟨rfl,rfl⟩
   go_wp2_with fail
   refine (HP2.out _).mono ?_
   rintro e w' ⟨rfl,rfl⟩
   go_wp2_with fail
   refine (HP3.out _).mono ?_
   rintro e w' ⟨rfl,rfl⟩
   clear HP1 HP2 HP3 k1 k2 k3
   cases b4 with
   |true=>
    have HN:Hid (remD p []=remD [47] out):=HS3.out
    have h2:=l4 rfl
    clear HS3 HP5 HST HWL hft e6 e7 e8 F2 F3 k5
    go_wp2
    go_roundg g'
    case measure=>omega
    case rel=>exact ⟨[47],out,rfl,HSG,by simp;omega,by simp;omega,HN.out⟩
   |false=>
   cases b5 with
   |true=>
    have HN:Hid (remD p []=remD (l.drop 3) out.dropLast):=HS3.out
    have h3:4≤l.length:=k5 rfl
    have hs:=F3.out (by omega)
    clear HS3 HST hft e6 e7 e8 F2 F3 k5
    go_wp2_with fail
    refine (HP5.out _).mono ?_
    rintro e w' ⟨rfl,rfl⟩
    go_wp2_with fail
    go_region_held3 (fun _=>True) (exact trivial) (first|(go_simp;go_at_call 160;refine (HWL.out _ (zaG _)).mono ?_;rintro e x5 ⟨v2,rfl,hpd,hbd,rfl⟩))
    have HSG4:=Lib.hid ((HSG.out.keep (zaG _)).drop hpd hbd)
    clear hpd hbd HWL HSG HP5
    go_wp2
    go_roundg g'
    case measure=>omega
    case rel=>exact ⟨l.drop 3,out.dropLast,rfl,HSG4.out,by omega,by omega,HN.out⟩
   |false=>
   go_wp2_with fail
   refine (HP5.out _).mono ?_
   rintro e w' ⟨rfl,rfl⟩
   clear HP5 k5 F2 F3
   cases b6 with
   |true=>
    have HN:Hid (remD p []=remD [47] out.dropLast):=HS3.out
    have h3:=l6 rfl
    clear HS3 HST hft e7 e8
    go_wp2_with fail
    refine (HWL.out _ (Below.refl _ _)).mono ?_
    rintro e x5 ⟨v2,rfl,hpd,hbd,rfl⟩
    have HSG4:=Lib.hid (HSG.out.drop hpd hbd)
    clear hpd hbd HWL HSG
    go_wp2
    go_roundg g'
    case measure=>omega
    case rel=>exact ⟨[47],out.dropLast,rfl,HSG4.out,by simp;omega,by simp;omega,HN.out⟩
   |false=>
   clear HWL
   cases b7 with
   |true=>
    have HN:Hid (remD p []=remD [] out):=HS3.out
    clear HS3 HST hft e8
    go_wp2
    go_roundg g'
    case measure=>omega
    case rel=>exact ⟨[],out,rfl,HSG,by simp;omega,by simp,HN.out⟩
   |false=>
   cases b8 with
   |true=>
    have HN:Hid (remD p []=remD [] out):=HS3.out
    clear HS3 HST hft
    go_wp2
    go_roundg g'
    case measure=>omega
    case rel=>exact ⟨[],out,rfl,HSG,by simp;omega,by simp,HN.out⟩
   |false=>
   have HN:Hid (remD p []=remD (l.drop (stpN l)) (out++[l.take (stpN l)])):=HS3.out
   have hzt:(ByteArray.mk (l.take (stpN l)).toArray).size=stpN l:=by rw [zaB,htl]
   have hown:=HSG.out.own
   unfold zbA at hown
   clear HS3
   generalize l.take (stpN l)=q at*
   generalize l.drop (stpN l)=r at*
   generalize stpN l=n at*
   go_wp2_with fail
   refine (HST.out _).mono ?_
   rintro e w' ⟨rfl,rfl⟩
   go_wp2_with fail
   go_region_held3 (fun _=>True) (exact trivial) (first|(refine step_append_lies _ (by rfl) _ _ _ (by rfl) w.heap.size 9 i0 _ 1 16 Tryz.underlying45 hi hz0 hz1 hz2 rfl (by omega) _ out.length (zjD out) (by rfl) ((hown.alloc _).drew) ⟨wr.heap.size,0,none⟩ 1 1 [.string ⟨q.toArray⟩] (by rfl) (by rfl) (World.news_of_block (cs:= #[.string ⟨q.toArray⟩]) (t:=9) (fr:=(0,0)) (heap_alloc_new wr _)) (by simp [Value.oneCell']) (by omega) (by unfold maxLen;omega) (by omega) (by simp;omega) (wr.heap.size+1) (by simp) ?_;intro gg cap w1 hown1 hgrow hat hlt2))
   all_goals
    have HSG4:Hid (Segs w.heap.size w (.slice none 0 0) w1 (.slice (some ⟨gg,0,none⟩) (out.length+1) cap) (out++[q])):=by
     refine (HSG.out.keep (((Below.refl _ wr).alloc (Nat.le_refl _) _).drew)).app hown1 hgrow ?_
     rcases hat with e|e
     ·exact .inl e.symm
     ·exact .inr ⟨gg,rfl,by rw [e];simp⟩
    clear hown hown1 hgrow hat HST
    go_wp2
    go_roundg g'
    case measure=>omega
    case rel=>exact ⟨r,out++[q],rfl,HSG4.out,by simp;omega,by omega,HN.out⟩
end
end Go.Proofs.YtmjappnpedjlnaaGreatDoor
