/-
  What the law ResolveParts leans on, and its walk (32 of 42).
-/
import Derived.Test.YtmjappnpedjlnaaGreatDoorResolvePartsPkN
import Derived.Test.YtmjappnpedjlnaaGreatDoorResolvePartsPkf
import Derived.Test.YtmjappnpedjlnaaGreatDoorResolvePartsPkY
namespace Go.Proofs.YtmjappnpedjlnaaGreatDoor
set_option maxRecDepth 100000
set_option maxHeartbeats 16000000
abbrev zlQ := @Lib.hid
abbrev zlR := @Nat.le_refl
abbrev zlS := @decide_eq_false
abbrev zlT := @decide_eq_true
section
open Go.RowKit
theorem zgQ (q:List UInt8) (w:World) (h0:q≠[]) (hl:q.length≤1000000):
  Calls Tryz.prog 161 #[.string ⟨q.toArray⟩] w fun e w'=>e= .returned (.string ⟨(q.take (stpN q)).toArray⟩)∧w=w':=by
 have hp:0<q.length:=List.length_pos_iff.2 h0
 have hle:=zeU h0
 have hN:stpN q=1+(segD (q.drop 1)).length:=by rw [List.drop_one];rfl
 have hs1: ∀W,(Instr.slice 9 (.string ⟨q.toArray⟩) (some (.int .i64 1)) none none).run Tryz.prog W= .ok (.string ⟨(q.drop 1).toArray⟩) W:=zbQ q 1 (by omega)
 have hs2:=zdT q (stpN q) hle
 have HI:Hid (∀W,Calls Tryz.prog 107 #[.string ⟨(q.drop 1).toArray⟩,.int .u8 47] W fun e w'=>e= .returned (.int .i64 (Lib.indexByte (q.drop 1) 47))∧W=w'):=fun W=>(Tryz.strings_IndexByte ⟨(q.drop 1).toArray⟩ 47 W).mono (fun e w' h=>⟨h.1,h.2.symm⟩)
 obtain ⟨i1,i2⟩:=zcW (q.drop 1)
 have hlen:(q.drop 1).length=q.length - 1:=List.length_drop
 have hz:(ByteArray.mk q.toArray).size=q.length:=by simp [ByteArray.size]
 by_cases h47:(47:UInt8)∈q.drop 1
 ·have e:=i1 h47
  rw [e] at HI
  have hw:(1:Int)+((segD (q.drop 1)).length:Nat)=((stpN q:Nat):Int):=by rw [hN];omega
  have hk:IntKind.i64.wrap ((1:Int)+((segD (q.drop 1)).length:Nat))=((stpN q:Nat):Int):=by rw [hw];exact IntWalk.i64_in _ (by omega)
  have hd:decide ((((segD (q.drop 1)).length:Nat):Int)<0)=false:=zlS (by omega)
  clear i1 i2 e hN h47
  generalize (segD (q.drop 1)).length=m at*
  generalize q.drop 1=q1 at*
  generalize stpN q=n at*
  go_enter Tryz.func161,Tryz.ntmps161
  go_wp2_with fail
  refine (HI.out _).mono ?_
  rintro e w' ⟨rfl,rfl⟩
  go_wp2
  go_ret
  exact ⟨rfl,rfl⟩
 ·obtain ⟨e,e2⟩:=i2 h47
  rw [e] at HI
  have HF:Hid (q.take (stpN q)=q):=by show _=_;rw [hN,e2,hlen];exact List.take_of_length_le (by omega)
  clear i1 i2 e hN h47 hs2 e2
  generalize q.drop 1=q1 at*
  go_enter Tryz.func161,Tryz.ntmps161
  go_wp2_with fail
  refine (HI.out _).mono ?_
  rintro e w' ⟨rfl,rfl⟩
  go_wp2
  go_ret
  exact ⟨congrArg (fun l:List UInt8=>Ending.returned (.string ⟨l.toArray⟩)) HF.out.symm,rfl⟩
theorem zdF (B:Nat) (v:Value) (ps:List (List UInt8)) (w:World) (h:zaX B w v ps) (hl:ps.length≤10000000):
  Calls Tryz.prog 160 #[v] w fun e w'=> ∃v',e= .returned v'∧zaX B w v' ps.dropLast∧v'.ownBlock=v.ownBlock∧w=w':=by
 rcases h.cases with ⟨rfl,rfl⟩|⟨g,c,rfl,hc,_,_⟩
 ·have hs: ∀W,(Instr.slice 45 (.slice none 0 0) none (some (.int .i64 0)) none).run Tryz.prog W= .ok (.slice none 0 0) W:=fun W=>by
   rw [run_slice_h W 45 none 0 0 (by simp [Program.elem,Tryz.underlying45]) .i64 _ (by omega) (by omega)]
   rfl
  go_enter Tryz.func160,Tryz.ntmps160
  go_wp2
  go_ret
  exact ⟨_,rfl,zaX.nil _ _,rfl,rfl⟩
 ·have HP:=zlQ (zdA h)
  clear h
  generalize ps.length=n at*
  have hs: ∀W (k:Nat),k≤c→(Instr.slice 45 (.slice (some ⟨g,0,none⟩) n c) none (some (.int .i64 (k:Int))) none).run Tryz.prog W= .ok (.slice (some ⟨g,0,none⟩) k c) W:=fun W k hk=>by
   rw [run_slice_h W 45 (some ⟨g,0,none⟩) n c (by simp [Program.elem,Tryz.underlying45]) .i64 _ (by omega) (by omega)]
   go_simp
  match n,hc,hl,HP with
  |0,hc,hl,HP=>
   have hs0:=fun W=>hs W 0 (by omega)
   clear hs
   go_enter Tryz.func160,Tryz.ntmps160
   go_wp2
   go_ret
   exact ⟨_,rfl,HP.out,rfl,rfl⟩
  |n+1,hc,hl,HP=>
   have hs0:=fun W=>hs W n (by omega)
   have HP2:Hid (zaX B w (.slice (some ⟨g,0,none⟩) n c) ps.dropLast):=HP.out
   clear hs HP
   by_cases h0:n=0
   ·subst h0
    go_enter Tryz.func160,Tryz.ntmps160
    go_wp2
    go_ret
    exact ⟨_,rfl,HP2.out,rfl,rfl⟩
   ·have hd:0<n:=by omega
    go_enter Tryz.func160,Tryz.ntmps160
    go_wp2
    go_ret
    exact ⟨_,rfl,HP2.out,rfl,rfl⟩
theorem Segs.below {base:Nat} {x y:World} {v:Value} {out:List (List UInt8)} (h:Segs base x (.slice none 0 0) y v out):Below x.heap.size x y:=
 ⟨h.grown.os,h.grown.tape,h.grown.output,h.grown.size,fun k hk=>h.grown.block k hk (fun e=>by cases e)⟩
theorem Segs.first (w:World):Segs w.heap.size w (.slice none 0 0) w (.slice none 0 0) []:=
 ⟨zaX.nil _ _,⟨rfl,rfl,rfl,zlR _,fun _ _ _=>rfl⟩,.inl rfl⟩
theorem zcR: ∀ps:List (List UInt8),Lib.join ps []=ps.flatten
 |[]=>rfl
 |[a]=>by simp [Lib.join,List.intercalate]
 |a::b::r=>by
  have ih:=zcR (b::r)
  simp [Lib.join,List.intercalate,List.intersperse] at ih ⊢
  exact ih
theorem zhE (v:Value) (ps:List (List UInt8)) (sep:ByteArray) (w:World) (B:Nat) (h:zaX B w v ps) (hb:ps.length≤1073741824) (hj:(Lib.join ps sep.data.toList).length≤1073741824):
  Calls Tryz.prog 162 #[v,.string sep] w (zfZ w (Lib.join ps sep.data.toList)):=by
 rcases h.cases with ⟨rfl,rfl⟩|⟨g,c,rfl,hcap,_,hg,hc⟩
 ·refine (Tryz.strings_Join_none none 0 sep w).mono ?_
  rintro e w' ⟨rfl,rfl⟩
  exact ⟨rfl,Below.refl _ _⟩
 ·have hl:(bas ps).length=ps.length:=by simp [bas]
  have hm:(bas ps).map (fun b=>b.data.toList)=ps:=by
   rw [bas,List.map_map]
   exact (List.map_congr_left (fun x _=>by simp)).trans (List.map_id ps)
  have:=Tryz.strings_Join g 0 c (bas ps) sep w (fun j x hx=> ?_) hg (by omega) (by omega) (by rw [hm];omega)
  ·rw [hm,hl] at this
   exact this
  ·have hlt:j<(bas ps).length:=(List.getElem?_eq_some_iff.1 hx).1
   rw [Nat.zero_add,hc j (by omega),←zkI ps j (by omega)]
   simp [List.getD,hx]
theorem zfQ {p l:List UInt8} {out:List (List UInt8)} (h:remD p []=remD l out) (h0:l≠[]):remD p []=remD (zcG l out).1 (zcG l out).2:=by rw [h,zeJ out h0]
theorem zbS {l p:List UInt8} (h:Lib.hasPrefix l p=true):p.length≤l.length:=by
 obtain ⟨r,rfl⟩:=zcD.1 h
 simp
theorem zcH (p:List UInt8) (w:World) (hl:p.length≤1000000):
  Calls Tryz.prog 111 #[.string ⟨p.toArray⟩] w (zfZ w (zaG p)):=by
 obtain ⟨i0,hi,hz0,hz1,hz2⟩:=info_parts Tryz.infoStr
 have HFL:=zlQ (zbV p)
 have HRE:Hid (zaG p=(remD p []).flatten):=rfl
 go_enter Tryz.func111,Tryz.ntmps111
 go_wp2
 go_loopg [3,4] p.length (fun gf v s wr=> ∃(l:List UInt8) (out:List (List UInt8)),s= .string ⟨l.toArray⟩∧Hid (Segs w.heap.size w (.slice none 0 0) wr v out)∧l.length+out.length≤p.length∧l.length≤gf∧Hid (remD p []=remD l out))
 case atStart=>exact ⟨p,[],rfl,Segs.first w,by simp,zlR _,rfl⟩
 case round=>
  obtain ⟨l,out,rfl,HSG,hlo,hgf,HS⟩:=hrel
  by_cases h0:l=[]
  ·subst h0
   have HF:Hid (zaG p=out.flatten):=by show _=_;rw [HRE.out,HS.out,zdE]
   have hfl:=HFL.out
   rw [HF.out] at hfl
   have HJ:=zlQ (zhE _ out ⟨#[]⟩ wr w.heap.size HSG.out.own (by simp at hlo;omega) (by rw [show (ByteArray.mk #[]).data.toList=[] from rfl,zcR];omega))
   rw [show (ByteArray.mk #[]).data.toList=[] from rfl,zcR] at HJ
   have HB:=zlQ HSG.out.below
   clear HSG HS hfl HFL HRE
   go_wp2_with fail
   refine HJ.out.mono ?_
   rintro e w' ⟨rfl,hb⟩
   go_wp2
   go_ret
   exact ⟨congrArg (fun l:List UInt8=>Ending.returned (.string ⟨l.toArray⟩)) HF.out.symm,zaS HB.out hb⟩
  ·have hpos:0<l.length:=List.length_pos_iff.2 h0
   obtain ⟨g',rfl⟩: ∃g',gk=g'+1:=⟨gk - 1,by omega⟩
   have hE:l.isEmpty=false:=List.isEmpty_eq_false_iff.2 h0
   have hE2:(l==[])=false:=beq_eq_false_iff_ne.2 h0
   have HS2:=zfQ HS.out h0
   rw [zeI out h0] at HS2
   have HST:=zlQ (fun W=>zgQ l W h0 (by omega))
   have HWL:=zlQ (fun W (h:Below wr.heap.size wr W)=>zdF w.heap.size _ out W (HSG.out.keep h).own (by omega))
   have hsz:=HSG.out.below.size
   have hsp:=zeU h0
   have hsn:1≤stpN l:=by unfold stpN;omega
   have k1:= @zbS l [46,46,47]
   have k2:= @zbS l [46,47]
   have k3:= @zbS l [47,46,47]
   have k5:= @zbS l [47,46,46,47]
   have HP1:Hid (∀W,Calls Tryz.prog 110 #[.string ⟨l.toArray⟩,.string ⟨#[46,46,47]⟩] W fun e w'=>e= .returned (.bool (Lib.hasPrefix l [46,46,47]))∧W=w'):=fun W=>(Tryz.strings_HasPrefix ⟨l.toArray⟩ ⟨#[46,46,47]⟩ W).mono (fun e w' h=>⟨h.1,h.2.symm⟩)
   have HP2:Hid (∀W,Calls Tryz.prog 110 #[.string ⟨l.toArray⟩,.string ⟨#[46,47]⟩] W fun e w'=>e= .returned (.bool (Lib.hasPrefix l [46,47]))∧W=w'):=fun W=>(Tryz.strings_HasPrefix ⟨l.toArray⟩ ⟨#[46,47]⟩ W).mono (fun e w' h=>⟨h.1,h.2.symm⟩)
   have HP3:Hid (∀W,Calls Tryz.prog 110 #[.string ⟨l.toArray⟩,.string ⟨#[47,46,47]⟩] W fun e w'=>e= .returned (.bool (Lib.hasPrefix l [47,46,47]))∧W=w'):=fun W=>(Tryz.strings_HasPrefix ⟨l.toArray⟩ ⟨#[47,46,47]⟩ W).mono (fun e w' h=>⟨h.1,h.2.symm⟩)
   have HP5:Hid (∀W,Calls Tryz.prog 110 #[.string ⟨l.toArray⟩,.string ⟨#[47,46,46,47]⟩] W fun e w'=>e= .returned (.bool (Lib.hasPrefix l [47,46,46,47]))∧W=w'):=fun W=>(Tryz.strings_HasPrefix ⟨l.toArray⟩ ⟨#[47,46,46,47]⟩ W).mono (fun e w' h=>⟨h.1,h.2.symm⟩)
   have hft:=zbQ l (stpN l) hsp
   have hdl:out.dropLast.length≤out.length:=by rw [List.length_dropLast];omega
   have hd1:(l.drop (stpN l)).length=l.length - stpN l:=List.length_drop
   have htl:(l.take (stpN l)).length=stpN l:=by rw [List.length_take];omega
   have hd3:(l.drop 3).length=l.length - 3:=List.length_drop
   have hd2:(l.drop 2).length=l.length - 2:=List.length_drop
   have l4:(l==[47,46])=true→2≤l.length:=fun e=>by rw [beq_iff_eq] at e;rw [e];decide
   have l6:(l==[47,46,46])=true→3≤l.length:=fun e=>by rw [beq_iff_eq] at e;rw [e];decide
   have F3:Hid (3≤l.length→ ∀W,(Instr.slice 9 (.string ⟨l.toArray⟩) (some (.int .i64 3)) none none).run Tryz.prog W= .ok (.string ⟨(l.drop 3).toArray⟩) W):=fun h=>zbQ l 3 h
   have F2:Hid (2≤l.length→ ∀W,(Instr.slice 9 (.string ⟨l.toArray⟩) (some (.int .i64 2)) none none).run Tryz.prog W= .ok (.string ⟨(l.drop 2).toArray⟩) W):=fun h=>zbQ l 2 h
   clear HS h0 HRE HFL
   generalize Lib.hasPrefix l [46,46,47]=b1 at*
   generalize Lib.hasPrefix l [46,47]=b2 at*
   generalize Lib.hasPrefix l [47,46,47]=b3 at*
   generalize Lib.hasPrefix l [47,46,46,47]=b5 at*
   obtain ⟨b4,e4⟩: ∃b,(l==[47,46])=b:=⟨_,rfl⟩
   obtain ⟨b6,e6⟩: ∃b,(l==[47,46,46])=b:=⟨_,rfl⟩
   obtain ⟨b7,e7⟩: ∃b,(l==[46])=b:=⟨_,rfl⟩
   obtain ⟨b8,e8⟩: ∃b,(l==[46,46])=b:=⟨_,rfl⟩
   rw [e4] at HS2 l4
   rw [e6] at HS2 l6
   rw [e7,e8] at HS2
   have HS3:=zlQ HS2
   clear HS2
   cases b1 with
   |true=>
    have HN:Hid (remD p []=remD (l.drop 3) out):=HS3.out
    have h3:3≤l.length:=k1 rfl
    have hs:=F3.out h3
    clear HS3 HP2 HP3 HP5 HST HWL hft e4 e6 e7 e8 F2 F3 k1 k2 k3 k5
    go_wp2_with fail
    refine (HP1.out _).mono ?_
    rintro e w' ⟨rfl,rfl⟩
    go_wp2
    go_roundg g'
    case measure=>omega
    case rel=>exact ⟨l.drop 3,out,rfl,HSG,by omega,by omega,HN.out⟩
   |false=>
   cases b2 with
   |true=>
    have HN:Hid (remD p []=remD (l.drop 2) out):=HS3.out
    have h3:2≤l.length:=k2 rfl
    have hs:=F2.out h3
    clear HS3 HP3 HP5 HST HWL hft e4 e6 e7 e8 F2 F3 k1 k2 k3 k5
    go_wp2_with fail
    refine (HP1.out _).mono ?_
    rintro e w' ⟨rfl,rfl⟩
    go_wp2_with fail
    refine (HP2.out _).mono ?_
    rintro e w' ⟨rfl,rfl⟩
    go_wp2
    go_roundg g'
    case measure=>omega
    case rel=>exact ⟨l.drop 2,out,rfl,HSG,by omega,by omega,HN.out⟩
   |false=>
   cases b3 with
   |true=>
    have HN:Hid (remD p []=remD (l.drop 2) out):=HS3.out
    have h3:3≤l.length:=k3 rfl
    have hs:=F2.out (by omega)
    clear HS3 HP5 HST HWL hft e4 e6 e7 e8 F2 F3 k1 k2 k3 k5
    go_wp2_with fail
    refine (HP1.out _).mono ?_
    rintro e w' ⟨rfl,rfl⟩
    go_wp2_with fail
    refine (HP2.out _).mono ?_
    rintro e w' ⟨rfl,rfl⟩
    go_wp2_with fail
    refine (HP3.out _).mono ?_
    rintro e w' ⟨rfl,rfl⟩
    go_wp2
    go_roundg g'
    case measure=>omega
    case rel=>exact ⟨l.drop 2,out,rfl,HSG,by omega,by omega,HN.out⟩
   |false=>
   go_wp2_with fail
   refine (HP1.out _).mono ?_
   rintro e w' ⟨rfl,rfl⟩
   go_wp2_with fail
   refine (HP2.out _).mono ?_
   rintro e w' ⟨rfl,rfl⟩
   go_wp2_with fail
   refine (HP3.out _).mono ?_
   rintro e w' ⟨rfl,rfl⟩
   clear HP1 HP2 HP3 k1 k2 k3
   cases b4 with
   |true=>
    have HN:Hid (remD p []=remD [47] out):=HS3.out
    have h2:=l4 rfl
    clear HS3 HP5 HST HWL hft e6 e7 e8 F2 F3 k5
    go_wp2
    go_roundg g'
    case measure=>omega
    case rel=>exact ⟨[47],out,rfl,HSG,by simp;omega,by simp;omega,HN.out⟩
   |false=>
   cases b5 with
   |true=>
    have HN:Hid (remD p []=remD (l.drop 3) out.dropLast):=HS3.out
    have h3:4≤l.length:=k5 rfl
    have hs:=F3.out (by omega)
    clear HS3 HST hft e6 e7 e8 F2 F3 k5
    go_wp2_with fail
    refine (HP5.out _).mono ?_
    rintro e w' ⟨rfl,rfl⟩
    go_wp2_with fail
    go_region_held3 (fun _=>True) (exact trivial) (first|(go_simp;go_at_call 160;refine (HWL.out _ (zaH _)).mono ?_;rintro e x5 ⟨v2,rfl,hpd,hbd,rfl⟩))
    have HSG4:=zlQ ((HSG.out.keep (zaH _)).drop hpd hbd)
    clear hpd hbd HWL HSG HP5
    go_wp2
    go_roundg g'
    case measure=>omega
    case rel=>exact ⟨l.drop 3,out.dropLast,rfl,HSG4.out,by omega,by omega,HN.out⟩
   |false=>
   go_wp2_with fail
   refine (HP5.out _).mono ?_
   rintro e w' ⟨rfl,rfl⟩
   clear HP5 k5 F2 F3
   cases b6 with
   |true=>
    have HN:Hid (remD p []=remD [47] out.dropLast):=HS3.out
    have h3:=l6 rfl
    clear HS3 HST hft e7 e8
    go_wp2_with fail
    refine (HWL.out _ (Below.refl _ _)).mono ?_
    rintro e x5 ⟨v2,rfl,hpd,hbd,rfl⟩
    have HSG4:=zlQ (HSG.out.drop hpd hbd)
    clear hpd hbd HWL HSG
    go_wp2
    go_roundg g'
    case measure=>omega
    case rel=>exact ⟨[47],out.dropLast,rfl,HSG4.out,by simp;omega,by simp;omega,HN.out⟩
   |false=>
   clear HWL
   cases b7 with
   |true=>
    have HN:Hid (remD p []=remD [] out):=HS3.out
    clear HS3 HST hft e8
    go_wp2
    go_roundg g'
    case measure=>omega
    case rel=>exact ⟨[],out,rfl,HSG,by simp;omega,by simp,HN.out⟩
   |false=>
   cases b8 with
   |true=>
    have HN:Hid (remD p []=remD [] out):=HS3.out
    clear HS3 HST hft
    go_wp2
    go_roundg g'
    case measure=>omega
    case rel=>exact ⟨[],out,rfl,HSG,by simp;omega,by simp,HN.out⟩
   |false=>
   have HN:Hid (remD p []=remD (l.drop (stpN l)) (out++[l.take (stpN l)])):=HS3.out
   have hzt:(ByteArray.mk (l.take (stpN l)).toArray).size=stpN l:=by rw [zaF,htl]
   have hown:=HSG.out.own
   unfold zaX at hown
   clear HS3
   generalize l.take (stpN l)=q at*
   generalize l.drop (stpN l)=r at*
   generalize stpN l=n at*
   go_wp2_with fail
   refine (HST.out _).mono ?_
   rintro e w' ⟨rfl,rfl⟩
   go_wp2_with fail
   go_region_held3 (fun _=>True) (exact trivial) (first|(refine step_append_lies _ (by rfl) _ _ _ (by rfl) w.heap.size 9 i0 _ 1 16 Tryz.underlying45 hi hz0 hz1 hz2 rfl (by omega) _ out.length (zcM out) (by rfl) ((hown.alloc _).drew) ⟨wr.heap.size,0,none⟩ 1 1 [.string ⟨q.toArray⟩] (by rfl) (by rfl) (World.news_of_block (cs:= #[.string ⟨q.toArray⟩]) (t:=9) (fr:=(0,0)) (heap_alloc_new wr _)) (by simp [Value.oneCell']) (by omega) (by unfold maxLen;omega) (by omega) (by simp;omega) (wr.heap.size+1) (by simp) ?_;intro gg cap w1 hown1 hgrow hat hlt2))
   all_goals
    have HSG4:Hid (Segs w.heap.size w (.slice none 0 0) w1 (.slice (some ⟨gg,0,none⟩) (out.length+1) cap) (out++[q])):=by
     refine (HSG.out.keep (((Below.refl _ wr).alloc (zlR _) _).drew)).app hown1 hgrow ?_
     rcases hat with e|e
     ·exact .inl e.symm
     ·exact .inr ⟨gg,rfl,by rw [e];simp⟩
    clear hown hown1 hgrow hat HST
    go_wp2
    go_roundg g'
    case measure=>omega
    case rel=>exact ⟨r,out++[q],rfl,HSG4.out,by simp;omega,by omega,HN.out⟩
theorem zjS (l p:List UInt8):Lib.hasPrefix l p=(decide (p.length≤l.length)&&(l.take p.length==p)):=by
 cases e:Lib.hasPrefix l p with
 |true=>
  obtain ⟨r,rfl⟩:=zcD.1 e
  simp
 |false=>
  symm
  rw [Bool.and_eq_false_iff]
  by_cases h:p.length≤l.length
  ·right
   rw [beq_eq_false_iff_ne]
   intro q
   have:Lib.hasPrefix l p=true:=zcD.2 ⟨l.drop p.length,(List.take_append_drop p.length l).symm.trans (congrArg (· ++l.drop p.length) q)⟩
   rw [e] at this
   cases this
  ·left
   exact zlS h
theorem zbG (l p:List UInt8) (w:World):
  Calls Tryz.prog 113 #[.string ⟨l.toArray⟩,.string ⟨p.toArray⟩] w fun e w'=>e= .returned (.bool (Lib.hasPrefix l p))∧w=w':=by
 have hz:=zaF l
 have hzp:=zaF p
 have HP:=zlQ (zjS l p)
 by_cases h:p.length≤l.length
 ·have hd:decide ((p.length:Int)≤(l.length:Int))=true:=zlT (by omega)
  have hs:=zdT l p.length h
  rw [zlT h,Bool.true_and] at HP
  obtain ⟨b,hb⟩: ∃b,(l.take p.length==p)=b:=⟨_,rfl⟩
  rw [hb] at HP
  generalize l.take p.length=q at*
  generalize l.length=n at*
  generalize p.length=m at*
  go_enter Tryz.func113,Tryz.ntmps113
  cases b<;>go_wp2<;>go_ret<;>exact ⟨zgF HP.out.symm,rfl⟩
 ·have hd:decide ((p.length:Int)≤(l.length:Int))=false:=zlS (by omega)
  rw [zlS h,Bool.false_and] at HP
  generalize l.length=n at*
  generalize p.length=m at*
  go_enter Tryz.func113,Tryz.ntmps113
  go_wp2
  go_ret
  exact ⟨zgF HP.out.symm,rfl⟩
theorem zjJ (q:List UInt8): ∀(n i:Nat),q.length≤i+n→1≤i→i≤q.length→(∀j (h:j<q.length),1≤j→j<i→q[j]≠47)→(i=q.length∨ ∃h:i<q.length,q[i]=47)→i=stpN q:=by
 intro n i _ h1 hi hn he
 obtain ⟨c,l,rfl⟩: ∃c l,q=c::l:=by
  cases q with
  |nil=>simp at hi;omega
  |cons c l=>exact ⟨c,l,rfl⟩
 have key: ∀(l:List UInt8) (k:Nat),k≤l.length→(∀j (h:j<l.length),j<k→l[j]≠47)→(k=l.length∨ ∃h:k<l.length,l[k]=47)→k=(segD l).length:=by
  intro l
  induction l with
  |nil=>intro k hk _ _;simp at hk;rw [hk];rfl
  |cons d l ih=>
   intro k hk hn he
   unfold segD
   cases k with
   |zero=>
    rcases he with e|⟨h,e⟩
    ·simp at e
    ·simp at e;rw [if_pos e];rfl
   |succ k=>
    have h0:d≠47:=hn 0 (by simp) (by omega)
    rw [if_neg h0,List.length_cons]
    have:=ih k (by simpa using hk) (fun j h hj=>by have:=hn (j+1) (by simp;omega) (by omega);simpa using this) (by
     rcases he with e|⟨h,e⟩
     ·left;simpa using e
     ·right;exact ⟨by simpa using h,by simpa using e⟩)
    omega
 obtain ⟨k,rfl⟩: ∃k,i=k+1:=⟨i - 1,by omega⟩
 have:=key l k (by simpa using hi) (fun j h hj=>by have:=hn (j+1) (by simp;omega) (by omega) (by omega);simpa using this) (by
  rcases he with e|⟨h,e⟩
  ·left;simpa using e
  ·right;exact ⟨by simpa using h,by simpa using e⟩)
 unfold stpN
 rw [List.tail_cons]
 omega
theorem zgM (l:List (List UInt8)) (k:Nat) (h:k<l.length):(l.take (k+1)).flatten=(l.take k).flatten++l.getD k []:=by
 rw [List.take_succ_eq_append_getElem h,List.flatten_append]
 simp [List.getD,List.getElem?_eq_getElem h]
theorem zkJ (l:List (List UInt8)) (k:Nat):(l.take k).flatten.length≤l.flatten.length:=by
 have e:=congrArg (fun x:List (List UInt8)=>x.flatten.length) (List.take_append_drop k l)
 simp only [List.flatten_append,List.length_append] at e
 omega
theorem zcV {B:Nat} {w:World} {v:Value} {ps:List (List UInt8)} (h:zaX B w v ps): ∃a c,v= .slice a ps.length c∧ps.length≤c∧(ps≠[]→ ∃g,a=some ⟨g,0,none⟩∧Seen w g ps):=by
 rcases h.cases with ⟨rfl,rfl⟩|⟨g,c,rfl,hc,_,hs⟩
 ·exact ⟨none,0,rfl,zlR _,fun h=>absurd rfl h⟩
 ·exact ⟨_,c,rfl,hc,fun _=>⟨g,rfl,hs⟩⟩
theorem pre5 {l:List UInt8} (h:Lib.hasPrefix l [47,46,46,47]=true):Lib.hasPrefix l [46,46,47]=false∧Lib.hasPrefix l [46,47]=false∧Lib.hasPrefix l [47,46,47]=false∧(l==[47,46])=false∧(l==[47,46,46])=false:=by
 obtain ⟨r,rfl⟩:=zcD.1 h
 refine ⟨rfl,rfl,rfl,?_,?_⟩<;>rw [beq_eq_false_iff_ne]<;>simp
theorem pre6 {l:List UInt8} (h:(l==[47,46,46])=true):Lib.hasPrefix l [46,46,47]=false∧Lib.hasPrefix l [46,47]=false∧Lib.hasPrefix l [47,46,47]=false∧(l==[47,46])=false∧Lib.hasPrefix l [47,46,46,47]=false:=by
 rw [beq_iff_eq] at h
 subst h
 decide
theorem zaJ (p:List UInt8) (w:World) (hl:p.length≤1000000):
  Calls Tryz.prog 61 #[.string ⟨p.toArray⟩] w (zfZ w (zaG p)):=by
 obtain ⟨i0,hi,hz0,hz1,hz2⟩:=info_parts Tryz.infoStr
 have HFL:=zlQ (zbV p)
 have HRE:Hid (zaG p=(remD p []).flatten):=rfl
 go_enter Tryz.func61,Tryz.ntmps61
 go_wp2
 go_loopg [3,0] p.length (fun gf v s wr=> ∃(l:List UInt8) (out:List (List UInt8)),s= .string ⟨l.toArray⟩∧Hid (Segs w.heap.size w (.slice none 0 0) wr v out)∧l.length+out.length≤p.length∧l.length≤gf∧Hid (remD p []=remD l out))
 case atStart=>exact ⟨p,[],rfl,Segs.first w,by simp,zlR _,rfl⟩
 case round=>
  obtain ⟨l,out,rfl,HSG,hlo,hgf,HS⟩:=hrel
  by_cases h0:l=[]
  ·subst h0
   have HF:Hid (zaG p=out.flatten):=by show _=_;rw [HRE.out,HS.out,zdE]
   have hfl:=HFL.out
   rw [HF.out] at hfl
   have HB:=zlQ HSG.out.below
   obtain ⟨a,c,rfl,hc,hs⟩:=zcV HSG.out.own
   have HSN:=zlQ hs
   clear HSG HS HFL HRE hs
   go_wp2
   go_loop [6,79] (fun s i=> ∃(k:Nat) (T:List UInt8),k≤out.length∧i= .int .i64 k∧s= .string ⟨T.toArray⟩∧Hid (T=(out.take k).flatten)) (fun _ i=>out.length - (intOf i).toNat)
   case atStart=>exact ⟨0,[],Nat.zero_le _,rfl,rfl,rfl⟩
   case round=>
    obtain ⟨k,T,hk,rfl,rfl,HT⟩:=hrel
    by_cases hkl:k<out.length
    ·obtain ⟨g,rfl,hsn⟩:=HSN.out (fun e=>by rw [e] at hkl;simp at hkl)
     have hcell:=hsn.2 k hkl
     have HN:Hid (T++out.getD k []=(out.take (k+1)).flatten):=by show _=_;rw [zgM out k hkl,HT.out]
     have hTl:T.length+(out.getD k []).length≤1000000:=by
      have e:=congrArg List.length HN.out
      have:=zkJ out (k+1)
      rw [List.length_append] at e
      omega
     generalize out.getD k []=q at*
     have hz1:=zaF T
     have hz2:=zaF q
     clear HSN hsn
     go_wp2
     exact ⟨⟨k+1,T++q,by omega,by go_num,congrArg Value.string (cat2 _ _),HN.out⟩,by simp [intOf];omega⟩
    ·have HN:Hid (T=zaG p):=by show _=_;rw [HT.out,List.take_of_length_le (by omega),HF.out]
     clear HSN
     go_wp2
     go_ret
     exact ⟨congrArg (fun l:List UInt8=>Ending.returned (.string ⟨l.toArray⟩)) HN.out,HB.out⟩
  ·have hpos:0<l.length:=List.length_pos_iff.2 h0
   obtain ⟨g',rfl⟩: ∃g',gk=g'+1:=⟨gk - 1,by omega⟩
   have hE:l.isEmpty=false:=List.isEmpty_eq_false_iff.2 h0
   have hE2:(l==[])=false:=beq_eq_false_iff_ne.2 h0
   have HS2:=zfQ HS.out h0
   rw [zeI out h0] at HS2
   have hsz:=HSG.out.below.size
   have hsp:=zeU h0
   have hsn:1≤stpN l:=by unfold stpN;omega
   have k1:= @zbS l [46,46,47]
   have k2:= @zbS l [46,47]
   have k3:= @zbS l [47,46,47]
   have k5:= @zbS l [47,46,46,47]
   have q5:= @pre5 l
   have q6:= @pre6 l
   have q4:(l==[47,46])=true→Lib.hasPrefix l [47,46,47]=false:=fun e=>by rw [beq_iff_eq] at e;subst e;decide
   have HP1:Hid (∀W,Calls Tryz.prog 113 #[.string ⟨l.toArray⟩,.string ⟨#[46,46,47]⟩] W fun e w'=>e= .returned (.bool (Lib.hasPrefix l [46,46,47]))∧W=w'):=fun W=>zbG l [46,46,47] W
   have HP2:Hid (∀W,Calls Tryz.prog 113 #[.string ⟨l.toArray⟩,.string ⟨#[46,47]⟩] W fun e w'=>e= .returned (.bool (Lib.hasPrefix l [46,47]))∧W=w'):=fun W=>zbG l [46,47] W
   have HP3:Hid (∀W,Calls Tryz.prog 113 #[.string ⟨l.toArray⟩,.string ⟨#[47,46,47]⟩] W fun e w'=>e= .returned (.bool (Lib.hasPrefix l [47,46,47]))∧W=w'):=fun W=>zbG l [47,46,47] W
   have HP5:Hid (∀W,Calls Tryz.prog 113 #[.string ⟨l.toArray⟩,.string ⟨#[47,46,46,47]⟩] W fun e w'=>e= .returned (.bool (Lib.hasPrefix l [47,46,46,47]))∧W=w'):=fun W=>zbG l [47,46,46,47] W
   have F3:Hid (3≤l.length→ ∀W,(Instr.slice 9 (.string ⟨l.toArray⟩) (some (.int .i64 3)) none none).run Tryz.prog W= .ok (.string ⟨(l.drop 3).toArray⟩) W):=fun h=>zbQ l 3 h
   have F2:Hid (2≤l.length→ ∀W,(Instr.slice 9 (.string ⟨l.toArray⟩) (some (.int .i64 2)) none none).run Tryz.prog W= .ok (.string ⟨(l.drop 2).toArray⟩) W):=fun h=>zbQ l 2 h
   have FN:=zlQ (zbQ l (stpN l) hsp)
   have TN:=zlQ (zdT l (stpN l) hsp)
   have HEND:=zlQ (zjJ l l.length)
   have hdl:out.dropLast.length≤out.length:=by rw [List.length_dropLast];omega
   have hd1:(l.drop (stpN l)).length=l.length - stpN l:=List.length_drop
   have htl:(l.take (stpN l)).length=stpN l:=by rw [List.length_take];omega
   have hd3:(l.drop 3).length=l.length - 3:=List.length_drop
   have hd2:(l.drop 2).length=l.length - 2:=List.length_drop
   have l4:(l==[47,46])=true→2≤l.length:=fun e=>by rw [beq_iff_eq] at e;rw [e];decide
   have l6:(l==[47,46,46])=true→3≤l.length:=fun e=>by rw [beq_iff_eq] at e;rw [e];decide
   have hn47: ∀j (h:j<l.length),(ByteArray.mk l.toArray)[j]'(by rw [zaF];exact h)=l[j]:=fun j h=>by rfl
   have HN47:=zlQ hn47
   obtain ⟨a,c,hv,hc,hsv⟩:=zcV HSG.out.own
   have HDR:Hid (out≠[]→ ∃g,a=some ⟨g,0,none⟩∧ ∀y,Below wr.heap.size wr y→Segs w.heap.size w (.slice none 0 0) y (.slice (some ⟨g,0,none⟩) (out.length - 1:Nat) c) out.dropLast):=fun hne=>by
    obtain ⟨g,e,_⟩:=hsv hne
    refine ⟨g,e,fun y hy=> ?_⟩
    have h1:=HSG.out.keep hy
    rw [hv,e] at h1
    exact h1.drop (zdA h1.own) rfl
   subst hv
   clear HS HRE HFL h0 hn47 hsv
   generalize Lib.hasPrefix l [46,46,47]=b1 at*
   generalize Lib.hasPrefix l [46,47]=b2 at*
   generalize Lib.hasPrefix l [47,46,47]=b3 at*
   generalize Lib.hasPrefix l [47,46,46,47]=b5 at*
   obtain ⟨b4,e4⟩: ∃b,(l==[47,46])=b:=⟨_,rfl⟩
   obtain ⟨b6,e6⟩: ∃b,(l==[47,46,46])=b:=⟨_,rfl⟩
   obtain ⟨b7,e7⟩: ∃b,(l==[46])=b:=⟨_,rfl⟩
   obtain ⟨b8,e8⟩: ∃b,(l==[46,46])=b:=⟨_,rfl⟩
   rw [e4] at HS2 l4 q5 q6 q4
   rw [e6] at HS2 l6 q5 q6
   rw [e7,e8] at HS2
   have HS3:=zlQ HS2
   clear HS2
   cases b5 with
   |true=>
    obtain ⟨rfl,rfl,rfl,rfl,rfl⟩:=q5 rfl
    have HN:Hid (remD p []=remD (l.drop 3) out.dropLast):=HS3.out
    have h3:4≤l.length:=k5 rfl
    have hs:=F3.out (by omega)
    clear HS3 F2 F3 FN TN k1 k2 k3 k5 q5 q6 HEND HN47 e7 e8 l4 l6
    go_wp2_with fail
    refine (HP5.out _).mono ?_
    rintro e w' ⟨rfl,rfl⟩
    go_wp2_with fail
    refine (HP1.out _).mono ?_
    rintro e w' ⟨rfl,rfl⟩
    go_wp2_with fail
    refine (HP2.out _).mono ?_
    rintro e w' ⟨rfl,rfl⟩
    go_wp2_with fail
    refine (HP3.out _).mono ?_
    rintro e w' ⟨rfl,rfl⟩
    go_wp2_with fail
    refine (HP5.out _).mono ?_
    rintro e w' ⟨rfl,rfl⟩
    by_cases ho:out=[]
    ·subst ho
     clear HDR
     go_wp2
     go_roundg g'
     case measure=>omega
     case rel=>exact ⟨(l.drop 3),[],rfl,HSG,by omega,by omega,HN.out⟩
    ·obtain ⟨g,rfl,hdr⟩:=HDR.out ho
     have HSG4:=zlQ (hdr wr (Below.refl _ _))
     have hop:0<out.length:=List.length_pos_iff.2 ho
     have hs2: ∀W,(Instr.slice 45 (.slice (some ⟨g,0,none⟩) out.length c) none (some (.int .i64 ((out.length:Int) - 1))) none).run Tryz.prog W= .ok (.slice (some ⟨g,0,none⟩) (out.length - 1:Nat) c) W:=fun W=>by
      rw [show ((out.length:Int) - 1)=((out.length - 1:Nat):Int) by omega,run_slice_h W 45 (some ⟨g,0,none⟩) out.length c (by simp [Program.elem,Tryz.underlying45]) .i64 _ (by omega) (by omega)]
      go_simp
     have hon:decide ((0:Int)<(out.length:Int))=true:=zlT (by omega)
     clear HDR hdr
     go_wp2
     go_roundg g'
     case measure=>omega
     case rel=>exact ⟨(l.drop 3),out.dropLast,rfl,HSG4.out,by omega,by omega,HN.out⟩
   |false=>
   go_wp2_with fail
   refine (HP5.out _).mono ?_
   rintro e w' ⟨rfl,rfl⟩
   cases b6 with
   |true=>
    obtain ⟨rfl,rfl,rfl,rfl,-⟩:=q6 rfl
    have HN:Hid (remD p []=remD [47] out.dropLast):=HS3.out
    have h3:=l6 rfl
    clear HS3 F2 F3 FN TN k1 k2 k3 k5 q5 q6 HEND HN47 e7 e8 l4 l6 HP3 HP5
    go_wp2_with fail
    refine (HP1.out _).mono ?_
    rintro e w' ⟨rfl,rfl⟩
    go_wp2_with fail
    refine (HP2.out _).mono ?_
    rintro e w' ⟨rfl,rfl⟩
    by_cases ho:out=[]
    ·subst ho
     clear HDR
     go_wp2
     go_roundg g'
     case measure=>omega
     case rel=>exact ⟨[47],[],rfl,HSG,by simp;omega,by simp;omega,HN.out⟩
    ·obtain ⟨g,rfl,hdr⟩:=HDR.out ho
     have HSG4:=zlQ (hdr wr (Below.refl _ _))
     have hop:0<out.length:=List.length_pos_iff.2 ho
     have hs2: ∀W,(Instr.slice 45 (.slice (some ⟨g,0,none⟩) out.length c) none (some (.int .i64 ((out.length:Int) - 1))) none).run Tryz.prog W= .ok (.slice (some ⟨g,0,none⟩) (out.length - 1:Nat) c) W:=fun W=>by
      rw [show ((out.length:Int) - 1)=((out.length - 1:Nat):Int) by omega,run_slice_h W 45 (some ⟨g,0,none⟩) out.length c (by simp [Program.elem,Tryz.underlying45]) .i64 _ (by omega) (by omega)]
      go_simp
     have hon:decide ((0:Int)<(out.length:Int))=true:=zlT (by omega)
     clear HDR hdr
     go_wp2
     go_roundg g'
     case measure=>omega
     case rel=>exact ⟨[47],out.dropLast,rfl,HSG4.out,by simp;omega,by simp;omega,HN.out⟩
   |false=>
   clear HDR
   cases b1 with
   |true=>
    have HN:Hid (remD p []=remD (l.drop 3) out):=HS3.out
    have h3:3≤l.length:=k1 rfl
    have hs:=F3.out h3
    clear HS3 F2 F3 FN TN k1 k2 k3 k5 q5 q6 HEND HN47 e4 e7 e8 l4 l6 HP2 HP3 HP5
    go_wp2_with fail
    refine (HP1.out _).mono ?_
    rintro e w' ⟨rfl,rfl⟩
    go_wp2
    go_roundg g'
    case measure=>omega
    case rel=>exact ⟨l.drop 3,out,rfl,HSG,by omega,by omega,HN.out⟩
   |false=>
   go_wp2_with fail
   refine (HP1.out _).mono ?_
   rintro e w' ⟨rfl,rfl⟩
   cases b2 with
   |true=>
    have HN:Hid (remD p []=remD (l.drop 2) out):=HS3.out
    have h3:2≤l.length:=k2 rfl
    have hs:=F2.out h3
    clear HS3 F2 F3 FN TN k1 k2 k3 k5 q5 q6 HEND HN47 e4 e7 e8 l4 l6 HP1 HP3 HP5
    go_wp2_with fail
    refine (HP2.out _).mono ?_
    rintro e w' ⟨rfl,rfl⟩
    go_wp2
    go_roundg g'
    case measure=>omega
    case rel=>exact ⟨l.drop 2,out,rfl,HSG,by omega,by omega,HN.out⟩
   |false=>
   go_wp2_with fail
   refine (HP2.out _).mono ?_
   rintro e w' ⟨rfl,rfl⟩
   cases b4 with
   |true=>
    obtain rfl:=q4 rfl
    have HN:Hid (remD p []=remD [47] out):=HS3.out
    have h3:=l4 rfl
    clear HS3 F2 F3 FN TN k1 k2 k3 k5 q5 q6 HEND HN47 e7 e8 l4 l6 HP1 HP2 HP3 HP5
    go_wp2
    go_roundg g'
    case measure=>omega
    case rel=>exact ⟨[47],out,rfl,HSG,by simp;omega,by simp;omega,HN.out⟩
   |false=>
   go_wp2_with fail
   refine (HP3.out _).mono ?_
   rintro e w' ⟨rfl,rfl⟩
   cases b3 with
   |true=>
    have HN:Hid (remD p []=remD (l.drop 2) out):=HS3.out
    have h3:3≤l.length:=k3 rfl
    have hs:=F2.out (by omega)
    clear HS3 F2 F3 FN TN k1 k2 k3 k5 q5 q6 HEND HN47 e7 e8 l4 l6 HP1 HP2 HP3 HP5
    go_wp2
    go_roundg g'
    case measure=>omega
    case rel=>exact ⟨l.drop 2,out,rfl,HSG,by omega,by omega,HN.out⟩
   |false=>
   go_wp2_with fail
   refine (HP5.out _).mono ?_
   rintro e w' ⟨rfl,rfl⟩
   clear HP1 HP2 HP3 HP5 k1 k2 k3 k5 q5 q6 F2 F3 l4 l6 e4 e6
   cases b7 with
   |true=>
    have HN:Hid (remD p []=remD [] out):=HS3.out
    clear HS3 FN TN HEND HN47 e8
    go_wp2
    go_roundg g'
    case measure=>omega
    case rel=>exact ⟨[],out,rfl,HSG,by simp;omega,by simp,HN.out⟩
   |false=>
   cases b8 with
   |true=>
    have HN:Hid (remD p []=remD [] out):=HS3.out
    clear HS3 FN TN HEND HN47
    go_wp2
    go_roundg g'
    case measure=>omega
    case rel=>exact ⟨[],out,rfl,HSG,by simp;omega,by simp,HN.out⟩
   |false=>
   have HN:Hid (remD p []=remD (l.drop (stpN l)) (out++[l.take (stpN l)])):=HS3.out
   have hz:=zaF l
   clear HS3
   go_wp2
   go_loop [5] (fun i=> ∃k:Nat,1≤k∧k≤l.length∧i= .int .i64 k∧Hid (∀j (h:j<l.length),1≤j→j<k→l[j]≠47)) (fun i=>l.length - (intOf i).toNat)
   case atStart=>exact ⟨1,zlR _,by omega,rfl,fun j _ h1 h2=>by omega⟩
   case round=>
    obtain ⟨k,hk1,hk,rfl,HK⟩:=hrel
    by_cases hkl:k<l.length
    ·by_cases h47:l[k]=47
     ·have hkn:=HEND.out k (by omega) hk1 hk HK.out (.inr ⟨hkl,h47⟩)
      have hb:(ByteArray.mk l.toArray)[k]'(by rw [zaF];exact hkl)=47:=by rw [HN47.out k hkl];exact h47
      subst hkn
      have hs1:=FN.out
      have hs2:=TN.out
      have hown:=HSG.out.own
      unfold zaX at hown
      have HSG2:=HSG
      clear FN TN HEND HK
      generalize l.take (stpN l)=q at*
      generalize l.drop (stpN l)=r at*
      go_wp2_with (first|(at_builtin;refine zgG _ rfl _ _ 45 rfl w.heap.size 9 i0 (.string ⟨#[]⟩) 16 Tryz.underlying45 hi hz0 hz1 hz2 rfl _ _ _ rfl hown (.string ⟨q.toArray⟩) rfl rfl (by omega) (by omega) hsz ?_;intro v' w1 hown' hgr' hat')|go_in)
      go_roundg g'
      case measure=>omega
      case rel=>exact ⟨r,out++[q],rfl,HSG2.out.app hown' hgr' hat',by simp;omega,by omega,HN.out⟩
     ·have hb:((ByteArray.mk l.toArray)[k]'(by rw [zaF];exact hkl)).toNat≠47:=by rw [HN47.out k hkl];exact fun e=>h47 (UInt8.toNat_inj.1 e)
      obtain ⟨m,hm⟩: ∃m,((ByteArray.mk l.toArray)[k]'(by rw [zaF];exact hkl)).toNat=m:=⟨_,rfl⟩
      rw [hm] at hb
      have hb2:((m:Int)==47)=false:=beq_eq_false_iff_ne.2 (by omega)
      have HK2:Hid (∀j (h:j<l.length),1≤j→j<k+1→l[j]≠47):=fun j h h1 h2=>by
       by_cases e:j=k
       ·subst e;exact h47
       ·exact HK.out j h h1 (by omega)
      clear HK h47 HEND FN TN
      go_wp2
      exact ⟨⟨k+1,by omega,by omega,by go_num,HK2.out⟩,by simp [intOf];omega⟩
    ·have hkn:=HEND.out k (by omega) hk1 hk HK.out (.inl (by omega))
     subst hkn
     have hs1:=FN.out
     have hs2:=TN.out
     have hown:=HSG.out.own
     unfold zaX at hown
     have HSG2:=HSG
     clear FN TN HEND HK
     generalize l.take (stpN l)=q at*
     generalize l.drop (stpN l)=r at*
     go_wp2_with (first|(at_builtin;refine zgG _ rfl _ _ 45 rfl w.heap.size 9 i0 (.string ⟨#[]⟩) 16 Tryz.underlying45 hi hz0 hz1 hz2 rfl _ _ _ rfl hown (.string ⟨q.toArray⟩) rfl rfl (by omega) (by omega) hsz ?_;intro v' w1 hown' hgr' hat')|go_in)
     go_roundg g'
     case measure=>omega
     case rel=>exact ⟨r,out++[q],rfl,HSG2.out.app hown' hgr' hat',by simp;omega,by omega,HN.out⟩
end
end Go.Proofs.YtmjappnpedjlnaaGreatDoor
