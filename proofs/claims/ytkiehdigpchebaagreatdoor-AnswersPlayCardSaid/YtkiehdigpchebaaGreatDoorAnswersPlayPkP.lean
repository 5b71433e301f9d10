/-
  What the law AnswersPlay leans on, and its walk (16 of 22).
-/
import Derived.Lib.SlMapFilter
import Derived.Laws.IdiomRangeMap
import Derived.Deep.RegionHeld3
import Derived.Test.YtkiehdigpchebaaGreatDoorAnswersPlayPkM
namespace Go.Proofs.YtkiehdigpchebaaGreatDoor
set_option maxRecDepth 100000
set_option maxHeartbeats 16000000
theorem tkP {P : Program} {p : Region.Mode} {f : Array Oper} {Q : Exit → Act → World → Prop} {S : World → Prop} (i : Nat) (s : Option Nat) {C : Op} {E : TypeId} {o : String} {G : _} {y : _} {v : Value} {fuel : Nat} {d : Array Bool} {a : Act} {w : World} (hi : f[i]? = some ⟨s, C, E, o, G, y⟩)
 (I : YieldsIf P f S ⟨s, C, E, o, G, y⟩ v a) (N : S w)
 (h : wpAnyH P p f Q S fuel (d.setIfInBounds i true) (a.put s v) w)
 (H : Region.noSelect f = true := by kernel_rfl) (J : Region.free p f d i = true := by kernel_rfl) (O : (Region.ready p f d).contains i = true := by kernel_rfl)
 (K : ∀ c a w, Q (.panic c) (a.put s v) w → Q (.panic c) a w := by exact fun _ _ _ h => h) : wpAnyH P p f Q S (fuel + 1) d a w :=
 wpAnyH_take hi H J O K I N h
theorem tkPa {α : Type _} (l : List α) (i : Nat) (a : α) : l.toArray.setIfInBounds i a = (l.set i a).toArray := List.setIfInBounds_toArray ..
theorem tkPb {α : Type _} (x y : α) (l : List α) : (x :: l).set 0 y = y :: l := rfl
theorem tkPc {α : Type _} (x y : α) (l : List α) (n : Nat) : (x :: l).set (n + 1) y = x :: l.set n y := rfl
abbrev zqH := @Lib.hid
section
open Go.RowKit Go.Maps
def ziU (now:Int) (e:CE):Bool:=decide (now<e.un)
theorem zbY {x y:World} {M:Nat} (h:x.grownBy y (some M)):Only [M] x y:=⟨h.os,h.tape,h.output,h.size,fun k f d=>h.block k f (fun e=>d (by rw [Option.some.inj e];exact List.mem_singleton.2 rfl))⟩
end
section
open Go.RowKit
theorem zeH {x y:World} {c M:Nat} {L:List CE} {e:CE} (h:CacS x c M L) (d:y.ownsMap Tryz.prog 34 zcT M (L.length+1) ((DL L).put (.string e.nm) (.held e.val))) (f:x.grownBy y (some M)):CacS y c M (putE e L):=by
 rw [DL_put] at d
 exact ⟨(f.block c (zaG h.box) (fun q=>h.ne (Option.some.inj q))).trans h.box,zcP d,h.map.2.put e⟩
theorem zpV {x y:World} {c M:Nat} {L:List CE} {f:List UInt8} (h:CacS x c M L) (d:y.ownsMap Tryz.prog 34 zcT M L.length ((DL L).del (.string f))) (o:x.grownBy y (some M)):CacS y c M (delE f L):=by
 rw [zoZ] at d
 exact ⟨(o.block c (zaG h.box) (fun q=>h.ne (Option.some.inj q))).trans h.box,zcP d,h.map.2.del f⟩
theorem zdK {t:TypeId} {x y:World} {base M:Nat} {v:Value} {zs:List AZ} (h:OwnX t 1 clZ x base v zs) (o:M<base) (f:x.grownBy y (some M)):OwnX t 1 clZ y base v zs:=
 h.same fun b d=>f.block b (World.ownsRow.lt h b d).2 (fun e=>by have:=(World.ownsRow.lt h b d).1;rw [Option.some.inj e] at this;omega)
theorem zcX {x y:World} {M:Nat} {ao:Option Addr} {zs:List AZ} (h:RowX 1 clZ x ao zs) (E: ∀ad,ao=some ad→ad.block≠M) (o:Only [M] x y):RowX 1 clZ y ao zs:=fun j z H=>by
 obtain ⟨ad,e,f⟩:=h j z H
 refine ⟨ad,e,fun i hi=> ?_⟩
 have p:i=0:=by omega
 subst p
 have d:=f 0 hi
 have C:(ad.add (j*1+0)).block=ad.block:=by unfold Addr.add;split<;>rfl
 have q:(clZ z)[0]? =some z.val:=rfl
 rw [q] at d ⊢
 exact (World.cell?_of_block (o.block _ (World.block_lt_of_cell? x _ d) (fun G=>E ad e (by rw [←C];exact List.mem_singleton.1 G)))).trans d
def zfG (f n:List UInt8) (L:List CE):List CE:=if (zaL n L).isNone&&decide (64≤L.length) then delE f L else L
theorem zjV (c M:Nat) (L:List CE) (n f:List UInt8) (u:Int) (ao:Option Addr) (zs:List AZ) (cp:Nat) (w:World) (h:CacS w c M L) (hn:n.length≤maxLen) (hf:f.length≤maxLen) (hz:zs≠[]) (qm:zs.length≤1000000) (hr:RowX 1 clZ w ao zs) (ha: ∀ad,ao=some ad→ad.block≠M) (hL:L.length≤1000000)
  (HF:Hid (zaL n L=none→64≤L.length→ ∀W,Below w.heap.size w W→Calls Tryz.prog 28 #[.pointer (some ⟨c,0,none⟩)] W fun e w'=>e= .returned (.string ⟨f.toArray⟩)∧Below W.heap.size W w')):
  Calls Tryz.prog 9 #[.pointer (some ⟨c,0,none⟩),.string ⟨n.toArray⟩,.int .i64 u,.slice ao zs.length cp] w fun e w'=>e= .returned (.bool true)∧ ∃a5 c5,CacS w' c M (putE ⟨n,u,.slice a5 zs.length c5⟩ (zfG f n L))∧OwnX 38 1 clZ w' w.heap.size (.slice a5 zs.length c5) zs∧Only [M] w w':=by
 have hc:=zaA h.box 0
 simp at hc
 have qc:=h.map.look hn
 have qx:=zqH hn
 have qr:=zqH hf
 have qB:=zqH qm
 have qy:=zqH hr
 have qs:=zqH ha
 have qo:=zqH (fun e=>h.map.form hn (e:=e))
 have qF:((zs.length:Int)==0)=false:=beq_eq_false_iff_ne.2 (by have:=List.length_pos_iff.2 hz;omega)
 unfold zfG
 cases qd:zaL n L with
 |some e0=>
  obtain ⟨a0,k0,c0,qC⟩:=qo.out e0 qd
  have ql:Hid (L.length≤1000000):=hL
  rw [qd] at qc
  simp only [Option.map_some,Option.getD_some,Option.isSome_some,CE.val,qC] at qc
  generalize e0.un=u0 at*
  obtain ⟨y,hy⟩: ∃y,y=w.alloc (.cells #[.int .i64 u0,.slice a0 k0 c0] 88):=⟨_,rfl⟩
  have hb:Below w.heap.size w y:=by rw [hy];exact (Below.refl _ _).alloc (Nat.le_refl _) _
  have HS:=zqH (h.keep hb)
  have HB:Hid (Only [M] w y):=Only.of_below hb
  simp only [Option.isNone_some,Bool.false_and,Bool.false_eq_true,if_false]
  clear h hn hf hz qm hr ha hL hb qd HF qo qr qC
  go_enter Tryz.func9,Tryz.ntmps9
  go_upto_region 4 with fail
  rw [←hy]
  clear hy qc hc
  have V:Hid (CacS y.drew c M (L)):=HS.out.keep (zaF _)
  have qb:Hid (Only [M] w y.drew):=HB.out.drew
  have qk:Hid (∀X,Below y.heap.size y X→Calls Tryz.prog 29 #[.slice ao zs.length cp] X fun e w'=> ∃v,e= .returned v∧OwnX 38 1 clZ w' X.heap.size v zs∧Below X.heap.size X w'):=fun X hX=>zaZ ao cp zs X (zcX qy.out qs.out (HB.out.trans (Only.of_below (F:=[M]) hX) (fun k Y=> .inl Y))) qB.out
  have H:=zaA V.out.box 0
  simp at H
  clear HS HB
  go_wp2_with fail
  refine wp_region_held_drew (S:=fun W=>W.cell? ⟨c,0,none⟩=some (.map (some M))) (by kernel_rfl) ?_ (fun d=> ?_)
  ·exact H
  refine tkP 0 (some 43) (v:= ?_) rfl (.inl ⟨by rfl,?_⟩) d ?_;rotate_left;·intro w p;(try dsimp only at p);go_simp;try with_reducible rfl
  try simp only [Act.put,tkPa,tkPb,tkPc]
  refine tkP 1 (some 44) (v:= ?_) rfl (.inl ⟨by rfl,?_⟩) d ?_;rotate_left;·intro w p;(try dsimp only at p);go_simp;try with_reducible rfl
  try simp only [Act.put,tkPa,tkPb,tkPc]
  refine tkP 2 (some 45) (v:= ?_) rfl (.inl ⟨by rfl,?_⟩) d ?_;rotate_left;·intro w p;(try dsimp only at p);go_simp;try with_reducible rfl
  try simp only [Act.put,tkPa,tkPb,tkPc]
  refine tkP 3 (some 46) (v:= ?_) rfl (.inl ⟨by rfl,?_⟩) d ?_;rotate_left;·intro w p;(try dsimp only at p);go_simp;try with_reducible rfl
  try simp only [Act.put,tkPa,tkPb,tkPc]
  refine tkP 4 (some 47) (v:= ?_) rfl (.inl ⟨by rfl,?_⟩) d ?_;rotate_left;·intro w p;(try dsimp only at p);go_simp;try with_reducible rfl
  try simp only [Act.put,tkPa,tkPb,tkPc]
  refine tkP 5 (some 48) (v:= ?_) rfl (.inl ⟨by rfl,?_⟩) d ?_;rotate_left;·intro w p;(try dsimp only at p);go_simp;try with_reducible rfl
  try simp only [Act.put,tkPa,tkPb,tkPc]
  refine tkP 6 (some 49) (v:= ?_) rfl (.inl ⟨by rfl,?_⟩) d ?_;rotate_left;·intro w p;(try dsimp only at p);go_simp;try with_reducible rfl
  try simp only [Act.put,tkPa,tkPb,tkPc]
  refine wpAnyH_ready (rs:=[7]) (by kernel_rfl) (by simp) ?_
  refine AllReadyH.cons (o:=⟨some 50,_,_,_,_,_⟩) rfl (fun K N=> ?_) AllReadyH.nil
  go_simp
  go_at_call 29
  refine (qk.out _ (zaF _)).mono ?_
  rintro e x5 ⟨v5,rfl,U,O⟩
  obtain ⟨a5,c5,rfl⟩:=U.form
  have J:=V.out.keep O
  have I:=zaA J.box 0
  simp at I
  obtain ⟨x6,qq,E,C⟩:=J.map.1.update zbG Tryz.underlying81 (by unfold maxLen;have:=ql.out;omega) (zbP qx.out) (zbJ u a5 zs.length c5)
  have qa:=zqH (zeH (e:=⟨n,u,.slice a5 zs.length c5⟩) J E C)
  have qf:=zqH ((zdK U V.out.map.1.lt C).lower qb.out.size)
  have qg:=zqH (((qb.out.trans (Only.of_below (F:=[M]) O) (fun k Y=> .inl Y))).trans (zbY C) (fun k Y=> .inl Y))
  have R:=zaA qa.out.box 0
  simp at R
  clear J U O E C
  (try go_wp2_with fail)
  refine N.out _ _ ?_ (fun G=> ?_)
  ·exact I
  clear N K
  try simp only [Act.put,tkPa,tkPb,tkPc]
  refine tkP 8 (some 51) (v:= ?_) rfl (.inl ⟨by rfl,?_⟩) G ?_;rotate_left;·intro w p;(try dsimp only at p);go_simp;try with_reducible rfl
  try simp only [Act.put,tkPa,tkPb,tkPc]
  refine wpAnyH_ready (rs:=[9]) (by kernel_rfl) (by simp) ?_
  refine AllReadyH.cons (o:=⟨none,_,_,_,_,_⟩) rfl (fun K N=> ?_) AllReadyH.nil
  go_simp
  refine N.out _ _ ?_ (fun Z=> ?_)
  ·exact R
  clear N K
  try simp only [Act.put,tkPa,tkPb,tkPc]
  refine wpAnyH_done (by kernel_rfl) ?_ _
  clear I R H
  go_wp2
  go_ret
  exact ⟨rfl,a5,c5,qa.out,qf.out,qg.out⟩
 |none=>
  rw [qd] at qc
  simp only [Option.map_none,Option.getD_none,Option.isSome_none] at qc
  obtain ⟨y,hy⟩: ∃y,y=w.alloc (.cells #[.int .i64 0,.slice none 0 0] 88):=⟨_,rfl⟩
  have hb:Below w.heap.size w y:=by rw [hy];exact (Below.refl _ _).alloc (Nat.le_refl _) _
  have HS:=zqH (h.keep hb)
  have HB:Hid (Only [M] w y):=Only.of_below hb
  have qA:=HS.out.map.1.len Tryz.underlying81 3
  rw [zeB] at qA
  have qv:=zaA HS.out.box 0
  simp at qv
  by_cases qj:64≤L.length
  ·have hd:decide ((64:Int)≤(L.length:Int))=true:=decide_eq_true (by omega)
   have ql:Hid ((delE f L).length≤1000000):=Nat.le_trans (List.length_filter_le _ _) hL
   have qD:Hid (∀W,Below y.heap.size y W→Calls Tryz.prog 28 #[.pointer (some ⟨c,0,none⟩)] W fun e w'=>e= .returned (.string ⟨f.toArray⟩)∧Below W.heap.size W w'):=fun W hW=>HF.out qd qj W (hb.trans (hW.mono hb.size))
   simp only [Option.isNone_none,Bool.true_and,decide_eq_true qj,if_true]
   clear h hn hf hz qm hr ha hL hb qd HF qo qj
   go_enter Tryz.func9,Tryz.ntmps9
   go_upto_region 4 with fail
   rw [←hy]
   clear hy qc hc
   go_wp2_with fail
   have qe:Hid (CacS y.drew c M L):=HS.out.keep (zaF _)
   have qp:Hid (Only [M] w y.drew):=HB.out.drew
   have H:=zaA qe.out.box 0
   simp at H
   clear HS HB qA hd qv
   refine wp_region_held_drew (S:=fun W=>W.cell? ⟨c,0,none⟩=some (.map (some M))) (by kernel_rfl) ?_ (fun d=> ?_)
   ·exact H
   refine tkP 0 (some 37) (v:= ?_) rfl (.inl ⟨by rfl,?_⟩) d ?_;rotate_left;·intro w p;(try dsimp only at p);go_simp;try with_reducible rfl
   try simp only [Act.put,tkPa,tkPb,tkPc]
   refine tkP 1 (some 38) (v:= ?_) rfl (.inl ⟨by rfl,?_⟩) d ?_;rotate_left;·intro w p;(try dsimp only at p);go_simp;try with_reducible rfl
   try simp only [Act.put,tkPa,tkPb,tkPc]
   refine tkP 2 (some 39) (v:= ?_) rfl (.inl ⟨by rfl,?_⟩) d ?_;rotate_left;·intro w p;(try dsimp only at p);go_simp;try with_reducible rfl
   try simp only [Act.put,tkPa,tkPb,tkPc]
   refine tkP 3 (some 40) (v:= ?_) rfl (.inl ⟨by rfl,?_⟩) d ?_;rotate_left;·intro w p;(try dsimp only at p);go_simp;try with_reducible rfl
   try simp only [Act.put,tkPa,tkPb,tkPc]
   refine tkP 4 (some 41) (v:= ?_) rfl (.inl ⟨by rfl,?_⟩) d ?_;rotate_left;·intro w p;(try dsimp only at p);go_simp;try with_reducible rfl
   try simp only [Act.put,tkPa,tkPb,tkPc]
   refine wpAnyH_ready (rs:=[5]) (by kernel_rfl) (by simp) ?_
   refine AllReadyH.cons (o:=⟨some 42,_,_,_,_,_⟩) rfl (fun K N=> ?_) AllReadyH.nil
   go_simp
   go_at_call 28
   refine (qD.out _ (zaF _)).mono ?_
   rintro e x4 ⟨rfl,qz⟩
   have qn:=qe.out.keep qz
   have qw:=zaA qn.box 0
   simp at qw
   obtain ⟨x5,qE,qh,qi⟩:=qn.map.1.drop zbG Tryz.underlying81 (zbP qr.out) 0
   have HS:=zqH (zpV qn qh qi.grown)
   have HB:=zqH (((qp.out.trans (Only.of_below (F:=[M]) qz) (fun k Y=> .inl Y))).trans (zbY qi.grown) (fun k Y=> .inl Y))
   have I:=zaA HS.out.box 0
   simp at I
   clear qn qz qh qi
   (try go_wp2_with fail)
   refine N.out _ _ ?_ (fun G=> ?_)
   ·exact qw
   clear N K
   try simp only [Act.put,tkPa,tkPb,tkPc]
   refine wpAnyH_ready (rs:=[6]) (by kernel_rfl) (by simp) ?_
   refine AllReadyH.cons (o:=⟨none,_,_,_,_,_⟩) rfl (fun K N=> ?_) AllReadyH.nil
   go_simp
   refine N.out _ _ ?_ (fun Z=> ?_)
   ·exact I
   clear N K
   try simp only [Act.put,tkPa,tkPb,tkPc]
   refine wpAnyH_done (by kernel_rfl) ?_ _
   clear qw I H qe qp qD
   have V:Hid (CacS x5.drew c M (delE f L)):=HS.out.keep (zaF _)
   have qb:Hid (Only [M] w x5.drew):=HB.out.drew
   have qk:Hid (∀X,Below x5.heap.size x5 X→Calls Tryz.prog 29 #[.slice ao zs.length cp] X fun e w'=> ∃v,e= .returned v∧OwnX 38 1 clZ w' X.heap.size v zs∧Below X.heap.size X w'):=fun X hX=>zaZ ao cp zs X (zcX qy.out qs.out (HB.out.trans (Only.of_below (F:=[M]) hX) (fun k Y=> .inl Y))) qB.out
   have H:=zaA V.out.box 0
   simp at H
   clear HS HB
   go_wp2_with fail
   refine wp_region_held_drew (S:=fun W=>W.cell? ⟨c,0,none⟩=some (.map (some M))) (by kernel_rfl) ?_ (fun d=> ?_)
   ·exact H
   refine tkP 0 (some 43) (v:= ?_) rfl (.inl ⟨by rfl,?_⟩) d ?_;rotate_left;·intro w p;(try dsimp only at p);go_simp;try with_reducible rfl
   try simp only [Act.put,tkPa,tkPb,tkPc]
   refine tkP 1 (some 44) (v:= ?_) rfl (.inl ⟨by rfl,?_⟩) d ?_;rotate_left;·intro w p;(try dsimp only at p);go_simp;try with_reducible rfl
   try simp only [Act.put,tkPa,tkPb,tkPc]
   refine tkP 2 (some 45) (v:= ?_) rfl (.inl ⟨by rfl,?_⟩) d ?_;rotate_left;·intro w p;(try dsimp only at p);go_simp;try with_reducible rfl
   try simp only [Act.put,tkPa,tkPb,tkPc]
   refine tkP 3 (some 46) (v:= ?_) rfl (.inl ⟨by rfl,?_⟩) d ?_;rotate_left;·intro w p;(try dsimp only at p);go_simp;try with_reducible rfl
   try simp only [Act.put,tkPa,tkPb,tkPc]
   refine tkP 4 (some 47) (v:= ?_) rfl (.inl ⟨by rfl,?_⟩) d ?_;rotate_left;·intro w p;(try dsimp only at p);go_simp;try with_reducible rfl
   try simp only [Act.put,tkPa,tkPb,tkPc]
   refine tkP 5 (some 48) (v:= ?_) rfl (.inl ⟨by rfl,?_⟩) d ?_;rotate_left;·intro w p;(try dsimp only at p);go_simp;try with_reducible rfl
   try simp only [Act.put,tkPa,tkPb,tkPc]
   refine tkP 6 (some 49) (v:= ?_) rfl (.inl ⟨by rfl,?_⟩) d ?_;rotate_left;·intro w p;(try dsimp only at p);go_simp;try with_reducible rfl
   try simp only [Act.put,tkPa,tkPb,tkPc]
   refine wpAnyH_ready (rs:=[7]) (by kernel_rfl) (by simp) ?_
   refine AllReadyH.cons (o:=⟨some 50,_,_,_,_,_⟩) rfl (fun K N=> ?_) AllReadyH.nil
   go_simp
   go_at_call 29
   refine (qk.out _ (zaF _)).mono ?_
   rintro e x5 ⟨v5,rfl,U,O⟩
   obtain ⟨a5,c5,rfl⟩:=U.form
   have J:=V.out.keep O
   have I:=zaA J.box 0
   simp at I
   obtain ⟨x6,qq,E,C⟩:=J.map.1.update zbG Tryz.underlying81 (by unfold maxLen;have:=ql.out;omega) (zbP qx.out) (zbJ u a5 zs.length c5)
   have qa:=zqH (zeH (e:=⟨n,u,.slice a5 zs.length c5⟩) J E C)
   have qf:=zqH ((zdK U V.out.map.1.lt C).lower qb.out.size)
   have qg:=zqH (((qb.out.trans (Only.of_below (F:=[M]) O) (fun k Y=> .inl Y))).trans (zbY C) (fun k Y=> .inl Y))
   have R:=zaA qa.out.box 0
   simp at R
   clear J U O E C
   (try go_wp2_with fail)
   refine N.out _ _ ?_ (fun G=> ?_)
   ·exact I
   clear N K
   try simp only [Act.put,tkPa,tkPb,tkPc]
   refine tkP 8 (some 51) (v:= ?_) rfl (.inl ⟨by rfl,?_⟩) G ?_;rotate_left;·intro w p;(try dsimp only at p);go_simp;try with_reducible rfl
   try simp only [Act.put,tkPa,tkPb,tkPc]
   refine wpAnyH_ready (rs:=[9]) (by kernel_rfl) (by simp) ?_
   refine AllReadyH.cons (o:=⟨none,_,_,_,_,_⟩) rfl (fun K N=> ?_) AllReadyH.nil
   go_simp
   refine N.out _ _ ?_ (fun Z=> ?_)
   ·exact R
   clear N K
   try simp only [Act.put,tkPa,tkPb,tkPc]
   refine wpAnyH_done (by kernel_rfl) ?_ _
   clear I R H
   go_wp2
   go_ret
   exact ⟨rfl,a5,c5,qa.out,qf.out,qg.out⟩
  ·have hd:decide ((64:Int)≤(L.length:Int))=false:=decide_eq_false (by omega)
   have ql:Hid (L.length≤1000000):=hL
   simp only [Option.isNone_none,Bool.true_and,decide_eq_false qj,Bool.false_eq_true,if_false]
   clear h hn hf hz qm hr ha hL hb qd HF qo qj qr
   go_enter Tryz.func9,Tryz.ntmps9
   go_upto_region 4 with fail
   rw [←hy]
   clear hy qc hc
   go_upto_region 5 with fail
   clear qA hd qv
   have V:Hid (CacS y.drew c M (L)):=HS.out.keep (zaF _)
   have qb:Hid (Only [M] w y.drew):=HB.out.drew
   have qk:Hid (∀X,Below y.heap.size y X→Calls Tryz.prog 29 #[.slice ao zs.length cp] X fun e w'=> ∃v,e= .returned v∧OwnX 38 1 clZ w' X.heap.size v zs∧Below X.heap.size X w'):=fun X hX=>zaZ ao cp zs X (zcX qy.out qs.out (HB.out.trans (Only.of_below (F:=[M]) hX) (fun k Y=> .inl Y))) qB.out
   have H:=zaA V.out.box 0
   simp at H
   clear HS HB
   go_wp2_with fail
   refine wp_region_held_drew (S:=fun W=>W.cell? ⟨c,0,none⟩=some (.map (some M))) (by kernel_rfl) ?_ (fun d=> ?_)
   ·exact H
   refine tkP 0 (some 43) (v:= ?_) rfl (.inl ⟨by rfl,?_⟩) d ?_;rotate_left;·intro w p;(try dsimp only at p);go_simp;try with_reducible rfl
   try simp only [Act.put,tkPa,tkPb,tkPc]
   refine tkP 1 (some 44) (v:= ?_) rfl (.inl ⟨by rfl,?_⟩) d ?_;rotate_left;·intro w p;(try dsimp only at p);go_simp;try with_reducible rfl
   try simp only [Act.put,tkPa,tkPb,tkPc]
   refine tkP 2 (some 45) (v:= ?_) rfl (.inl ⟨by rfl,?_⟩) d ?_;rotate_left;·intro w p;(try dsimp only at p);go_simp;try with_reducible rfl
   try simp only [Act.put,tkPa,tkPb,tkPc]
   refine tkP 3 (some 46) (v:= ?_) rfl (.inl ⟨by rfl,?_⟩) d ?_;rotate_left;·intro w p;(try dsimp only at p);go_simp;try with_reducible rfl
   try simp only [Act.put,tkPa,tkPb,tkPc]
   refine tkP 4 (some 47) (v:= ?_) rfl (.inl ⟨by rfl,?_⟩) d ?_;rotate_left;·intro w p;(try dsimp only at p);go_simp;try with_reducible rfl
   try simp only [Act.put,tkPa,tkPb,tkPc]
   refine tkP 5 (some 48) (v:= ?_) rfl (.inl ⟨by rfl,?_⟩) d ?_;rotate_left;·intro w p;(try dsimp only at p);go_simp;try with_reducible rfl
   try simp only [Act.put,tkPa,tkPb,tkPc]
   refine tkP 6 (some 49) (v:= ?_) rfl (.inl ⟨by rfl,?_⟩) d ?_;rotate_left;·intro w p;(try dsimp only at p);go_simp;try with_reducible rfl
   try simp only [Act.put,tkPa,tkPb,tkPc]
   refine wpAnyH_ready (rs:=[7]) (by kernel_rfl) (by simp) ?_
   refine AllReadyH.cons (o:=⟨some 50,_,_,_,_,_⟩) rfl (fun K N=> ?_) AllReadyH.nil
   go_simp
   go_at_call 29
   refine (qk.out _ (zaF _)).mono ?_
   rintro e x5 ⟨v5,rfl,U,O⟩
   obtain ⟨a5,c5,rfl⟩:=U.form
   have J:=V.out.keep O
   have I:=zaA J.box 0
   simp at I
   obtain ⟨x6,qq,E,C⟩:=J.map.1.update zbG Tryz.underlying81 (by unfold maxLen;have:=ql.out;omega) (zbP qx.out) (zbJ u a5 zs.length c5)
   have qa:=zqH (zeH (e:=⟨n,u,.slice a5 zs.length c5⟩) J E C)
   have qf:=zqH ((zdK U V.out.map.1.lt C).lower qb.out.size)
   have qg:=zqH (((qb.out.trans (Only.of_below (F:=[M]) O) (fun k Y=> .inl Y))).trans (zbY C) (fun k Y=> .inl Y))
   have R:=zaA qa.out.box 0
   simp at R
   clear J U O E C
   (try go_wp2_with fail)
   refine N.out _ _ ?_ (fun G=> ?_)
   ·exact I
   clear N K
   try simp only [Act.put,tkPa,tkPb,tkPc]
   refine tkP 8 (some 51) (v:= ?_) rfl (.inl ⟨by rfl,?_⟩) G ?_;rotate_left;·intro w p;(try dsimp only at p);go_simp;try with_reducible rfl
   try simp only [Act.put,tkPa,tkPb,tkPc]
   refine wpAnyH_ready (rs:=[9]) (by kernel_rfl) (by simp) ?_
   refine AllReadyH.cons (o:=⟨none,_,_,_,_,_⟩) rfl (fun K N=> ?_) AllReadyH.nil
   go_simp
   refine N.out _ _ ?_ (fun Z=> ?_)
   ·exact R
   clear N K
   try simp only [Act.put,tkPa,tkPb,tkPc]
   refine wpAnyH_done (by kernel_rfl) ?_ _
   clear I R H
   go_wp2
   go_ret
   exact ⟨rfl,a5,c5,qa.out,qf.out,qg.out⟩
end
end Go.Proofs.YtkiehdigpchebaaGreatDoor
