/-
  What the law CacheLast leans on, and its walk (16 of 21).
-/
import Derived.Lib.SlMapFilter
import Derived.Laws.IdiomRangeMap
import Derived.Deep.RegionHeld3
import Derived.Test.YtkiehdigpchebaaGreatDoorCacheLastPkM
namespace Go.Proofs.YtkiehdigpchebaaGreatDoor
set_option maxRecDepth 100000
set_option maxHeartbeats 16000000
theorem tkP {P : Program} {o : Region.Mode} {g : Array Oper} {Q : Exit → Act → World → Prop} {S : World → Prop} (i : Nat) (s : Option Nat) {p : Op} {y : TypeId} {j : String} {z : _} {q : _} {v : Value} {fuel : Nat} {f : Array Bool} {a : Act} {w : World} (hi : g[i]? = some ⟨s, p, y, j, z, q⟩)
 (I : YieldsIf P g S ⟨s, p, y, j, z, q⟩ v a) (G : S w)
 (h : wpAnyH P o g Q S fuel (f.setIfInBounds i true) (a.put s v) w)
 (H : Region.noSelect g = true := by kernel_rfl) (D : Region.free o g f i = true := by kernel_rfl) (E : (Region.ready o g f).contains i = true := by kernel_rfl)
 (C : ∀ c a w, Q (.panic c) (a.put s v) w → Q (.panic c) a w := by exact fun _ _ _ h => h) : wpAnyH P o g Q S (fuel + 1) f a w :=
 wpAnyH_take hi H D E C I G h
theorem tkPa {α : Type _} (l : List α) (i : Nat) (a : α) : l.toArray.setIfInBounds i a = (l.set i a).toArray := List.setIfInBounds_toArray ..
theorem tkPb {α : Type _} (x y : α) (l : List α) : (x :: l).set 0 y = y :: l := rfl
theorem tkPc {α : Type _} (x y : α) (l : List α) (n : Nat) : (x :: l).set (n + 1) y = x :: l.set n y := rfl
abbrev znK := @Lib.hid
section
open Go.RowKit Go.Maps
theorem zaG {x y:World} {M:Nat} (h:x.grownBy y (some M)):Only [M] x y:=⟨h.os,h.tape,h.output,h.size,fun k a f=>h.block k a (fun e=>f (by rw [Option.some.inj e];exact List.mem_singleton.2 rfl))⟩
end
section
open Go.RowKit
theorem zfH {x y:World} {c M:Nat} {L:List CE} {e:CE} (h:CacS x c M L) (a:y.ownsMap Tryz.prog 34 zdH M (L.length+1) ((DL L).put (.string e.nm) (.held e.val))) (f:x.grownBy y (some M)):CacS y c M (putE e L):=by
 rw [DL_put] at a
 exact ⟨(f.block c (zaH h.box) (fun q=>h.ne (Option.some.inj q))).trans h.box,zbV a,h.map.2.put e⟩
theorem zmM {x y:World} {c M:Nat} {L:List CE} {f:List UInt8} (h:CacS x c M L) (a:y.ownsMap Tryz.prog 34 zdH M L.length ((DL L).del (.string f))) (g:x.grownBy y (some M)):CacS y c M (delE f L):=by
 rw [zmF] at a
 exact ⟨(g.block c (zaH h.box) (fun q=>h.ne (Option.some.inj q))).trans h.box,zbV a,h.map.2.del f⟩
theorem zcN {t:TypeId} {x y:World} {base M:Nat} {v:Value} {a:List AZ} (h:OwnX t 1 clZ x base v a) (i:M<base) (g:x.grownBy y (some M)):OwnX t 1 clZ y base v a:=
 h.same fun b f=>g.block b (World.ownsRow.lt h b f).2 (fun e=>by have:=(World.ownsRow.lt h b f).1;rw [Option.some.inj e] at this;omega)
theorem zaO {x y:World} {M:Nat} {ao:Option Addr} {g:List AZ} (h:RowX 1 clZ x ao g) (o: ∀f,ao=some f→f.block≠M) (C:Only [M] x y):RowX 1 clZ y ao g:=fun j z p=>by
 obtain ⟨f,e,E⟩:=h j z p
 refine ⟨f,e,fun i hi=> ?_⟩
 have D:i=0:=by omega
 subst D
 have a:=E 0 hi
 have H:(f.add (j*1+0)).block=f.block:=by unfold Addr.add;split<;>rfl
 have q:(clZ z)[0]? =some z.val:=rfl
 rw [q] at a ⊢
 exact (World.cell?_of_block (C.block _ (World.block_lt_of_cell? x _ a) (fun G=>o f e (by rw [←H];exact List.mem_singleton.1 G)))).trans a
def zhG (f n:List UInt8) (L:List CE):List CE:=if (zaL n L).isNone&&decide (64≤L.length) then delE f L else L
theorem zjM (c M:Nat) (L:List CE) (n f:List UInt8) (u:Int) (ao:Option Addr) (J:List AZ) (cp:Nat) (w:World) (h:CacS w c M L) (hn:n.length≤maxLen) (hf:f.length≤maxLen) (hz:J≠[]) (qj:J.length≤1000000) (hr:RowX 1 clZ w ao J) (ha: ∀ad,ao=some ad→ad.block≠M) (hL:L.length≤1000000)
  (HF:Hid (zaL n L=none→64≤L.length→ ∀W,Below w.heap.size w W→Calls Tryz.prog 28 #[.pointer (some ⟨c,0,none⟩)] W fun e w'=>e= .returned (.string ⟨f.toArray⟩)∧Below W.heap.size W w')):
  Calls Tryz.prog 9 #[.pointer (some ⟨c,0,none⟩),.string ⟨n.toArray⟩,.int .i64 u,.slice ao J.length cp] w fun e w'=>e= .returned (.bool true)∧ ∃V Y,CacS w' c M (putE ⟨n,u,.slice V J.length Y⟩ (zhG f n L))∧OwnX 38 1 clZ w' w.heap.size (.slice V J.length Y) J∧Only [M] w w':=by
 have hc:=zaE h.box 0
 simp at hc
 have R:=h.map.look hn
 have qs:=znK hn
 have qn:=znK hf
 have qp:=znK qj
 have qo:=znK hr
 have qv:=znK ha
 have qk:=znK (fun e=>h.map.form hn (e:=e))
 have qB:((J.length:Int)==0)=false:=beq_eq_false_iff_ne.2 (by have:=List.length_pos_iff.2 hz;omega)
 unfold zhG
 cases U:zaL n L with
 |some e0=>
  obtain ⟨a0,k0,c0,qy⟩:=qk.out e0 U
  have qe:Hid (L.length≤1000000):=hL
  rw [U] at R
  simp only [Option.map_some,Option.getD_some,Option.isSome_some,CE.val,qy] at R
  generalize e0.un=u0 at*
  obtain ⟨y,hy⟩: ∃y,y=w.alloc (.cells #[.int .i64 u0,.slice a0 k0 c0] 88):=⟨_,rfl⟩
  have hb:Below w.heap.size w y:=by rw [hy];exact (Below.refl _ _).alloc (Nat.le_refl _) _
  have Z:=znK (h.keep hb)
  have HB:Hid (Only [M] w y):=Only.of_below hb
  simp only [Option.isNone_some,Bool.false_and,Bool.false_eq_true,if_false]
  clear h hn hf hz qj hr ha hL hb U HF qk qn qy
  go_enter Tryz.func9,Tryz.ntmps9
  go_upto_region 4 with fail
  rw [←hy]
  clear hy R hc
  have G:Hid (CacS y.drew c M (L)):=Z.out.keep (zaJ _)
  have P:Hid (Only [M] w y.drew):=HB.out.drew
  have qa:Hid (∀X,Below y.heap.size y X→Calls Tryz.prog 29 #[.slice ao J.length cp] X fun e w'=> ∃v,e= .returned v∧OwnX 38 1 clZ w' X.heap.size v J∧Below X.heap.size X w'):=fun X hX=>zbM ao cp J X (zaO qo.out qv.out (HB.out.trans (Only.of_below (F:=[M]) hX) (fun k N=> .inl N))) qp.out
  have q:=zaE G.out.box 0
  simp at q
  clear Z HB
  go_wp2_with fail
  refine wp_region_held_drew (S:=fun W=>W.cell? ⟨c,0,none⟩=some (.map (some M))) (by kernel_rfl) ?_ (fun a=> ?_)
  ·exact q
  refine tkP 0 (some 43) (v:= ?_) rfl (.inl ⟨by rfl,?_⟩) a ?_;rotate_left;·intro w g;(try dsimp only at g);go_simp;try with_reducible rfl
  try simp only [Act.put,tkPa,tkPb,tkPc]
  refine tkP 1 (some 44) (v:= ?_) rfl (.inl ⟨by rfl,?_⟩) a ?_;rotate_left;·intro w g;(try dsimp only at g);go_simp;try with_reducible rfl
  try simp only [Act.put,tkPa,tkPb,tkPc]
  refine tkP 2 (some 45) (v:= ?_) rfl (.inl ⟨by rfl,?_⟩) a ?_;rotate_left;·intro w g;(try dsimp only at g);go_simp;try with_reducible rfl
  try simp only [Act.put,tkPa,tkPb,tkPc]
  refine tkP 3 (some 46) (v:= ?_) rfl (.inl ⟨by rfl,?_⟩) a ?_;rotate_left;·intro w g;(try dsimp only at g);go_simp;try with_reducible rfl
  try simp only [Act.put,tkPa,tkPb,tkPc]
  refine tkP 4 (some 47) (v:= ?_) rfl (.inl ⟨by rfl,?_⟩) a ?_;rotate_left;·intro w g;(try dsimp only at g);go_simp;try with_reducible rfl
  try simp only [Act.put,tkPa,tkPb,tkPc]
  refine tkP 5 (some 48) (v:= ?_) rfl (.inl ⟨by rfl,?_⟩) a ?_;rotate_left;·intro w g;(try dsimp only at g);go_simp;try with_reducible rfl
  try simp only [Act.put,tkPa,tkPb,tkPc]
  refine tkP 6 (some 49) (v:= ?_) rfl (.inl ⟨by rfl,?_⟩) a ?_;rotate_left;·intro w g;(try dsimp only at g);go_simp;try with_reducible rfl
  try simp only [Act.put,tkPa,tkPb,tkPc]
  refine wpAnyH_ready (rs:=[7]) (by kernel_rfl) (by simp) ?_
  refine AllReadyH.cons (o:=⟨some 50,_,_,_,_,_⟩) rfl (fun K E=> ?_) AllReadyH.nil
  go_simp
  go_at_call 29
  refine (qa.out _ (zaJ _)).mono ?_
  rintro e x5 ⟨v5,rfl,H,D⟩
  obtain ⟨V,Y,rfl⟩:=H.form
  have C:=G.out.keep D
  have z:=zaE C.box 0
  simp at z
  obtain ⟨x6,ql,j,i⟩:=C.map.1.update zbS Tryz.underlying81 (by unfold maxLen;have:=qe.out;omega) (zbR qs.out) (zbN u V J.length Y)
  have Q:=znK (zfH (e:=⟨n,u,.slice V J.length Y⟩) C j i)
  have qb:=znK ((zcN H G.out.map.1.lt i).lower P.out.size)
  have qd:=znK (((P.out.trans (Only.of_below (F:=[M]) D) (fun k N=> .inl N))).trans (zaG i) (fun k N=> .inl N))
  have I:=zaE Q.out.box 0
  simp at I
  clear C H D j i
  (try go_wp2_with fail)
  refine E.out _ _ ?_ (fun p=> ?_)
  ·exact z
  clear E K
  try simp only [Act.put,tkPa,tkPb,tkPc]
  refine tkP 8 (some 51) (v:= ?_) rfl (.inl ⟨by rfl,?_⟩) p ?_;rotate_left;·intro w g;(try dsimp only at g);go_simp;try with_reducible rfl
  try simp only [Act.put,tkPa,tkPb,tkPc]
  refine wpAnyH_ready (rs:=[9]) (by kernel_rfl) (by simp) ?_
  refine AllReadyH.cons (o:=⟨none,_,_,_,_,_⟩) rfl (fun K E=> ?_) AllReadyH.nil
  go_simp
  refine E.out _ _ ?_ (fun O=> ?_)
  ·exact I
  clear E K
  try simp only [Act.put,tkPa,tkPb,tkPc]
  refine wpAnyH_done (by kernel_rfl) ?_ _
  clear z I q
  go_wp2
  go_ret
  exact ⟨rfl,V,Y,Q.out,qb.out,qd.out⟩
 |none=>
  rw [U] at R
  simp only [Option.map_none,Option.getD_none,Option.isSome_none] at R
  obtain ⟨y,hy⟩: ∃y,y=w.alloc (.cells #[.int .i64 0,.slice none 0 0] 88):=⟨_,rfl⟩
  have hb:Below w.heap.size w y:=by rw [hy];exact (Below.refl _ _).alloc (Nat.le_refl _) _
  have Z:=znK (h.keep hb)
  have HB:Hid (Only [M] w y):=Only.of_below hb
  have qq:=Z.out.map.1.len Tryz.underlying81 3
  rw [zdC] at qq
  have qr:=zaE Z.out.box 0
  simp at qr
  by_cases qc:64≤L.length
  ·have hd:decide ((64:Int)≤(L.length:Int))=true:=decide_eq_true (by omega)
   have qe:Hid ((delE f L).length≤1000000):=Nat.le_trans (List.length_filter_le _ _) hL
   have qz:Hid (∀W,Below y.heap.size y W→Calls Tryz.prog 28 #[.pointer (some ⟨c,0,none⟩)] W fun e w'=>e= .returned (.string ⟨f.toArray⟩)∧Below W.heap.size W w'):=fun W hW=>HF.out U qc W (hb.trans (hW.mono hb.size))
   simp only [Option.isNone_none,Bool.true_and,decide_eq_true qc,if_true]
   clear h hn hf hz qj hr ha hL hb U HF qk qc
   go_enter Tryz.func9,Tryz.ntmps9
   go_upto_region 4 with fail
   rw [←hy]
   clear hy R hc
   go_wp2_with fail
   have qf:Hid (CacS y.drew c M L):=Z.out.keep (zaJ _)
   have qm:Hid (Only [M] w y.drew):=HB.out.drew
   have q:=zaE qf.out.box 0
   simp at q
   clear Z HB qq hd qr
   refine wp_region_held_drew (S:=fun W=>W.cell? ⟨c,0,none⟩=some (.map (some M))) (by kernel_rfl) ?_ (fun a=> ?_)
   ·exact q
   refine tkP 0 (some 37) (v:= ?_) rfl (.inl ⟨by rfl,?_⟩) a ?_;rotate_left;·intro w g;(try dsimp only at g);go_simp;try with_reducible rfl
   try simp only [Act.put,tkPa,tkPb,tkPc]
   refine tkP 1 (some 38) (v:= ?_) rfl (.inl ⟨by rfl,?_⟩) a ?_;rotate_left;·intro w g;(try dsimp only at g);go_simp;try with_reducible rfl
   try simp only [Act.put,tkPa,tkPb,tkPc]
   refine tkP 2 (some 39) (v:= ?_) rfl (.inl ⟨by rfl,?_⟩) a ?_;rotate_left;·intro w g;(try dsimp only at g);go_simp;try with_reducible rfl
   try simp only [Act.put,tkPa,tkPb,tkPc]
   refine tkP 3 (some 40) (v:= ?_) rfl (.inl ⟨by rfl,?_⟩) a ?_;rotate_left;·intro w g;(try dsimp only at g);go_simp;try with_reducible rfl
   try simp only [Act.put,tkPa,tkPb,tkPc]
   refine tkP 4 (some 41) (v:= ?_) rfl (.inl ⟨by rfl,?_⟩) a ?_;rotate_left;·intro w g;(try dsimp only at g);go_simp;try with_reducible rfl
   try simp only [Act.put,tkPa,tkPb,tkPc]
   refine wpAnyH_ready (rs:=[5]) (by kernel_rfl) (by simp) ?_
   refine AllReadyH.cons (o:=⟨some 42,_,_,_,_,_⟩) rfl (fun K E=> ?_) AllReadyH.nil
   go_simp
   go_at_call 28
   refine (qz.out _ (zaJ _)).mono ?_
   rintro e x4 ⟨rfl,qw⟩
   have qi:=qf.out.keep qw
   have qx:=zaE qi.box 0
   simp at qx
   obtain ⟨x5,qA,qh,qg⟩:=qi.map.1.drop zbS Tryz.underlying81 (zbR qn.out) 0
   have Z:=znK (zmM qi qh qg.grown)
   have HB:=znK (((qm.out.trans (Only.of_below (F:=[M]) qw) (fun k N=> .inl N))).trans (zaG qg.grown) (fun k N=> .inl N))
   have z:=zaE Z.out.box 0
   simp at z
   clear qi qw qh qg
   (try go_wp2_with fail)
   refine E.out _ _ ?_ (fun p=> ?_)
   ·exact qx
   clear E K
   try simp only [Act.put,tkPa,tkPb,tkPc]
   refine wpAnyH_ready (rs:=[6]) (by kernel_rfl) (by simp) ?_
   refine AllReadyH.cons (o:=⟨none,_,_,_,_,_⟩) rfl (fun K E=> ?_) AllReadyH.nil
   go_simp
   refine E.out _ _ ?_ (fun O=> ?_)
   ·exact z
   clear E K
   try simp only [Act.put,tkPa,tkPb,tkPc]
   refine wpAnyH_done (by kernel_rfl) ?_ _
   clear qx z q qf qm qz
   have G:Hid (CacS x5.drew c M (delE f L)):=Z.out.keep (zaJ _)
   have P:Hid (Only [M] w x5.drew):=HB.out.drew
   have qa:Hid (∀X,Below x5.heap.size x5 X→Calls Tryz.prog 29 #[.slice ao J.length cp] X fun e w'=> ∃v,e= .returned v∧OwnX 38 1 clZ w' X.heap.size v J∧Below X.heap.size X w'):=fun X hX=>zbM ao cp J X (zaO qo.out qv.out (HB.out.trans (Only.of_below (F:=[M]) hX) (fun k N=> .inl N))) qp.out
   have q:=zaE G.out.box 0
   simp at q
   clear Z HB
   go_wp2_with fail
   refine wp_region_held_drew (S:=fun W=>W.cell? ⟨c,0,none⟩=some (.map (some M))) (by kernel_rfl) ?_ (fun a=> ?_)
   ·exact q
   refine tkP 0 (some 43) (v:= ?_) rfl (.inl ⟨by rfl,?_⟩) a ?_;rotate_left;·intro w g;(try dsimp only at g);go_simp;try with_reducible rfl
   try simp only [Act.put,tkPa,tkPb,tkPc]
   refine tkP 1 (some 44) (v:= ?_) rfl (.inl ⟨by rfl,?_⟩) a ?_;rotate_left;·intro w g;(try dsimp only at g);go_simp;try with_reducible rfl
   try simp only [Act.put,tkPa,tkPb,tkPc]
   refine tkP 2 (some 45) (v:= ?_) rfl (.inl ⟨by rfl,?_⟩) a ?_;rotate_left;·intro w g;(try dsimp only at g);go_simp;try with_reducible rfl
   try simp only [Act.put,tkPa,tkPb,tkPc]
   refine tkP 3 (some 46) (v:= ?_) rfl (.inl ⟨by rfl,?_⟩) a ?_;rotate_left;·intro w g;(try dsimp only at g);go_simp;try with_reducible rfl
   try simp only [Act.put,tkPa,tkPb,tkPc]
   refine tkP 4 (some 47) (v:= ?_) rfl (.inl ⟨by rfl,?_⟩) a ?_;rotate_left;·intro w g;(try dsimp only at g);go_simp;try with_reducible rfl
   try simp only [Act.put,tkPa,tkPb,tkPc]
   refine tkP 5 (some 48) (v:= ?_) rfl (.inl ⟨by rfl,?_⟩) a ?_;rotate_left;·intro w g;(try dsimp only at g);go_simp;try with_reducible rfl
   try simp only [Act.put,tkPa,tkPb,tkPc]
   refine tkP 6 (some 49) (v:= ?_) rfl (.inl ⟨by rfl,?_⟩) a ?_;rotate_left;·intro w g;(try dsimp only at g);go_simp;try with_reducible rfl
   try simp only [Act.put,tkPa,tkPb,tkPc]
   refine wpAnyH_ready (rs:=[7]) (by kernel_rfl) (by simp) ?_
   refine AllReadyH.cons (o:=⟨some 50,_,_,_,_,_⟩) rfl (fun K E=> ?_) AllReadyH.nil
   go_simp
   go_at_call 29
   refine (qa.out _ (zaJ _)).mono ?_
   rintro e x5 ⟨v5,rfl,H,D⟩
   obtain ⟨V,Y,rfl⟩:=H.form
   have C:=G.out.keep D
   have z:=zaE C.box 0
   simp at z
   obtain ⟨x6,ql,j,i⟩:=C.map.1.update zbS Tryz.underlying81 (by unfold maxLen;have:=qe.out;omega) (zbR qs.out) (zbN u V J.length Y)
   have Q:=znK (zfH (e:=⟨n,u,.slice V J.length Y⟩) C j i)
   have qb:=znK ((zcN H G.out.map.1.lt i).lower P.out.size)
   have qd:=znK (((P.out.trans (Only.of_below (F:=[M]) D) (fun k N=> .inl N))).trans (zaG i) (fun k N=> .inl N))
   have I:=zaE Q.out.box 0
   simp at I
   clear C H D j i
   (try go_wp2_with fail)
   refine E.out _ _ ?_ (fun p=> ?_)
   ·exact z
   clear E K
   try simp only [Act.put,tkPa,tkPb,tkPc]
   refine tkP 8 (some 51) (v:= ?_) rfl (.inl ⟨by rfl,?_⟩) p ?_;rotate_left;·intro w g;(try dsimp only at g);go_simp;try with_reducible rfl
   try simp only [Act.put,tkPa,tkPb,tkPc]
   refine wpAnyH_ready (rs:=[9]) (by kernel_rfl) (by simp) ?_
   refine AllReadyH.cons (o:=⟨none,_,_,_,_,_⟩) rfl (fun K E=> ?_) AllReadyH.nil
   go_simp
   refine E.out _ _ ?_ (fun O=> ?_)
   ·exact I
   clear E K
   try simp only [Act.put,tkPa,tkPb,tkPc]
   refine wpAnyH_done (by kernel_rfl) ?_ _
   clear z I q
   go_wp2
   go_ret
   exact ⟨rfl,V,Y,Q.out,qb.out,qd.out⟩
  ·have hd:decide ((64:Int)≤(L.length:Int))=false:=decide_eq_false (by omega)
   have qe:Hid (L.length≤1000000):=hL
   simp only [Option.isNone_none,Bool.true_and,decide_eq_false qc,Bool.false_eq_true,if_false]
   clear h hn hf hz qj hr ha hL hb U HF qk qc qn
   go_enter Tryz.func9,Tryz.ntmps9
   go_upto_region 4 with fail
   rw [←hy]
   clear hy R hc
   go_upto_region 5 with fail
   clear qq hd qr
   have G:Hid (CacS y.drew c M (L)):=Z.out.keep (zaJ _)
   have P:Hid (Only [M] w y.drew):=HB.out.drew
   have qa:Hid (∀X,Below y.heap.size y X→Calls Tryz.prog 29 #[.slice ao J.length cp] X fun e w'=> ∃v,e= .returned v∧OwnX 38 1 clZ w' X.heap.size v J∧Below X.heap.size X w'):=fun X hX=>zbM ao cp J X (zaO qo.out qv.out (HB.out.trans (Only.of_below (F:=[M]) hX) (fun k N=> .inl N))) qp.out
   have q:=zaE G.out.box 0
   simp at q
   clear Z HB
   go_wp2_with fail
   refine wp_region_held_drew (S:=fun W=>W.cell? ⟨c,0,none⟩=some (.map (some M))) (by kernel_rfl) ?_ (fun a=> ?_)
   ·exact q
   refine tkP 0 (some 43) (v:= ?_) rfl (.inl ⟨by rfl,?_⟩) a ?_;rotate_left;·intro w g;(try dsimp only at g);go_simp;try with_reducible rfl
   try simp only [Act.put,tkPa,tkPb,tkPc]
   refine tkP 1 (some 44) (v:= ?_) rfl (.inl ⟨by rfl,?_⟩) a ?_;rotate_left;·intro w g;(try dsimp only at g);go_simp;try with_reducible rfl
   try simp only [Act.put,tkPa,tkPb,tkPc]
   refine tkP 2 (some 45) (v:= ?_) rfl (.inl ⟨by rfl,?_⟩) a ?_;rotate_left;·intro w g;(try dsimp only at g);go_simp;try with_reducible rfl
   try simp only [Act.put,tkPa,tkPb,tkPc]
   refine tkP 3 (some 46) (v:= ?_) rfl (.inl ⟨by rfl,?_⟩) a ?_;rotate_left;·intro w g;(try dsimp only at g);go_simp;try with_reducible rfl
   try simp only [Act.put,tkPa,tkPb,tkPc]
   refine tkP 4 (some 47) (v:= ?_) rfl (.inl ⟨by rfl,?_⟩) a ?_;rotate_left;·intro w g;(try dsimp only at g);go_simp;try with_reducible rfl
   try simp only [Act.put,tkPa,tkPb,tkPc]
   refine tkP 5 (some 48) (v:= ?_) rfl (.inl ⟨by rfl,?_⟩) a ?_;rotate_left;·intro w g;(try dsimp only at g);go_simp;try with_reducible rfl
   try simp only [Act.put,tkPa,tkPb,tkPc]
   refine tkP 6 (some 49) (v:= ?_) rfl (.inl ⟨by rfl,?_⟩) a ?_;rotate_left;·intro w g;(try dsimp only at g);go_simp;try with_reducible rfl
   try simp only [Act.put,tkPa,tkPb,tkPc]
   refine wpAnyH_ready (rs:=[7]) (by kernel_rfl) (by simp) ?_
   refine AllReadyH.cons (o:=⟨some 50,_,_,_,_,_⟩) rfl (fun K E=> ?_) AllReadyH.nil
   go_simp
   go_at_call 29
   refine (qa.out _ (zaJ _)).mono ?_
   rintro e x5 ⟨v5,rfl,H,D⟩
   obtain ⟨V,Y,rfl⟩:=H.form
   have C:=G.out.keep D
   have z:=zaE C.box 0
   simp at z
   obtain ⟨x6,ql,j,i⟩:=C.map.1.update zbS Tryz.underlying81 (by unfold maxLen;have:=qe.out;omega) (zbR qs.out) (zbN u V J.length Y)
   have Q:=znK (zfH (e:=⟨n,u,.slice V J.length Y⟩) C j i)
   have qb:=znK ((zcN H G.out.map.1.lt i).lower P.out.size)
   have qd:=znK (((P.out.trans (Only.of_below (F:=[M]) D) (fun k N=> .inl N))).trans (zaG i) (fun k N=> .inl N))
   have I:=zaE Q.out.box 0
   simp at I
   clear C H D j i
   (try go_wp2_with fail)
   refine E.out _ _ ?_ (fun p=> ?_)
   ·exact z
   clear E K
   try simp only [Act.put,tkPa,tkPb,tkPc]
   refine tkP 8 (some 51) (v:= ?_) rfl (.inl ⟨by rfl,?_⟩) p ?_;rotate_left;·intro w g;(try dsimp only at g);go_simp;try with_reducible rfl
   try simp only [Act.put,tkPa,tkPb,tkPc]
   refine wpAnyH_ready (rs:=[9]) (by kernel_rfl) (by simp) ?_
   refine AllReadyH.cons (o:=⟨none,_,_,_,_,_⟩) rfl (fun K E=> ?_) AllReadyH.nil
   go_simp
   refine E.out _ _ ?_ (fun O=> ?_)
   ·exact I
   clear E K
   try simp only [Act.put,tkPa,tkPb,tkPc]
   refine wpAnyH_done (by kernel_rfl) ?_ _
   clear z I q
   go_wp2
   go_ret
   exact ⟨rfl,V,Y,Q.out,qb.out,qd.out⟩
end
end Go.Proofs.YtkiehdigpchebaaGreatDoor
