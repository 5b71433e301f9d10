/-
  What the law CachePlays leans on, and its walk (16 of 21).
-/
import Derived.Lib.SlMapFilter
import Derived.Laws.IdiomRangeMap
import Derived.Deep.RegionHeld3
import Derived.Test.YteajemblhlbfpaaGreatDoorCachePlaysPkM
namespace Go.Proofs.YteajemblhlbfpaaGreatDoor
set_option maxRecDepth 100000
set_option maxHeartbeats 16000000
theorem tkP {P : Program} {o : Region.Mode} {g : Array Oper} {Q : Exit → Act → World → Prop} {S : World → Prop} (i : Nat) (s : Option Nat) {A : Op} {B : TypeId} {j : String} {y : _} {p : _} {v : Value} {fuel : Nat} {f : Array Bool} {a : Act} {w : World} (hi : g[i]? = some ⟨s, A, B, j, y, p⟩)
 (I : YieldsIf P g S ⟨s, A, B, j, y, p⟩ v a) (H : S w)
 (h : wpAnyH P o g Q S fuel (f.setIfInBounds i true) (a.put s v) w)
 (C : Region.noSelect g = true := by kernel_rfl) (D : Region.free o g f i = true := by kernel_rfl) (G : (Region.ready o g f).contains i = true := by kernel_rfl)
 (E : ∀ c a w, Q (.panic c) (a.put s v) w → Q (.panic c) a w := by exact fun _ _ _ h => h) : wpAnyH P o g Q S (fuel + 1) f a w :=
 wpAnyH_take hi C D G E I H h
theorem tkPa {α : Type _} (l : List α) (i : Nat) (a : α) : l.toArray.setIfInBounds i a = (l.set i a).toArray := List.setIfInBounds_toArray ..
theorem tkPb {α : Type _} (x y : α) (l : List α) : (x :: l).set 0 y = y :: l := rfl
theorem tkPc {α : Type _} (x y : α) (l : List α) (n : Nat) : (x :: l).set (n + 1) y = x :: l.set n y := rfl
abbrev zoU := @Lib.hid
section
open Go.RowKit Go.Maps
def zaI (f:Int) (e:CE):Bool:=decide (f<e.un)
def pdG (f:Int) (_:Lit) (d:DataW Value):Bool:=match d with
 | .held (.agg ⟨.int .i64 u::_⟩)=> !decide (f<u)
 |_=>false
theorem znC (f:Int) (L:List CE):Lib.deleteFuncD (pdG f) (DL L)=DL (L.filter (zaI f)):=by
 unfold DL Lib.deleteFuncD
 simp only
 congr 1
 rw [List.filter_map]
 congr 1
 refine List.filter_congr fun e _=> ?_
 show (!(!decide (f<e.un)))=decide (f<e.un)
 simp
theorem zaM.filter {L:List CE} (h:zaM L) (p:CE→Bool):zaM (L.filter p):=List.Pairwise.sublist List.filter_sublist h
theorem zbG {x y:World} {M:Nat} (h:x.grownBy y (some M)):Only [M] x y:=⟨h.os,h.tape,h.output,h.size,fun k g f=>h.block k g (fun e=>f (by rw [Option.some.inj e];exact List.mem_singleton.2 rfl))⟩
theorem ziG (n:ByteArray) (u g:Int) (a:Option Addr) (k c o:Nat) (w:World) (A:w.cell? ⟨o,0,none⟩=some (.int .i64 g)):
  Calls Tryz.prog 23 #[.string n,.agg #[.int .i64 u,.slice a k c],.pointer (some ⟨o,0,none⟩)] w fun e w'=>e= .returned (.bool (!decide (g<u)))∧Below w.heap.size w w':=by
 obtain ⟨y,i⟩: ∃y,y=w.alloc (.cells #[.int .i64 u,.slice a k c] 60):=⟨_,rfl⟩
 have j:Below w.heap.size w y:=by rw [i];exact (Below.refl _ _).alloc (Nat.le_refl _) _
 have f:y.heap[w.heap.size]? =some (.cells #[.int .i64 u,.slice a k c] 60):=by rw [i];exact heap_alloc_new w _
 have p:=zoU j
 have B:=zaD f 0
 have E:=zaD f 1
 simp at B E
 have H:y.cell? ⟨o,0,none⟩=some (.int .i64 g):=(j.cell (World.block_lt_of_cell? w _ A)).trans A
 have C:=zoU (zcR u g a k c y)
 clear j f A
 go_enter Tryz.func23,Tryz.ntmps23
 go_upto_region 1 with fail
 rw [←i]
 clear i
 go_wp2_with fail
 refine C.out.mono ?_
 rintro e x ⟨rfl,D⟩
 have G:=zoU (p.out.trans (D.mono p.out.size))
 clear D p C B E H
 go_wp2
 go_ret
 exact ⟨rfl,G.out⟩
theorem zeZ (M bx:Nat) (L:List CE) (f:Int) (w:World) (h:MapS w M L) (qa:w.cell? ⟨bx,0,none⟩=some (.int .i64 f)) (qv:bx≠M):
  Calls Tryz.prog 22 #[.map (some M),.func (.func 23) #[] #[.pointer (some ⟨bx,0,none⟩)]] w fun e w'=>e= .returned (.tuple #[])∧MapS w' M (L.filter (zaI f))∧w.grownBy w' (some M):=by
 have HS:=zoU (h.2.filter (zaI f))
 have B:=h.1
 obtain ⟨es0,hD,qd,G⟩:=B.entries zaO
 have qc:=zoU (znC f L)
 rw [hD] at B qc
 have HT:Hid (∀W:World,w.grownBy W (some M)→ ∀(n:ByteArray) (u:Int) (a:Option Addr) (k c:Nat),Calls Tryz.prog 23 #[.string n,.agg #[.int .i64 u,.slice a k c],.pointer (some ⟨bx,0,none⟩)] W fun e w'=>e= .returned (.bool (!decide (f<u)))∧Below W.heap.size W w'):=fun W hW n u a k c=>
  ziG n u f a k c bx W ((World.cell?_of_block (a:=⟨bx,0,none⟩) (hW.block bx (World.block_lt_of_cell? w _ qa) (fun e=>qv (Option.some.inj e)))).trans qa)
 have qk:=zoU qd
 have qB:=zoU G
 have qG:=zoU (rfl:L.length=L.length)
 generalize hm:L.length=m at*
 clear h qa hD qd G
 go_enter Tryz.func22,Tryz.ntmps22
 go_wp2_with (first
  |(at_range;refine wpList_range_own _ rfl _ 55 rfl 34 60 zaO Tryz.underlying55 zbL M m _ rfl B ?_;intro w0 ql qC qE)
  |go_in)
 try go_frame
 go_loopw [8] (fun _ wr=> ∃(left:Lit→Bool) (qp:Nat),Hid (wr.ranges Tryz.prog 34 zbL M w.heap.size m (Fk (pdG f) es0 left) left qp)∧Hid (w.grownBy wr (some M)))
  (fun _ wr=>wr.rangeLeft M w.heap.size)
 case atStart=>exact ⟨_,_,(by show World.ranges _ _ _ _ _ _ _ _ _ _;rw [Fk_start qB.out];exact ql),qC.but _⟩
 case round=>
  obtain ⟨left,qp,I,Y⟩:=hrel
  have H:=I.out
  go_wp2_with (first
   |(at_next;refine wpList_next_ranges (α:=ByteArray) (β:=Int×Option Addr×Nat×Nat) _ rfl _ rfl 34 zaO zbL (fun s=> .string s) (fun p=> .agg #[.int .i64 p.1,.slice p.2.1 p.2.2.1 p.2.2.2]) (fun qF kl hk=>by
     obtain ⟨s,rfl,_⟩:=WideMaps.string_of_keyOf Tryz.underlying34 hk
     exact ⟨s,rfl⟩) (fun v y hv=>by
     obtain ⟨u,a,k,c,rfl,_⟩:=zaX hv
     exact ⟨(u,a,k,c),rfl⟩) M w.heap.size m _ _ _ rfl H ?_ ?_)
   |go_in)
  ·intro _ qx
   have HE:Hid (MapS _ M (L.filter (zaI f))∧w.grownBy _ (some M)):=⟨⟨zbJ (n:=m) (by rw [←qc.out,←Fk_end (pd:=pdG f) (es0:=es0) qx];exact H.owns),HS.out⟩,Y.out⟩
   go_wp2
   go_end0
   exact ⟨rfl,HE.out⟩
  ·intro s u a k c kl yd yp w1 K U qj hv qe V qn qy qD qA
   have qi:pdG f kl yd= !decide (f<u):=by
    obtain ⟨_,_,_,_,_,e2⟩:=zaX hv
    rw [show yd=_ from congrArg Prod.fst e2];rfl
   have qs:=zoU qi
   have qh:=zoU qe
   have qg:=zoU qj
   have qb:=zoU U
   have J:=Y.out.andThen qy (fun j hj=>by cases hj;exact Or.inl (Nat.le_refl _))
   obtain ⟨y2,E⟩: ∃y,y=w1.alloc (.cells #[.int .i64 u,.slice a k c] 60):=⟨_,rfl⟩
   have N:y2.ranges Tryz.prog 34 zbL M w.heap.size m (Fk (pdG f) es0 left) (fun z=>left z&& !z.sameKey kl) K:=by rw [E];exact V.alloc _
   have o:w.grownBy y2 (some M):=by rw [E];exact J.andThen (World.grownBy_alloc w1 _ none) (fun j hj=>by cases hj)
   have C:y2.heap[w1.heap.size]? =some (.cells #[.int .i64 u,.slice a k c] 60):=by rw [E];exact heap_alloc_new w1 _
   have e0:=zaD C 0
   have e1:=zaD C 1
   simp at e0 e1
   rw [qD] at e0 e1
   have T:=zoU N
   have S:=zoU o
   have qo:=zoU (HT.out y2 o s u a k c)
   have qq:=zoU qn
   have qm:=zoU H.left_eq
   clear V N J o C qi qe qj U hv qn H I Y
   go_upto_region 3 with fail
   rw [←E]
   clear E qA
   go_wp2_with fail
   refine qo.out.mono ?_
   rintro e w3 ⟨rfl,i⟩
   have Z:y2.grownBy w3 none:=⟨i.os,i.tape,i.output,i.size,fun k hk _=>i.block k hk⟩
   have g:=T.out.kept Z (by simp) (by simp)
   have P:=zoU (S.out.andThen Z (fun j hj=>by cases hj))
   clear Z i qo T S e0 e1
   cases hp:decide (f<u) with
   |true=>
    have R:=zoU g
    clear g
    go_wp2
    go_roundw
    case rel=>exact ⟨_,K,(by show World.ranges _ _ _ _ _ _ _ _ _ _;rw [←Fk_stays qk.out (zaO.key qb.out) qg.out (by rw [qs.out,hp];rfl) qh.out];exact R.out),P⟩
    case measure=>rw [R.out.left_eq,qm.out];exact qq.out
   |false=>
    go_wp2_with (first
     |(at_delete;refine wpList_delete_ranges _ rfl _ _ 55 34 rfl 60 zaO Tryz.underlying55 zbL M w.heap.size m _ _ _ rfl g _ _ rfl qb.out ?_;intro w4 qf A qr D;try go_frame)
     |go_in)
    rw [strike_twice] at A
    have O:=zoU A
    have qz:=zoU D.grown
    have qw:=zoU qr
    clear g A D qr
    go_roundw
    case rel=>exact ⟨_,qf,(by show World.ranges _ _ _ _ _ _ _ _ _ _;rw [←Fk_struck qk.out (zaO.key qb.out) qg.out (by rw [qs.out,hp];rfl) qh.out];exact O.out),P.out.andThen qz.out (fun j hj=>by cases hj;exact Or.inr rfl)⟩
    case measure=>rw [O.out.left_eq,qm.out];have:=qw.out;have:=qq.out;omega
theorem zfT (c M:Nat) (L:List CE) (f:Int) (w:World) (h:CacS w c M L) (T:L.length≤1000000):
  Calls Tryz.prog 9 #[.pointer (some ⟨c,0,none⟩),.int .i64 f] w fun e w'=>e= .returned (.int .i64 ((L.length:Int) - ((L.filter (zaI f)).length:Int)))∧CacS w' c M (L.filter (zaI f))∧Only [M] w w':=by
 obtain ⟨y,A⟩: ∃y,y=w.alloc (.cells #[.int .i64 f] 2):=⟨_,rfl⟩
 have D:Below w.heap.size w y:=by rw [A];exact (Below.refl _ _).alloc (Nat.le_refl _) _
 have g:y.heap[w.heap.size]? =some (.cells #[.int .i64 f] 2):=by rw [A];exact heap_alloc_new w _
 have B:=zaD g 0
 simp at B
 have p:=h.keep D
 have j:=h.ne
 have C:=h.map.1.lt
 have P:=zoU (zeZ M w.heap.size L f y p.map B (by omega))
 have R:=zaD p.box 0
 simp at R
 have N:=p.map.1.len Tryz.underlying55 3
 rw [zcM] at N
 have I:(L.filter (zaI f)).length≤L.length:=List.length_filter_le _ _
 have Y:IntKind.i64.wrap ((L.length:Int) - ((L.filter (zaI f)).length:Int))=(L.length:Int) - ((L.filter (zaI f)).length:Int):=by rw [IntKind.wrap_i64];omega
 have O:=zoU D
 have E:=zoU p.box
 have o:=zoU j
 generalize L.filter (zaI f)=V at*
 clear h p D g j C T I
 go_enter Tryz.func9,Tryz.ntmps9
 go_upto_region 3 with fail
 rw [←A]
 clear A
 go_wp2_with fail
 refine P.out.mono ?_
 rintro e x ⟨rfl,G,K⟩
 have i:=(K.block c (zaH E.out) (fun e=>o.out (Option.some.inj e))).trans E.out
 have J:=zaD i 0
 simp at J
 have H:=G.1.len Tryz.underlying55 3
 rw [zcM] at H
 have S:Hid (CacS x c M V∧Only [M] w x):=⟨⟨i,G⟩,(Only.of_below (F:=[M]) O.out).trans (zbG K) (fun k U=> .inl U)⟩
 clear G K i N R B P E o O
 go_wp2
 go_ret
 exact ⟨rfl,S.out⟩
end
section
open Go.RowKit
theorem zdV {x y:World} {c M:Nat} {L:List CE} {e:CE} (h:CacS x c M L) (f:y.ownsMap Tryz.prog 34 zbL M (L.length+1) ((DL L).put (.string e.nm) (.held e.val))) (g:x.grownBy y (some M)):CacS y c M (putE e L):=by
 rw [DL_put] at f
 exact ⟨(g.block c (zaH h.box) (fun q=>h.ne (Option.some.inj q))).trans h.box,zbJ f,h.map.2.put e⟩
theorem znT {x y:World} {c M:Nat} {L:List CE} {f:List UInt8} (h:CacS x c M L) (g:y.ownsMap Tryz.prog 34 zbL M L.length ((DL L).del (.string f))) (i:x.grownBy y (some M)):CacS y c M (delE f L):=by
 rw [znM] at g
 exact ⟨(i.block c (zaH h.box) (fun q=>h.ne (Option.some.inj q))).trans h.box,zbJ g,h.map.2.del f⟩
theorem zdG {t:TypeId} {x y:World} {base M:Nat} {v:Value} {g:List AZ} (h:OwnX t 1 clZ x base v g) (j:M<base) (i:x.grownBy y (some M)):OwnX t 1 clZ y base v g:=
 h.same fun b f=>i.block b (World.ownsRow.lt h b f).2 (fun e=>by have:=(World.ownsRow.lt h b f).1;rw [Option.some.inj e] at this;omega)
theorem zbT {x y:World} {M:Nat} {ao:Option Addr} {o:List AZ} (h:RowX 1 clZ x ao o) (E: ∀f,ao=some f→f.block≠M) (D:Only [M] x y):RowX 1 clZ y ao o:=fun j z A=>by
 obtain ⟨f,e,G⟩:=h j z A
 refine ⟨f,e,fun i hi=> ?_⟩
 have B:i=0:=by omega
 subst B
 have g:=G 0 hi
 have p:(f.add (j*1+0)).block=f.block:=by unfold Addr.add;split<;>rfl
 have q:(clZ z)[0]? =some z.val:=rfl
 rw [q] at g ⊢
 exact (World.cell?_of_block (D.block _ (World.block_lt_of_cell? x _ g) (fun C=>E f e (by rw [←p];exact List.mem_singleton.1 C)))).trans g
def zeP (f n:List UInt8) (L:List CE):List CE:=if (zaJ n L).isNone&&decide (64≤L.length) then delE f L else L
theorem zkY (c M:Nat) (L:List CE) (n f:List UInt8) (u:Int) (ao:Option Addr) (G:List AZ) (cp:Nat) (w:World) (h:CacS w c M L) (hn:n.length≤maxLen) (hf:f.length≤maxLen) (hz:G≠[]) (qk:G.length≤1000000) (hr:RowX 1 clZ w ao G) (ha: ∀ad,ao=some ad→ad.block≠M) (hL:L.length≤1000000)
  (HF:Hid (zaJ n L=none→64≤L.length→ ∀W,Below w.heap.size w W→Calls Tryz.prog 26 #[.pointer (some ⟨c,0,none⟩)] W fun e w'=>e= .returned (.string ⟨f.toArray⟩)∧Below W.heap.size W w')):
  Calls Tryz.prog 12 #[.pointer (some ⟨c,0,none⟩),.string ⟨n.toArray⟩,.int .i64 u,.slice ao G.length cp] w fun e w'=>e= .returned (.bool true)∧ ∃Z Y,CacS w' c M (putE ⟨n,u,.slice Z G.length Y⟩ (zeP f n L))∧OwnX 48 1 clZ w' w.heap.size (.slice Z G.length Y) G∧Only [M] w w':=by
 have hc:=zaD h.box 0
 simp at hc
 have U:=h.map.look hn
 have qn:=zoU hn
 have qo:=zoU hf
 have qv:=zoU qk
 have qp:=zoU hr
 have qw:=zoU ha
 have qj:=zoU (fun e=>h.map.form hn (e:=e))
 have qB:((G.length:Int)==0)=false:=beq_eq_false_iff_ne.2 (by have:=List.length_pos_iff.2 hz;omega)
 unfold zeP
 cases V:zaJ n L with
 |some e0=>
  obtain ⟨a0,k0,c0,qy⟩:=qj.out e0 V
  have qe:Hid (L.length≤1000000):=hL
  rw [V] at U
  simp only [Option.map_some,Option.getD_some,Option.isSome_some,CE.val,qy] at U
  generalize e0.un=u0 at*
  obtain ⟨y,hy⟩: ∃y,y=w.alloc (.cells #[.int .i64 u0,.slice a0 k0 c0] 60):=⟨_,rfl⟩
  have hb:Below w.heap.size w y:=by rw [hy];exact (Below.refl _ _).alloc (Nat.le_refl _) _
  have HS:=zoU (h.keep hb)
  have HB:Hid (Only [M] w y):=Only.of_below hb
  simp only [Option.isNone_some,Bool.false_and,Bool.false_eq_true,if_false]
  clear h hn hf hz qk hr ha hL hb V HF qj qo qy
  go_enter Tryz.func12,Tryz.ntmps12
  go_upto_region 4 with fail
  rw [←hy]
  clear hy U hc
  have J:Hid (CacS y.drew c M (L)):=HS.out.keep (zaF _)
  have T:Hid (Only [M] w y.drew):=HB.out.drew
  have qh:Hid (∀X,Below y.heap.size y X→Calls Tryz.prog 25 #[.slice ao G.length cp] X fun e w'=> ∃v,e= .returned v∧OwnX 48 1 clZ w' X.heap.size v G∧Below X.heap.size X w'):=fun X hX=>zbB ao cp G X (zbT qp.out qw.out (HB.out.trans (Only.of_below (F:=[M]) hX) (fun k O=> .inl O))) qv.out
  have B:=zaD J.out.box 0
  simp at B
  clear HS HB
  go_wp2_with fail
  refine wp_region_held_drew (S:=fun W=>W.cell? ⟨c,0,none⟩=some (.map (some M))) (by kernel_rfl) ?_ (fun g=> ?_)
  ·exact B
  refine tkP 0 (some 43) (v:= ?_) rfl (.inl ⟨by rfl,?_⟩) g ?_;rotate_left;·intro w i;(try dsimp only at i);go_simp;try with_reducible rfl
  try simp only [Act.put,tkPa,tkPb,tkPc]
  refine tkP 1 (some 44) (v:= ?_) rfl (.inl ⟨by rfl,?_⟩) g ?_;rotate_left;·intro w i;(try dsimp only at i);go_simp;try with_reducible rfl
  try simp only [Act.put,tkPa,tkPb,tkPc]
  refine tkP 2 (some 45) (v:= ?_) rfl (.inl ⟨by rfl,?_⟩) g ?_;rotate_left;·intro w i;(try dsimp only at i);go_simp;try with_reducible rfl
  try simp only [Act.put,tkPa,tkPb,tkPc]
  refine tkP 3 (some 46) (v:= ?_) rfl (.inl ⟨by rfl,?_⟩) g ?_;rotate_left;·intro w i;(try dsimp only at i);go_simp;try with_reducible rfl
  try simp only [Act.put,tkPa,tkPb,tkPc]
  refine tkP 4 (some 47) (v:= ?_) rfl (.inl ⟨by rfl,?_⟩) g ?_;rotate_left;·intro w i;(try dsimp only at i);go_simp;try with_reducible rfl
  try simp only [Act.put,tkPa,tkPb,tkPc]
  refine tkP 5 (some 48) (v:= ?_) rfl (.inl ⟨by rfl,?_⟩) g ?_;rotate_left;·intro w i;(try dsimp only at i);go_simp;try with_reducible rfl
  try simp only [Act.put,tkPa,tkPb,tkPc]
  refine tkP 6 (some 49) (v:= ?_) rfl (.inl ⟨by rfl,?_⟩) g ?_;rotate_left;·intro w i;(try dsimp only at i);go_simp;try with_reducible rfl
  try simp only [Act.put,tkPa,tkPb,tkPc]
  refine wpAnyH_ready (rs:=[7]) (by kernel_rfl) (by simp) ?_
  refine AllReadyH.cons (o:=⟨some 50,_,_,_,_,_⟩) rfl (fun K N=> ?_) AllReadyH.nil
  go_simp
  go_at_call 25
  refine (qh.out _ (zaF _)).mono ?_
  rintro e x5 ⟨v5,rfl,I,H⟩
  obtain ⟨Z,Y,rfl⟩:=I.form
  have D:=J.out.keep H
  have C:=zaD D.box 0
  simp at C
  obtain ⟨x6,ql,p,j⟩:=D.map.1.update zaO Tryz.underlying55 (by unfold maxLen;have:=qe.out;omega) (zbM qn.out) (zbI u Z G.length Y)
  have R:=zoU (zdV (e:=⟨n,u,.slice Z G.length Y⟩) D p j)
  have qg:=zoU ((zdG I J.out.map.1.lt j).lower T.out.size)
  have qb:=zoU (((T.out.trans (Only.of_below (F:=[M]) H) (fun k O=> .inl O))).trans (zbG j) (fun k O=> .inl O))
  have E:=zaD R.out.box 0
  simp at E
  clear D I H p j
  (try go_wp2_with fail)
  refine N.out _ _ ?_ (fun A=> ?_)
  ·exact C
  clear N K
  try simp only [Act.put,tkPa,tkPb,tkPc]
  refine tkP 8 (some 51) (v:= ?_) rfl (.inl ⟨by rfl,?_⟩) A ?_;rotate_left;·intro w i;(try dsimp only at i);go_simp;try with_reducible rfl
  try simp only [Act.put,tkPa,tkPb,tkPc]
  refine wpAnyH_ready (rs:=[9]) (by kernel_rfl) (by simp) ?_
  refine AllReadyH.cons (o:=⟨none,_,_,_,_,_⟩) rfl (fun K N=> ?_) AllReadyH.nil
  go_simp
  refine N.out _ _ ?_ (fun P=> ?_)
  ·exact E
  clear N K
  try simp only [Act.put,tkPa,tkPb,tkPc]
  refine wpAnyH_done (by kernel_rfl) ?_ _
  clear C E B
  go_wp2
  go_ret
  exact ⟨rfl,Z,Y,R.out,qg.out,qb.out⟩
 |none=>
  rw [V] at U
  simp only [Option.map_none,Option.getD_none,Option.isSome_none] at U
  obtain ⟨y,hy⟩: ∃y,y=w.alloc (.cells #[.int .i64 0,.slice none 0 0] 60):=⟨_,rfl⟩
  have hb:Below w.heap.size w y:=by rw [hy];exact (Below.refl _ _).alloc (Nat.le_refl _) _
  have HS:=zoU (h.keep hb)
  have HB:Hid (Only [M] w y):=Only.of_below hb
  have qr:=HS.out.map.1.len Tryz.underlying55 3
  rw [zcM] at qr
  have qx:=zaD HS.out.box 0
  simp at qx
  by_cases qa:64≤L.length
  ·have hd:decide ((64:Int)≤(L.length:Int))=true:=decide_eq_true (by omega)
   have qe:Hid ((delE f L).length≤1000000):=Nat.le_trans (List.length_filter_le _ _) hL
   have qz:Hid (∀W,Below y.heap.size y W→Calls Tryz.prog 26 #[.pointer (some ⟨c,0,none⟩)] W fun e w'=>e= .returned (.string ⟨f.toArray⟩)∧Below W.heap.size W w'):=fun W hW=>HF.out V qa W (hb.trans (hW.mono hb.size))
   simp only [Option.isNone_none,Bool.true_and,decide_eq_true qa,if_true]
   clear h hn hf hz qk hr ha hL hb V HF qj qa
   go_enter Tryz.func12,Tryz.ntmps12
   go_upto_region 4 with fail
   rw [←hy]
   clear hy U hc
   go_wp2_with fail
   have qf:Hid (CacS y.drew c M L):=HS.out.keep (zaF _)
   have qm:Hid (Only [M] w y.drew):=HB.out.drew
   have B:=zaD qf.out.box 0
   simp at B
   clear HS HB qr hd qx
   refine wp_region_held_drew (S:=fun W=>W.cell? ⟨c,0,none⟩=some (.map (some M))) (by kernel_rfl) ?_ (fun g=> ?_)
   ·exact B
   refine tkP 0 (some 37) (v:= ?_) rfl (.inl ⟨by rfl,?_⟩) g ?_;rotate_left;·intro w i;(try dsimp only at i);go_simp;try with_reducible rfl
   try simp only [Act.put,tkPa,tkPb,tkPc]
   refine tkP 1 (some 38) (v:= ?_) rfl (.inl ⟨by rfl,?_⟩) g ?_;rotate_left;·intro w i;(try dsimp only at i);go_simp;try with_reducible rfl
   try simp only [Act.put,tkPa,tkPb,tkPc]
   refine tkP 2 (some 39) (v:= ?_) rfl (.inl ⟨by rfl,?_⟩) g ?_;rotate_left;·intro w i;(try dsimp only at i);go_simp;try with_reducible rfl
   try simp only [Act.put,tkPa,tkPb,tkPc]
   refine tkP 3 (some 40) (v:= ?_) rfl (.inl ⟨by rfl,?_⟩) g ?_;rotate_left;·intro w i;(try dsimp only at i);go_simp;try with_reducible rfl
   try simp only [Act.put,tkPa,tkPb,tkPc]
   refine tkP 4 (some 41) (v:= ?_) rfl (.inl ⟨by rfl,?_⟩) g ?_;rotate_left;·intro w i;(try dsimp only at i);go_simp;try with_reducible rfl
   try simp only [Act.put,tkPa,tkPb,tkPc]
   refine wpAnyH_ready (rs:=[5]) (by kernel_rfl) (by simp) ?_
   refine AllReadyH.cons (o:=⟨some 42,_,_,_,_,_⟩) rfl (fun K N=> ?_) AllReadyH.nil
   go_simp
   go_at_call 26
   refine (qz.out _ (zaF _)).mono ?_
   rintro e x4 ⟨rfl,qs⟩
   have qi:=qf.out.keep qs
   have qq:=zaD qi.box 0
   simp at qq
   obtain ⟨x5,qA,qc,qd⟩:=qi.map.1.drop zaO Tryz.underlying55 (zbM qo.out) 0
   have HS:=zoU (znT qi qc qd.grown)
   have HB:=zoU (((qm.out.trans (Only.of_below (F:=[M]) qs) (fun k O=> .inl O))).trans (zbG qd.grown) (fun k O=> .inl O))
   have C:=zaD HS.out.box 0
   simp at C
   clear qi qs qc qd
   (try go_wp2_with fail)
   refine N.out _ _ ?_ (fun A=> ?_)
   ·exact qq
   clear N K
   try simp only [Act.put,tkPa,tkPb,tkPc]
   refine wpAnyH_ready (rs:=[6]) (by kernel_rfl) (by simp) ?_
   refine AllReadyH.cons (o:=⟨none,_,_,_,_,_⟩) rfl (fun K N=> ?_) AllReadyH.nil
   go_simp
   refine N.out _ _ ?_ (fun P=> ?_)
   ·exact C
   clear N K
   try simp only [Act.put,tkPa,tkPb,tkPc]
   refine wpAnyH_done (by kernel_rfl) ?_ _
   clear qq C B qf qm qz
   have J:Hid (CacS x5.drew c M (delE f L)):=HS.out.keep (zaF _)
   have T:Hid (Only [M] w x5.drew):=HB.out.drew
   have qh:Hid (∀X,Below x5.heap.size x5 X→Calls Tryz.prog 25 #[.slice ao G.length cp] X fun e w'=> ∃v,e= .returned v∧OwnX 48 1 clZ w' X.heap.size v G∧Below X.heap.size X w'):=fun X hX=>zbB ao cp G X (zbT qp.out qw.out (HB.out.trans (Only.of_below (F:=[M]) hX) (fun k O=> .inl O))) qv.out
   have B:=zaD J.out.box 0
   simp at B
   clear HS HB
   go_wp2_with fail
   refine wp_region_held_drew (S:=fun W=>W.cell? ⟨c,0,none⟩=some (.map (some M))) (by kernel_rfl) ?_ (fun g=> ?_)
   ·exact B
   refine tkP 0 (some 43) (v:= ?_) rfl (.inl ⟨by rfl,?_⟩) g ?_;rotate_left;·intro w i;(try dsimp only at i);go_simp;try with_reducible rfl
   try simp only [Act.put,tkPa,tkPb,tkPc]
   refine tkP 1 (some 44) (v:= ?_) rfl (.inl ⟨by rfl,?_⟩) g ?_;rotate_left;·intro w i;(try dsimp only at i);go_simp;try with_reducible rfl
   try simp only [Act.put,tkPa,tkPb,tkPc]
   refine tkP 2 (some 45) (v:= ?_) rfl (.inl ⟨by rfl,?_⟩) g ?_;rotate_left;·intro w i;(try dsimp only at i);go_simp;try with_reducible rfl
   try simp only [Act.put,tkPa,tkPb,tkPc]
   refine tkP 3 (some 46) (v:= ?_) rfl (.inl ⟨by rfl,?_⟩) g ?_;rotate_left;·intro w i;(try dsimp only at i);go_simp;try with_reducible rfl
   try simp only [Act.put,tkPa,tkPb,tkPc]
   refine tkP 4 (some 47) (v:= ?_) rfl (.inl ⟨by rfl,?_⟩) g ?_;rotate_left;·intro w i;(try dsimp only at i);go_simp;try with_reducible rfl
   try simp only [Act.put,tkPa,tkPb,tkPc]
   refine tkP 5 (some 48) (v:= ?_) rfl (.inl ⟨by rfl,?_⟩) g ?_;rotate_left;·intro w i;(try dsimp only at i);go_simp;try with_reducible rfl
   try simp only [Act.put,tkPa,tkPb,tkPc]
   refine tkP 6 (some 49) (v:= ?_) rfl (.inl ⟨by rfl,?_⟩) g ?_;rotate_left;·intro w i;(try dsimp only at i);go_simp;try with_reducible rfl
   try simp only [Act.put,tkPa,tkPb,tkPc]
   refine wpAnyH_ready (rs:=[7]) (by kernel_rfl) (by simp) ?_
   refine AllReadyH.cons (o:=⟨some 50,_,_,_,_,_⟩) rfl (fun K N=> ?_) AllReadyH.nil
   go_simp
   go_at_call 25
   refine (qh.out _ (zaF _)).mono ?_
   rintro e x5 ⟨v5,rfl,I,H⟩
   obtain ⟨Z,Y,rfl⟩:=I.form
   have D:=J.out.keep H
   have C:=zaD D.box 0
   simp at C
   obtain ⟨x6,ql,p,j⟩:=D.map.1.update zaO Tryz.underlying55 (by unfold maxLen;have:=qe.out;omega) (zbM qn.out) (zbI u Z G.length Y)
   have R:=zoU (zdV (e:=⟨n,u,.slice Z G.length Y⟩) D p j)
   have qg:=zoU ((zdG I J.out.map.1.lt j).lower T.out.size)
   have qb:=zoU (((T.out.trans (Only.of_below (F:=[M]) H) (fun k O=> .inl O))).trans (zbG j) (fun k O=> .inl O))
   have E:=zaD R.out.box 0
   simp at E
   clear D I H p j
   (try go_wp2_with fail)
   refine N.out _ _ ?_ (fun A=> ?_)
   ·exact C
   clear N K
   try simp only [Act.put,tkPa,tkPb,tkPc]
   refine tkP 8 (some 51) (v:= ?_) rfl (.inl ⟨by rfl,?_⟩) A ?_;rotate_left;·intro w i;(try dsimp only at i);go_simp;try with_reducible rfl
   try simp only [Act.put,tkPa,tkPb,tkPc]
   refine wpAnyH_ready (rs:=[9]) (by kernel_rfl) (by simp) ?_
   refine AllReadyH.cons (o:=⟨none,_,_,_,_,_⟩) rfl (fun K N=> ?_) AllReadyH.nil
   go_simp
   refine N.out _ _ ?_ (fun P=> ?_)
   ·exact E
   clear N K
   try simp only [Act.put,tkPa,tkPb,tkPc]
   refine wpAnyH_done (by kernel_rfl) ?_ _
   clear C E B
   go_wp2
   go_ret
   exact ⟨rfl,Z,Y,R.out,qg.out,qb.out⟩
  ·have hd:decide ((64:Int)≤(L.length:Int))=false:=decide_eq_false (by omega)
   have qe:Hid (L.length≤1000000):=hL
   simp only [Option.isNone_none,Bool.true_and,decide_eq_false qa,Bool.false_eq_true,if_false]
   clear h hn hf hz qk hr ha hL hb V HF qj qa qo
   go_enter Tryz.func12,Tryz.ntmps12
   go_upto_region 4 with fail
   rw [←hy]
   clear hy U hc
   go_upto_region 5 with fail
   clear qr hd qx
   have J:Hid (CacS y.drew c M (L)):=HS.out.keep (zaF _)
   have T:Hid (Only [M] w y.drew):=HB.out.drew
   have qh:Hid (∀X,Below y.heap.size y X→Calls Tryz.prog 25 #[.slice ao G.length cp] X fun e w'=> ∃v,e= .returned v∧OwnX 48 1 clZ w' X.heap.size v G∧Below X.heap.size X w'):=fun X hX=>zbB ao cp G X (zbT qp.out qw.out (HB.out.trans (Only.of_below (F:=[M]) hX) (fun k O=> .inl O))) qv.out
   have B:=zaD J.out.box 0
   simp at B
   clear HS HB
   go_wp2_with fail
   refine wp_region_held_drew (S:=fun W=>W.cell? ⟨c,0,none⟩=some (.map (some M))) (by kernel_rfl) ?_ (fun g=> ?_)
   ·exact B
   refine tkP 0 (some 43) (v:= ?_) rfl (.inl ⟨by rfl,?_⟩) g ?_;rotate_left;·intro w i;(try dsimp only at i);go_simp;try with_reducible rfl
   try simp only [Act.put,tkPa,tkPb,tkPc]
   refine tkP 1 (some 44) (v:= ?_) rfl (.inl ⟨by rfl,?_⟩) g ?_;rotate_left;·intro w i;(try dsimp only at i);go_simp;try with_reducible rfl
   try simp only [Act.put,tkPa,tkPb,tkPc]
   refine tkP 2 (some 45) (v:= ?_) rfl (.inl ⟨by rfl,?_⟩) g ?_;rotate_left;·intro w i;(try dsimp only at i);go_simp;try with_reducible rfl
   try simp only [Act.put,tkPa,tkPb,tkPc]
   refine tkP 3 (some 46) (v:= ?_) rfl (.inl ⟨by rfl,?_⟩) g ?_;rotate_left;·intro w i;(try dsimp only at i);go_simp;try with_reducible rfl
   try simp only [Act.put,tkPa,tkPb,tkPc]
   refine tkP 4 (some 47) (v:= ?_) rfl (.inl ⟨by rfl,?_⟩) g ?_;rotate_left;·intro w i;(try dsimp only at i);go_simp;try with_reducible rfl
   try simp only [Act.put,tkPa,tkPb,tkPc]
   refine tkP 5 (some 48) (v:= ?_) rfl (.inl ⟨by rfl,?_⟩) g ?_;rotate_left;·intro w i;(try dsimp only at i);go_simp;try with_reducible rfl
   try simp only [Act.put,tkPa,tkPb,tkPc]
   refine tkP 6 (some 49) (v:= ?_) rfl (.inl ⟨by rfl,?_⟩) g ?_;rotate_left;·intro w i;(try dsimp only at i);go_simp;try with_reducible rfl
   try simp only [Act.put,tkPa,tkPb,tkPc]
   refine wpAnyH_ready (rs:=[7]) (by kernel_rfl) (by simp) ?_
   refine AllReadyH.cons (o:=⟨some 50,_,_,_,_,_⟩) rfl (fun K N=> ?_) AllReadyH.nil
   go_simp
   go_at_call 25
   refine (qh.out _ (zaF _)).mono ?_
   rintro e x5 ⟨v5,rfl,I,H⟩
   obtain ⟨Z,Y,rfl⟩:=I.form
   have D:=J.out.keep H
   have C:=zaD D.box 0
   simp at C
   obtain ⟨x6,ql,p,j⟩:=D.map.1.update zaO Tryz.underlying55 (by unfold maxLen;have:=qe.out;omega) (zbM qn.out) (zbI u Z G.length Y)
   have R:=zoU (zdV (e:=⟨n,u,.slice Z G.length Y⟩) D p j)
   have qg:=zoU ((zdG I J.out.map.1.lt j).lower T.out.size)
   have qb:=zoU (((T.out.trans (Only.of_below (F:=[M]) H) (fun k O=> .inl O))).trans (zbG j) (fun k O=> .inl O))
   have E:=zaD R.out.box 0
   simp at E
   clear D I H p j
   (try go_wp2_with fail)
   refine N.out _ _ ?_ (fun A=> ?_)
   ·exact C
   clear N K
   try simp only [Act.put,tkPa,tkPb,tkPc]
   refine tkP 8 (some 51) (v:= ?_) rfl (.inl ⟨by rfl,?_⟩) A ?_;rotate_left;·intro w i;(try dsimp only at i);go_simp;try with_reducible rfl
   try simp only [Act.put,tkPa,tkPb,tkPc]
   refine wpAnyH_ready (rs:=[9]) (by kernel_rfl) (by simp) ?_
   refine AllReadyH.cons (o:=⟨none,_,_,_,_,_⟩) rfl (fun K N=> ?_) AllReadyH.nil
   go_simp
   refine N.out _ _ ?_ (fun P=> ?_)
   ·exact E
   clear N K
   try simp only [Act.put,tkPa,tkPb,tkPc]
   refine wpAnyH_done (by kernel_rfl) ?_ _
   clear C E B
   go_wp2
   go_ret
   exact ⟨rfl,Z,Y,R.out,qg.out,qb.out⟩
end
end Go.Proofs.YteajemblhlbfpaaGreatDoor
