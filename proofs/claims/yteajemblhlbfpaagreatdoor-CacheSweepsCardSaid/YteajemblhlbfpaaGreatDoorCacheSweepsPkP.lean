/-
  What the law CacheSweeps leans on, and its walk (16 of 21).
-/
import Derived.Lib.SlMapFilter
import Derived.Laws.IdiomRangeMap
import Derived.Deep.RegionHeld3
import Derived.Test.YteajemblhlbfpaaGreatDoorCacheSweepsPkM
namespace Go.Proofs.YteajemblhlbfpaaGreatDoor
set_option maxRecDepth 100000
set_option maxHeartbeats 16000000
theorem tkP {P : Program} {o : Region.Mode} {g : Array Oper} {Q : Exit → Act → World → Prop} {S : World → Prop} (i : Nat) (s : Option Nat) {y : Op} {p : TypeId} {j : String} {q : _} {z : _} {v : Value} {fuel : Nat} {f : Array Bool} {a : Act} {w : World} (hi : g[i]? = some ⟨s, y, p, j, q, z⟩)
 (A : YieldsIf P g S ⟨s, y, p, j, q, z⟩ v a) (G : S w)
 (h : wpAnyH P o g Q S fuel (f.setIfInBounds i true) (a.put s v) w)
 (B : Region.noSelect g = true := by kernel_rfl) (E : Region.free o g f i = true := by kernel_rfl) (D : (Region.ready o g f).contains i = true := by kernel_rfl)
 (C : ∀ c a w, Q (.panic c) (a.put s v) w → Q (.panic c) a w := by exact fun _ _ _ h => h) : wpAnyH P o g Q S (fuel + 1) f a w :=
 wpAnyH_take hi B E D C A G h
theorem tkPa {α : Type _} (l : List α) (i : Nat) (a : α) : l.toArray.setIfInBounds i a = (l.set i a).toArray := List.setIfInBounds_toArray ..
theorem tkPb {α : Type _} (x y : α) (l : List α) : (x :: l).set 0 y = y :: l := rfl
theorem tkPc {α : Type _} (x y : α) (l : List α) (n : Nat) : (x :: l).set (n + 1) y = x :: l.set n y := rfl
abbrev znI := @Lib.hid
section
open Go.RowKit Go.Maps
def zaM (a:Int) (e:CE):Bool:=decide (a<e.un)
def pdG (a:Int) (_:Lit) (d:DataW Value):Bool:=match d with
 | .held (.agg ⟨.int .i64 u::_⟩)=> !decide (a<u)
 |_=>false
theorem zkU (a:Int) (L:List CE):Lib.deleteFuncD (pdG a) (DL L)=DL (L.filter (zaM a)):=by
 unfold DL Lib.deleteFuncD
 simp only
 congr 1
 rw [List.filter_map]
 congr 1
 refine List.filter_congr fun e _=> ?_
 show (!(!decide (a<e.un)))=decide (a<e.un)
 simp
theorem zaJ.filter {L:List CE} (h:zaJ L) (p:CE→Bool):zaJ (L.filter p):=List.Pairwise.sublist List.filter_sublist h
theorem zaX {x y:World} {M:Nat} (h:x.grownBy y (some M)):Only [M] x y:=⟨h.os,h.tape,h.output,h.size,fun k a f=>h.block k a (fun e=>f (by rw [Option.some.inj e];exact List.mem_singleton.2 rfl))⟩
theorem zgZ (n:ByteArray) (u g:Int) (a:Option Addr) (k c o:Nat) (w:World) (q:w.cell? ⟨o,0,none⟩=some (.int .i64 g)):
  Calls Tryz.prog 23 #[.string n,.agg #[.int .i64 u,.slice a k c],.pointer (some ⟨o,0,none⟩)] w fun e w'=>e= .returned (.bool (!decide (g<u)))∧Below w.heap.size w w':=by
 obtain ⟨y,i⟩: ∃y,y=w.alloc (.cells #[.int .i64 u,.slice a k c] 60):=⟨_,rfl⟩
 have j:Below w.heap.size w y:=by rw [i];exact (Below.refl _ _).alloc (Nat.le_refl _) _
 have f:y.heap[w.heap.size]? =some (.cells #[.int .i64 u,.slice a k c] 60):=by rw [i];exact heap_alloc_new w _
 have p:=znI j
 have z:=zaD f 0
 have C:=zaD f 1
 simp at z C
 have D:y.cell? ⟨o,0,none⟩=some (.int .i64 g):=(j.cell (World.block_lt_of_cell? w _ q)).trans q
 have B:=znI (zcA u g a k c y)
 clear j f q
 go_enter Tryz.func23,Tryz.ntmps23
 go_upto_region 1 with fail
 rw [←i]
 clear i
 go_wp2_with fail
 refine B.out.mono ?_
 rintro e x ⟨rfl,A⟩
 have E:=znI (p.out.trans (A.mono p.out.size))
 clear A p B z C D
 go_wp2
 go_ret
 exact ⟨rfl,E.out⟩
theorem zdR (M Z:Nat) (L:List CE) (f:Int) (w:World) (h:MapS w M L) (V:w.cell? ⟨Z,0,none⟩=some (.int .i64 f)) (qy:Z≠M):
  Calls Tryz.prog 22 #[.map (some M),.func (.func 23) #[] #[.pointer (some ⟨Z,0,none⟩)]] w fun e w'=>e= .returned (.tuple #[])∧MapS w' M (L.filter (zaM f))∧w.grownBy w' (some M):=by
 have HS:=znI (h.2.filter (zaM f))
 have q:=h.1
 obtain ⟨es0,hD,qh,E⟩:=q.entries zaK
 have qn:=znI (zkU f L)
 rw [hD] at q qn
 have HT:Hid (∀W:World,w.grownBy W (some M)→ ∀(n:ByteArray) (u:Int) (a:Option Addr) (k c:Nat),Calls Tryz.prog 23 #[.string n,.agg #[.int .i64 u,.slice a k c],.pointer (some ⟨Z,0,none⟩)] W fun e w'=>e= .returned (.bool (!decide (f<u)))∧Below W.heap.size W w'):=fun W hW n u a k c=>
  zgZ n u f a k c Z W ((World.cell?_of_block (a:=⟨Z,0,none⟩) (hW.block Z (World.block_lt_of_cell? w _ V) (fun e=>qy (Option.some.inj e)))).trans V)
 have qq:=znI qh
 have qz:=znI E
 have qE:=znI (rfl:L.length=L.length)
 generalize hm:L.length=m at*
 clear h V hD qh E
 go_enter Tryz.func22,Tryz.ntmps22
 go_wp2_with (first
  |(at_range;refine wpList_range_own _ rfl _ 55 rfl 34 60 zaK Tryz.underlying55 zbD M m _ rfl q ?_;intro w0 qj qv qF)
  |go_in)
 try go_frame
 go_loopw [8] (fun _ wr=> ∃(left:Lit→Bool) (qi:Nat),Hid (wr.ranges Tryz.prog 34 zbD M w.heap.size m (Fk (pdG f) es0 left) left qi)∧Hid (w.grownBy wr (some M)))
  (fun _ wr=>wr.rangeLeft M w.heap.size)
 case atStart=>exact ⟨_,_,(by show World.ranges _ _ _ _ _ _ _ _ _ _;rw [Fk_start qz.out];exact qj),qv.but _⟩
 case round=>
  obtain ⟨left,qi,R,Y⟩:=hrel
  have G:=R.out
  go_wp2_with (first
   |(at_next;refine wpList_next_ranges (α:=ByteArray) (β:=Int×Option Addr×Nat×Nat) _ rfl _ rfl 34 zaK zbD (fun s=> .string s) (fun p=> .agg #[.int .i64 p.1,.slice p.2.1 p.2.2.1 p.2.2.2]) (fun qD kl hk=>by
     obtain ⟨s,rfl,_⟩:=WideMaps.string_of_keyOf Tryz.underlying34 hk
     exact ⟨s,rfl⟩) (fun v y hv=>by
     obtain ⟨u,a,k,c,rfl,_⟩:=zaS hv
     exact ⟨(u,a,k,c),rfl⟩) M w.heap.size m _ _ _ rfl G ?_ ?_)
   |go_in)
  ·intro _ qC
   have HE:Hid (MapS _ M (L.filter (zaM f))∧w.grownBy _ (some M)):=⟨⟨zbB (n:=m) (by rw [←qn.out,←Fk_end (pd:=pdG f) (es0:=es0) qC];exact G.owns),HS.out⟩,Y.out⟩
   go_wp2
   go_end0
   exact ⟨rfl,HE.out⟩
  ·intro s u a k c kl yd yp w1 Q I qm hv qr P qf qx qw qB
   have qk:pdG f kl yd= !decide (f<u):=by
    obtain ⟨_,_,_,_,_,e2⟩:=zaS hv
    rw [show yd=_ from congrArg Prod.fst e2];rfl
   have ql:=znI qk
   have qd:=znI qr
   have qe:=znI qm
   have qa:=znI I
   have S:=Y.out.andThen qx (fun j hj=>by cases hj;exact Or.inl (Nat.le_refl _))
   obtain ⟨y2,B⟩: ∃y,y=w1.alloc (.cells #[.int .i64 u,.slice a k c] 60):=⟨_,rfl⟩
   have H:y2.ranges Tryz.prog 34 zbD M w.heap.size m (Fk (pdG f) es0 left) (fun z=>left z&& !z.sameKey kl) Q:=by rw [B];exact P.alloc _
   have A:w.grownBy y2 (some M):=by rw [B];exact S.andThen (World.grownBy_alloc w1 _ none) (fun j hj=>by cases hj)
   have D:y2.heap[w1.heap.size]? =some (.cells #[.int .i64 u,.slice a k c] 60):=by rw [B];exact heap_alloc_new w1 _
   have e0:=zaD D 0
   have e1:=zaD D 1
   simp at e0 e1
   rw [qw] at e0 e1
   have N:=znI H
   have J:=znI A
   have qg:=znI (HT.out y2 A s u a k c)
   have qc:=znI qf
   have qo:=znI G.left_eq
   clear P H S A D qk qr qm I hv qf G R Y
   go_upto_region 3 with fail
   rw [←B]
   clear B qB
   go_wp2_with fail
   refine qg.out.mono ?_
   rintro e w3 ⟨rfl,i⟩
   have U:y2.grownBy w3 none:=⟨i.os,i.tape,i.output,i.size,fun k hk _=>i.block k hk⟩
   have g:=N.out.kept U (by simp) (by simp)
   have T:=znI (J.out.andThen U (fun j hj=>by cases hj))
   clear U i qg N J e0 e1
   cases hp:decide (f<u) with
   |true=>
    have O:=znI g
    clear g
    go_wp2
    go_roundw
    case rel=>exact ⟨_,Q,(by show World.ranges _ _ _ _ _ _ _ _ _ _;rw [←Fk_stays qq.out (zaK.key qa.out) qe.out (by rw [ql.out,hp];rfl) qd.out];exact O.out),T⟩
    case measure=>rw [O.out.left_eq,qo.out];exact qc.out
   |false=>
    go_wp2_with (first
     |(at_delete;refine wpList_delete_ranges _ rfl _ _ 55 34 rfl 60 zaK Tryz.underlying55 zbD M w.heap.size m _ _ _ rfl g _ _ rfl qa.out ?_;intro w4 qp o qb C;try go_frame)
     |go_in)
    rw [strike_twice] at o
    have K:=znI o
    have qs:=znI C.grown
    have qA:=znI qb
    clear g o C qb
    go_roundw
    case rel=>exact ⟨_,qp,(by show World.ranges _ _ _ _ _ _ _ _ _ _;rw [←Fk_struck qq.out (zaK.key qa.out) qe.out (by rw [ql.out,hp];rfl) qd.out];exact K.out),T.out.andThen qs.out (fun j hj=>by cases hj;exact Or.inr rfl)⟩
    case measure=>rw [K.out.left_eq,qo.out];have:=qA.out;have:=qc.out;omega
theorem zeX (c M:Nat) (L:List CE) (a:Int) (w:World) (h:CacS w c M L) (P:L.length≤1000000):
  Calls Tryz.prog 9 #[.pointer (some ⟨c,0,none⟩),.int .i64 a] w fun e w'=>e= .returned (.int .i64 ((L.length:Int) - ((L.filter (zaM a)).length:Int)))∧CacS w' c M (L.filter (zaM a))∧Only [M] w w':=by
 obtain ⟨y,p⟩: ∃y,y=w.alloc (.cells #[.int .i64 a] 2):=⟨_,rfl⟩
 have z:Below w.heap.size w y:=by rw [p];exact (Below.refl _ _).alloc (Nat.le_refl _) _
 have f:y.heap[w.heap.size]? =some (.cells #[.int .i64 a] 2):=by rw [p];exact heap_alloc_new w _
 have q:=zaD f 0
 simp at q
 have i:=h.keep z
 have o:=h.ne
 have E:=h.map.1.lt
 have N:=znI (zdR M w.heap.size L a y i.map q (by omega))
 have K:=zaD i.box 0
 simp at K
 have I:=i.map.1.len Tryz.underlying55 3
 rw [zbV] at I
 have B:(L.filter (zaM a)).length≤L.length:=List.length_filter_le _ _
 have S:IntKind.i64.wrap ((L.length:Int) - ((L.filter (zaM a)).length:Int))=(L.length:Int) - ((L.filter (zaM a)).length:Int):=by rw [IntKind.wrap_i64];omega
 have J:=znI z
 have G:=znI i.box
 have j:=znI o
 generalize L.filter (zaM a)=R at*
 clear h i z f o E P B
 go_enter Tryz.func9,Tryz.ntmps9
 go_upto_region 3 with fail
 rw [←p]
 clear p
 go_wp2_with fail
 refine N.out.mono ?_
 rintro e x ⟨rfl,A,H⟩
 have g:=(H.block c (zaH G.out) (fun e=>j.out (Option.some.inj e))).trans G.out
 have C:=zaD g 0
 simp at C
 have D:=A.1.len Tryz.underlying55 3
 rw [zbV] at D
 have Q:Hid (CacS x c M R∧Only [M] w x):=⟨⟨g,A⟩,(Only.of_below (F:=[M]) J.out).trans (zaX H) (fun k O=> .inl O)⟩
 clear A H g I K q N G j J
 go_wp2
 go_ret
 exact ⟨rfl,Q.out⟩
end
section
open Go.RowKit
theorem zdD {x y:World} {c M:Nat} {L:List CE} {e:CE} (h:CacS x c M L) (a:y.ownsMap Tryz.prog 34 zbD M (L.length+1) ((DL L).put (.string e.nm) (.held e.val))) (f:x.grownBy y (some M)):CacS y c M (putE e L):=by
 rw [DL_put] at a
 exact ⟨(f.block c (zaH h.box) (fun q=>h.ne (Option.some.inj q))).trans h.box,zbB a,h.map.2.put e⟩
theorem zmI {x y:World} {c M:Nat} {L:List CE} {f:List UInt8} (h:CacS x c M L) (a:y.ownsMap Tryz.prog 34 zbD M L.length ((DL L).del (.string f))) (g:x.grownBy y (some M)):CacS y c M (delE f L):=by
 rw [zmC] at a
 exact ⟨(g.block c (zaH h.box) (fun q=>h.ne (Option.some.inj q))).trans h.box,zbB a,h.map.2.del f⟩
theorem zcN {t:TypeId} {x y:World} {base M:Nat} {v:Value} {f:List AZ} (h:OwnX t 1 clZ x base v f) (i:M<base) (g:x.grownBy y (some M)):OwnX t 1 clZ y base v f:=
 h.same fun b a=>g.block b (World.ownsRow.lt h b a).2 (fun e=>by have:=(World.ownsRow.lt h b a).1;rw [Option.some.inj e] at this;omega)
theorem zbI {x y:World} {M:Nat} {ao:Option Addr} {g:List AZ} (h:RowX 1 clZ x ao g) (D: ∀a,ao=some a→a.block≠M) (B:Only [M] x y):RowX 1 clZ y ao g:=fun j z p=>by
 obtain ⟨a,e,E⟩:=h j z p
 refine ⟨a,e,fun i hi=> ?_⟩
 have C:i=0:=by omega
 subst C
 have f:=E 0 hi
 have o:(a.add (j*1+0)).block=a.block:=by unfold Addr.add;split<;>rfl
 have q:(clZ z)[0]? =some z.val:=rfl
 rw [q] at f ⊢
 exact (World.cell?_of_block (B.block _ (World.block_lt_of_cell? x _ f) (fun A=>D a e (by rw [←o];exact List.mem_singleton.1 A)))).trans f
def zhD (f n:List UInt8) (L:List CE):List CE:=if (zaL n L).isNone&&decide (64≤L.length) then delE f L else L
theorem zjS (c M:Nat) (L:List CE) (n f:List UInt8) (u:Int) (ao:Option Addr) (C:List AZ) (cp:Nat) (w:World) (h:CacS w c M L) (hn:n.length≤maxLen) (hf:f.length≤maxLen) (hz:C≠[]) (qh:C.length≤1000000) (hr:RowX 1 clZ w ao C) (ha: ∀ad,ao=some ad→ad.block≠M) (hL:L.length≤1000000)
  (HF:Hid (zaL n L=none→64≤L.length→ ∀W,Below w.heap.size w W→Calls Tryz.prog 26 #[.pointer (some ⟨c,0,none⟩)] W fun e w'=>e= .returned (.string ⟨f.toArray⟩)∧Below W.heap.size W w')):
  Calls Tryz.prog 12 #[.pointer (some ⟨c,0,none⟩),.string ⟨n.toArray⟩,.int .i64 u,.slice ao C.length cp] w fun e w'=>e= .returned (.bool true)∧ ∃T R,CacS w' c M (putE ⟨n,u,.slice T C.length R⟩ (zhD f n L))∧OwnX 48 1 clZ w' w.heap.size (.slice T C.length R) C∧Only [M] w w':=by
 have hc:=zaD h.box 0
 simp at hc
 have Q:=h.map.look hn
 have qr:=znI hn
 have qs:=znI hf
 have qm:=znI qh
 have qp:=znI hr
 have ql:=znI ha
 have qg:=znI (fun e=>h.map.form hn (e:=e))
 have qz:((C.length:Int)==0)=false:=beq_eq_false_iff_ne.2 (by have:=List.length_pos_iff.2 hz;omega)
 unfold zhD
 cases P:zaL n L with
 |some e0=>
  obtain ⟨a0,k0,c0,qx⟩:=qg.out e0 P
  have Y:Hid (L.length≤1000000):=hL
  rw [P] at Q
  simp only [Option.map_some,Option.getD_some,Option.isSome_some,CE.val,qx] at Q
  generalize e0.un=u0 at*
  obtain ⟨y,hy⟩: ∃y,y=w.alloc (.cells #[.int .i64 u0,.slice a0 k0 c0] 60):=⟨_,rfl⟩
  have hb:Below w.heap.size w y:=by rw [hy];exact (Below.refl _ _).alloc (Nat.le_refl _) _
  have U:=znI (h.keep hb)
  have V:Hid (Only [M] w y):=Only.of_below hb
  simp only [Option.isNone_some,Bool.false_and,Bool.false_eq_true,if_false]
  clear h hn hf hz qh hr ha hL hb P HF qg qs qx
  go_enter Tryz.func12,Tryz.ntmps12
  go_upto_region 4 with fail
  rw [←hy]
  clear hy Q hc
  have E:Hid (CacS y.drew c M (L)):=U.out.keep (zaG _)
  have O:Hid (Only [M] w y.drew):=V.out.drew
  have Z:Hid (∀X,Below y.heap.size y X→Calls Tryz.prog 25 #[.slice ao C.length cp] X fun e w'=> ∃v,e= .returned v∧OwnX 48 1 clZ w' X.heap.size v C∧Below X.heap.size X w'):=fun X hX=>zaY ao cp C X (zbI qp.out ql.out (V.out.trans (Only.of_below (F:=[M]) hX) (fun k I=> .inl I))) qm.out
  have z:=zaD E.out.box 0
  simp at z
  clear U V
  go_wp2_with fail
  refine wp_region_held_drew (S:=fun W=>W.cell? ⟨c,0,none⟩=some (.map (some M))) (by kernel_rfl) ?_ (fun a=> ?_)
  ·exact z
  refine tkP 0 (some 43) (v:= ?_) rfl (.inl ⟨by rfl,?_⟩) a ?_;rotate_left;·intro w g;(try dsimp only at g);go_simp;try with_reducible rfl
  try simp only [Act.put,tkPa,tkPb,tkPc]
  refine tkP 1 (some 44) (v:= ?_) rfl (.inl ⟨by rfl,?_⟩) a ?_;rotate_left;·intro w g;(try dsimp only at g);go_simp;try with_reducible rfl
  try simp only [Act.put,tkPa,tkPb,tkPc]
  refine tkP 2 (some 45) (v:= ?_) rfl (.inl ⟨by rfl,?_⟩) a ?_;rotate_left;·intro w g;(try dsimp only at g);go_simp;try with_reducible rfl
  try simp only [Act.put,tkPa,tkPb,tkPc]
  refine tkP 3 (some 46) (v:= ?_) rfl (.inl ⟨by rfl,?_⟩) a ?_;rotate_left;·intro w g;(try dsimp only at g);go_simp;try with_reducible rfl
  try simp only [Act.put,tkPa,tkPb,tkPc]
  refine tkP 4 (some 47) (v:= ?_) rfl (.inl ⟨by rfl,?_⟩) a ?_;rotate_left;·intro w g;(try dsimp only at g);go_simp;try with_reducible rfl
  try simp only [Act.put,tkPa,tkPb,tkPc]
  refine tkP 5 (some 48) (v:= ?_) rfl (.inl ⟨by rfl,?_⟩) a ?_;rotate_left;·intro w g;(try dsimp only at g);go_simp;try with_reducible rfl
  try simp only [Act.put,tkPa,tkPb,tkPc]
  refine tkP 6 (some 49) (v:= ?_) rfl (.inl ⟨by rfl,?_⟩) a ?_;rotate_left;·intro w g;(try dsimp only at g);go_simp;try with_reducible rfl
  try simp only [Act.put,tkPa,tkPb,tkPc]
  refine wpAnyH_ready (rs:=[7]) (by kernel_rfl) (by simp) ?_
  refine AllReadyH.cons (o:=⟨some 50,_,_,_,_,_⟩) rfl (fun K B=> ?_) AllReadyH.nil
  go_simp
  go_at_call 25
  refine (Z.out _ (zaG _)).mono ?_
  rintro e x5 ⟨v5,rfl,D,H⟩
  obtain ⟨T,R,rfl⟩:=D.form
  have A:=E.out.keep H
  have q:=zaD A.box 0
  simp at q
  obtain ⟨x6,qk,j,i⟩:=A.map.1.update zaK Tryz.underlying55 (by unfold maxLen;have:=Y.out;omega) (zbF qr.out) (zaZ u T C.length R)
  have N:=znI (zdD (e:=⟨n,u,.slice T C.length R⟩) A j i)
  have qa:=znI ((zcN D E.out.map.1.lt i).lower O.out.size)
  have qb:=znI (((O.out.trans (Only.of_below (F:=[M]) H) (fun k I=> .inl I))).trans (zaX i) (fun k I=> .inl I))
  have G:=zaD N.out.box 0
  simp at G
  clear A D H j i
  (try go_wp2_with fail)
  refine B.out _ _ ?_ (fun p=> ?_)
  ·exact q
  clear B K
  try simp only [Act.put,tkPa,tkPb,tkPc]
  refine tkP 8 (some 51) (v:= ?_) rfl (.inl ⟨by rfl,?_⟩) p ?_;rotate_left;·intro w g;(try dsimp only at g);go_simp;try with_reducible rfl
  try simp only [Act.put,tkPa,tkPb,tkPc]
  refine wpAnyH_ready (rs:=[9]) (by kernel_rfl) (by simp) ?_
  refine AllReadyH.cons (o:=⟨none,_,_,_,_,_⟩) rfl (fun K B=> ?_) AllReadyH.nil
  go_simp
  refine B.out _ _ ?_ (fun J=> ?_)
  ·exact G
  clear B K
  try simp only [Act.put,tkPa,tkPb,tkPc]
  refine wpAnyH_done (by kernel_rfl) ?_ _
  clear q G z
  go_wp2
  go_ret
  exact ⟨rfl,T,R,N.out,qa.out,qb.out⟩
 |none=>
  rw [P] at Q
  simp only [Option.map_none,Option.getD_none,Option.isSome_none] at Q
  obtain ⟨y,hy⟩: ∃y,y=w.alloc (.cells #[.int .i64 0,.slice none 0 0] 60):=⟨_,rfl⟩
  have hb:Below w.heap.size w y:=by rw [hy];exact (Below.refl _ _).alloc (Nat.le_refl _) _
  have U:=znI (h.keep hb)
  have V:Hid (Only [M] w y):=Only.of_below hb
  have qv:=U.out.map.1.len Tryz.underlying55 3
  rw [zbV] at qv
  have qo:=zaD U.out.box 0
  simp at qo
  by_cases qe:64≤L.length
  ·have hd:decide ((64:Int)≤(L.length:Int))=true:=decide_eq_true (by omega)
   have Y:Hid ((delE f L).length≤1000000):=Nat.le_trans (List.length_filter_le _ _) hL
   have qw:Hid (∀W,Below y.heap.size y W→Calls Tryz.prog 26 #[.pointer (some ⟨c,0,none⟩)] W fun e w'=>e= .returned (.string ⟨f.toArray⟩)∧Below W.heap.size W w'):=fun W hW=>HF.out P qe W (hb.trans (hW.mono hb.size))
   simp only [Option.isNone_none,Bool.true_and,decide_eq_true qe,if_true]
   clear h hn hf hz qh hr ha hL hb P HF qg qe
   go_enter Tryz.func12,Tryz.ntmps12
   go_upto_region 4 with fail
   rw [←hy]
   clear hy Q hc
   go_wp2_with fail
   have qf:Hid (CacS y.drew c M L):=U.out.keep (zaG _)
   have qj:Hid (Only [M] w y.drew):=V.out.drew
   have z:=zaD qf.out.box 0
   simp at z
   clear U V qv hd qo
   refine wp_region_held_drew (S:=fun W=>W.cell? ⟨c,0,none⟩=some (.map (some M))) (by kernel_rfl) ?_ (fun a=> ?_)
   ·exact z
   refine tkP 0 (some 37) (v:= ?_) rfl (.inl ⟨by rfl,?_⟩) a ?_;rotate_left;·intro w g;(try dsimp only at g);go_simp;try with_reducible rfl
   try simp only [Act.put,tkPa,tkPb,tkPc]
   refine tkP 1 (some 38) (v:= ?_) rfl (.inl ⟨by rfl,?_⟩) a ?_;rotate_left;·intro w g;(try dsimp only at g);go_simp;try with_reducible rfl
   try simp only [Act.put,tkPa,tkPb,tkPc]
   refine tkP 2 (some 39) (v:= ?_) rfl (.inl ⟨by rfl,?_⟩) a ?_;rotate_left;·intro w g;(try dsimp only at g);go_simp;try with_reducible rfl
   try simp only [Act.put,tkPa,tkPb,tkPc]
   refine tkP 3 (some 40) (v:= ?_) rfl (.inl ⟨by rfl,?_⟩) a ?_;rotate_left;·intro w g;(try dsimp only at g);go_simp;try with_reducible rfl
   try simp only [Act.put,tkPa,tkPb,tkPc]
   refine tkP 4 (some 41) (v:= ?_) rfl (.inl ⟨by rfl,?_⟩) a ?_;rotate_left;·intro w g;(try dsimp only at g);go_simp;try with_reducible rfl
   try simp only [Act.put,tkPa,tkPb,tkPc]
   refine wpAnyH_ready (rs:=[5]) (by kernel_rfl) (by simp) ?_
   refine AllReadyH.cons (o:=⟨some 42,_,_,_,_,_⟩) rfl (fun K B=> ?_) AllReadyH.nil
   go_simp
   go_at_call 26
   refine (qw.out _ (zaG _)).mono ?_
   rintro e x4 ⟨rfl,qq⟩
   have qi:=qf.out.keep qq
   have qn:=zaD qi.box 0
   simp at qn
   obtain ⟨x5,qy,qc,qd⟩:=qi.map.1.drop zaK Tryz.underlying55 (zbF qs.out) 0
   have U:=znI (zmI qi qc qd.grown)
   have V:=znI (((qj.out.trans (Only.of_below (F:=[M]) qq) (fun k I=> .inl I))).trans (zaX qd.grown) (fun k I=> .inl I))
   have q:=zaD U.out.box 0
   simp at q
   clear qi qq qc qd
   (try go_wp2_with fail)
   refine B.out _ _ ?_ (fun p=> ?_)
   ·exact qn
   clear B K
   try simp only [Act.put,tkPa,tkPb,tkPc]
   refine wpAnyH_ready (rs:=[6]) (by kernel_rfl) (by simp) ?_
   refine AllReadyH.cons (o:=⟨none,_,_,_,_,_⟩) rfl (fun K B=> ?_) AllReadyH.nil
   go_simp
   refine B.out _ _ ?_ (fun J=> ?_)
   ·exact q
   clear B K
   try simp only [Act.put,tkPa,tkPb,tkPc]
   refine wpAnyH_done (by kernel_rfl) ?_ _
   clear qn q z qf qj qw
   have E:Hid (CacS x5.drew c M (delE f L)):=U.out.keep (zaG _)
   have O:Hid (Only [M] w x5.drew):=V.out.drew
   have Z:Hid (∀X,Below x5.heap.size x5 X→Calls Tryz.prog 25 #[.slice ao C.length cp] X fun e w'=> ∃v,e= .returned v∧OwnX 48 1 clZ w' X.heap.size v C∧Below X.heap.size X w'):=fun X hX=>zaY ao cp C X (zbI qp.out ql.out (V.out.trans (Only.of_below (F:=[M]) hX) (fun k I=> .inl I))) qm.out
   have z:=zaD E.out.box 0
   simp at z
   clear U V
   go_wp2_with fail
   refine wp_region_held_drew (S:=fun W=>W.cell? ⟨c,0,none⟩=some (.map (some M))) (by kernel_rfl) ?_ (fun a=> ?_)
   ·exact z
   refine tkP 0 (some 43) (v:= ?_) rfl (.inl ⟨by rfl,?_⟩) a ?_;rotate_left;·intro w g;(try dsimp only at g);go_simp;try with_reducible rfl
   try simp only [Act.put,tkPa,tkPb,tkPc]
   refine tkP 1 (some 44) (v:= ?_) rfl (.inl ⟨by rfl,?_⟩) a ?_;rotate_left;·intro w g;(try dsimp only at g);go_simp;try with_reducible rfl
   try simp only [Act.put,tkPa,tkPb,tkPc]
   refine tkP 2 (some 45) (v:= ?_) rfl (.inl ⟨by rfl,?_⟩) a ?_;rotate_left;·intro w g;(try dsimp only at g);go_simp;try with_reducible rfl
   try simp only [Act.put,tkPa,tkPb,tkPc]
   refine tkP 3 (some 46) (v:= ?_) rfl (.inl ⟨by rfl,?_⟩) a ?_;rotate_left;·intro w g;(try dsimp only at g);go_simp;try with_reducible rfl
   try simp only [Act.put,tkPa,tkPb,tkPc]
   refine tkP 4 (some 47) (v:= ?_) rfl (.inl ⟨by rfl,?_⟩) a ?_;rotate_left;·intro w g;(try dsimp only at g);go_simp;try with_reducible rfl
   try simp only [Act.put,tkPa,tkPb,tkPc]
   refine tkP 5 (some 48) (v:= ?_) rfl (.inl ⟨by rfl,?_⟩) a ?_;rotate_left;·intro w g;(try dsimp only at g);go_simp;try with_reducible rfl
   try simp only [Act.put,tkPa,tkPb,tkPc]
   refine tkP 6 (some 49) (v:= ?_) rfl (.inl ⟨by rfl,?_⟩) a ?_;rotate_left;·intro w g;(try dsimp only at g);go_simp;try with_reducible rfl
   try simp only [Act.put,tkPa,tkPb,tkPc]
   refine wpAnyH_ready (rs:=[7]) (by kernel_rfl) (by simp) ?_
   refine AllReadyH.cons (o:=⟨some 50,_,_,_,_,_⟩) rfl (fun K B=> ?_) AllReadyH.nil
   go_simp
   go_at_call 25
   refine (Z.out _ (zaG _)).mono ?_
   rintro e x5 ⟨v5,rfl,D,H⟩
   obtain ⟨T,R,rfl⟩:=D.form
   have A:=E.out.keep H
   have q:=zaD A.box 0
   simp at q
   obtain ⟨x6,qk,j,i⟩:=A.map.1.update zaK Tryz.underlying55 (by unfold maxLen;have:=Y.out;omega) (zbF qr.out) (zaZ u T C.length R)
   have N:=znI (zdD (e:=⟨n,u,.slice T C.length R⟩) A j i)
   have qa:=znI ((zcN D E.out.map.1.lt i).lower O.out.size)
   have qb:=znI (((O.out.trans (Only.of_below (F:=[M]) H) (fun k I=> .inl I))).trans (zaX i) (fun k I=> .inl I))
   have G:=zaD N.out.box 0
   simp at G
   clear A D H j i
   (try go_wp2_with fail)
   refine B.out _ _ ?_ (fun p=> ?_)
   ·exact q
   clear B K
   try simp only [Act.put,tkPa,tkPb,tkPc]
   refine tkP 8 (some 51) (v:= ?_) rfl (.inl ⟨by rfl,?_⟩) p ?_;rotate_left;·intro w g;(try dsimp only at g);go_simp;try with_reducible rfl
   try simp only [Act.put,tkPa,tkPb,tkPc]
   refine wpAnyH_ready (rs:=[9]) (by kernel_rfl) (by simp) ?_
   refine AllReadyH.cons (o:=⟨none,_,_,_,_,_⟩) rfl (fun K B=> ?_) AllReadyH.nil
   go_simp
   refine B.out _ _ ?_ (fun J=> ?_)
   ·exact G
   clear B K
   try simp only [Act.put,tkPa,tkPb,tkPc]
   refine wpAnyH_done (by kernel_rfl) ?_ _
   clear q G z
   go_wp2
   go_ret
   exact ⟨rfl,T,R,N.out,qa.out,qb.out⟩
  ·have hd:decide ((64:Int)≤(L.length:Int))=false:=decide_eq_false (by omega)
   have Y:Hid (L.length≤1000000):=hL
   simp only [Option.isNone_none,Bool.true_and,decide_eq_false qe,Bool.false_eq_true,if_false]
   clear h hn hf hz qh hr ha hL hb P HF qg qe qs
   go_enter Tryz.func12,Tryz.ntmps12
   go_upto_region 4 with fail
   rw [←hy]
   clear hy Q hc
   go_upto_region 5 with fail
   clear qv hd qo
   have E:Hid (CacS y.drew c M (L)):=U.out.keep (zaG _)
   have O:Hid (Only [M] w y.drew):=V.out.drew
   have Z:Hid (∀X,Below y.heap.size y X→Calls Tryz.prog 25 #[.slice ao C.length cp] X fun e w'=> ∃v,e= .returned v∧OwnX 48 1 clZ w' X.heap.size v C∧Below X.heap.size X w'):=fun X hX=>zaY ao cp C X (zbI qp.out ql.out (V.out.trans (Only.of_below (F:=[M]) hX) (fun k I=> .inl I))) qm.out
   have z:=zaD E.out.box 0
   simp at z
   clear U V
   go_wp2_with fail
   refine wp_region_held_drew (S:=fun W=>W.cell? ⟨c,0,none⟩=some (.map (some M))) (by kernel_rfl) ?_ (fun a=> ?_)
   ·exact z
   refine tkP 0 (some 43) (v:= ?_) rfl (.inl ⟨by rfl,?_⟩) a ?_;rotate_left;·intro w g;(try dsimp only at g);go_simp;try with_reducible rfl
   try simp only [Act.put,tkPa,tkPb,tkPc]
   refine tkP 1 (some 44) (v:= ?_) rfl (.inl ⟨by rfl,?_⟩) a ?_;rotate_left;·intro w g;(try dsimp only at g);go_simp;try with_reducible rfl
   try simp only [Act.put,tkPa,tkPb,tkPc]
   refine tkP 2 (some 45) (v:= ?_) rfl (.inl ⟨by rfl,?_⟩) a ?_;rotate_left;·intro w g;(try dsimp only at g);go_simp;try with_reducible rfl
   try simp only [Act.put,tkPa,tkPb,tkPc]
   refine tkP 3 (some 46) (v:= ?_) rfl (.inl ⟨by rfl,?_⟩) a ?_;rotate_left;·intro w g;(try dsimp only at g);go_simp;try with_reducible rfl
   try simp only [Act.put,tkPa,tkPb,tkPc]
   refine tkP 4 (some 47) (v:= ?_) rfl (.inl ⟨by rfl,?_⟩) a ?_;rotate_left;·intro w g;(try dsimp only at g);go_simp;try with_reducible rfl
   try simp only [Act.put,tkPa,tkPb,tkPc]
   refine tkP 5 (some 48) (v:= ?_) rfl (.inl ⟨by rfl,?_⟩) a ?_;rotate_left;·intro w g;(try dsimp only at g);go_simp;try with_reducible rfl
   try simp only [Act.put,tkPa,tkPb,tkPc]
   refine tkP 6 (some 49) (v:= ?_) rfl (.inl ⟨by rfl,?_⟩) a ?_;rotate_left;·intro w g;(try dsimp only at g);go_simp;try with_reducible rfl
   try simp only [Act.put,tkPa,tkPb,tkPc]
   refine wpAnyH_ready (rs:=[7]) (by kernel_rfl) (by simp) ?_
   refine AllReadyH.cons (o:=⟨some 50,_,_,_,_,_⟩) rfl (fun K B=> ?_) AllReadyH.nil
   go_simp
   go_at_call 25
   refine (Z.out _ (zaG _)).mono ?_
   rintro e x5 ⟨v5,rfl,D,H⟩
   obtain ⟨T,R,rfl⟩:=D.form
   have A:=E.out.keep H
   have q:=zaD A.box 0
   simp at q
   obtain ⟨x6,qk,j,i⟩:=A.map.1.update zaK Tryz.underlying55 (by unfold maxLen;have:=Y.out;omega) (zbF qr.out) (zaZ u T C.length R)
   have N:=znI (zdD (e:=⟨n,u,.slice T C.length R⟩) A j i)
   have qa:=znI ((zcN D E.out.map.1.lt i).lower O.out.size)
   have qb:=znI (((O.out.trans (Only.of_below (F:=[M]) H) (fun k I=> .inl I))).trans (zaX i) (fun k I=> .inl I))
   have G:=zaD N.out.box 0
   simp at G
   clear A D H j i
   (try go_wp2_with fail)
   refine B.out _ _ ?_ (fun p=> ?_)
   ·exact q
   clear B K
   try simp only [Act.put,tkPa,tkPb,tkPc]
   refine tkP 8 (some 51) (v:= ?_) rfl (.inl ⟨by rfl,?_⟩) p ?_;rotate_left;·intro w g;(try dsimp only at g);go_simp;try with_reducible rfl
   try simp only [Act.put,tkPa,tkPb,tkPc]
   refine wpAnyH_ready (rs:=[9]) (by kernel_rfl) (by simp) ?_
   refine AllReadyH.cons (o:=⟨none,_,_,_,_,_⟩) rfl (fun K B=> ?_) AllReadyH.nil
   go_simp
   refine B.out _ _ ?_ (fun J=> ?_)
   ·exact G
   clear B K
   try simp only [Act.put,tkPa,tkPb,tkPc]
   refine wpAnyH_done (by kernel_rfl) ?_ _
   clear q G z
   go_wp2
   go_ret
   exact ⟨rfl,T,R,N.out,qa.out,qb.out⟩
end
end Go.Proofs.YteajemblhlbfpaaGreatDoor
