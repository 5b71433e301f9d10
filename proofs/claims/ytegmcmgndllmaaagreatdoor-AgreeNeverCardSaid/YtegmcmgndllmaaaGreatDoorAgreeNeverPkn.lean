/-
  What the law AgreeNever leans on, and its walk (39 of 42).
-/
import Derived.Test.YtegmcmgndllmaaaGreatDoorAgreeNeverPkl
import Derived.Test.YtegmcmgndllmaaaGreatDoorAgreeNeverPkJ
import Derived.Test.YtegmcmgndllmaaaGreatDoorAgreeNeverPkm
namespace Go.Proofs.YtegmcmgndllmaaaGreatDoor
set_option maxRecDepth 100000
set_option maxHeartbeats 16000000
theorem tkn {P : Program} {m : Region.Mode} {f : Array Oper} {Q : Exit → Act → World → Prop} {S : World → Prop} (i : Nat) (s : Option Nat) {o : Op} {B : TypeId} {j : String} {A : _} {C : _} {v : Value} {fuel : Nat} {d : Array Bool} {a : Act} {w : World} (hi : f[i]? = some ⟨s, o, B, j, A, C⟩)
 (J : YieldsIf P f S ⟨s, o, B, j, A, C⟩ v a) (E : S w)
 (h : wpAnyH P m f Q S fuel (d.setIfInBounds i true) (a.put s v) w)
 (G : Region.noSelect f = true := by kernel_rfl) (D : Region.free m f d i = true := by kernel_rfl) (I : (Region.ready m f d).contains i = true := by kernel_rfl)
 (H : ∀ c a w, Q (.panic c) (a.put s v) w → Q (.panic c) a w := by exact fun _ _ _ h => h) : wpAnyH P m f Q S (fuel + 1) d a w :=
 wpAnyH_take hi G D I H J E h
theorem tkna {d : Type _} (l : List d) (i : Nat) (a : d) : l.toArray.setIfInBounds i a = (l.set i a).toArray := List.setIfInBounds_toArray ..
theorem tknb {d : Type _} (x y : d) (l : List d) : (x :: l).set 0 y = y :: l := rfl
theorem tknc {d : Type _} (x y : d) (l : List d) (n : Nat) : (x :: l).set (n + 1) y = x :: l.set n y := rfl
abbrev ylY := @Lib.hid
abbrev ylZ := @Nat.le_refl
abbrev ymA := @decide_eq_false
abbrev ymB := @Go.RowKit.Below.refl
section
open Go.RowKit
def clI (x:Int):List Value:=[.int .i64 x]
theorem infoI:(Tryz.prog.info? 3).map (fun i=>(i.zero,i.size,i.bytes))=some (some (.int .i64 0),1,8):=by kernel_rfl
theorem flatI (l:List Int):l.flatMap clI=l.map (Value.int .i64):=by
 induction l with
 |nil=>rfl
 |cons x l d=>rw [List.flatMap_cons,d];rfl
theorem z1N (d:Addr) (n c:Nat): ∀W:World,(binOp .eql 46 (.slice (some d) n c) (.slice none 0 0)).run Tryz.prog W= .ok (.bool false) W:=by
 intro W;kernel_rfl
theorem z0T (n c:Nat): ∀W:World,(binOp .eql 46 (.slice none n c) (.slice none 0 0)).run Tryz.prog W= .ok (.bool true) W:=by
 intro W;kernel_rfl
theorem zvQ (pa:Option Addr) (A:Nat) (ps:List Int) (w:World) (M:IsIRow w pa ps.length A ps) (Z:ps.length≤1000000):
  Calls Tryz.prog 116 #[.slice pa ps.length A] w fun e w'=> ∃v,e= .returned v∧OwnX 3 1 clI w' w.heap.size v ps∧Below w.heap.size w w':=by
 have C:=ylY M
 clear M
 cases pa with
 |none=>
  have X:ps=[]:=by
   cases ps with
   |nil=>rfl
   |cons x l=>obtain ⟨⟨E,e,_⟩,_⟩:=C.out.2 0 x rfl;cases e
  subst X
  have U:=z0T 0 A
  go_enter Tryz.func116,Tryz.ntmps116
  go_wp2
  go_ret
  exact ⟨_,rfl,OwnX.nil _ _,ymB _ _⟩
 |some E=>
  obtain ⟨V,J,K,I,G⟩:=zmF infoI
  have U:=z1N E ps.length A
  go_enter Tryz.func116,Tryz.ntmps116
  have d:Below w.heap.size w (w.alloc (.cells #[] 3)):=(ymB _ _).alloc (ylZ _) _
  have o:(w.alloc (.cells #[] 3)).ownsRow w.heap.size 3 1 (.slice (some ⟨w.heap.size,0,none⟩) 0 0) 0 []:=⟨rfl,.inr ⟨w.heap.size,0,#[],rfl,ylZ _,Go.Deep.blk_alloc_new _ _,ylZ _,by decide,rfl,rfl⟩⟩
  have m: ∀(j:Nat) (u:Value),(ps.map (Value.int .i64))[j]? =some u→(w.alloc (.cells #[] 3)).cell? (E.add j)=some u:=fun j u D=>by
   rw [List.getElem?_map,Option.map_eq_some_iff] at D
   obtain ⟨x,S,rfl⟩:=D
   obtain ⟨⟨N,e,O⟩,_⟩:=(C.out.keep d).2 j x S
   obtain rfl:=Option.some.inj e
   exact O
  have B: ∀u∈ps.map (Value.int .i64),u.oneCell'=true:=fun u D=>by
   obtain ⟨x,_,rfl⟩:=List.mem_map.1 D
   rfl
  have H:(ps.map (Value.int .i64)).length=ps.length*1:=by simp
  go_wp2_with (first
   |(at_builtin;refine wpList_append_own _ rfl _ _ 46 rfl w.heap.size 3 V (.int .i64 0) 1 8 Tryz.underlying46 J K I G rfl (by decide) (.slice (some ⟨w.heap.size,0,none⟩) 0 0) 0 [] rfl o E ps.length A (ps.map (Value.int .i64)) rfl H m B (by unfold maxLen;omega) (by omega) d.size ?_;intro s1 Y i f _)
   |go_in)
  go_ret
  refine ⟨_,rfl,?_,d.grown f d.size (fun k Q=> ?_)⟩
  ·unfold OwnX
   rw [flatI]
   simpa using i
  ·simp only [Value.ownBlock,Option.some.injEq] at Q
   omega
theorem zjO (x:Ru) (w:World):
  Calls Tryz.prog 119 #[.agg #[.int .u64 (x.hi:Nat),.int .u64 (x.lo:Nat),.int .i64 x.k,.bool x.a]] w fun e w'=>e= .returned (.int .i64 x.v)∧Below w.heap.size w w':=by
 cases d:x.a with
 |true=>
  rw [show x.v=1 from by unfold Ru.v;rw [d];rfl]
  go_enter Tryz.func119,Tryz.ntmps119
  go_wp2
  go_ret
  exact ⟨rfl,(ymB _ _).alloc (ylZ _) _⟩
 |false=>
  rw [show x.v=0 from by unfold Ru.v;rw [d];rfl]
  go_enter Tryz.func119,Tryz.ntmps119
  go_wp2
  go_ret
  exact ⟨rfl,(ymB _ _).alloc (ylZ _) _⟩
theorem OwnX.setOther {X:Type} {t:TypeId} {s:Nat} {cl:X→List Value} {x:World} {base:Nat} {v:Value} {l:List X} (h:OwnX t s cl x base v l) {gp:Nat} {c:Array Value} {d:TypeId} (m:x.heap[gp]? =some (.cells c d)) (f:d≠t) (i:Nat) (u:Value):OwnX t s cl (x.setCell ⟨gp,i,none⟩ u) base v l:=
 h.same fun b j=>zaZ (b:=b) (b':=gp) (fun e=>h.other m f (by rw [←e];exact j)) _ _
/-! lines -/
structure Pl where
 rs:List Ru
 ps:List Int
 bare:Bool
theorem ybV {w:World} {base:Nat} {t:TypeId} {s n:Nat} {v:Value} {xs:List Value} (h:w.ownsRow base t s v n xs): ∃a c,v= .slice a n c:=by
 rcases h.2 with ⟨e,f⟩|⟨g,i,d,e,_⟩
 ·exact ⟨_,_,by rw [e,f]⟩
 ·exact ⟨_,_,e⟩
theorem OwnX.set3 {X:Type} {t:TypeId} {s:Nat} {cl:X→List Value} {x:World} {base:Nat} {v:Value} {l:List X} (h:OwnX t s cl x base v l) {r:Nat} {m j o:Value} {i:TypeId} (f:x.heap[r]? =some (.cells #[m,j,o] i)) (d:i≠t) (a b c:Value):OwnX t s cl (((x.setCell ⟨r,0,none⟩ a).setCell ⟨r,1,none⟩ b).setCell ⟨r,2,none⟩ c) base v l:=
 ((h.setOther f d 0 a).setOther (zaK f 0 a) d 1 b).setOther (zaK (zaK f 0 a) 1 b) d 2 c
theorem zlW {x:World} {r:Nat} {f i j:Value} {d:TypeId} (m:x.heap[r]? =some (.cells #[f,i,j] d)) (a b c:Value):(((x.setCell ⟨r,0,none⟩ a).setCell ⟨r,1,none⟩ b).setCell ⟨r,2,none⟩ c).heap[r]? =some (.cells #[a,b,c] d):=zaK (zaK (zaK m 0 a) 1 b) 2 c
theorem zhR {B:Nat} {a x:World} (h:Below B a x) {r:Nat} (d:B≤r) (u v z:Value):Below B a (((x.setCell ⟨r,0,none⟩ u).setCell ⟨r,1,none⟩ v).setCell ⟨r,2,none⟩ z):=
 ((h.setCell (p:=⟨r,0,none⟩) d u).setCell (p:=⟨r,1,none⟩) d v).setCell (p:=⟨r,2,none⟩) d z
theorem zsI (w:World):w.drew.heap.size=w.heap.size:=rfl
structure IsGate (x:World) (q g:Nat) (T:HT) (v:Value) (ps:List Int):Prop where
 trie:zdS x g T
 gate:x.heap[q]? =some (.cells #[.pointer (some ⟨g,0,none⟩),v] 135)
 row: ∃b,OwnX 3 1 clI x b v ps
theorem OwnX.blk {X:Type} {t:TypeId} {s:Nat} {cl:X→List Value} {x:World} {base:Nat} {v:Value} {l:List X} (h:OwnX t s cl x base v l): ∃i,Blks i x∧(∀e∈i,base≤e.1)∧ ∀Y,Blks i Y→OwnX t s cl Y base v l:=by
 rcases h.2 with ⟨e,A⟩|⟨g,j,f,e,m,B,r⟩
 ·exact ⟨[],Blks.empty _,fun e d=>(by cases d),fun Y _=>⟨h.1,.inl ⟨e,A⟩⟩⟩
 ·refine ⟨[(g,f,t)],fun e d=> ?_,fun e d=> ?_,fun Y o=>⟨h.1,.inr ⟨g,j,f,e,m,o _ (.head _),r⟩⟩⟩
  ·rcases List.mem_cons.1 d with q|q
   ·rw [q];exact B
   ·cases q
  ·rcases List.mem_cons.1 d with q|q
   ·rw [q];exact m
   ·cases q
theorem yeC {rs:List Ru}:HT.nil.pt=zfZ rs 0 (zeP true):=by
 unfold zfZ zeP;simp;rfl
theorem yfY {rs:List Ru}:lay9 0 HT.nil.pt=zfZ rs 0 (zeP false):=by
 unfold zfZ zeP;simp;rfl
theorem z0W {w j d i m:World} {P:Array Value} {tp tg:TypeId} {v:Value} {o:List (Nat×Array Value×TypeId)} (E:j=w.alloc (.cells P tp)) (G:Below j.heap.size j d) (C:Below d.heap.size d i) (I:zdS i d.heap.size .nil) (Y:d.heap.size<i.heap.size) (A:Below i.heap.size i m) (N:Blks o m) (O: ∀e∈o,i.heap.size≤e.1):
  St w (m.alloc (.cells #[.pointer (some ⟨d.heap.size,0,none⟩),v] tg)) d.heap.size .nil ((m.heap.size,#[.pointer (some ⟨d.heap.size,0,none⟩),v],tg)::(w.heap.size,P,tp)::o):=by
 have M:Below w.heap.size w j:=by rw [E];exact (ymB _ _).alloc (ylZ _) _
 have V:j.heap.size=w.heap.size+1:=by rw [E];simp
 have U:=G.size
 have X:=C.size
 have S:=A.size
 have J:Blks [(w.heap.size,P,tp)] j:=by rw [E];exact (Blks.empty w).new P tp
 have D:=((J.keep G).keep C).keep A
 have H:Blks ((w.heap.size,P,tp)::o) m:=fun e B=>by
  rcases List.mem_cons.1 B with q|q
  ·exact D e (by rw [q];exact .head _)
  ·exact N e q
 refine ⟨?_,(I.keep A).keep ((ymB _ _).alloc (ylZ _) _),fun b Q=> ?_,H.new _ _,fun e B K=> ?_⟩
 ·have:=zaC (zaC (zaC M G) C) A
  exact this.alloc this.size _
 ·rcases List.mem_cons.1 Q with q|q
  ·rw [q];omega
  ·cases q
 ·have f:e.1=d.heap.size:=by
   rcases List.mem_cons.1 K with q|q
   ·exact q
   ·cases q
  rcases List.mem_cons.1 B with q|q
  ·rw [q] at f;simp only at f;omega
  ·rcases List.mem_cons.1 q with q|q
   ·rw [q] at f;simp only at f;omega
   ·have:=O e q;omega
theorem zwE (f pa:Option Addr) (j i:Nat) (bare:Bool) (rs:List Ru) (ps:List Int) (w:World) (B:IsURow w f rs.length j rs) (A:IsIRow w pa ps.length i ps) (C:zdT rs ps≠0):
  Calls Tryz.prog 57 #[.agg #[.slice f rs.length j,.slice pa ps.length i,.bool bare]] w fun e w'=>e= .returned (.tuple #[.pointer none,.int .i64 (zdT rs ps)])∧Below w.heap.size w w':=by
 have d:Hid (Below w.heap.size w (w.alloc (.cells #[.slice f rs.length j,.slice pa ps.length i,.bool bare] 48))):=(ymB _ _).alloc (ylZ _) _
 have E:=ylY (zmZ f pa j i bare rs ps _ (B.keep d.out) (A.keep d.out))
 have D:((zdT rs ps)==0)=false:=beq_eq_false_iff_ne.2 C
 clear B A C
 go_enter Tryz.func57,Tryz.ntmps57
 go_wp2_with fail
 refine E.out.mono ?_
 rintro e G ⟨rfl,m⟩
 have o:=zaC d.out m
 go_wp2
 go_ret2
 exact ⟨rfl,o⟩
def RetB (w:World) (rs:List Ru) (ps:List Int) (bare:Bool) (e:Ending) (w':World):Prop:=
 ∃q g T v,e= .returned (.tuple #[.pointer (some ⟨q,0,none⟩),.int .i64 0])∧IsGate w' q g T v ps∧T.pt=polZ rs bare∧Below w.heap.size w w'
theorem z2N (M pa:Option Addr) (G B:Nat) (bare:Bool) (rs:List Ru) (ps:List Int) (w:World) (qg:MaxVar w) (hr:IsURow w M rs.length G rs) (hp:IsIRow w pa ps.length B ps) (hc:zdT rs ps=0):
  Calls Tryz.prog 57 #[.agg #[.slice M rs.length G,.slice pa ps.length B,.bool bare]] w (RetB w rs ps bare):=by
 have HX:=ylY qg
 have qA:=ylY hr
 have qH:=ylY hp
 have qb:Below w.heap.size w (w.alloc (.cells #[.slice M rs.length G,.slice pa ps.length B,.bool bare] 48)):=(ymB _ _).alloc (ylZ _) _
 have HC:Hid (Calls Tryz.prog 114 #[.agg #[.slice M rs.length G,.slice pa ps.length B,.bool bare]] (w.alloc (.cells #[.slice M rs.length G,.slice pa ps.length B,.bool bare] 48)) fun e w'=>e= .returned (.int .i64 0)∧Below (w.alloc (.cells #[.slice M rs.length G,.slice pa ps.length B,.bool bare] 48)).heap.size (w.alloc (.cells #[.slice M rs.length G,.slice pa ps.length B,.bool bare] 48)) w'):=by
  have:=zmZ M pa G B bare rs ps _ (hr.keep qb) (hp.keep qb);rw [hc] at this;exact this
 obtain ⟨qJ,qI,h3,_⟩:=z2Y hc
 have qf:=ylY h3
 have qw:Hid (∀x∈rs,x.Ok):=fun x hx=>by
  obtain ⟨i,hi,e⟩:=List.getElem_of_mem hx
  exact (hr.2 i x (by rw [List.getElem?_eq_getElem hi,e])).2
 clear hr hp qg hc h3
 go_enter Tryz.func57,Tryz.ntmps57
 go_wp2_with fail
 refine HC.out.mono ?_
 rintro e x1 ⟨rfl,qe⟩
 have qB:=ylY qe
 have qs:=ylY (((Blks.empty w).new #[.slice M rs.length G,.slice pa ps.length B,.bool bare] 48).keep qe)
 have qq:=ylY (zaC qb qe)
 clear HC qe qb
 go_wp2_with fail
 have U:Hid (∀W,Below x1.heap.size x1 W→(fun W=>W.cell? ⟨w.heap.size,1,none⟩=some (.slice pa ps.length B)) W):=fun W hW=>((qs.out.keep hW).r3 (.head _)).2.2.1
 have qE:Hid (∀W,Below x1.heap.size x1 W→Calls Tryz.prog 116 #[.slice pa ps.length B] W fun e w'=> ∃v,e= .returned v∧OwnX 3 1 clI w' W.heap.size v ps∧Below W.heap.size W w'):=fun W hW=>zvQ pa B ps W (qH.out.keep (zaC qq.out hW)) (by omega)
 refine wp_region_held_drew (S:=fun W=>W.cell? ⟨w.heap.size,1,none⟩=some (.slice pa ps.length B)) (by kernel_rfl) ?_ (fun d=> ?_)
 ·exact U.out _ (zaW _)
 refine tkn 1 (some 14) (v:= ?_) rfl (.inl ⟨by rfl,?_⟩) d ?_;rotate_left;·intro w f;(try dsimp only at f);go_simp;try with_reducible rfl
 try simp only [Act.put,tkna,tknb,tknc]
 refine tkn 2 (some 15) (v:= ?_) rfl (.inl ⟨by rfl,?_⟩) d ?_;rotate_left;·intro w f;(try dsimp only at f);go_simp;try with_reducible rfl
 try simp only [Act.put,tkna,tknb,tknc]
 refine wpAnyH_ready (rs:=[0]) (by kernel_rfl) (by simp) ?_
 refine AllReadyH.cons (o:=⟨some 13,_,_,_,_,_⟩) rfl (fun K C=> ?_) AllReadyH.nil
 go_simp
 go_at_call 115
 refine (yjH _).mono ?_
 rintro e x2 ⟨rfl,qz,qv⟩
 have H:=ylY (zcG qz)
 have qc:=ylY qv
 clear qz qv
 simp only [zsI] at qc
 simp only [zsI]
 (try go_wp2_with fail)
 refine C.out _ _ ?_ (fun J=> ?_)
 ·exact U.out _ H.out
 clear C K
 try simp only [Act.put,tkna,tknb,tknc]
 refine wpAnyH_ready (rs:=[3]) (by kernel_rfl) (by simp) ?_
 refine AllReadyH.cons (o:=⟨some 16,_,_,_,_,_⟩) rfl (fun K C=> ?_) AllReadyH.nil
 go_simp
 go_at_call 116
 refine (qE.out _ H.out).mono ?_
 rintro e x3 ⟨v,rfl,qF,qC⟩
 have V:=ylY qC
 have qk:=ylY qF
 clear qC qF
 obtain ⟨qm,qh,rfl⟩:=qk.out.form
 (try go_wp2_with fail)
 refine C.out _ _ ?_ (fun D=> ?_)
 ·exact U.out _ (zaC H.out V.out)
 clear C K
 try simp only [Act.put,tkna,tknb,tknc]
 refine tkn 4 (some 17) (v:= ?_) rfl (.inl ⟨by rfl,?_⟩) D ?_;rotate_left;·intro w f;(try dsimp only at f);go_simp;try with_reducible rfl
 try simp only [Act.put,tkna,tknb,tknc]
 refine wpAnyH_ready (rs:=[5]) (by kernel_rfl) (by simp) ?_
 refine AllReadyH.cons (o:=⟨some 18,_,_,_,_,_⟩) rfl (fun K C=> ?_) AllReadyH.nil
 go_simp
 refine C.out _ _ ?_ (fun qd=> ?_)
 ·exact U.out _ ((zaC H.out V.out).alloc (zaC H.out V.out).size _)
 clear C K
 try simp only [Act.put,tkna,tknb,tknc]
 refine tkn 6 (some 5) (v:= ?_) rfl (.inl ⟨by rfl,?_⟩) qd ?_;rotate_left;·intro w f;(try dsimp only at f);go_simp;try with_reducible rfl
 try simp only [Act.put,tkna,tknb,tknc]
 refine wpAnyH_done (by kernel_rfl) ?_ _
 obtain ⟨Lp,qx,qy,qr⟩:=qk.out.blk
 have m:=ylY (z0W (tp:=48) (tg:=135) (v:= .slice qm ps.length qh) (P:= #[.slice M rs.length G,.slice pa ps.length B,.bool bare]) rfl qB.out H.out qc.out (qc.out.lt _ (.head _)) V.out qx qy)
 have ql:=ylY qr
 clear qx qy qr qk V qc H U qE qs qq qB
 generalize x3.alloc (.cells #[.pointer (some ⟨x1.heap.size,0,none⟩),.slice qm ps.length qh] 135)=x4 at*
 generalize x3.heap.size=q at*
 generalize x1.heap.size=g at*
 obtain ⟨v,hv⟩: ∃v,v=Value.slice qm ps.length qh:=⟨_,rfl⟩
 rw [←hv] at m ql
 clear hv
 obtain ⟨lb,p0,p1,p2⟩:=m.out.blks.r3 (b:=w.heap.size) (.tail _ (.head _))
 obtain ⟨lq,q0,q1⟩:=m.out.blks.r2 (b:=q) (.head _)
 cases bare with
 |true=>
  have qi:Hid (HT.nil.pt=zfZ rs 0 (zeP true)):=yeC
  clear lb
  go_wp2
  clear p0 p1 p2
  go_loopw [30] (fun i wr=> ∃(j:Nat) (T:HT),j≤rs.length∧i= .int .i64 j∧Hid (St w wr g T ((q,#[.pointer (some ⟨g,0,none⟩),v],135)::(w.heap.size,#[.slice M rs.length G,.slice pa ps.length B,.bool true],48)::Lp))∧Hid (T.pt=zfZ rs j (zeP true))) (fun i _=>rs.length - (intOf i).toNat)
  case atStart=>exact ⟨0,.nil,Nat.zero_le _,rfl,m,qi⟩
  case round=>
   obtain ⟨j,T,hj,rfl,m,HP⟩:=hrel
   by_cases qo:j<rs.length
   ·obtain ⟨ad,rfl,x,hx,⟨c0,c1,c2,c3⟩,qa,O,_⟩:=(qA.out.keep m.out.below).at qo
    have qG:(j:Int)<rs.length:=by omega
    have E:=ylY (m.out.new #[.int .u64 (x.hi:Nat),.int .u64 (x.lo:Nat),.int .i64 x.k,.bool x.a] 185)
    have A:Hid (∀Y T',St w Y g T' ((wr.heap.size,#[.int .u64 (x.hi:Nat),.int .u64 (x.lo:Nat),.int .i64 x.k,.bool x.a],185)::((q,#[.pointer (some ⟨g,0,none⟩),v],135)::(w.heap.size,#[.slice (some ad) rs.length G,.slice pa ps.length B,.bool true],48)::Lp))→(fun W=>W.cell? ⟨q,0,none⟩=some (.pointer (some ⟨g,0,none⟩))∧W.cell? ⟨wr.heap.size,0,none⟩=some (.int .u64 (x.hi:Nat))∧W.cell? ⟨wr.heap.size,1,none⟩=some (.int .u64 (x.lo:Nat))∧W.cell? ⟨wr.heap.size,2,none⟩=some (.int .i64 x.k)∧W.cell? ⟨wr.heap.size,3,none⟩=some (.bool x.a)) Y):=fun Y T' hY=>⟨(hY.blks.r2 (b:=q) (.tail _ (.head _))).2.1,(hY.blks.q4 (.head _)).2⟩
    have qp:Hid (∀X,Below (wr.alloc (.cells #[.int .u64 (x.hi:Nat),.int .u64 (x.lo:Nat),.int .i64 x.k,.bool x.a] 185)).heap.size (wr.alloc (.cells #[.int .u64 (x.hi:Nat),.int .u64 (x.lo:Nat),.int .i64 x.k,.bool x.a] 185)) X→Calls Tryz.prog 118 #[.pointer (some ⟨g,0,none⟩),.agg #[.int .u64 (x.hi:Nat),.int .u64 (x.lo:Nat),.int .i64 x.k],.int .i64 x.v] X fun e w'=> ∃I,e= .returned (.bool true)∧Hid (St w w' g I ((wr.heap.size,#[.int .u64 (x.hi:Nat),.int .u64 (x.lo:Nat),.int .i64 x.k,.bool x.a],185)::((q,#[.pointer (some ⟨g,0,none⟩),v],135)::(w.heap.size,#[.slice (some ad) rs.length G,.slice pa ps.length B,.bool true],48)::Lp)))∧Hid (I.pt=zfZ rs (j+1) (zeP true))):=fun X hX=>by
     obtain ⟨k1,k2,k3⟩:=zjW (zyR qf.out hx)
     have Q:T.pt.list.length<1000000:=by
      rw [HP.out]
      have:=zsO qw.out qf.out (zpF true) j
      have:=zoU true
      omega
     have:=zxA g T x.hi x.lo x.k.toNat x.v X (E.out.keep hX).trie qa O k1 k2 Q
     rw [k3] at this
     refine this.mono ?_
     rintro e w' ⟨I,rfl,hm,hp⟩
     exact ⟨I,rfl,(E.out.keep hX).moved hm,by show I.pt=_;rw [ziC hx,←HP.out];exact hp⟩
    clear qa O
    go_wp2_with fail
    clear c0 c1 c2 c3
    refine wp_region_held_drew (S:=fun W=>W.cell? ⟨q,0,none⟩=some (.pointer (some ⟨g,0,none⟩))∧W.cell? ⟨wr.heap.size,0,none⟩=some (.int .u64 (x.hi:Nat))∧W.cell? ⟨wr.heap.size,1,none⟩=some (.int .u64 (x.lo:Nat))∧W.cell? ⟨wr.heap.size,2,none⟩=some (.int .i64 x.k)∧W.cell? ⟨wr.heap.size,3,none⟩=some (.bool x.a)) (by kernel_rfl) ?_ (fun d=> ?_)
    ·exact A.out _ _ (E.out.keep (zaW _))
    refine tkn 0 (some 34) (v:= ?_) rfl (.inl ⟨by rfl,?_⟩) d ?_;rotate_left;·intro w f;(try dsimp only at f);go_simp;try with_reducible rfl
    try simp only [Act.put,tkna,tknb,tknc]
    refine tkn 1 (some 35) (v:= ?_) rfl (.inl ⟨by rfl,?_⟩) d ?_;rotate_left;·intro w f;(try dsimp only at f);go_simp;try with_reducible rfl
    try simp only [Act.put,tkna,tknb,tknc]
    refine tkn 2 (some 36) (v:= ?_) rfl (.inl ⟨by rfl,?_⟩) d ?_;rotate_left;·intro w f;(try dsimp only at f);go_simp;try with_reducible rfl
    try simp only [Act.put,tkna,tknb,tknc]
    refine tkn 3 (some 37) (v:= ?_) rfl (.inl ⟨by rfl,?_⟩) d ?_;rotate_left;·intro w f;(try dsimp only at f);go_simp;try with_reducible rfl
    try simp only [Act.put,tkna,tknb,tknc]
    refine tkn 4 (some 38) (v:= ?_) rfl (.inl ⟨by rfl,?_⟩) d ?_;rotate_left;·intro w f;(try dsimp only at f);go_simp;try with_reducible rfl
    try simp only [Act.put,tkna,tknb,tknc]
    refine tkn 5 (some 39) (v:= ?_) rfl (.inl ⟨by rfl,?_⟩) d ?_;rotate_left;·intro w f;(try dsimp only at f);go_simp;try with_reducible rfl
    try simp only [Act.put,tkna,tknb,tknc]
    refine tkn 6 (some 40) (v:= ?_) rfl (.inl ⟨by rfl,?_⟩) d ?_;rotate_left;·intro w f;(try dsimp only at f);go_simp;try with_reducible rfl
    try simp only [Act.put,tkna,tknb,tknc]
    refine wpAnyH_ready (rs:=[7]) (by kernel_rfl) (by simp) ?_
    refine AllReadyH.cons (o:=⟨some 41,_,_,_,_,_⟩) rfl (fun K C=> ?_) AllReadyH.nil
    go_simp
    go_at_call 119
    refine (zjO x _).mono ?_
    rintro e y ⟨rfl,Z⟩
    have HY:=ylY (zcG Z)
    clear Z
    (try go_wp2_with fail)
    refine C.out _ _ ?_ (fun J=> ?_)
    ·exact A.out _ _ (E.out.keep HY.out)
    clear C K
    try simp only [Act.put,tkna,tknb,tknc]
    refine wpAnyH_ready (rs:=[8]) (by kernel_rfl) (by simp) ?_
    refine AllReadyH.cons (o:=⟨some 42,_,_,_,_,_⟩) rfl (fun K C=> ?_) AllReadyH.nil
    go_simp
    go_at_call 118
    refine (qp.out _ HY.out).mono ?_
    rintro e y2 ⟨I,rfl,N,qn⟩
    (try go_wp2_with fail)
    refine C.out _ _ ?_ (fun D=> ?_)
    ·exact A.out _ _ N.out
    clear C K
    try simp only [Act.put,tkna,tknb,tknc]
    refine wpAnyH_done (by kernel_rfl) ?_ _
    go_wp2
    go_roundw
    case rel=>exact ⟨j+1,I,by omega,by go_num,N.out.drop (fun e he=> .tail _ he),qn⟩
    case measure=>simp [intOf];omega
   ·have qj:j=rs.length:=by omega
    subst qj
    go_wp2
    go_ret2
    exact ⟨q,g,T,v,rfl,⟨m.out.trie,m.out.blks _ (.head _),_,ql.out _ (fun e he=>m.out.blks e (.tail _ (.tail _ he)))⟩,HP.out,m.out.below⟩
 |false=>
  go_wp2_with fail
  refine (ycK g .nil 0 _ (zaA HX.out m.out.below) m.out.trie (by decide)).mono ?_
  rintro e x5 ⟨T0,rfl,hm,hT⟩
  have qD:=ylY (m.out.moved hm)
  have qi:Hid (T0.pt=zfZ rs 0 (zeP false)):=hT.trans yfY
  clear hm hT m lb p0 p1 p2 lq q0 q1
  have m:=ylY qD.out
  clear qD
  obtain ⟨lb,p0,p1,p2⟩:=m.out.blks.r3 (b:=w.heap.size) (.tail _ (.head _))
  clear lb
  go_wp2
  clear p0 p1 p2
  go_loopw [30] (fun i wr=> ∃(j:Nat) (T:HT),j≤rs.length∧i= .int .i64 j∧Hid (St w wr g T ((q,#[.pointer (some ⟨g,0,none⟩),v],135)::(w.heap.size,#[.slice M rs.length G,.slice pa ps.length B,.bool false],48)::Lp))∧Hid (T.pt=zfZ rs j (zeP false))) (fun i _=>rs.length - (intOf i).toNat)
  case atStart=>exact ⟨0,T0,Nat.zero_le _,rfl,m,qi⟩
  case round=>
   obtain ⟨j,T,hj,rfl,m,HP⟩:=hrel
   by_cases qo:j<rs.length
   ·obtain ⟨ad,rfl,x,hx,⟨c0,c1,c2,c3⟩,qa,O,_⟩:=(qA.out.keep m.out.below).at qo
    have qG:(j:Int)<rs.length:=by omega
    have E:=ylY (m.out.new #[.int .u64 (x.hi:Nat),.int .u64 (x.lo:Nat),.int .i64 x.k,.bool x.a] 185)
    have A:Hid (∀Y T',St w Y g T' ((wr.heap.size,#[.int .u64 (x.hi:Nat),.int .u64 (x.lo:Nat),.int .i64 x.k,.bool x.a],185)::((q,#[.pointer (some ⟨g,0,none⟩),v],135)::(w.heap.size,#[.slice (some ad) rs.length G,.slice pa ps.length B,.bool false],48)::Lp))→(fun W=>W.cell? ⟨q,0,none⟩=some (.pointer (some ⟨g,0,none⟩))∧W.cell? ⟨wr.heap.size,0,none⟩=some (.int .u64 (x.hi:Nat))∧W.cell? ⟨wr.heap.size,1,none⟩=some (.int .u64 (x.lo:Nat))∧W.cell? ⟨wr.heap.size,2,none⟩=some (.int .i64 x.k)∧W.cell? ⟨wr.heap.size,3,none⟩=some (.bool x.a)) Y):=fun Y T' hY=>⟨(hY.blks.r2 (b:=q) (.tail _ (.head _))).2.1,(hY.blks.q4 (.head _)).2⟩
    have qp:Hid (∀X,Below (wr.alloc (.cells #[.int .u64 (x.hi:Nat),.int .u64 (x.lo:Nat),.int .i64 x.k,.bool x.a] 185)).heap.size (wr.alloc (.cells #[.int .u64 (x.hi:Nat),.int .u64 (x.lo:Nat),.int .i64 x.k,.bool x.a] 185)) X→Calls Tryz.prog 118 #[.pointer (some ⟨g,0,none⟩),.agg #[.int .u64 (x.hi:Nat),.int .u64 (x.lo:Nat),.int .i64 x.k],.int .i64 x.v] X fun e w'=> ∃I,e= .returned (.bool true)∧Hid (St w w' g I ((wr.heap.size,#[.int .u64 (x.hi:Nat),.int .u64 (x.lo:Nat),.int .i64 x.k,.bool x.a],185)::((q,#[.pointer (some ⟨g,0,none⟩),v],135)::(w.heap.size,#[.slice (some ad) rs.length G,.slice pa ps.length B,.bool false],48)::Lp)))∧Hid (I.pt=zfZ rs (j+1) (zeP false))):=fun X hX=>by
     obtain ⟨k1,k2,k3⟩:=zjW (zyR qf.out hx)
     have Q:T.pt.list.length<1000000:=by
      rw [HP.out]
      have:=zsO qw.out qf.out (zpF false) j
      have:=zoU false
      omega
     have:=zxA g T x.hi x.lo x.k.toNat x.v X (E.out.keep hX).trie qa O k1 k2 Q
     rw [k3] at this
     refine this.mono ?_
     rintro e w' ⟨I,rfl,hm,hp⟩
     exact ⟨I,rfl,(E.out.keep hX).moved hm,by show I.pt=_;rw [ziC hx,←HP.out];exact hp⟩
    clear qa O
    go_wp2_with fail
    clear c0 c1 c2 c3
    refine wp_region_held_drew (S:=fun W=>W.cell? ⟨q,0,none⟩=some (.pointer (some ⟨g,0,none⟩))∧W.cell? ⟨wr.heap.size,0,none⟩=some (.int .u64 (x.hi:Nat))∧W.cell? ⟨wr.heap.size,1,none⟩=some (.int .u64 (x.lo:Nat))∧W.cell? ⟨wr.heap.size,2,none⟩=some (.int .i64 x.k)∧W.cell? ⟨wr.heap.size,3,none⟩=some (.bool x.a)) (by kernel_rfl) ?_ (fun d=> ?_)
    ·exact A.out _ _ (E.out.keep (zaW _))
    refine tkn 0 (some 34) (v:= ?_) rfl (.inl ⟨by rfl,?_⟩) d ?_;rotate_left;·intro w f;(try dsimp only at f);go_simp;try with_reducible rfl
    try simp only [Act.put,tkna,tknb,tknc]
    refine tkn 1 (some 35) (v:= ?_) rfl (.inl ⟨by rfl,?_⟩) d ?_;rotate_left;·intro w f;(try dsimp only at f);go_simp;try with_reducible rfl
    try simp only [Act.put,tkna,tknb,tknc]
    refine tkn 2 (some 36) (v:= ?_) rfl (.inl ⟨by rfl,?_⟩) d ?_;rotate_left;·intro w f;(try dsimp only at f);go_simp;try with_reducible rfl
    try simp only [Act.put,tkna,tknb,tknc]
    refine tkn 3 (some 37) (v:= ?_) rfl (.inl ⟨by rfl,?_⟩) d ?_;rotate_left;·intro w f;(try dsimp only at f);go_simp;try with_reducible rfl
    try simp only [Act.put,tkna,tknb,tknc]
    refine tkn 4 (some 38) (v:= ?_) rfl (.inl ⟨by rfl,?_⟩) d ?_;rotate_left;·intro w f;(try dsimp only at f);go_simp;try with_reducible rfl
    try simp only [Act.put,tkna,tknb,tknc]
    refine tkn 5 (some 39) (v:= ?_) rfl (.inl ⟨by rfl,?_⟩) d ?_;rotate_left;·intro w f;(try dsimp only at f);go_simp;try with_reducible rfl
    try simp only [Act.put,tkna,tknb,tknc]
    refine tkn 6 (some 40) (v:= ?_) rfl (.inl ⟨by rfl,?_⟩) d ?_;rotate_left;·intro w f;(try dsimp only at f);go_simp;try with_reducible rfl
    try simp only [Act.put,tkna,tknb,tknc]
    refine wpAnyH_ready (rs:=[7]) (by kernel_rfl) (by simp) ?_
    refine AllReadyH.cons (o:=⟨some 41,_,_,_,_,_⟩) rfl (fun K C=> ?_) AllReadyH.nil
    go_simp
    go_at_call 119
    refine (zjO x _).mono ?_
    rintro e y ⟨rfl,Z⟩
    have HY:=ylY (zcG Z)
    clear Z
    (try go_wp2_with fail)
    refine C.out _ _ ?_ (fun J=> ?_)
    ·exact A.out _ _ (E.out.keep HY.out)
    clear C K
    try simp only [Act.put,tkna,tknb,tknc]
    refine wpAnyH_ready (rs:=[8]) (by kernel_rfl) (by simp) ?_
    refine AllReadyH.cons (o:=⟨some 42,_,_,_,_,_⟩) rfl (fun K C=> ?_) AllReadyH.nil
    go_simp
    go_at_call 118
    refine (qp.out _ HY.out).mono ?_
    rintro e y2 ⟨I,rfl,N,qn⟩
    (try go_wp2_with fail)
    refine C.out _ _ ?_ (fun D=> ?_)
    ·exact A.out _ _ N.out
    clear C K
    try simp only [Act.put,tkna,tknb,tknc]
    refine wpAnyH_done (by kernel_rfl) ?_ _
    go_wp2
    go_roundw
    case rel=>exact ⟨j+1,I,by omega,by go_num,N.out.drop (fun e he=> .tail _ he),qn⟩
    case measure=>simp [intOf];omega
   ·have qj:j=rs.length:=by omega
    subst qj
    go_wp2
    go_ret2
    exact ⟨q,g,T,v,rfl,⟨m.out.trie,m.out.blks _ (.head _),_,ql.out _ (fun e he=>m.out.blks e (.tail _ (.tail _ he)))⟩,HP.out,m.out.below⟩
theorem Ru.cl_len (x:Ru):x.cl.length=4:=rfl
def fewB (rs:List Ru) (ps:List Int):Bool:=decide (rs.length≤60∧ps.length≤40)
theorem z6X (j pa:Option Addr) (i m:Nat) (bare:Bool) (rs:List Ru) (ps:List Int) (w:World):
  Calls Tryz.prog 59 #[.agg #[.slice j rs.length i,.slice pa ps.length m,.bool bare]] w fun e w'=>e= .returned (.bool (fewB rs ps))∧Below w.heap.size w w':=by
 have d:Hid (Below w.heap.size w (w.alloc (.cells #[.slice j rs.length i,.slice pa ps.length m,.bool bare] 48))):=(ymB _ _).alloc (ylZ _) _
 by_cases o:rs.length≤60
 ·have B:decide ((rs.length:Int)≤60)=true:=decide_eq_true (by omega)
  by_cases A:ps.length≤40
  ·have f:decide ((ps.length:Int)≤40)=true:=decide_eq_true (by omega)
   rw [show fewB rs ps=true from decide_eq_true ⟨o,A⟩]
   go_enter Tryz.func59,Tryz.ntmps59
   go_wp2
   go_ret
   exact ⟨rfl,d.out⟩
  ·have f:decide ((ps.length:Int)≤40)=false:=ymA (by omega)
   rw [show fewB rs ps=false from ymA (by omega)]
   go_enter Tryz.func59,Tryz.ntmps59
   go_wp2
   go_ret
   exact ⟨rfl,d.out⟩
 ·have B:decide ((rs.length:Int)≤60)=false:=ymA (by omega)
  rw [show fewB rs ps=false from ymA (by omega)]
  go_enter Tryz.func59,Tryz.ntmps59
  go_wp2
  go_ret
  exact ⟨rfl,d.out⟩
theorem infoRU:(Tryz.prog.info? 189).map (fun i=>(i.zero,i.size,i.bytes))=some (some (.agg #[.int .u64 0,.int .u64 0,.int .i64 0,.bool false]),4,32):=by kernel_rfl
theorem tyQP:52≠189:=by decide
structure QS (w x:World) (base gp:Nat) (rv pv:Value) (rs:List Ru) (bare:Bool) (L:List (Nat×Array Value×TypeId)):Prop where
 below:Below base w x
 blk:x.heap[gp]? =some (.cells #[rv,pv,.bool bare] 52)
 rows:OwnX 189 4 Ru.cl x base rv rs
 gpb:base≤gp
 size:base≤x.heap.size
 blks:Blks L x
 apart: ∀e∈L,e.1≠gp∧e.2.2≠189
theorem QS.keep {w x y:World} {base gp:Nat} {rv pv:Value} {rs:List Ru} {bare:Bool} {L:List (Nat×Array Value×TypeId)} (h:QS w x base gp rv pv rs bare L) (d:Below x.heap.size x y):QS w y base gp rv pv rs bare L:=
 ⟨h.below.trans (d.mono h.size),(d.block gp (zaD h.blk)).trans h.blk,h.rows.keep d,h.gpb,Nat.le_trans h.size d.size,h.blks.keep d,h.apart⟩
theorem QS.grown {w x y z:World} {base gp:Nat} {rv pv:Value} {rs:List Ru} {bare:Bool} {L:List (Nat×Array Value×TypeId)} (h:QS w x base gp rv pv rs bare L) (f:Below x.heap.size x y) (i:y.grownBy z rv.ownBlock):z.heap[gp]? =some (.cells #[rv,pv,.bool bare] 52):=
 have d:=h.keep f
 (i.block gp (zaD d.blk) (fun e=>d.rows.other d.blk tyQP e.symm)).trans d.blk
theorem QS.rule {w x y z:World} {base gp:Nat} {rv d pv:Value} {rs:List Ru} {bare:Bool} {L:List (Nat×Array Value×TypeId)} {r:Ru} (h:QS w x base gp rv pv rs bare L) (B:Below x.heap.size x y) (o:y.grownBy z rv.ownBlock) (E:z.ownsRow base 189 4 d (rs.length+1) (rs.flatMap Ru.cl++r.cl)):QS w (z.setCell ⟨gp,0,none⟩ d) base gp d pv (rs++[r]) bare L:=by
 have i:=h.keep B
 have A:Below base y z:=(ymB base y).grown o i.size (fun k C=>(World.ownsRow.lt i.rows k C).1)
 have j:=h.grown B o
 refine ⟨(i.below.trans A).setCell (p:=⟨gp,0,none⟩) h.gpb _,zaK j 0 _,(OwnX.snoc E:OwnX _ _ _ _ _ _ (rs++[r])).setOther j tyQP 0 _,h.gpb,?_,fun e m=> ?_,h.apart⟩
 ·rw [show (z.setCell ⟨gp,0,none⟩ d).heap.size=z.heap.size by simp [World.setCell]]
  exact Nat.le_trans i.size A.size
 ·have f:=i.blks e m
  have D:=(o.block e.1 (zaD f) (fun q=>i.rows.other f (h.apart e m).2 q.symm)).trans f
  exact (Below.heap_setCell _ _ _ _ (h.apart e m).1).trans D
theorem zqY (w:World) (o:Obj) (c:List Value) (t:TypeId): ∀(j:Nat) (u:Value),c[j]? =some u→((w.alloc o).alloc (.cells c.toArray t)).cell? ((⟨w.heap.size+1,0,none⟩:Addr).add j)=some u:=fun j u h=>by
 have:=z8L (w.alloc o) c t j u h
 simpa using this
theorem ru_one (x:Ru): ∀u∈[Value.int .u64 (x.hi:Nat),.int .u64 (x.lo:Nat),.int .i64 x.k,.bool x.a],u.oneCell'=true:=fun u d=>by
 simp at d
 rcases d with rfl|rfl|rfl|rfl<;>rfl
theorem IsURow.rx {w:World} {a:Option Addr} {d f:Nat} {i:List Ru} (h:IsURow w a d f i):RowX 4 Ru.cl w a i:=fun j x m=>(h.2 j x m).1
theorem RowX.r4 {w:World} {a:Option Addr} {l:List Ru} (h:RowX 4 Ru.cl w a l) {j:Nat} {x:Ru} (i:l[j]? =some x):
  ∃(d:Addr) (_:a=some d),w.cell? (d.add (j*4))=some (.int .u64 (x.hi:Nat))∧w.cell? ⟨(d.add (j*4)).block,(d.add (j*4)).off+1,none⟩=some (.int .u64 (x.lo:Nat))∧w.cell? ⟨(d.add (j*4)).block,(d.add (j*4)).off+2,none⟩=some (.int .i64 x.k)∧w.cell? ⟨(d.add (j*4)).block,(d.add (j*4)).off+3,none⟩=some (.bool x.a):=by
 obtain ⟨d,e,f⟩:=h j x i
 refine ⟨d,e,?_,?_,?_,?_⟩
 ·exact f 0 (by omega)
 ·have:=f 1 (by omega);rw [←Go.Deep.add_add] at this;exact this
 ·have:=f 2 (by omega);rw [←Go.Deep.add_add] at this;exact this
 ·have:=f 3 (by omega);rw [←Go.Deep.add_add] at this;exact this
theorem z4D (K pa:Option Addr) (Q B A:Nat) (bare:Bool) (rs:List Ru) (w:World) (hr:RowX 4 Ru.cl w K rs) (hl:rs.length≤100000):
  Calls Tryz.prog 60 #[.agg #[.slice K rs.length Q,.slice pa B A,.bool bare]] w fun e w'=> ∃rv,e= .returned (.agg #[rv,.slice pa B A,.bool bare])∧OwnX 189 4 Ru.cl w' w.heap.size rv rs∧Below w.heap.size w w':=by
 have Z:=ylY hr
 clear hr
 obtain ⟨i0,Y,qd,U,qc⟩:=zmF infoRU
 obtain ⟨x0,G⟩: ∃x,x=((w.alloc (.cells #[.slice K rs.length Q,.slice pa B A,.bool bare] 48)).alloc (.cells #[.slice none 0 0,.slice none 0 0,.bool false] 52)).alloc (.cells #[.slice none 0 0,.slice pa B A,.bool bare] 52):=⟨_,rfl⟩
 have V:Hid (QS w x0 w.heap.size (w.heap.size+2) (.slice none 0 0) (.slice pa B A) [] bare [(w.heap.size+1,#[.slice none 0 0,.slice none 0 0,.bool false],52)]):=by
  have S:=((Blks.empty (w.alloc (.cells #[.slice K rs.length Q,.slice pa B A,.bool bare] 48))).new #[.slice none 0 0,.slice none 0 0,.bool false] 52).new #[.slice none 0 0,.slice pa B A,.bool bare] 52
  rw [←G] at S
  have H:(w.alloc (.cells #[.slice K rs.length Q,.slice pa B A,.bool bare] 48)).heap.size=w.heap.size+1:=by simp
  have J:((w.alloc (.cells #[.slice K rs.length Q,.slice pa B A,.bool bare] 48)).alloc (.cells #[.slice none 0 0,.slice none 0 0,.bool false] 52)).heap.size=w.heap.size+2:=by simp
  rw [H,J] at S
  have hb:Below w.heap.size w x0:=by rw [G];exact (((ymB _ w).alloc (ylZ _) _).alloc (by simp) _).alloc (by simp;omega) _
  exact ⟨hb,S _ (.head _),OwnX.nil _ _,by omega,hb.size,fun e he=>S e (.tail _ he),fun e he=>by rw [List.mem_singleton.1 he];exact ⟨by simp,tyQP⟩⟩
 go_enter Tryz.func60,Tryz.ntmps60
 go_wp2
 rw [←G]
 clear G
 go_loopw [14] (fun i wr=> ∃(j:Nat) (rv:Value),j≤rs.length∧i= .int .i64 j∧Hid (QS w wr w.heap.size (w.heap.size+2) rv (.slice pa B A) (rs.take j) bare [(w.heap.size+1,#[.slice none 0 0,.slice none 0 0,.bool false],52)])) (fun i _=>rs.length - (intOf i).toNat)
 case atStart=>exact ⟨0,_,Nat.zero_le _,rfl,V⟩
 case round=>
  obtain ⟨j,rv,hj,rfl,d⟩:=hrel
  by_cases qe:j<rs.length
  ·obtain ⟨x,hx⟩: ∃x,rs[j]? =some x:=⟨_,List.getElem?_eq_getElem qe⟩
   obtain ⟨ad,rfl,c0,c1,c2,c3⟩:=(Z.out.keep Ru.cl_len d.out.below).r4 hx
   have qk:(j:Int)<rs.length:=by omega
   have HM:Hid (rs.take (j+1)=rs.take j++[x]):=by show _=_;rw [List.take_add_one,hx];rfl
   have qj:(rs.take j).length≤100000:=by rw [List.length_take];omega
   generalize rs.take j=m at*
   obtain ⟨o,f,rfl⟩:=d.out.rows.form
   have a0:=zaB d.out.blk 0
   simp at a0
   have qi:w.heap.size+2<wr.heap.size:=zaD d.out.blk
   have I:Hid (Below wr.heap.size wr ((wr.alloc (.cells #[.int .u64 (x.hi:Nat),.int .u64 (x.lo:Nat),.int .i64 x.k,.bool x.a] 185)).alloc (.cells #[.int .u64 (x.hi:Nat),.int .u64 (x.lo:Nat),.int .i64 x.k,.bool x.a] 189))):=((ymB _ _).alloc (ylZ _) _).alloc (by simp) _
   have O:=ylY (d.out.keep I.out)
   have qg:=zqY wr (.cells #[.int .u64 (x.hi:Nat),.int .u64 (x.lo:Nat),.int .i64 x.k,.bool x.a] 185) [.int .u64 (x.hi:Nat),.int .u64 (x.lo:Nat),.int .i64 x.k,.bool x.a] 189
   have qb:=ru_one x
   have qa:Hid (∀z,((wr.alloc (.cells #[.int .u64 (x.hi:Nat),.int .u64 (x.lo:Nat),.int .i64 x.k,.bool x.a] 185)).alloc (.cells #[.int .u64 (x.hi:Nat),.int .u64 (x.lo:Nat),.int .i64 x.k,.bool x.a] 189)).grownBy z (Value.slice o m.length f).ownBlock→z.heap[w.heap.size+2]? =some (.cells #[.slice o m.length f,.slice pa B A,.bool bare] 52)):=fun z hg=>d.out.grown I.out hg
   go_wp2_with (first
    |(at_builtin;refine wpList_append_own _ rfl _ _ 50 rfl w.heap.size 189 i0 (.agg #[.int .u64 0,.int .u64 0,.int .i64 0,.bool false]) 4 32 Tryz.underlying50 Y qd U qc rfl (by decide) (.slice o m.length f) m.length (m.flatMap Ru.cl) rfl O.out.rows ⟨wr.heap.size+1,0,none⟩ 1 1 [.int .u64 (x.hi:Nat),.int .u64 (x.lo:Nat),.int .i64 x.k,.bool x.a] rfl rfl qg qb (by unfold maxLen;omega) (by omega) O.out.size ?_;intro H w1 E C _;obtain ⟨sa,sc,rfl⟩:=ybV E;have N:=qa.out _ C;have z0:=zaB N 0;have z1:=zaF N 0;simp at z0)
    |go_in)
   have HN:Hid (QS w (w1.setCell ⟨w.heap.size+2,0,none⟩ (.slice sa (m.length+1) sc)) w.heap.size (w.heap.size+2) (.slice sa (m.length+1) sc) (.slice pa B A) (rs.take (j+1)) bare [(w.heap.size+1,#[.slice none 0 0,.slice none 0 0,.bool false],52)]):=by
    show QS _ _ _ _ _ _ _ _ _
    rw [HM.out];exact d.out.rule I.out C E
   go_roundw
   case rel=>exact ⟨j+1,_,by omega,by go_num,HN⟩
   case measure=>simp [intOf];omega
  ·have X:j=rs.length:=by omega
   subst X
   rw [List.take_length] at d
   obtain ⟨o,f,rfl⟩:=d.out.rows.form
   obtain ⟨lr,r0,r1,r2⟩:=d.out.blks.r3 (.head _)
   have p0:=zaB d.out.blk 0
   have p1:=zaB d.out.blk 1
   have p2:=zaB d.out.blk 2
   simp at p0 p1 p2
   have f0:=zaF (d.out.blks _ (.head _)) 0
   have f1:=zaF (d.out.blks _ (.head _)) 1
   have f2:=zaF (d.out.blks _ (.head _)) 2
   have D:=zlW (d.out.blks (w.heap.size+1,_,_) (.head _)) (.slice o rs.length f) (.slice pa B A) (.bool bare)
   have M:=zaB D 0
   have H:=zaB D 1
   have J:=zaB D 2
   have qh:=ylY (zhR d.out.below (Nat.le_succ w.heap.size) (.slice o rs.length f) (.slice pa B A) (.bool bare))
   have qf:=ylY (d.out.rows.set3 (d.out.blks (w.heap.size+1,_,_) (.head _)) tyQP (.slice o rs.length f) (.slice pa B A) (.bool bare))
   simp at M H J
   have HR:=ylY (And.intro M (And.intro H J))
   clear M H J D
   go_wp2
   obtain ⟨M,H,J⟩:=HR.out
   refine bodyPost_ret (v:= .agg #[.slice o rs.length f,.slice pa B A,.bool bare]) (by simp [results,Tryz.results60,go_sem,M,H,J]) rfl ?_
   exact ⟨_,rfl,qf.out,qh.out⟩
theorem yfW (i pa:Option Addr) (f d j:Nat) (bare:Bool) (rs:List Ru) (w:World) (m:IsURow w i rs.length f rs) (o:rs.length≤100000):
  Calls Tryz.prog 60 #[.agg #[.slice i rs.length f,.slice pa d j,.bool bare]] w fun e w'=> ∃rv,e= .returned (.agg #[rv,.slice pa d j,.bool bare])∧OwnX 189 4 Ru.cl w' w.heap.size rv rs∧Below w.heap.size w w':=z4D i pa f d j bare rs w m.rx o
theorem z0M (S pa:Option Addr) (U m:Nat) (bare:Bool) (rs:List Ru) (ps:List Int) (w:World) (X:MaxVar w) (hr:IsURow w S rs.length U rs) (hp:IsIRow w pa ps.length m ps):
  Calls Tryz.prog 20 #[.agg #[.slice S rs.length U,.slice pa ps.length m,.bool bare]] w fun e w'=> ∃gv a1 n1 c1 a2 n2 c2 b ok,e= .returned (.tuple #[gv,.agg #[.slice a1 n1 c1,.slice a2 n2 c2,.bool b],.bool ok])∧Below w.heap.size w w':=by
 have HX:=ylY X
 have H:=ylY hr
 have N:=ylY hp
 have V:=((Blks.empty w).new #[.slice S rs.length U,.slice pa ps.length m,.bool bare] 48).new #[.slice none 0 0,.slice none 0 0,.bool false] 52
 have qc:Below w.heap.size w ((w.alloc (.cells #[.slice S rs.length U,.slice pa ps.length m,.bool bare] 48)).alloc (.cells #[.slice none 0 0,.slice none 0 0,.bool false] 52)):=((ymB _ _).alloc (ylZ _) _).alloc (by simp) _
 have s0:(w.alloc (.cells #[.slice S rs.length U,.slice pa ps.length m,.bool bare] 48)).heap.size=w.heap.size+1:=by simp
 rw [s0] at V
 obtain ⟨x0,Y⟩: ∃y,y=(w.alloc (.cells #[.slice S rs.length U,.slice pa ps.length m,.bool bare] 48)).alloc (.cells #[.slice none 0 0,.slice none 0 0,.bool false] 52):=⟨_,rfl⟩
 rw [←Y] at V qc
 have qb:=ylY V
 have qd:=ylY qc
 clear X hr hp V qc s0
 go_enter Tryz.func20,Tryz.ntmps20
 go_upto_region 1 with fail
 rw [←Y]
 clear Y
 obtain ⟨J,I,O,K⟩:=qb.out.r3 (.tail _ (.head _))
 go_wp2_with fail
 refine (z6X _ _ _ _ _ _ _ _).mono ?_
 rintro e x1 ⟨rfl,Z⟩
 have i:=ylY (qb.out.keep Z)
 have j:=ylY (zaC qd.out Z)
 clear Z qb qd J I O K
 cases hf:fewB rs ps with
 |false=>
  clear H N HX
  obtain ⟨J,I,O,K⟩:=i.out.r3 (.head _)
  have d:=zlW (i.out (w.heap.size+1,_,_) (.head _)) (.slice none 0 0) (.slice none 0 0) (.bool false)
  have o:=zaB d 0
  have A:=zaB d 1
  have B:=zaB d 2
  have f0:=zaF (i.out _ (.head _)) 0
  have f1:=zaF (i.out _ (.head _)) 1
  have f2:=zaF (i.out _ (.head _)) 2
  have Q:=ylY (zhR j.out (Nat.le_succ w.heap.size) (.slice none 0 0) (.slice none 0 0) (.bool false))
  simp at o A B
  have HR:=ylY (And.intro o (And.intro A B))
  clear o A B d
  go_wp2
  obtain ⟨o,A,B⟩:=HR.out
  refine bodyPost_ret (v:= .tuple #[.pointer none,.agg #[.slice none 0 0,.slice none 0 0,.bool false],.bool false]) (by simp [results,Tryz.results20,go_sem,o,A,B]) rfl ?_
  exact ⟨_,_,_,_,_,_,_,_,_,rfl,Q.out⟩
 |true=>
  have hl:rs.length≤100000:=by
   have:=of_decide_eq_true hf
   omega
  clear hf
  obtain ⟨J,I,O,K⟩:=i.out.r3 (.tail _ (.head _))
  have HQ:Hid (∀W,Below w.heap.size w W→Calls Tryz.prog 60 #[.agg #[.slice S rs.length U,.slice pa ps.length m,.bool bare]] W fun e w'=> ∃a c,e= .returned (.agg #[.slice a rs.length c,.slice pa ps.length m,.bool bare])∧Below W.heap.size W w'):=fun W hW=>(yfW S pa U ps.length m bare rs W (H.out.keep hW) hl).mono (fun e w' ⟨rv,he,ho,hb⟩=>by
   obtain ⟨a,c,rfl⟩:=ho.form
   exact ⟨a,c,he,hb⟩)
  by_cases hc:zdT rs ps=0
  ·have M:=ylY (z2N S pa U m bare rs ps _ (zaA HX.out j.out) (H.out.keep j.out) (N.out.keep j.out) hc)
   clear H N HX hc
   go_wp2_with fail
   refine M.out.mono ?_
   rintro e x2 ⟨q,g,T,v,rfl,-,-,D⟩
   have E:=ylY (zaC j.out D)
   have G:=ylY (i.out.keep D)
   clear D i j M J I O K
   obtain ⟨J,I,O,K⟩:=G.out.r3 (.tail _ (.head _))
   go_wp2_with fail
   refine (HQ.out _ E.out).mono ?_
   rintro e x3 ⟨a,c,rfl,C⟩
   have f:=ylY (G.out.keep C)
   have qa:=ylY (zaC E.out C)
   clear C G E HQ J I O K
   obtain ⟨J,I,O,K⟩:=f.out.r3 (.head _)
   have d:=zlW (f.out (w.heap.size+1,_,_) (.head _)) (.slice a rs.length c) (.slice pa ps.length m) (.bool bare)
   have o:=zaB d 0
   have A:=zaB d 1
   have B:=zaB d 2
   have f0:=zaF (f.out _ (.head _)) 0
   have f1:=zaF (f.out _ (.head _)) 1
   have f2:=zaF (f.out _ (.head _)) 2
   have Q:=ylY (zhR qa.out (Nat.le_succ w.heap.size) (.slice a rs.length c) (.slice pa ps.length m) (.bool bare))
   simp at o A B
   have HR:=ylY (And.intro o (And.intro A B))
   clear o A B d
   go_wp2
   obtain ⟨o,A,B⟩:=HR.out
   refine bodyPost_ret (v:= .tuple #[.pointer (some ⟨q,0,none⟩),.agg #[.slice a rs.length c,.slice pa ps.length m,.bool bare],.bool true]) (by simp [results,Tryz.results20,go_sem,o,A,B]) rfl ?_
   exact ⟨_,_,_,_,_,_,_,_,_,rfl,Q.out⟩
  ·have M:=ylY (zwE S pa U m bare rs ps _ (H.out.keep j.out) (N.out.keep j.out) hc)
   have qe:(zdT rs ps==0)=false:=beq_eq_false_iff_ne.2 hc
   generalize zdT rs ps=cz at*
   clear H N HX hc
   go_wp2_with fail
   refine M.out.mono ?_
   rintro e x2 ⟨rfl,D⟩
   have E:=ylY (zaC j.out D)
   have G:=ylY (i.out.keep D)
   clear D i j M J I O K
   obtain ⟨J,I,O,K⟩:=G.out.r3 (.tail _ (.head _))
   go_wp2_with fail
   refine (HQ.out _ E.out).mono ?_
   rintro e x3 ⟨a,c,rfl,C⟩
   have f:=ylY (G.out.keep C)
   have qa:=ylY (zaC E.out C)
   clear C G E HQ J I O K
   obtain ⟨J,I,O,K⟩:=f.out.r3 (.head _)
   have d:=zlW (f.out (w.heap.size+1,_,_) (.head _)) (.slice a rs.length c) (.slice pa ps.length m) (.bool bare)
   have o:=zaB d 0
   have A:=zaB d 1
   have B:=zaB d 2
   have f0:=zaF (f.out _ (.head _)) 0
   have f1:=zaF (f.out _ (.head _)) 1
   have f2:=zaF (f.out _ (.head _)) 2
   have Q:=ylY (zhR qa.out (Nat.le_succ w.heap.size) (.slice a rs.length c) (.slice pa ps.length m) (.bool bare))
   simp at o A B
   have HR:=ylY (And.intro o (And.intro A B))
   clear o A B d
   go_wp2
   obtain ⟨o,A,B⟩:=HR.out
   refine bodyPost_ret (v:= .tuple #[.pointer none,.agg #[.slice a rs.length c,.slice pa ps.length m,.bool bare],.bool false]) (by simp [results,Tryz.results20,go_sem,o,A,B]) rfl ?_
   exact ⟨_,_,_,_,_,_,_,_,_,rfl,Q.out⟩
end
end Go.Proofs.YtegmcmgndllmaaaGreatDoor
