/-
  What the law AuthorityAgrees leans on, and its walk (34 of 43).
-/
import Derived.Deep.RegionHeld3
import Derived.BigQuiet
import Derived.Test.YtegmcmgndllmaaaGreatDoorAuthorityAgreesPkg
import Derived.Test.YtegmcmgndllmaaaGreatDoorAuthorityAgreesPkR
import Derived.Test.YtegmcmgndllmaaaGreatDoorAuthorityAgreesPkh
namespace Go.Proofs.YtegmcmgndllmaaaGreatDoor
set_option maxRecDepth 100000
set_option maxHeartbeats 16000000
theorem tki {P : Program} {g : Region.Mode} {e : Array Oper} {Q : Exit → Act → World → Prop} {S : World → Prop} (i : Nat) (s : Option Nat) {o : Op} {q : TypeId} {f : String} {m : _} {j : _} {v : Value} {fuel : Nat} {d : Array Bool} {a : Act} {w : World} (hi : e[i]? = some ⟨s, o, q, f, m, j⟩)
 (A : YieldsIf P e S ⟨s, o, q, f, m, j⟩ v a) (D : S w)
 (h : wpAnyH P g e Q S fuel (d.setIfInBounds i true) (a.put s v) w)
 (B : Region.noSelect e = true := by kernel_rfl) (C : Region.free g e d i = true := by kernel_rfl) (G : (Region.ready g e d).contains i = true := by kernel_rfl)
 (E : ∀ c a w, Q (.panic c) (a.put s v) w → Q (.panic c) a w := by exact fun _ _ _ h => h) : wpAnyH P g e Q S (fuel + 1) d a w :=
 wpAnyH_take hi B C G E A D h
theorem tkia {d : Type _} (l : List d) (i : Nat) (a : d) : l.toArray.setIfInBounds i a = (l.set i a).toArray := List.setIfInBounds_toArray ..
theorem tkib {d : Type _} (x y : d) (l : List d) : (x :: l).set 0 y = y :: l := rfl
theorem tkic {d : Type _} (x y : d) (l : List d) (n : Nat) : (x :: l).set (n + 1) y = x :: l.set n y := rfl
abbrev ypD := @Lib.hid
abbrev ypE := @Nat.le_refl
abbrev ypF := @Go.RowKit.Below.refl
section
open Go.RowKit
theorem zjV (u:UZ) (pv:Value) (w:World):
  Calls Tryz.prog 16 #[.agg (u.cells pv)] w fun e w'=>e= .returned (.int .i64 (effZ u))∧Below w.heap.size w w':=by
 obtain ⟨A,d⟩: ∃y,y=w.alloc (.cells (u.cells pv) 27):=⟨_,rfl⟩
 have g:Below w.heap.size w A:=by rw [d];exact zbA w _
 have q:UB A w.heap.size u pv:=by rw [d];exact UB.new w u pv
 have B:=ypD g
 have j:=ypD (fun W=>zeM u.scheme W)
 have m:Hid (effZ u=if u.port= -1 then ownZ u.scheme else u.port):=rfl
 obtain ⟨G,-,-,-,D,-⟩:=q.all
 generalize effZ u=res at*
 simp only [UZ.cells] at d ⊢
 clear q g
 generalize C:u.port=o at*
 clear C
 by_cases i:o= -1
 ·have f:Hid (res=ownZ u.scheme):=by show _=_;rw [m.out,if_pos i]
  subst i
  clear m
  go_enter Tryz.func16,Tryz.ntmps16
  go_upto_region 1 with fail
  rw [←d]
  clear d
  go_wp2_with fail
  refine (j.out _).mono ?_
  rintro e w' ⟨rfl,rfl⟩
  go_wp2
  go_ret
  obtain rfl:=f.out
  exact ⟨rfl,B.out⟩
 ·have f:Hid (res=o):=by show _=_;rw [m.out,if_neg i]
  have E:(o==(-1:Int))=false:=beq_eq_false_iff_ne.2 i
  clear m i j
  go_enter Tryz.func16,Tryz.ntmps16
  go_upto_region 1 with fail
  rw [←d]
  clear d
  go_wp2
  go_ret
  obtain rfl:=f.out
  exact ⟨rfl,B.out⟩
theorem z1G (h:HZ) (w:World) (q:h.In) (f:PowTab w) (d:BruTab w):
  Calls Tryz.prog 50 #[h.val,h.val] w (zbE w true):=by
 have o:=ypD (fun W=>zsN h W)
 have HT:=ypD (fun W (B:Below w.heap.size w W)=>zgD h W q (zaC f B) (zaB d B))
 have E:(yeR h==yeR h)=true:=by simp
 have H:(zbD h==zbD h)=true:=by simp
 clear f d q
 generalize yeR h=J at*
 generalize zbD h=K at*
 generalize h.val=G at*
 go_enter Tryz.func50,Tryz.ntmps50
 go_wp2_with fail
 refine (o.out _).mono ?_
 rintro e w' ⟨rfl,rfl⟩
 go_wp2_with fail
 refine (o.out _).mono ?_
 rintro e w' ⟨rfl,rfl⟩
 have i:=ypD (HT.out w (ypF _ w))
 go_wp2_with fail
 refine i.out.mono ?_
 rintro e C ⟨rfl,g⟩
 have m:=ypD (HT.out C g)
 have A:=ypD g
 clear HT i g
 go_wp2_with fail
 refine m.out.mono ?_
 rintro e I ⟨rfl,j⟩
 have D:=ypD (zaG A.out j)
 clear m A j o
 go_wp2
 go_ret
 exact ⟨rfl,D.out⟩
theorem zkR {x:World} {g k:Nat} (h:k≠g) (e d i f:Value):(put4 x g e d i f).heap[k]? =x.heap[k]? :=by
 unfold put4
 rw [zcR h,zcR h,zcR h,zcR h]
theorem zrY (u:UZ) (pa:Option Addr) (m j:Nat) (C:TypeId) (D:Value) (w:World) (Q:u.host.val= .iface C D) {c:UInt8} {r q:List UInt8} (Y:u.user=c::r) (V:u.pass=q):
  Calls Tryz.prog 13 #[.agg (u.cells (.slice pa m j))] w fun e w'=>e= .returned (.agg #[.string ⟨u.scheme.toArray⟩,.iface C D,.int .i64 (effZ u),.bool true])∧Below w.heap.size w w':=by
 have G:u.cells (.slice pa m j)= #[.string ⟨u.scheme.toArray⟩,.string ⟨(c::r).toArray⟩,.string ⟨q.toArray⟩,.iface C D,.int .i64 u.port,.slice pa m j,.string ⟨u.query.toArray⟩,.bool u.hasQ,.string ⟨u.frag.toArray⟩,.bool u.hasF]:=by unfold UZ.cells;rw [Q,Y,V]
 have i:((w.alloc (.cells (u.cells (.slice pa m j)) 27)).alloc (.cells #[.string ⟨#[]⟩,.nilIface,.int .i64 0,.bool false] 37)).heap[w.heap.size]? =some (.cells (u.cells (.slice pa m j)) 27):=(((ypF _ (w.alloc (.cells (u.cells (.slice pa m j)) 27))).alloc (ypE _) _).block _ (by simp)).trans (heap_alloc_new w _)
 have s0:(w.alloc (.cells (u.cells (.slice pa m j)) 27)).heap.size=w.heap.size+1:=by simp
 have A:=heap_alloc_new (w.alloc (.cells (u.cells (.slice pa m j)) 27)) (.cells #[.string ⟨#[]⟩,.nilIface,.int .i64 0,.bool false] 37)
 rw [s0] at A
 have J:Below w.heap.size w ((w.alloc (.cells (u.cells (.slice pa m j)) 27)).alloc (.cells #[.string ⟨#[]⟩,.nilIface,.int .i64 0,.bool false] 37)):=((ypF _ w).alloc (ypE _) _).alloc (by simp) _
 obtain ⟨E,H⟩: ∃y,y=(w.alloc (.cells (u.cells (.slice pa m j)) 27)).alloc (.cells #[.string ⟨#[]⟩,.nilIface,.int .i64 0,.bool false] 37):=⟨_,rfl⟩
 rw [←H] at i A J
 have HB:=ypD J
 have I: ∀y:World,y.heap[w.heap.size]? =some (.cells (u.cells (.slice pa m j)) 27)→y.cell? ⟨w.heap.size,0,none⟩=some (.string ⟨u.scheme.toArray⟩)∧y.cell? ⟨w.heap.size,1,none⟩=some (.string ⟨(c::r).toArray⟩)∧y.cell? ⟨w.heap.size,2,none⟩=some (.string ⟨q.toArray⟩)∧y.cell? ⟨w.heap.size,3,none⟩=some (.iface C D)∧y.cell? ⟨w.heap.size,4,none⟩=some (.int .i64 u.port)∧y.cell? ⟨w.heap.size,5,none⟩=some (.slice pa m j)∧y.cell? ⟨w.heap.size,6,none⟩=some (.string ⟨u.query.toArray⟩)∧y.cell? ⟨w.heap.size,7,none⟩=some (.bool u.hasQ)∧y.cell? ⟨w.heap.size,8,none⟩=some (.string ⟨u.frag.toArray⟩)∧y.cell? ⟨w.heap.size,9,none⟩=some (.bool u.hasF):=fun y h=>by
  rw [G] at h
  exact ⟨zaA h 0,zaA h 1,zaA h 2,zaA h 3,zaA h 4,zaA h 5,zaA h 6,zaA h 7,zaA h 8,zaA h 9⟩
 have X:Hid (∀x,Below E.heap.size E x→x.cell? ⟨w.heap.size,0,none⟩=some (.string ⟨u.scheme.toArray⟩)∧x.cell? ⟨w.heap.size,1,none⟩=some (.string ⟨(c::r).toArray⟩)∧x.cell? ⟨w.heap.size,2,none⟩=some (.string ⟨q.toArray⟩)∧x.cell? ⟨w.heap.size,3,none⟩=some (.iface C D)∧x.cell? ⟨w.heap.size,4,none⟩=some (.int .i64 u.port)∧x.cell? ⟨w.heap.size,5,none⟩=some (.slice pa m j)∧x.cell? ⟨w.heap.size,6,none⟩=some (.string ⟨u.query.toArray⟩)∧x.cell? ⟨w.heap.size,7,none⟩=some (.bool u.hasQ)∧x.cell? ⟨w.heap.size,8,none⟩=some (.string ⟨u.frag.toArray⟩)∧x.cell? ⟨w.heap.size,9,none⟩=some (.bool u.hasF)):=fun x U=>I x ((U.block _ (zaK i)).trans i)
 have M: ∀x,Below E.heap.size E x→ ∀y,y=put4 x (w.heap.size+1) (.string ⟨u.scheme.toArray⟩) (.iface C D) (.int .i64 (effZ u)) (.bool true)→y.cell? ⟨w.heap.size,0,none⟩=some (.string ⟨u.scheme.toArray⟩)∧y.cell? ⟨w.heap.size,1,none⟩=some (.string ⟨(c::r).toArray⟩)∧y.cell? ⟨w.heap.size,2,none⟩=some (.string ⟨q.toArray⟩)∧y.cell? ⟨w.heap.size,3,none⟩=some (.iface C D)∧y.cell? ⟨w.heap.size,4,none⟩=some (.int .i64 u.port)∧y.cell? ⟨w.heap.size,5,none⟩=some (.slice pa m j)∧y.cell? ⟨w.heap.size,6,none⟩=some (.string ⟨u.query.toArray⟩)∧y.cell? ⟨w.heap.size,7,none⟩=some (.bool u.hasQ)∧y.cell? ⟨w.heap.size,8,none⟩=some (.string ⟨u.frag.toArray⟩)∧y.cell? ⟨w.heap.size,9,none⟩=some (.bool u.hasF):=fun x U y hy=>by
  subst hy
  exact I _ ((zkR (by omega) _ _ _ _).trans ((U.block _ (zaK i)).trans i))
 unfold put4 at M
 have qc:=ypD M
 have O:=ypD (fun x (U:Below E.heap.size E x)=>(U.block _ (zaK A)).trans A)
 have qb:Hid (∀W,Below E.heap.size E W→Calls Tryz.prog 16 #[.agg #[.string ⟨u.scheme.toArray⟩,.string ⟨(c::r).toArray⟩,.string ⟨q.toArray⟩,.iface C D,.int .i64 u.port,.slice pa m j,.string ⟨u.query.toArray⟩,.bool u.hasQ,.string ⟨u.frag.toArray⟩,.bool u.hasF]] W fun e w'=>e= .returned (.int .i64 (effZ u))∧Below E.heap.size E w'):=fun W hW=>by
  have h:=zjV u (.slice pa m j) W
  rw [G] at h
  exact h.mono (fun e w' h=>⟨h.1,zaG hW h.2⟩)
 rw [G] at H ⊢
 clear i A J M s0 Q G I Y V
 go_enter Tryz.func13,Tryz.ntmps13
 go_wp2_with fail
 rw [←H]
 clear H
 refine wp_region_held_drew (S:=fun W=>W.cell? ⟨w.heap.size,0,none⟩=some (.string ⟨u.scheme.toArray⟩)∧W.cell? ⟨w.heap.size,1,none⟩=some (.string ⟨(c::r).toArray⟩)∧W.cell? ⟨w.heap.size,2,none⟩=some (.string ⟨q.toArray⟩)∧W.cell? ⟨w.heap.size,3,none⟩=some (.iface C D)∧W.cell? ⟨w.heap.size,4,none⟩=some (.int .i64 u.port)∧W.cell? ⟨w.heap.size,5,none⟩=some (.slice pa m j)∧W.cell? ⟨w.heap.size,6,none⟩=some (.string ⟨u.query.toArray⟩)∧W.cell? ⟨w.heap.size,7,none⟩=some (.bool u.hasQ)∧W.cell? ⟨w.heap.size,8,none⟩=some (.string ⟨u.frag.toArray⟩)∧W.cell? ⟨w.heap.size,9,none⟩=some (.bool u.hasF)) (by kernel_rfl) ?_ (fun f=> ?_)
 ·exact (X.out _ (zaH _))
 refine tki 0 (some 3) (v:= ?_) rfl (.inl ⟨by rfl,?_⟩) f ?_;rotate_left;·intro w d;(try dsimp only at d);go_simp;try with_reducible rfl
 try simp only [Act.put,tkia,tkib,tkic]
 refine tki 1 (some 4) (v:= ?_) rfl (.inl ⟨by rfl,?_⟩) f ?_;rotate_left;·intro w d;(try dsimp only at d);go_simp;try with_reducible rfl
 try simp only [Act.put,tkia,tkib,tkic]
 refine tki 2 (some 5) (v:= ?_) rfl (.inl ⟨by rfl,?_⟩) f ?_;rotate_left;·intro w d;(try dsimp only at d);go_simp;try with_reducible rfl
 try simp only [Act.put,tkia,tkib,tkic]
 refine tki 3 (some 6) (v:= ?_) rfl (.inl ⟨by rfl,?_⟩) f ?_;rotate_left;·intro w d;(try dsimp only at d);go_simp;try with_reducible rfl
 try simp only [Act.put,tkia,tkib,tkic]
 refine tki 4 (some 7) (v:= ?_) rfl (.inl ⟨by rfl,?_⟩) f ?_;rotate_left;·intro w d;(try dsimp only at d);go_simp;try with_reducible rfl
 try simp only [Act.put,tkia,tkib,tkic]
 refine tki 6 (some 9) (v:= ?_) rfl (.inl ⟨by rfl,?_⟩) f ?_;rotate_left;·intro w d;(try dsimp only at d);go_simp;try with_reducible rfl
 try simp only [Act.put,tkia,tkib,tkic]
 refine tki 7 (some 10) (v:= ?_) rfl (.inl ⟨by rfl,?_⟩) f ?_;rotate_left;·intro w d;(try dsimp only at d);go_simp;try with_reducible rfl
 try simp only [Act.put,tkia,tkib,tkic]
 refine tki 8 (some 11) (v:= ?_) rfl (.inl ⟨by rfl,?_⟩) f ?_;rotate_left;·intro w d;(try dsimp only at d);go_simp;try with_reducible rfl
 try simp only [Act.put,tkia,tkib,tkic]
 refine wpAnyH_ready (rs:=[5]) (by kernel_rfl) (by simp) ?_
 refine AllReadyH.cons (o:=⟨some 8,_,_,_,_,_⟩) rfl (fun K T=> ?_) AllReadyH.nil
 go_simp
 go_at_call 16
 refine (qb.out _ (zaH _)).mono ?_
 rintro e x1 ⟨rfl,B⟩
 obtain ⟨k0,k1,k2,k3⟩:=zbV (O.out _ B)
 have kf:=zaJ (O.out _ B)
 (try go_wp2_with fail)
 refine T.out _ _ ?_ (fun g=> ?_)
 ·exact (X.out _ B)
 clear T K
 try simp only [Act.put,tkia,tkib,tkic]
 refine tki 9 (some 12) (v:= ?_) rfl (.inl ⟨by rfl,?_⟩) g ?_;rotate_left;·intro w d;(try dsimp only at d);go_simp;try with_reducible rfl
 try simp only [Act.put,tkia,tkib,tkic]
 refine tki 10 (some 13) (v:=undef) rfl (.inr ⟨by rfl,rfl⟩) g ?_
 try simp only [Act.put,tkia,tkib,tkic]
 refine tki 11 (some 14) (v:=undef) rfl (.inr ⟨by rfl,rfl⟩) g ?_
 try simp only [Act.put,tkia,tkib,tkic]
 refine tki 12 (some 15) (v:=undef) rfl (.inr ⟨by rfl,rfl⟩) g ?_
 try simp only [Act.put,tkia,tkib,tkic]
 refine tki 13 (some 16) (v:= ?_) rfl (.inl ⟨by rfl,?_⟩) g ?_;rotate_left;·intro w d;(try dsimp only at d);go_simp;try with_reducible rfl
 try simp only [Act.put,tkia,tkib,tkic]
 refine tki 14 (some 17) (v:= ?_) rfl (.inl ⟨by rfl,?_⟩) g ?_;rotate_left;·intro w d;(try dsimp only at d);go_simp;try with_reducible rfl
 try simp only [Act.put,tkia,tkib,tkic]
 refine wpAnyH_ready (rs:=[15]) (by kernel_rfl) (by simp) ?_
 refine AllReadyH.cons (o:=⟨none,_,_,_,_,_⟩) rfl (fun K T=> ?_) AllReadyH.nil
 go_simp
 refine T.out _ _ ?_ (fun Z=> ?_)
 ·exact (qc.out _ B _ rfl)
 clear T K
 try simp only [Act.put,tkia,tkib,tkic]
 refine wpAnyH_done (by kernel_rfl) ?_ _
 have N:=zbI (zaG HB.out B) (show w.heap.size≤w.heap.size+1 by omega) (.string ⟨u.scheme.toArray⟩) (.iface C D) (.int .i64 (effZ u)) (.bool true)
 have L:=zbM (O.out _ B) (.string ⟨u.scheme.toArray⟩) (.iface C D) (.int .i64 (effZ u)) (.bool true)
 unfold put4 at N L
 have qa:=ypD N
 have qd:=ypD L
 clear N L
 go_wp2
 obtain ⟨e0,e1,e2,e3⟩:=qd.out
 refine bodyPost_ret (v:= .agg #[.string ⟨u.scheme.toArray⟩,.iface C D,.int .i64 (effZ u),.bool true]) (by simp [results,Tryz.results13,go_sem,e0,e1,e2,e3]) rfl ?_
 exact ⟨rfl,qa.out⟩
theorem zqP (u:UZ) (pa:Option Addr) (m j:Nat) (B:TypeId) (C:Value) (w:World) (O:u.host.val= .iface B C) {c:UInt8} {r:List UInt8} (X:u.user=[]) (U:u.pass=c::r):
  Calls Tryz.prog 13 #[.agg (u.cells (.slice pa m j))] w fun e w'=>e= .returned (.agg #[.string ⟨u.scheme.toArray⟩,.iface B C,.int .i64 (effZ u),.bool true])∧Below w.heap.size w w':=by
 have E:u.cells (.slice pa m j)= #[.string ⟨u.scheme.toArray⟩,.string ⟨#[]⟩,.string ⟨(c::r).toArray⟩,.iface B C,.int .i64 u.port,.slice pa m j,.string ⟨u.query.toArray⟩,.bool u.hasQ,.string ⟨u.frag.toArray⟩,.bool u.hasF]:=by unfold UZ.cells;rw [O,X,U]
 have i:((w.alloc (.cells (u.cells (.slice pa m j)) 27)).alloc (.cells #[.string ⟨#[]⟩,.nilIface,.int .i64 0,.bool false] 37)).heap[w.heap.size]? =some (.cells (u.cells (.slice pa m j)) 27):=(((ypF _ (w.alloc (.cells (u.cells (.slice pa m j)) 27))).alloc (ypE _) _).block _ (by simp)).trans (heap_alloc_new w _)
 have s0:(w.alloc (.cells (u.cells (.slice pa m j)) 27)).heap.size=w.heap.size+1:=by simp
 have q:=heap_alloc_new (w.alloc (.cells (u.cells (.slice pa m j)) 27)) (.cells #[.string ⟨#[]⟩,.nilIface,.int .i64 0,.bool false] 37)
 rw [s0] at q
 have I:Below w.heap.size w ((w.alloc (.cells (u.cells (.slice pa m j)) 27)).alloc (.cells #[.string ⟨#[]⟩,.nilIface,.int .i64 0,.bool false] 37)):=((ypF _ w).alloc (ypE _) _).alloc (by simp) _
 obtain ⟨D,G⟩: ∃y,y=(w.alloc (.cells (u.cells (.slice pa m j)) 27)).alloc (.cells #[.string ⟨#[]⟩,.nilIface,.int .i64 0,.bool false] 37):=⟨_,rfl⟩
 rw [←G] at i q I
 have HB:=ypD I
 have H: ∀y:World,y.heap[w.heap.size]? =some (.cells (u.cells (.slice pa m j)) 27)→y.cell? ⟨w.heap.size,0,none⟩=some (.string ⟨u.scheme.toArray⟩)∧y.cell? ⟨w.heap.size,1,none⟩=some (.string ⟨#[]⟩)∧y.cell? ⟨w.heap.size,2,none⟩=some (.string ⟨(c::r).toArray⟩)∧y.cell? ⟨w.heap.size,3,none⟩=some (.iface B C)∧y.cell? ⟨w.heap.size,4,none⟩=some (.int .i64 u.port)∧y.cell? ⟨w.heap.size,5,none⟩=some (.slice pa m j)∧y.cell? ⟨w.heap.size,6,none⟩=some (.string ⟨u.query.toArray⟩)∧y.cell? ⟨w.heap.size,7,none⟩=some (.bool u.hasQ)∧y.cell? ⟨w.heap.size,8,none⟩=some (.string ⟨u.frag.toArray⟩)∧y.cell? ⟨w.heap.size,9,none⟩=some (.bool u.hasF):=fun y h=>by
  rw [E] at h
  exact ⟨zaA h 0,zaA h 1,zaA h 2,zaA h 3,zaA h 4,zaA h 5,zaA h 6,zaA h 7,zaA h 8,zaA h 9⟩
 have V:Hid (∀x,Below D.heap.size D x→x.cell? ⟨w.heap.size,0,none⟩=some (.string ⟨u.scheme.toArray⟩)∧x.cell? ⟨w.heap.size,1,none⟩=some (.string ⟨#[]⟩)∧x.cell? ⟨w.heap.size,2,none⟩=some (.string ⟨(c::r).toArray⟩)∧x.cell? ⟨w.heap.size,3,none⟩=some (.iface B C)∧x.cell? ⟨w.heap.size,4,none⟩=some (.int .i64 u.port)∧x.cell? ⟨w.heap.size,5,none⟩=some (.slice pa m j)∧x.cell? ⟨w.heap.size,6,none⟩=some (.string ⟨u.query.toArray⟩)∧x.cell? ⟨w.heap.size,7,none⟩=some (.bool u.hasQ)∧x.cell? ⟨w.heap.size,8,none⟩=some (.string ⟨u.frag.toArray⟩)∧x.cell? ⟨w.heap.size,9,none⟩=some (.bool u.hasF)):=fun x T=>H x ((T.block _ (zaK i)).trans i)
 have L: ∀x,Below D.heap.size D x→ ∀y,y=put4 x (w.heap.size+1) (.string ⟨u.scheme.toArray⟩) (.iface B C) (.int .i64 (effZ u)) (.bool true)→y.cell? ⟨w.heap.size,0,none⟩=some (.string ⟨u.scheme.toArray⟩)∧y.cell? ⟨w.heap.size,1,none⟩=some (.string ⟨#[]⟩)∧y.cell? ⟨w.heap.size,2,none⟩=some (.string ⟨(c::r).toArray⟩)∧y.cell? ⟨w.heap.size,3,none⟩=some (.iface B C)∧y.cell? ⟨w.heap.size,4,none⟩=some (.int .i64 u.port)∧y.cell? ⟨w.heap.size,5,none⟩=some (.slice pa m j)∧y.cell? ⟨w.heap.size,6,none⟩=some (.string ⟨u.query.toArray⟩)∧y.cell? ⟨w.heap.size,7,none⟩=some (.bool u.hasQ)∧y.cell? ⟨w.heap.size,8,none⟩=some (.string ⟨u.frag.toArray⟩)∧y.cell? ⟨w.heap.size,9,none⟩=some (.bool u.hasF):=fun x T y hy=>by
  subst hy
  exact H _ ((zkR (by omega) _ _ _ _).trans ((T.block _ (zaK i)).trans i))
 unfold put4 at L
 have qb:=ypD L
 have N:=ypD (fun x (T:Below D.heap.size D x)=>(T.block _ (zaK q)).trans q)
 have qa:Hid (∀W,Below D.heap.size D W→Calls Tryz.prog 16 #[.agg #[.string ⟨u.scheme.toArray⟩,.string ⟨#[]⟩,.string ⟨(c::r).toArray⟩,.iface B C,.int .i64 u.port,.slice pa m j,.string ⟨u.query.toArray⟩,.bool u.hasQ,.string ⟨u.frag.toArray⟩,.bool u.hasF]] W fun e w'=>e= .returned (.int .i64 (effZ u))∧Below D.heap.size D w'):=fun W hW=>by
  have h:=zjV u (.slice pa m j) W
  rw [E] at h
  exact h.mono (fun e w' h=>⟨h.1,zaG hW h.2⟩)
 rw [E] at G ⊢
 clear i q I L s0 O E H X U
 go_enter Tryz.func13,Tryz.ntmps13
 go_wp2_with fail
 rw [←G]
 clear G
 refine wp_region_held_drew (S:=fun W=>W.cell? ⟨w.heap.size,0,none⟩=some (.string ⟨u.scheme.toArray⟩)∧W.cell? ⟨w.heap.size,1,none⟩=some (.string ⟨#[]⟩)∧W.cell? ⟨w.heap.size,2,none⟩=some (.string ⟨(c::r).toArray⟩)∧W.cell? ⟨w.heap.size,3,none⟩=some (.iface B C)∧W.cell? ⟨w.heap.size,4,none⟩=some (.int .i64 u.port)∧W.cell? ⟨w.heap.size,5,none⟩=some (.slice pa m j)∧W.cell? ⟨w.heap.size,6,none⟩=some (.string ⟨u.query.toArray⟩)∧W.cell? ⟨w.heap.size,7,none⟩=some (.bool u.hasQ)∧W.cell? ⟨w.heap.size,8,none⟩=some (.string ⟨u.frag.toArray⟩)∧W.cell? ⟨w.heap.size,9,none⟩=some (.bool u.hasF)) (by kernel_rfl) ?_ (fun f=> ?_)
 ·exact (V.out _ (zaH _))
 refine tki 0 (some 3) (v:= ?_) rfl (.inl ⟨by rfl,?_⟩) f ?_;rotate_left;·intro w d;(try dsimp only at d);go_simp;try with_reducible rfl
 try simp only [Act.put,tkia,tkib,tkic]
 refine tki 1 (some 4) (v:= ?_) rfl (.inl ⟨by rfl,?_⟩) f ?_;rotate_left;·intro w d;(try dsimp only at d);go_simp;try with_reducible rfl
 try simp only [Act.put,tkia,tkib,tkic]
 refine tki 2 (some 5) (v:= ?_) rfl (.inl ⟨by rfl,?_⟩) f ?_;rotate_left;·intro w d;(try dsimp only at d);go_simp;try with_reducible rfl
 try simp only [Act.put,tkia,tkib,tkic]
 refine tki 3 (some 6) (v:= ?_) rfl (.inl ⟨by rfl,?_⟩) f ?_;rotate_left;·intro w d;(try dsimp only at d);go_simp;try with_reducible rfl
 try simp only [Act.put,tkia,tkib,tkic]
 refine tki 4 (some 7) (v:= ?_) rfl (.inl ⟨by rfl,?_⟩) f ?_;rotate_left;·intro w d;(try dsimp only at d);go_simp;try with_reducible rfl
 try simp only [Act.put,tkia,tkib,tkic]
 refine tki 6 (some 9) (v:= ?_) rfl (.inl ⟨by rfl,?_⟩) f ?_;rotate_left;·intro w d;(try dsimp only at d);go_simp;try with_reducible rfl
 try simp only [Act.put,tkia,tkib,tkic]
 refine tki 7 (some 10) (v:= ?_) rfl (.inl ⟨by rfl,?_⟩) f ?_;rotate_left;·intro w d;(try dsimp only at d);go_simp;try with_reducible rfl
 try simp only [Act.put,tkia,tkib,tkic]
 refine tki 8 (some 11) (v:= ?_) rfl (.inl ⟨by rfl,?_⟩) f ?_;rotate_left;·intro w d;(try dsimp only at d);go_simp;try with_reducible rfl
 try simp only [Act.put,tkia,tkib,tkic]
 refine wpAnyH_ready (rs:=[5]) (by kernel_rfl) (by simp) ?_
 refine AllReadyH.cons (o:=⟨some 8,_,_,_,_,_⟩) rfl (fun K Q=> ?_) AllReadyH.nil
 go_simp
 go_at_call 16
 refine (qa.out _ (zaH _)).mono ?_
 rintro e x1 ⟨rfl,A⟩
 obtain ⟨k0,k1,k2,k3⟩:=zbV (N.out _ A)
 have kf:=zaJ (N.out _ A)
 (try go_wp2_with fail)
 refine Q.out _ _ ?_ (fun g=> ?_)
 ·exact (V.out _ A)
 clear Q K
 try simp only [Act.put,tkia,tkib,tkic]
 refine tki 9 (some 12) (v:= ?_) rfl (.inl ⟨by rfl,?_⟩) g ?_;rotate_left;·intro w d;(try dsimp only at d);go_simp;try with_reducible rfl
 try simp only [Act.put,tkia,tkib,tkic]
 refine tki 10 (some 13) (v:= ?_) rfl (.inl ⟨by rfl,?_⟩) g ?_;rotate_left;·intro w d;(try dsimp only at d);go_simp;try with_reducible rfl
 try simp only [Act.put,tkia,tkib,tkic]
 refine tki 11 (some 14) (v:= ?_) rfl (.inl ⟨by rfl,?_⟩) g ?_;rotate_left;·intro w d;(try dsimp only at d);go_simp;try with_reducible rfl
 try simp only [Act.put,tkia,tkib,tkic]
 refine tki 12 (some 15) (v:= ?_) rfl (.inl ⟨by rfl,?_⟩) g ?_;rotate_left;·intro w d;(try dsimp only at d);go_simp;try with_reducible rfl
 try simp only [Act.put,tkia,tkib,tkic]
 refine tki 13 (some 16) (v:= ?_) rfl (.inl ⟨by rfl,?_⟩) g ?_;rotate_left;·intro w d;(try dsimp only at d);go_simp;try with_reducible rfl
 try simp only [Act.put,tkia,tkib,tkic]
 refine tki 14 (some 17) (v:= ?_) rfl (.inl ⟨by rfl,?_⟩) g ?_;rotate_left;·intro w d;(try dsimp only at d);go_simp;try with_reducible rfl
 try simp only [Act.put,tkia,tkib,tkic]
 refine wpAnyH_ready (rs:=[15]) (by kernel_rfl) (by simp) ?_
 refine AllReadyH.cons (o:=⟨none,_,_,_,_,_⟩) rfl (fun K Q=> ?_) AllReadyH.nil
 go_simp
 refine Q.out _ _ ?_ (fun Y=> ?_)
 ·exact (qb.out _ A _ rfl)
 clear Q K
 try simp only [Act.put,tkia,tkib,tkic]
 refine wpAnyH_done (by kernel_rfl) ?_ _
 have M:=zbI (zaG HB.out A) (show w.heap.size≤w.heap.size+1 by omega) (.string ⟨u.scheme.toArray⟩) (.iface B C) (.int .i64 (effZ u)) (.bool true)
 have J:=zbM (N.out _ A) (.string ⟨u.scheme.toArray⟩) (.iface B C) (.int .i64 (effZ u)) (.bool true)
 unfold put4 at M J
 have Z:=ypD M
 have qc:=ypD J
 clear M J
 go_wp2
 obtain ⟨e0,e1,e2,e3⟩:=qc.out
 refine bodyPost_ret (v:= .agg #[.string ⟨u.scheme.toArray⟩,.iface B C,.int .i64 (effZ u),.bool true]) (by simp [results,Tryz.results13,go_sem,e0,e1,e2,e3]) rfl ?_
 exact ⟨rfl,Z.out⟩
theorem zqQ (u:UZ) (pa:Option Addr) (m j:Nat) (B:TypeId) (C:Value) (w:World) (O:u.host.val= .iface B C) (U:u.user=[]) (V:u.pass=[]):
  Calls Tryz.prog 13 #[.agg (u.cells (.slice pa m j))] w fun e w'=>e= .returned (.agg #[.string ⟨u.scheme.toArray⟩,.iface B C,.int .i64 (effZ u),.bool false])∧Below w.heap.size w w':=by
 have E:u.cells (.slice pa m j)= #[.string ⟨u.scheme.toArray⟩,.string ⟨#[]⟩,.string ⟨#[]⟩,.iface B C,.int .i64 u.port,.slice pa m j,.string ⟨u.query.toArray⟩,.bool u.hasQ,.string ⟨u.frag.toArray⟩,.bool u.hasF]:=by unfold UZ.cells;rw [O,U,V]
 have i:((w.alloc (.cells (u.cells (.slice pa m j)) 27)).alloc (.cells #[.string ⟨#[]⟩,.nilIface,.int .i64 0,.bool false] 37)).heap[w.heap.size]? =some (.cells (u.cells (.slice pa m j)) 27):=(((ypF _ (w.alloc (.cells (u.cells (.slice pa m j)) 27))).alloc (ypE _) _).block _ (by simp)).trans (heap_alloc_new w _)
 have s0:(w.alloc (.cells (u.cells (.slice pa m j)) 27)).heap.size=w.heap.size+1:=by simp
 have q:=heap_alloc_new (w.alloc (.cells (u.cells (.slice pa m j)) 27)) (.cells #[.string ⟨#[]⟩,.nilIface,.int .i64 0,.bool false] 37)
 rw [s0] at q
 have I:Below w.heap.size w ((w.alloc (.cells (u.cells (.slice pa m j)) 27)).alloc (.cells #[.string ⟨#[]⟩,.nilIface,.int .i64 0,.bool false] 37)):=((ypF _ w).alloc (ypE _) _).alloc (by simp) _
 obtain ⟨D,G⟩: ∃y,y=(w.alloc (.cells (u.cells (.slice pa m j)) 27)).alloc (.cells #[.string ⟨#[]⟩,.nilIface,.int .i64 0,.bool false] 37):=⟨_,rfl⟩
 rw [←G] at i q I
 have HB:=ypD I
 have H: ∀y:World,y.heap[w.heap.size]? =some (.cells (u.cells (.slice pa m j)) 27)→y.cell? ⟨w.heap.size,0,none⟩=some (.string ⟨u.scheme.toArray⟩)∧y.cell? ⟨w.heap.size,1,none⟩=some (.string ⟨#[]⟩)∧y.cell? ⟨w.heap.size,2,none⟩=some (.string ⟨#[]⟩)∧y.cell? ⟨w.heap.size,3,none⟩=some (.iface B C)∧y.cell? ⟨w.heap.size,4,none⟩=some (.int .i64 u.port)∧y.cell? ⟨w.heap.size,5,none⟩=some (.slice pa m j)∧y.cell? ⟨w.heap.size,6,none⟩=some (.string ⟨u.query.toArray⟩)∧y.cell? ⟨w.heap.size,7,none⟩=some (.bool u.hasQ)∧y.cell? ⟨w.heap.size,8,none⟩=some (.string ⟨u.frag.toArray⟩)∧y.cell? ⟨w.heap.size,9,none⟩=some (.bool u.hasF):=fun y h=>by
  rw [E] at h
  exact ⟨zaA h 0,zaA h 1,zaA h 2,zaA h 3,zaA h 4,zaA h 5,zaA h 6,zaA h 7,zaA h 8,zaA h 9⟩
 have X:Hid (∀x,Below D.heap.size D x→x.cell? ⟨w.heap.size,0,none⟩=some (.string ⟨u.scheme.toArray⟩)∧x.cell? ⟨w.heap.size,1,none⟩=some (.string ⟨#[]⟩)∧x.cell? ⟨w.heap.size,2,none⟩=some (.string ⟨#[]⟩)∧x.cell? ⟨w.heap.size,3,none⟩=some (.iface B C)∧x.cell? ⟨w.heap.size,4,none⟩=some (.int .i64 u.port)∧x.cell? ⟨w.heap.size,5,none⟩=some (.slice pa m j)∧x.cell? ⟨w.heap.size,6,none⟩=some (.string ⟨u.query.toArray⟩)∧x.cell? ⟨w.heap.size,7,none⟩=some (.bool u.hasQ)∧x.cell? ⟨w.heap.size,8,none⟩=some (.string ⟨u.frag.toArray⟩)∧x.cell? ⟨w.heap.size,9,none⟩=some (.bool u.hasF)):=fun x T=>H x ((T.block _ (zaK i)).trans i)
 have L: ∀x,Below D.heap.size D x→ ∀y,y=put4 x (w.heap.size+1) (.string ⟨u.scheme.toArray⟩) (.iface B C) (.int .i64 (effZ u)) (.bool false)→y.cell? ⟨w.heap.size,0,none⟩=some (.string ⟨u.scheme.toArray⟩)∧y.cell? ⟨w.heap.size,1,none⟩=some (.string ⟨#[]⟩)∧y.cell? ⟨w.heap.size,2,none⟩=some (.string ⟨#[]⟩)∧y.cell? ⟨w.heap.size,3,none⟩=some (.iface B C)∧y.cell? ⟨w.heap.size,4,none⟩=some (.int .i64 u.port)∧y.cell? ⟨w.heap.size,5,none⟩=some (.slice pa m j)∧y.cell? ⟨w.heap.size,6,none⟩=some (.string ⟨u.query.toArray⟩)∧y.cell? ⟨w.heap.size,7,none⟩=some (.bool u.hasQ)∧y.cell? ⟨w.heap.size,8,none⟩=some (.string ⟨u.frag.toArray⟩)∧y.cell? ⟨w.heap.size,9,none⟩=some (.bool u.hasF):=fun x T y hy=>by
  subst hy
  exact H _ ((zkR (by omega) _ _ _ _).trans ((T.block _ (zaK i)).trans i))
 unfold put4 at L
 have qb:=ypD L
 have N:=ypD (fun x (T:Below D.heap.size D x)=>(T.block _ (zaK q)).trans q)
 have qa:Hid (∀W,Below D.heap.size D W→Calls Tryz.prog 16 #[.agg #[.string ⟨u.scheme.toArray⟩,.string ⟨#[]⟩,.string ⟨#[]⟩,.iface B C,.int .i64 u.port,.slice pa m j,.string ⟨u.query.toArray⟩,.bool u.hasQ,.string ⟨u.frag.toArray⟩,.bool u.hasF]] W fun e w'=>e= .returned (.int .i64 (effZ u))∧Below D.heap.size D w'):=fun W hW=>by
  have h:=zjV u (.slice pa m j) W
  rw [E] at h
  exact h.mono (fun e w' h=>⟨h.1,zaG hW h.2⟩)
 rw [E] at G ⊢
 clear i q I L s0 O E H U V
 go_enter Tryz.func13,Tryz.ntmps13
 go_wp2_with fail
 rw [←G]
 clear G
 refine wp_region_held_drew (S:=fun W=>W.cell? ⟨w.heap.size,0,none⟩=some (.string ⟨u.scheme.toArray⟩)∧W.cell? ⟨w.heap.size,1,none⟩=some (.string ⟨#[]⟩)∧W.cell? ⟨w.heap.size,2,none⟩=some (.string ⟨#[]⟩)∧W.cell? ⟨w.heap.size,3,none⟩=some (.iface B C)∧W.cell? ⟨w.heap.size,4,none⟩=some (.int .i64 u.port)∧W.cell? ⟨w.heap.size,5,none⟩=some (.slice pa m j)∧W.cell? ⟨w.heap.size,6,none⟩=some (.string ⟨u.query.toArray⟩)∧W.cell? ⟨w.heap.size,7,none⟩=some (.bool u.hasQ)∧W.cell? ⟨w.heap.size,8,none⟩=some (.string ⟨u.frag.toArray⟩)∧W.cell? ⟨w.heap.size,9,none⟩=some (.bool u.hasF)) (by kernel_rfl) ?_ (fun f=> ?_)
 ·exact (X.out _ (zaH _))
 refine tki 0 (some 3) (v:= ?_) rfl (.inl ⟨by rfl,?_⟩) f ?_;rotate_left;·intro w d;(try dsimp only at d);go_simp;try with_reducible rfl
 try simp only [Act.put,tkia,tkib,tkic]
 refine tki 1 (some 4) (v:= ?_) rfl (.inl ⟨by rfl,?_⟩) f ?_;rotate_left;·intro w d;(try dsimp only at d);go_simp;try with_reducible rfl
 try simp only [Act.put,tkia,tkib,tkic]
 refine tki 2 (some 5) (v:= ?_) rfl (.inl ⟨by rfl,?_⟩) f ?_;rotate_left;·intro w d;(try dsimp only at d);go_simp;try with_reducible rfl
 try simp only [Act.put,tkia,tkib,tkic]
 refine tki 3 (some 6) (v:= ?_) rfl (.inl ⟨by rfl,?_⟩) f ?_;rotate_left;·intro w d;(try dsimp only at d);go_simp;try with_reducible rfl
 try simp only [Act.put,tkia,tkib,tkic]
 refine tki 4 (some 7) (v:= ?_) rfl (.inl ⟨by rfl,?_⟩) f ?_;rotate_left;·intro w d;(try dsimp only at d);go_simp;try with_reducible rfl
 try simp only [Act.put,tkia,tkib,tkic]
 refine tki 6 (some 9) (v:= ?_) rfl (.inl ⟨by rfl,?_⟩) f ?_;rotate_left;·intro w d;(try dsimp only at d);go_simp;try with_reducible rfl
 try simp only [Act.put,tkia,tkib,tkic]
 refine tki 7 (some 10) (v:= ?_) rfl (.inl ⟨by rfl,?_⟩) f ?_;rotate_left;·intro w d;(try dsimp only at d);go_simp;try with_reducible rfl
 try simp only [Act.put,tkia,tkib,tkic]
 refine tki 8 (some 11) (v:= ?_) rfl (.inl ⟨by rfl,?_⟩) f ?_;rotate_left;·intro w d;(try dsimp only at d);go_simp;try with_reducible rfl
 try simp only [Act.put,tkia,tkib,tkic]
 refine wpAnyH_ready (rs:=[5]) (by kernel_rfl) (by simp) ?_
 refine AllReadyH.cons (o:=⟨some 8,_,_,_,_,_⟩) rfl (fun K Q=> ?_) AllReadyH.nil
 go_simp
 go_at_call 16
 refine (qa.out _ (zaH _)).mono ?_
 rintro e x1 ⟨rfl,A⟩
 obtain ⟨k0,k1,k2,k3⟩:=zbV (N.out _ A)
 have kf:=zaJ (N.out _ A)
 (try go_wp2_with fail)
 refine Q.out _ _ ?_ (fun g=> ?_)
 ·exact (X.out _ A)
 clear Q K
 try simp only [Act.put,tkia,tkib,tkic]
 refine tki 9 (some 12) (v:= ?_) rfl (.inl ⟨by rfl,?_⟩) g ?_;rotate_left;·intro w d;(try dsimp only at d);go_simp;try with_reducible rfl
 try simp only [Act.put,tkia,tkib,tkic]
 refine tki 10 (some 13) (v:= ?_) rfl (.inl ⟨by rfl,?_⟩) g ?_;rotate_left;·intro w d;(try dsimp only at d);go_simp;try with_reducible rfl
 try simp only [Act.put,tkia,tkib,tkic]
 refine tki 11 (some 14) (v:= ?_) rfl (.inl ⟨by rfl,?_⟩) g ?_;rotate_left;·intro w d;(try dsimp only at d);go_simp;try with_reducible rfl
 try simp only [Act.put,tkia,tkib,tkic]
 refine tki 12 (some 15) (v:= ?_) rfl (.inl ⟨by rfl,?_⟩) g ?_;rotate_left;·intro w d;(try dsimp only at d);go_simp;try with_reducible rfl
 try simp only [Act.put,tkia,tkib,tkic]
 refine tki 13 (some 16) (v:= ?_) rfl (.inl ⟨by rfl,?_⟩) g ?_;rotate_left;·intro w d;(try dsimp only at d);go_simp;try with_reducible rfl
 try simp only [Act.put,tkia,tkib,tkic]
 refine tki 14 (some 17) (v:= ?_) rfl (.inl ⟨by rfl,?_⟩) g ?_;rotate_left;·intro w d;(try dsimp only at d);go_simp;try with_reducible rfl
 try simp only [Act.put,tkia,tkib,tkic]
 refine wpAnyH_ready (rs:=[15]) (by kernel_rfl) (by simp) ?_
 refine AllReadyH.cons (o:=⟨none,_,_,_,_,_⟩) rfl (fun K Q=> ?_) AllReadyH.nil
 go_simp
 refine Q.out _ _ ?_ (fun Y=> ?_)
 ·exact (qb.out _ A _ rfl)
 clear Q K
 try simp only [Act.put,tkia,tkib,tkic]
 refine wpAnyH_done (by kernel_rfl) ?_ _
 have M:=zbI (zaG HB.out A) (show w.heap.size≤w.heap.size+1 by omega) (.string ⟨u.scheme.toArray⟩) (.iface B C) (.int .i64 (effZ u)) (.bool false)
 have J:=zbM (N.out _ A) (.string ⟨u.scheme.toArray⟩) (.iface B C) (.int .i64 (effZ u)) (.bool false)
 unfold put4 at M J
 have Z:=ypD M
 have qc:=ypD J
 clear M J
 go_wp2
 obtain ⟨e0,e1,e2,e3⟩:=qc.out
 refine bodyPost_ret (v:= .agg #[.string ⟨u.scheme.toArray⟩,.iface B C,.int .i64 (effZ u),.bool false]) (by simp [results,Tryz.results13,go_sem,e0,e1,e2,e3]) rfl ?_
 exact ⟨rfl,Z.out⟩
theorem zwC (u:UZ) (pa:Option Addr) (m j:Nat) (w:World) (C: ∃g i,u.host.val= .iface g i):
  Calls Tryz.prog 13 #[.agg (u.cells (.slice pa m j))] w fun e w'=>e= .returned (.agg (zfN u).cells)∧Below w.heap.size w w':=by
 have d: ∀(q:Value) (b:Bool),u.host.val=q→(!(u.user++u.pass).isEmpty)=b→(zfN u).cells= #[.string ⟨u.scheme.toArray⟩,q,.int .i64 (effZ u),.bool b]:=fun q b A B=>by
  unfold SZ.cells zfN
  simp only
  rw [A,B]
 obtain ⟨g,i,h⟩:=C
 cases f:u.user with
 |cons c r=>rw [d _ true h (by rw [f];rfl)];exact zrY u pa m j g i w h f rfl
 |nil=>cases o:u.pass with
  |cons c r=>rw [d _ true h (by rw [f,o];rfl)];exact zqP u pa m j g i w h f o
  |nil=>rw [d _ false h (by rw [f,o];rfl)];exact zqQ u pa m j g i w h f o
theorem zpB (n:Int) (i:0≤n) (g:n≤65535):(Lib.itoa n).length≤30:=by
 unfold Lib.itoa
 rw [if_neg (by omega)]
 have d: ∀k:Nat,∀u,u<10^(k+1)→(Lib.decDigits u).length≤k+1:=by
  intro k
  induction k with
  |zero=>intro u e;rw [Lib.decDigits,dif_pos (by omega)];simp
  |succ k f=>
   intro u e
   rw [Lib.decDigits]
   split
   ·simp
   ·have:=f (u/10) (by rw [Nat.div_lt_iff_lt_mul (by decide)];rw [Nat.pow_succ] at e;exact e)
    rw [List.length_append]
    simp
    omega
 have:=d 4 n.toNat (by omega)
 omega
theorem zcS {t:TypeId} {x:World} {g:Nat} {e i d f:Value} (h:x.heap[g]? =some (.cells #[e,i,d,f] t)):x.cell? ⟨g,0,none⟩=some e∧x.cell? ⟨g,1,none⟩=some i∧x.cell? ⟨g,2,none⟩=some d∧x.cell? ⟨g,3,none⟩=some f:=⟨zaA h 0,zaA h 1,zaA h 2,zaA h 3⟩
theorem yeP (s:SZ) (m:TypeId) (o:Value) (w:World) (J:0≤s.port) (G:s.port≤65535) (g:PowTab w):
  Calls Tryz.prog 48 #[.agg #[.string ⟨s.scheme.toArray⟩,.iface m o,.int .i64 s.port,.bool s.user]] w (zdY w (58::Lib.itoa s.port)):=by
 have f:Below w.heap.size w (w.alloc (.cells #[.string ⟨s.scheme.toArray⟩,.iface m o,.int .i64 s.port,.bool s.user] 37)):=(ypF _ w).alloc (ypE _) _
 have d:=heap_alloc_new w (.cells #[.string ⟨s.scheme.toArray⟩,.iface m o,.int .i64 s.port,.bool s.user] 37)
 obtain ⟨H,i⟩: ∃y,y=w.alloc (.cells #[.string ⟨s.scheme.toArray⟩,.iface m o,.int .i64 s.port,.bool s.user] 37):=⟨_,rfl⟩
 rw [←i] at f d
 have B:=ypD f
 have C:=ypD (zuC s.port H (by omega) (by omega) (zaC g f))
 have E:=zpB s.port J G
 have A: ∀W,(Op.stringOp .add ⟨#[58]⟩ ⟨(Lib.itoa s.port).toArray⟩).run Tryz.prog W= .ok (.string ⟨(58::Lib.itoa s.port).toArray⟩) W:=zgE [58] (Lib.itoa s.port) (by simp;omega)
 obtain ⟨-,-,D,-⟩:=zcS d
 have q:=ypD A
 clear f d g A E
 generalize 58::Lib.itoa s.port=K at*
 generalize Lib.itoa s.port=L at*
 go_enter Tryz.func48,Tryz.ntmps48
 go_upto_region 1 with fail
 rw [←i]
 clear i
 go_wp2_with fail
 refine C.out.mono ?_
 rintro e M ⟨rfl,j⟩
 have I:=ypD (zaG B.out j)
 have A:=q.out
 clear C j D B
 go_wp2
 go_ret
 exact ⟨rfl,I.out⟩
theorem z2E (s:SZ) (B:TypeId) (D:Value) (w:World) (J:s.host.val= .iface B D) (ho:s.host.In) (hw:(zbD s.host).length≤1000) (h0:0≤s.port) (h1:s.port≤65535) (E:PowTab w) (H:BruTab w):
  Calls Tryz.prog 14 #[.agg #[.string ⟨s.scheme.toArray⟩,.iface B D,.int .i64 s.port,.bool s.user]] w (zdY w (zgU s)):=by
 have qa:s.cells= #[.string ⟨s.scheme.toArray⟩,.iface B D,.int .i64 s.port,.bool s.user]:=by unfold SZ.cells;rw [J]
 have A:Below w.heap.size w (w.alloc (.cells #[.string ⟨s.scheme.toArray⟩,.iface B D,.int .i64 s.port,.bool s.user] 37)):=(ypF _ w).alloc (ypE _) _
 have C:=heap_alloc_new w (.cells #[.string ⟨s.scheme.toArray⟩,.iface B D,.int .i64 s.port,.bool s.user] 37)
 obtain ⟨j,L⟩: ∃y,y=w.alloc (.cells #[.string ⟨s.scheme.toArray⟩,.iface B D,.int .i64 s.port,.bool s.user] 37):=⟨_,rfl⟩
 rw [←L] at A C
 have Z:=ypD A
 have q:Hid (∀x,Below j.heap.size j x→x.cell? ⟨w.heap.size,0,none⟩=some (.string ⟨s.scheme.toArray⟩)∧x.cell? ⟨w.heap.size,1,none⟩=some (.iface B D)∧x.cell? ⟨w.heap.size,2,none⟩=some (.int .i64 s.port)∧x.cell? ⟨w.heap.size,3,none⟩=some (.bool s.user)):=fun x hb=>zcS ((hb.block _ (zaK C)).trans C)
 have i:w.heap.size≤j.heap.size:=A.size
 have HT:Hid (∀W,Below j.heap.size j W→Calls Tryz.prog 47 #[.iface B D] W fun e w'=>e= .returned (.string ⟨(zbD s.host).toArray⟩)∧Below j.heap.size j w'):=fun W Q=>by
  have h:=zgD s.host W ho (zaC E (A.trans (Q.mono i))) (zaB H (A.trans (Q.mono i)))
  rw [J] at h
  exact h.mono (fun e w' h=>⟨h.1,zaG Q h.2⟩)
 have Y:Hid (∀W,Below j.heap.size j W→Calls Tryz.prog 48 #[.agg #[.string ⟨s.scheme.toArray⟩,.iface B D,.int .i64 s.port,.bool s.user]] W fun e w'=>e= .returned (.string ⟨(58::Lib.itoa s.port).toArray⟩)∧Below j.heap.size j w'):=fun W Q=>(yeP s B D W h0 h1 (zaC E (A.trans (Q.mono i)))).mono (fun e w' h=>⟨h.1,zaG Q h.2⟩)
 have G:=ypD (fun W=>zeM s.scheme W)
 have hl:=zpB s.port h0 h1
 have a1: ∀W,(Op.stringOp .add ⟨(zbD s.host).toArray⟩ ⟨(58::Lib.itoa s.port).toArray⟩).run Tryz.prog W= .ok (.string ⟨(zbD s.host++58::Lib.itoa s.port).toArray⟩) W:=zgE _ _ (by simp;omega)
 have HF:Hid (zgU s=if s.port=ownZ s.scheme then zbD s.host else zbD s.host++58::Lib.itoa s.port):=by
  show zgU s=_
  unfold zgU
  simp
 have N:=ypD a1
 clear A C E H a1 hl qa J ho hw h0 h1
 generalize zgU s=res at*
 generalize zbD s.host++58::Lib.itoa s.port=t2 at*
 generalize zbD s.host=t0 at*
 generalize 58::Lib.itoa s.port=t1 at*
 generalize ownZ s.scheme=own at*
 go_enter Tryz.func14,Tryz.ntmps14
 go_upto_region 1 with fail
 rw [←L]
 clear L
 by_cases O:s.port=own
 ·have M:Hid (res=t0):=by show _=_;rw [HF.out,if_pos O]
  have qb:(s.port==own)=true:=beq_iff_eq.2 O
  clear HF Y N O
  refine wp_region_held_drew (S:=fun W=>W.cell? ⟨w.heap.size,0,none⟩=some (.string ⟨s.scheme.toArray⟩)∧W.cell? ⟨w.heap.size,1,none⟩=some (.iface B D)∧W.cell? ⟨w.heap.size,2,none⟩=some (.int .i64 s.port)∧W.cell? ⟨w.heap.size,3,none⟩=some (.bool s.user)) (by kernel_rfl) ?_ (fun d=> ?_)
  ·exact (q.out _ (zaH _))
  refine tki 0 (some 3) (v:= ?_) rfl (.inl ⟨by rfl,?_⟩) d ?_;rotate_left;·intro w f;(try dsimp only at f);go_simp;try with_reducible rfl
  try simp only [Act.put,tkia,tkib,tkic]
  refine tki 1 (some 4) (v:= ?_) rfl (.inl ⟨by rfl,?_⟩) d ?_;rotate_left;·intro w f;(try dsimp only at f);go_simp;try with_reducible rfl
  try simp only [Act.put,tkia,tkib,tkic]
  refine tki 2 (some 5) (v:= ?_) rfl (.inl ⟨by rfl,?_⟩) d ?_;rotate_left;·intro w f;(try dsimp only at f);go_simp;try with_reducible rfl
  try simp only [Act.put,tkia,tkib,tkic]
  refine tki 3 (some 6) (v:= ?_) rfl (.inl ⟨by rfl,?_⟩) d ?_;rotate_left;·intro w f;(try dsimp only at f);go_simp;try with_reducible rfl
  try simp only [Act.put,tkia,tkib,tkic]
  refine wpAnyH_ready (rs:=[4]) (by kernel_rfl) (by simp) ?_
  refine AllReadyH.cons (o:=⟨some 7,_,_,_,_,_⟩) rfl (fun K T=> ?_) AllReadyH.nil
  go_simp
  go_at_call 31
  refine (G.out _).mono ?_
  rintro e w1 ⟨rfl,rfl⟩
  (try go_wp2_with fail)
  refine T.out _ _ ?_ (fun g=> ?_)
  ·exact (q.out _ (zaH _))
  clear T K
  try simp only [Act.put,tkia,tkib,tkic]
  refine tki 5 (some 8) (v:= ?_) rfl (.inl ⟨by rfl,?_⟩) g ?_;rotate_left;·intro w f;(try dsimp only at f);go_simp;try with_reducible rfl
  try simp only [Act.put,tkia,tkib,tkic]
  refine wpAnyH_done (by kernel_rfl) ?_ _
  obtain ⟨-,d1,-,-⟩:=q.out _ (zaH j)
  have U:=ypD (HT.out _ (zaH j))
  go_wp2_with fail
  refine U.out.mono ?_
  rintro e x1 ⟨rfl,V⟩
  have HX:=ypD (Z.out.trans (V.mono i))
  clear HT U V d1 q Z G
  go_wp2
  go_ret
  obtain rfl:=M.out
  exact ⟨rfl,HX.out⟩
 ·have M:Hid (res=t2):=by show _=_;rw [HF.out,if_neg O]
  have qb:(s.port==own)=false:=beq_eq_false_iff_ne.2 O
  clear HF O
  refine wp_region_held_drew (S:=fun W=>W.cell? ⟨w.heap.size,0,none⟩=some (.string ⟨s.scheme.toArray⟩)∧W.cell? ⟨w.heap.size,1,none⟩=some (.iface B D)∧W.cell? ⟨w.heap.size,2,none⟩=some (.int .i64 s.port)∧W.cell? ⟨w.heap.size,3,none⟩=some (.bool s.user)) (by kernel_rfl) ?_ (fun d=> ?_)
  ·exact (q.out _ (zaH _))
  refine tki 0 (some 3) (v:= ?_) rfl (.inl ⟨by rfl,?_⟩) d ?_;rotate_left;·intro w f;(try dsimp only at f);go_simp;try with_reducible rfl
  try simp only [Act.put,tkia,tkib,tkic]
  refine tki 1 (some 4) (v:= ?_) rfl (.inl ⟨by rfl,?_⟩) d ?_;rotate_left;·intro w f;(try dsimp only at f);go_simp;try with_reducible rfl
  try simp only [Act.put,tkia,tkib,tkic]
  refine tki 2 (some 5) (v:= ?_) rfl (.inl ⟨by rfl,?_⟩) d ?_;rotate_left;·intro w f;(try dsimp only at f);go_simp;try with_reducible rfl
  try simp only [Act.put,tkia,tkib,tkic]
  refine tki 3 (some 6) (v:= ?_) rfl (.inl ⟨by rfl,?_⟩) d ?_;rotate_left;·intro w f;(try dsimp only at f);go_simp;try with_reducible rfl
  try simp only [Act.put,tkia,tkib,tkic]
  refine wpAnyH_ready (rs:=[4]) (by kernel_rfl) (by simp) ?_
  refine AllReadyH.cons (o:=⟨some 7,_,_,_,_,_⟩) rfl (fun K T=> ?_) AllReadyH.nil
  go_simp
  go_at_call 31
  refine (G.out _).mono ?_
  rintro e w1 ⟨rfl,rfl⟩
  (try go_wp2_with fail)
  refine T.out _ _ ?_ (fun g=> ?_)
  ·exact (q.out _ (zaH _))
  clear T K
  try simp only [Act.put,tkia,tkib,tkic]
  refine tki 5 (some 8) (v:= ?_) rfl (.inl ⟨by rfl,?_⟩) g ?_;rotate_left;·intro w f;(try dsimp only at f);go_simp;try with_reducible rfl
  try simp only [Act.put,tkia,tkib,tkic]
  refine wpAnyH_done (by kernel_rfl) ?_ _
  have I:Hid (∀x,Below j.heap.size j x→x.cell? ⟨w.heap.size,0,none⟩=some (.string ⟨s.scheme.toArray⟩)∧x.cell? ⟨w.heap.size,1,none⟩=some (.iface B D)∧x.cell? ⟨w.heap.size,2,none⟩=some (.int .i64 s.port)∧x.cell? ⟨w.heap.size,3,none⟩=some (.bool s.user)):=q.out
  have X:=zaH j
  have hd:=ypD X
  clear X q
  generalize j.drew=xd at*
  have a1:=N.out
  go_wp2_with fail
  go_region_held3 (fun W=>W.cell? ⟨w.heap.size,0,none⟩=some (.string ⟨s.scheme.toArray⟩)∧W.cell? ⟨w.heap.size,1,none⟩=some (.iface B D)∧W.cell? ⟨w.heap.size,2,none⟩=some (.int .i64 s.port)∧W.cell? ⟨w.heap.size,3,none⟩=some (.bool s.user))
   (first|exact I.out _ m|exact I.out _ (zaG hd.out (zaH _)))
   (first
    |(go_simp;go_at_call 47;((with_reducible refine (HT.out _ m).mono ?_);rintro e x5 ⟨rfl,m⟩))
    |(go_simp;go_at_call 47;((with_reducible refine (HT.out _ (zaG hd.out (zaH _))).mono ?_);rintro e x5 ⟨rfl,m⟩))
    |(go_simp;go_at_call 48;((with_reducible refine (Y.out _ m).mono ?_);rintro e x5 ⟨rfl,m⟩))
    |(go_simp;go_at_call 48;((with_reducible refine (Y.out _ (zaG hd.out (zaH _))).mono ?_);rintro e x5 ⟨rfl,m⟩)))
  all_goals
   have HX:=ypD (Z.out.trans (m.mono i))
   clear HT Y m I Z G N
   go_wp2
   go_ret
   obtain rfl:=M.out
   exact ⟨rfl,HX.out⟩
theorem zuA (s:SZ) (w:World) (m: ∃f g,s.host.val= .iface f g) (i:s.host.In) (j:(zbD s.host).length≤1000) (q:0≤s.port) (o:s.port≤65535) (d:PowTab w) (e:BruTab w):
  Calls Tryz.prog 14 #[.agg s.cells] w (zdY w (zgU s)):=by
 obtain ⟨f,g,h⟩:=m
 have:=z2E s f g w h i j q o d e
 unfold SZ.cells;rw [h];exact this
theorem hold18 (d:ByteArray) (p:Option Addr) (w:World):Calls Tryz.prog 49 #[.string d,.bool true,.pointer p] w fun e w'=>(∃r,e= .returned r)∧w=w':=by
 go_enter Tryz.func49,Tryz.ntmps49
 go_wp2
 go_end0
 exact ⟨⟨_,rfl⟩,rfl⟩
theorem z2K (s:SZ) (d:TypeId) (f:Value) (w:World) (D:s.host.val= .iface d f) (O:s.host.In) (j:PowTab w) (i:BruTab w):
  Calls Tryz.prog 15 #[.agg #[.string ⟨s.scheme.toArray⟩,.iface d f,.int .i64 s.port,.bool s.user],.agg #[.string ⟨s.scheme.toArray⟩,.iface d f,.int .i64 s.port,.bool s.user]] w fun e w'=>e= .returned (.slice none 0 0)∧Below w.heap.size w w':=by
 have h1:(s.scheme==s.scheme)=true:=by simp
 have h2:(s.port==s.port)=true:=by simp
 have h3:(s.user==s.user)=true:=by simp
 have I:=ypD hold18
 have K:(w.alloc (.cells #[.string ⟨s.scheme.toArray⟩,.iface d f,.int .i64 s.port,.bool s.user] 37)).heap.size=w.heap.size+1:=by simp
 have H:((w.alloc (.cells #[.string ⟨s.scheme.toArray⟩,.iface d f,.int .i64 s.port,.bool s.user] 37)).alloc (.cells #[.string ⟨s.scheme.toArray⟩,.iface d f,.int .i64 s.port,.bool s.user] 37)).heap.size=w.heap.size+1+1:=by simp
 have U:=heap_alloc_new w (.cells #[.string ⟨s.scheme.toArray⟩,.iface d f,.int .i64 s.port,.bool s.user] 37)
 have T:=heap_alloc_new (w.alloc (.cells #[.string ⟨s.scheme.toArray⟩,.iface d f,.int .i64 s.port,.bool s.user] 37)) (.cells #[.string ⟨s.scheme.toArray⟩,.iface d f,.int .i64 s.port,.bool s.user] 37)
 have o:=heap_alloc_new ((w.alloc (.cells #[.string ⟨s.scheme.toArray⟩,.iface d f,.int .i64 s.port,.bool s.user] 37)).alloc (.cells #[.string ⟨s.scheme.toArray⟩,.iface d f,.int .i64 s.port,.bool s.user] 37)) (.cells #[.slice none 0 0] 25)
 have b0:Below w.heap.size w (w.alloc (.cells #[.string ⟨s.scheme.toArray⟩,.iface d f,.int .i64 s.port,.bool s.user] 37)):=(ypF _ w).alloc (ypE _) _
 have M:=(ypF (w.alloc (.cells #[.string ⟨s.scheme.toArray⟩,.iface d f,.int .i64 s.port,.bool s.user] 37)).heap.size (w.alloc (.cells #[.string ⟨s.scheme.toArray⟩,.iface d f,.int .i64 s.port,.bool s.user] 37))).alloc (ypE _) (.cells #[.string ⟨s.scheme.toArray⟩,.iface d f,.int .i64 s.port,.bool s.user] 37)
 have J:=(ypF ((w.alloc (.cells #[.string ⟨s.scheme.toArray⟩,.iface d f,.int .i64 s.port,.bool s.user] 37)).alloc (.cells #[.string ⟨s.scheme.toArray⟩,.iface d f,.int .i64 s.port,.bool s.user] 37)).heap.size ((w.alloc (.cells #[.string ⟨s.scheme.toArray⟩,.iface d f,.int .i64 s.port,.bool s.user] 37)).alloc (.cells #[.string ⟨s.scheme.toArray⟩,.iface d f,.int .i64 s.port,.bool s.user] 37))).alloc (ypE _) (.cells #[.slice none 0 0] 25)
 have C:=(J.block _ (by rw [H];omega)).trans ((M.block _ (by rw [K];omega)).trans U)
 have m:=(J.block _ (by rw [H,K];omega)).trans T
 have G:=zaG (zaG b0 M) J
 rw [K] at m
 rw [H] at o
 obtain ⟨N,B⟩: ∃y,y=((w.alloc (.cells #[.string ⟨s.scheme.toArray⟩,.iface d f,.int .i64 s.port,.bool s.user] 37)).alloc (.cells #[.string ⟨s.scheme.toArray⟩,.iface d f,.int .i64 s.port,.bool s.user] 37)).alloc (.cells #[.slice none 0 0] 25):=⟨_,rfl⟩
 rw [←B] at C m o G
 have HB:=ypD G
 have L:=ypD o
 have E:Hid (Calls Tryz.prog 50 #[.iface d f,.iface d f] N (zbE N true)):=by
  have h:=z1G s.host N O (zaC j G) (zaB i G)
  rw [D] at h
  exact h
 obtain ⟨Q,X,a2,Z⟩:=zcS C
 obtain ⟨Y,S,V,c3⟩:=zcS m
 have q:=ypD C
 have A:=ypD m
 clear j i O D K H U T o b0 M J C m G
 go_enter Tryz.func15,Tryz.ntmps15
 go_wp2_with fail
 rw [←B]
 clear B
 refine (I.out _ _ _).mono ?_
 rintro e w' ⟨⟨r1,rfl⟩,rfl⟩
 go_wp2_with fail
 refine E.out.mono ?_
 rintro e x1 ⟨rfl,g⟩
 have C:=(g.block _ (zaK q.out)).trans q.out
 have m:=(g.block _ (zaK A.out)).trans A.out
 have o:=(g.block _ (zaK L.out)).trans L.out
 have HX:=ypD (zaG HB.out g)
 clear Q X a2 Z Y S V c3 q A L HB g E
 obtain ⟨Q,X,a2,Z⟩:=zcS C
 obtain ⟨Y,S,V,c3⟩:=zcS m
 have k0:=zaA o 0
 clear C m o
 go_wp2_with fail
 refine (I.out _ _ _).mono ?_
 rintro e w' ⟨⟨r2,rfl⟩,rfl⟩
 go_wp2_with fail
 refine (I.out _ _ _).mono ?_
 rintro e w' ⟨⟨r3,rfl⟩,rfl⟩
 go_wp2_with fail
 refine (I.out _ _ _).mono ?_
 rintro e w' ⟨⟨r4,rfl⟩,rfl⟩
 go_wp2
 go_ret
 exact ⟨rfl,HX.out⟩
theorem zsT (s:SZ) (w:World) (m: ∃g i,s.host.val= .iface g i) (j:s.host.In) (d:PowTab w) (f:BruTab w):
  Calls Tryz.prog 15 #[.agg s.cells,.agg s.cells] w fun e w'=>e= .returned (.slice none 0 0)∧Below w.heap.size w w':=by
 obtain ⟨g,i,h⟩:=m
 have:=z2K s g i w h j d f
 unfold SZ.cells;rw [h];exact this
end
end Go.Proofs.YtegmcmgndllmaaaGreatDoor
