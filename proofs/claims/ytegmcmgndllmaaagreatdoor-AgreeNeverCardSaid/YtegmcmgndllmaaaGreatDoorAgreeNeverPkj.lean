/-
  What the law AgreeNever leans on, and its walk (35 of 42).
-/
import Derived.Deep.RegionHeld3
import Derived.BigQuiet
import Derived.Test.YtegmcmgndllmaaaGreatDoorAgreeNeverPkh
import Derived.Test.YtegmcmgndllmaaaGreatDoorAgreeNeverPkT
import Derived.Test.YtegmcmgndllmaaaGreatDoorAgreeNeverPki
namespace Go.Proofs.YtegmcmgndllmaaaGreatDoor
set_option maxRecDepth 100000
set_option maxHeartbeats 16000000
theorem tkj {P : Program} {m : Region.Mode} {f : Array Oper} {Q : Exit → Act → World → Prop} {S : World → Prop} (i : Nat) (s : Option Nat) {o : Op} {B : TypeId} {j : String} {A : _} {C : _} {v : Value} {fuel : Nat} {d : Array Bool} {a : Act} {w : World} (hi : f[i]? = some ⟨s, o, B, j, A, C⟩)
 (J : YieldsIf P f S ⟨s, o, B, j, A, C⟩ v a) (E : S w)
 (h : wpAnyH P m f Q S fuel (d.setIfInBounds i true) (a.put s v) w)
 (G : Region.noSelect f = true := by kernel_rfl) (D : Region.free m f d i = true := by kernel_rfl) (I : (Region.ready m f d).contains i = true := by kernel_rfl)
 (H : ∀ c a w, Q (.panic c) (a.put s v) w → Q (.panic c) a w := by exact fun _ _ _ h => h) : wpAnyH P m f Q S (fuel + 1) d a w :=
 wpAnyH_take hi G D I H J E h
theorem tkja {d : Type _} (l : List d) (i : Nat) (a : d) : l.toArray.setIfInBounds i a = (l.set i a).toArray := List.setIfInBounds_toArray ..
theorem tkjb {d : Type _} (x y : d) (l : List d) : (x :: l).set 0 y = y :: l := rfl
theorem tkjc {d : Type _} (x y : d) (l : List d) (n : Nat) : (x :: l).set (n + 1) y = x :: l.set n y := rfl
abbrev ylV := @Lib.hid
abbrev ylW := @Nat.le_refl
abbrev ylX := @Go.RowKit.Below.refl
section
open Go.RowKit
theorem znD (u:UZ) (pv:Value) (w:World):
  Calls Tryz.prog 16 #[.agg (u.cells pv)] w fun e w'=>e= .returned (.int .i64 (effZ u))∧Below w.heap.size w w':=by
 obtain ⟨B,d⟩: ∃y,y=w.alloc (.cells (u.cells pv) 27):=⟨_,rfl⟩
 have j:Below w.heap.size w B:=by rw [d];exact zcD w _
 have A:UB B w.heap.size u pv:=by rw [d];exact UB.new w u pv
 have C:=ylV j
 have i:=ylV (fun W=>zgD u.scheme W)
 have o:Hid (effZ u=if u.port= -1 then ownZ u.scheme else u.port):=rfl
 obtain ⟨H,-,-,-,G,-⟩:=A.all
 generalize effZ u=res at*
 simp only [UZ.cells] at d ⊢
 clear A j
 generalize D:u.port=pt at*
 clear D
 by_cases m:pt= -1
 ·have f:Hid (res=ownZ u.scheme):=by show _=_;rw [o.out,if_pos m]
  subst m
  clear o
  go_enter Tryz.func16,Tryz.ntmps16
  go_upto_region 1 with fail
  rw [←d]
  clear d
  go_wp2_with fail
  refine (i.out _).mono ?_
  rintro e w' ⟨rfl,rfl⟩
  go_wp2
  go_ret
  obtain rfl:=f.out
  exact ⟨rfl,C.out⟩
 ·have f:Hid (res=pt):=by show _=_;rw [o.out,if_neg m]
  have E:(pt==(-1:Int))=false:=beq_eq_false_iff_ne.2 m
  clear o m i
  go_enter Tryz.func16,Tryz.ntmps16
  go_upto_region 1 with fail
  rw [←d]
  clear d
  go_wp2
  go_ret
  obtain rfl:=f.out
  exact ⟨rfl,C.out⟩
theorem zkZ {x:World} {g k:Nat} (h:k≠g) (j i d f:Value):(put4 x g j i d f).heap[k]? =x.heap[k]? :=by
 unfold put4
 rw [zaZ h,zaZ h,zaZ h,zaZ h]
theorem zqH (u:UZ) (pa:Option Addr) (A m:Nat) (D:TypeId) (E:Value) (w:World) (V:u.host.val= .iface D E) {c:UInt8} {r q:List UInt8} (Z:u.user=c::r) (qa:u.pass=q):
  Calls Tryz.prog 13 #[.agg (u.cells (.slice pa A m))] w fun e w'=>e= .returned (.agg #[.string ⟨u.scheme.toArray⟩,.iface D E,.int .i64 (effZ u),.bool true])∧Below w.heap.size w w':=by
 have H:u.cells (.slice pa A m)= #[.string ⟨u.scheme.toArray⟩,.string ⟨(c::r).toArray⟩,.string ⟨q.toArray⟩,.iface D E,.int .i64 u.port,.slice pa A m,.string ⟨u.query.toArray⟩,.bool u.hasQ,.string ⟨u.frag.toArray⟩,.bool u.hasF]:=by unfold UZ.cells;rw [V,Z,qa]
 have j:((w.alloc (.cells (u.cells (.slice pa A m)) 27)).alloc (.cells #[.string ⟨#[]⟩,.nilIface,.int .i64 0,.bool false] 37)).heap[w.heap.size]? =some (.cells (u.cells (.slice pa A m)) 27):=(((ylX _ (w.alloc (.cells (u.cells (.slice pa A m)) 27))).alloc (ylW _) _).block _ (by simp)).trans (heap_alloc_new w _)
 have s0:(w.alloc (.cells (u.cells (.slice pa A m)) 27)).heap.size=w.heap.size+1:=by simp
 have B:=heap_alloc_new (w.alloc (.cells (u.cells (.slice pa A m)) 27)) (.cells #[.string ⟨#[]⟩,.nilIface,.int .i64 0,.bool false] 37)
 rw [s0] at B
 have N:Below w.heap.size w ((w.alloc (.cells (u.cells (.slice pa A m)) 27)).alloc (.cells #[.string ⟨#[]⟩,.nilIface,.int .i64 0,.bool false] 37)):=((ylX _ w).alloc (ylW _) _).alloc (by simp) _
 obtain ⟨G,I⟩: ∃y,y=(w.alloc (.cells (u.cells (.slice pa A m)) 27)).alloc (.cells #[.string ⟨#[]⟩,.nilIface,.int .i64 0,.bool false] 37):=⟨_,rfl⟩
 rw [←I] at j B N
 have HB:=ylV N
 have M: ∀y:World,y.heap[w.heap.size]? =some (.cells (u.cells (.slice pa A m)) 27)→y.cell? ⟨w.heap.size,0,none⟩=some (.string ⟨u.scheme.toArray⟩)∧y.cell? ⟨w.heap.size,1,none⟩=some (.string ⟨(c::r).toArray⟩)∧y.cell? ⟨w.heap.size,2,none⟩=some (.string ⟨q.toArray⟩)∧y.cell? ⟨w.heap.size,3,none⟩=some (.iface D E)∧y.cell? ⟨w.heap.size,4,none⟩=some (.int .i64 u.port)∧y.cell? ⟨w.heap.size,5,none⟩=some (.slice pa A m)∧y.cell? ⟨w.heap.size,6,none⟩=some (.string ⟨u.query.toArray⟩)∧y.cell? ⟨w.heap.size,7,none⟩=some (.bool u.hasQ)∧y.cell? ⟨w.heap.size,8,none⟩=some (.string ⟨u.frag.toArray⟩)∧y.cell? ⟨w.heap.size,9,none⟩=some (.bool u.hasF):=fun y h=>by
  rw [H] at h
  exact ⟨zaB h 0,zaB h 1,zaB h 2,zaB h 3,zaB h 4,zaB h 5,zaB h 6,zaB h 7,zaB h 8,zaB h 9⟩
 have Y:Hid (∀x,Below G.heap.size G x→x.cell? ⟨w.heap.size,0,none⟩=some (.string ⟨u.scheme.toArray⟩)∧x.cell? ⟨w.heap.size,1,none⟩=some (.string ⟨(c::r).toArray⟩)∧x.cell? ⟨w.heap.size,2,none⟩=some (.string ⟨q.toArray⟩)∧x.cell? ⟨w.heap.size,3,none⟩=some (.iface D E)∧x.cell? ⟨w.heap.size,4,none⟩=some (.int .i64 u.port)∧x.cell? ⟨w.heap.size,5,none⟩=some (.slice pa A m)∧x.cell? ⟨w.heap.size,6,none⟩=some (.string ⟨u.query.toArray⟩)∧x.cell? ⟨w.heap.size,7,none⟩=some (.bool u.hasQ)∧x.cell? ⟨w.heap.size,8,none⟩=some (.string ⟨u.frag.toArray⟩)∧x.cell? ⟨w.heap.size,9,none⟩=some (.bool u.hasF)):=fun x hb=>M x ((hb.block _ (zaD j)).trans j)
 have O: ∀x,Below G.heap.size G x→ ∀y,y=put4 x (w.heap.size+1) (.string ⟨u.scheme.toArray⟩) (.iface D E) (.int .i64 (effZ u)) (.bool true)→y.cell? ⟨w.heap.size,0,none⟩=some (.string ⟨u.scheme.toArray⟩)∧y.cell? ⟨w.heap.size,1,none⟩=some (.string ⟨(c::r).toArray⟩)∧y.cell? ⟨w.heap.size,2,none⟩=some (.string ⟨q.toArray⟩)∧y.cell? ⟨w.heap.size,3,none⟩=some (.iface D E)∧y.cell? ⟨w.heap.size,4,none⟩=some (.int .i64 u.port)∧y.cell? ⟨w.heap.size,5,none⟩=some (.slice pa A m)∧y.cell? ⟨w.heap.size,6,none⟩=some (.string ⟨u.query.toArray⟩)∧y.cell? ⟨w.heap.size,7,none⟩=some (.bool u.hasQ)∧y.cell? ⟨w.heap.size,8,none⟩=some (.string ⟨u.frag.toArray⟩)∧y.cell? ⟨w.heap.size,9,none⟩=some (.bool u.hasF):=fun x hb y hy=>by
  subst hy
  exact M _ ((zkZ (by omega) _ _ _ _).trans ((hb.block _ (zaD j)).trans j))
 unfold put4 at O
 have qe:=ylV O
 have J:=ylV (fun x (hb:Below G.heap.size G x)=>(hb.block _ (zaD B)).trans B)
 have qd:Hid (∀W,Below G.heap.size G W→Calls Tryz.prog 16 #[.agg #[.string ⟨u.scheme.toArray⟩,.string ⟨(c::r).toArray⟩,.string ⟨q.toArray⟩,.iface D E,.int .i64 u.port,.slice pa A m,.string ⟨u.query.toArray⟩,.bool u.hasQ,.string ⟨u.frag.toArray⟩,.bool u.hasF]] W fun e w'=>e= .returned (.int .i64 (effZ u))∧Below G.heap.size G w'):=fun W hW=>by
  have h:=znD u (.slice pa A m) W
  rw [H] at h
  exact h.mono (fun e w' h=>⟨h.1,zaJ hW h.2⟩)
 rw [H] at I ⊢
 clear j B N O s0 V H M Z qa
 go_enter Tryz.func13,Tryz.ntmps13
 go_wp2_with fail
 rw [←I]
 clear I
 refine wp_region_held_drew (S:=fun W=>W.cell? ⟨w.heap.size,0,none⟩=some (.string ⟨u.scheme.toArray⟩)∧W.cell? ⟨w.heap.size,1,none⟩=some (.string ⟨(c::r).toArray⟩)∧W.cell? ⟨w.heap.size,2,none⟩=some (.string ⟨q.toArray⟩)∧W.cell? ⟨w.heap.size,3,none⟩=some (.iface D E)∧W.cell? ⟨w.heap.size,4,none⟩=some (.int .i64 u.port)∧W.cell? ⟨w.heap.size,5,none⟩=some (.slice pa A m)∧W.cell? ⟨w.heap.size,6,none⟩=some (.string ⟨u.query.toArray⟩)∧W.cell? ⟨w.heap.size,7,none⟩=some (.bool u.hasQ)∧W.cell? ⟨w.heap.size,8,none⟩=some (.string ⟨u.frag.toArray⟩)∧W.cell? ⟨w.heap.size,9,none⟩=some (.bool u.hasF)) (by kernel_rfl) ?_ (fun f=> ?_)
 ·exact (Y.out _ (zaW _))
 refine tkj 0 (some 3) (v:= ?_) rfl (.inl ⟨by rfl,?_⟩) f ?_;rotate_left;·intro w d;(try dsimp only at d);go_simp;try with_reducible rfl
 try simp only [Act.put,tkja,tkjb,tkjc]
 refine tkj 1 (some 4) (v:= ?_) rfl (.inl ⟨by rfl,?_⟩) f ?_;rotate_left;·intro w d;(try dsimp only at d);go_simp;try with_reducible rfl
 try simp only [Act.put,tkja,tkjb,tkjc]
 refine tkj 2 (some 5) (v:= ?_) rfl (.inl ⟨by rfl,?_⟩) f ?_;rotate_left;·intro w d;(try dsimp only at d);go_simp;try with_reducible rfl
 try simp only [Act.put,tkja,tkjb,tkjc]
 refine tkj 3 (some 6) (v:= ?_) rfl (.inl ⟨by rfl,?_⟩) f ?_;rotate_left;·intro w d;(try dsimp only at d);go_simp;try with_reducible rfl
 try simp only [Act.put,tkja,tkjb,tkjc]
 refine tkj 4 (some 7) (v:= ?_) rfl (.inl ⟨by rfl,?_⟩) f ?_;rotate_left;·intro w d;(try dsimp only at d);go_simp;try with_reducible rfl
 try simp only [Act.put,tkja,tkjb,tkjc]
 refine tkj 6 (some 9) (v:= ?_) rfl (.inl ⟨by rfl,?_⟩) f ?_;rotate_left;·intro w d;(try dsimp only at d);go_simp;try with_reducible rfl
 try simp only [Act.put,tkja,tkjb,tkjc]
 refine tkj 7 (some 10) (v:= ?_) rfl (.inl ⟨by rfl,?_⟩) f ?_;rotate_left;·intro w d;(try dsimp only at d);go_simp;try with_reducible rfl
 try simp only [Act.put,tkja,tkjb,tkjc]
 refine tkj 8 (some 11) (v:= ?_) rfl (.inl ⟨by rfl,?_⟩) f ?_;rotate_left;·intro w d;(try dsimp only at d);go_simp;try with_reducible rfl
 try simp only [Act.put,tkja,tkjb,tkjc]
 refine wpAnyH_ready (rs:=[5]) (by kernel_rfl) (by simp) ?_
 refine AllReadyH.cons (o:=⟨some 8,_,_,_,_,_⟩) rfl (fun K X=> ?_) AllReadyH.nil
 go_simp
 go_at_call 16
 refine (qd.out _ (zaW _)).mono ?_
 rintro e x1 ⟨rfl,C⟩
 obtain ⟨k0,k1,k2,k3⟩:=zcC (J.out _ C)
 have kf:=zaT (J.out _ C)
 (try go_wp2_with fail)
 refine X.out _ _ ?_ (fun i=> ?_)
 ·exact (Y.out _ C)
 clear X K
 try simp only [Act.put,tkja,tkjb,tkjc]
 refine tkj 9 (some 12) (v:= ?_) rfl (.inl ⟨by rfl,?_⟩) i ?_;rotate_left;·intro w d;(try dsimp only at d);go_simp;try with_reducible rfl
 try simp only [Act.put,tkja,tkjb,tkjc]
 refine tkj 10 (some 13) (v:=undef) rfl (.inr ⟨by rfl,rfl⟩) i ?_
 try simp only [Act.put,tkja,tkjb,tkjc]
 refine tkj 11 (some 14) (v:=undef) rfl (.inr ⟨by rfl,rfl⟩) i ?_
 try simp only [Act.put,tkja,tkjb,tkjc]
 refine tkj 12 (some 15) (v:=undef) rfl (.inr ⟨by rfl,rfl⟩) i ?_
 try simp only [Act.put,tkja,tkjb,tkjc]
 refine tkj 13 (some 16) (v:= ?_) rfl (.inl ⟨by rfl,?_⟩) i ?_;rotate_left;·intro w d;(try dsimp only at d);go_simp;try with_reducible rfl
 try simp only [Act.put,tkja,tkjb,tkjc]
 refine tkj 14 (some 17) (v:= ?_) rfl (.inl ⟨by rfl,?_⟩) i ?_;rotate_left;·intro w d;(try dsimp only at d);go_simp;try with_reducible rfl
 try simp only [Act.put,tkja,tkjb,tkjc]
 refine wpAnyH_ready (rs:=[15]) (by kernel_rfl) (by simp) ?_
 refine AllReadyH.cons (o:=⟨none,_,_,_,_,_⟩) rfl (fun K X=> ?_) AllReadyH.nil
 go_simp
 refine X.out _ _ ?_ (fun qb=> ?_)
 ·exact (qe.out _ C _ rfl)
 clear X K
 try simp only [Act.put,tkja,tkjb,tkjc]
 refine wpAnyH_done (by kernel_rfl) ?_ _
 have Q:=zbP (zaJ HB.out C) (show w.heap.size≤w.heap.size+1 by omega) (.string ⟨u.scheme.toArray⟩) (.iface D E) (.int .i64 (effZ u)) (.bool true)
 have U:=zbR (J.out _ C) (.string ⟨u.scheme.toArray⟩) (.iface D E) (.int .i64 (effZ u)) (.bool true)
 unfold put4 at Q U
 have qc:=ylV Q
 have qf:=ylV U
 clear Q U
 go_wp2
 obtain ⟨e0,e1,e2,e3⟩:=qf.out
 refine bodyPost_ret (v:= .agg #[.string ⟨u.scheme.toArray⟩,.iface D E,.int .i64 (effZ u),.bool true]) (by simp [results,Tryz.results13,go_sem,e0,e1,e2,e3]) rfl ?_
 exact ⟨rfl,qc.out⟩
theorem zpV (u:UZ) (pa:Option Addr) (A m:Nat) (D:TypeId) (E:Value) (w:World) (V:u.host.val= .iface D E) {c:UInt8} {r:List UInt8} (Z:u.user=[]) (qa:u.pass=c::r):
  Calls Tryz.prog 13 #[.agg (u.cells (.slice pa A m))] w fun e w'=>e= .returned (.agg #[.string ⟨u.scheme.toArray⟩,.iface D E,.int .i64 (effZ u),.bool true])∧Below w.heap.size w w':=by
 have H:u.cells (.slice pa A m)= #[.string ⟨u.scheme.toArray⟩,.string ⟨#[]⟩,.string ⟨(c::r).toArray⟩,.iface D E,.int .i64 u.port,.slice pa A m,.string ⟨u.query.toArray⟩,.bool u.hasQ,.string ⟨u.frag.toArray⟩,.bool u.hasF]:=by unfold UZ.cells;rw [V,Z,qa]
 have j:((w.alloc (.cells (u.cells (.slice pa A m)) 27)).alloc (.cells #[.string ⟨#[]⟩,.nilIface,.int .i64 0,.bool false] 37)).heap[w.heap.size]? =some (.cells (u.cells (.slice pa A m)) 27):=(((ylX _ (w.alloc (.cells (u.cells (.slice pa A m)) 27))).alloc (ylW _) _).block _ (by simp)).trans (heap_alloc_new w _)
 have s0:(w.alloc (.cells (u.cells (.slice pa A m)) 27)).heap.size=w.heap.size+1:=by simp
 have B:=heap_alloc_new (w.alloc (.cells (u.cells (.slice pa A m)) 27)) (.cells #[.string ⟨#[]⟩,.nilIface,.int .i64 0,.bool false] 37)
 rw [s0] at B
 have N:Below w.heap.size w ((w.alloc (.cells (u.cells (.slice pa A m)) 27)).alloc (.cells #[.string ⟨#[]⟩,.nilIface,.int .i64 0,.bool false] 37)):=((ylX _ w).alloc (ylW _) _).alloc (by simp) _
 obtain ⟨G,I⟩: ∃y,y=(w.alloc (.cells (u.cells (.slice pa A m)) 27)).alloc (.cells #[.string ⟨#[]⟩,.nilIface,.int .i64 0,.bool false] 37):=⟨_,rfl⟩
 rw [←I] at j B N
 have HB:=ylV N
 have M: ∀y:World,y.heap[w.heap.size]? =some (.cells (u.cells (.slice pa A m)) 27)→y.cell? ⟨w.heap.size,0,none⟩=some (.string ⟨u.scheme.toArray⟩)∧y.cell? ⟨w.heap.size,1,none⟩=some (.string ⟨#[]⟩)∧y.cell? ⟨w.heap.size,2,none⟩=some (.string ⟨(c::r).toArray⟩)∧y.cell? ⟨w.heap.size,3,none⟩=some (.iface D E)∧y.cell? ⟨w.heap.size,4,none⟩=some (.int .i64 u.port)∧y.cell? ⟨w.heap.size,5,none⟩=some (.slice pa A m)∧y.cell? ⟨w.heap.size,6,none⟩=some (.string ⟨u.query.toArray⟩)∧y.cell? ⟨w.heap.size,7,none⟩=some (.bool u.hasQ)∧y.cell? ⟨w.heap.size,8,none⟩=some (.string ⟨u.frag.toArray⟩)∧y.cell? ⟨w.heap.size,9,none⟩=some (.bool u.hasF):=fun y h=>by
  rw [H] at h
  exact ⟨zaB h 0,zaB h 1,zaB h 2,zaB h 3,zaB h 4,zaB h 5,zaB h 6,zaB h 7,zaB h 8,zaB h 9⟩
 have Y:Hid (∀x,Below G.heap.size G x→x.cell? ⟨w.heap.size,0,none⟩=some (.string ⟨u.scheme.toArray⟩)∧x.cell? ⟨w.heap.size,1,none⟩=some (.string ⟨#[]⟩)∧x.cell? ⟨w.heap.size,2,none⟩=some (.string ⟨(c::r).toArray⟩)∧x.cell? ⟨w.heap.size,3,none⟩=some (.iface D E)∧x.cell? ⟨w.heap.size,4,none⟩=some (.int .i64 u.port)∧x.cell? ⟨w.heap.size,5,none⟩=some (.slice pa A m)∧x.cell? ⟨w.heap.size,6,none⟩=some (.string ⟨u.query.toArray⟩)∧x.cell? ⟨w.heap.size,7,none⟩=some (.bool u.hasQ)∧x.cell? ⟨w.heap.size,8,none⟩=some (.string ⟨u.frag.toArray⟩)∧x.cell? ⟨w.heap.size,9,none⟩=some (.bool u.hasF)):=fun x hb=>M x ((hb.block _ (zaD j)).trans j)
 have O: ∀x,Below G.heap.size G x→ ∀y,y=put4 x (w.heap.size+1) (.string ⟨u.scheme.toArray⟩) (.iface D E) (.int .i64 (effZ u)) (.bool true)→y.cell? ⟨w.heap.size,0,none⟩=some (.string ⟨u.scheme.toArray⟩)∧y.cell? ⟨w.heap.size,1,none⟩=some (.string ⟨#[]⟩)∧y.cell? ⟨w.heap.size,2,none⟩=some (.string ⟨(c::r).toArray⟩)∧y.cell? ⟨w.heap.size,3,none⟩=some (.iface D E)∧y.cell? ⟨w.heap.size,4,none⟩=some (.int .i64 u.port)∧y.cell? ⟨w.heap.size,5,none⟩=some (.slice pa A m)∧y.cell? ⟨w.heap.size,6,none⟩=some (.string ⟨u.query.toArray⟩)∧y.cell? ⟨w.heap.size,7,none⟩=some (.bool u.hasQ)∧y.cell? ⟨w.heap.size,8,none⟩=some (.string ⟨u.frag.toArray⟩)∧y.cell? ⟨w.heap.size,9,none⟩=some (.bool u.hasF):=fun x hb y hy=>by
  subst hy
  exact M _ ((zkZ (by omega) _ _ _ _).trans ((hb.block _ (zaD j)).trans j))
 unfold put4 at O
 have qe:=ylV O
 have J:=ylV (fun x (hb:Below G.heap.size G x)=>(hb.block _ (zaD B)).trans B)
 have qd:Hid (∀W,Below G.heap.size G W→Calls Tryz.prog 16 #[.agg #[.string ⟨u.scheme.toArray⟩,.string ⟨#[]⟩,.string ⟨(c::r).toArray⟩,.iface D E,.int .i64 u.port,.slice pa A m,.string ⟨u.query.toArray⟩,.bool u.hasQ,.string ⟨u.frag.toArray⟩,.bool u.hasF]] W fun e w'=>e= .returned (.int .i64 (effZ u))∧Below G.heap.size G w'):=fun W hW=>by
  have h:=znD u (.slice pa A m) W
  rw [H] at h
  exact h.mono (fun e w' h=>⟨h.1,zaJ hW h.2⟩)
 rw [H] at I ⊢
 clear j B N O s0 V H M Z qa
 go_enter Tryz.func13,Tryz.ntmps13
 go_wp2_with fail
 rw [←I]
 clear I
 refine wp_region_held_drew (S:=fun W=>W.cell? ⟨w.heap.size,0,none⟩=some (.string ⟨u.scheme.toArray⟩)∧W.cell? ⟨w.heap.size,1,none⟩=some (.string ⟨#[]⟩)∧W.cell? ⟨w.heap.size,2,none⟩=some (.string ⟨(c::r).toArray⟩)∧W.cell? ⟨w.heap.size,3,none⟩=some (.iface D E)∧W.cell? ⟨w.heap.size,4,none⟩=some (.int .i64 u.port)∧W.cell? ⟨w.heap.size,5,none⟩=some (.slice pa A m)∧W.cell? ⟨w.heap.size,6,none⟩=some (.string ⟨u.query.toArray⟩)∧W.cell? ⟨w.heap.size,7,none⟩=some (.bool u.hasQ)∧W.cell? ⟨w.heap.size,8,none⟩=some (.string ⟨u.frag.toArray⟩)∧W.cell? ⟨w.heap.size,9,none⟩=some (.bool u.hasF)) (by kernel_rfl) ?_ (fun f=> ?_)
 ·exact (Y.out _ (zaW _))
 refine tkj 0 (some 3) (v:= ?_) rfl (.inl ⟨by rfl,?_⟩) f ?_;rotate_left;·intro w d;(try dsimp only at d);go_simp;try with_reducible rfl
 try simp only [Act.put,tkja,tkjb,tkjc]
 refine tkj 1 (some 4) (v:= ?_) rfl (.inl ⟨by rfl,?_⟩) f ?_;rotate_left;·intro w d;(try dsimp only at d);go_simp;try with_reducible rfl
 try simp only [Act.put,tkja,tkjb,tkjc]
 refine tkj 2 (some 5) (v:= ?_) rfl (.inl ⟨by rfl,?_⟩) f ?_;rotate_left;·intro w d;(try dsimp only at d);go_simp;try with_reducible rfl
 try simp only [Act.put,tkja,tkjb,tkjc]
 refine tkj 3 (some 6) (v:= ?_) rfl (.inl ⟨by rfl,?_⟩) f ?_;rotate_left;·intro w d;(try dsimp only at d);go_simp;try with_reducible rfl
 try simp only [Act.put,tkja,tkjb,tkjc]
 refine tkj 4 (some 7) (v:= ?_) rfl (.inl ⟨by rfl,?_⟩) f ?_;rotate_left;·intro w d;(try dsimp only at d);go_simp;try with_reducible rfl
 try simp only [Act.put,tkja,tkjb,tkjc]
 refine tkj 6 (some 9) (v:= ?_) rfl (.inl ⟨by rfl,?_⟩) f ?_;rotate_left;·intro w d;(try dsimp only at d);go_simp;try with_reducible rfl
 try simp only [Act.put,tkja,tkjb,tkjc]
 refine tkj 7 (some 10) (v:= ?_) rfl (.inl ⟨by rfl,?_⟩) f ?_;rotate_left;·intro w d;(try dsimp only at d);go_simp;try with_reducible rfl
 try simp only [Act.put,tkja,tkjb,tkjc]
 refine tkj 8 (some 11) (v:= ?_) rfl (.inl ⟨by rfl,?_⟩) f ?_;rotate_left;·intro w d;(try dsimp only at d);go_simp;try with_reducible rfl
 try simp only [Act.put,tkja,tkjb,tkjc]
 refine wpAnyH_ready (rs:=[5]) (by kernel_rfl) (by simp) ?_
 refine AllReadyH.cons (o:=⟨some 8,_,_,_,_,_⟩) rfl (fun K X=> ?_) AllReadyH.nil
 go_simp
 go_at_call 16
 refine (qd.out _ (zaW _)).mono ?_
 rintro e x1 ⟨rfl,C⟩
 obtain ⟨k0,k1,k2,k3⟩:=zcC (J.out _ C)
 have kf:=zaT (J.out _ C)
 (try go_wp2_with fail)
 refine X.out _ _ ?_ (fun i=> ?_)
 ·exact (Y.out _ C)
 clear X K
 try simp only [Act.put,tkja,tkjb,tkjc]
 refine tkj 9 (some 12) (v:= ?_) rfl (.inl ⟨by rfl,?_⟩) i ?_;rotate_left;·intro w d;(try dsimp only at d);go_simp;try with_reducible rfl
 try simp only [Act.put,tkja,tkjb,tkjc]
 refine tkj 10 (some 13) (v:= ?_) rfl (.inl ⟨by rfl,?_⟩) i ?_;rotate_left;·intro w d;(try dsimp only at d);go_simp;try with_reducible rfl
 try simp only [Act.put,tkja,tkjb,tkjc]
 refine tkj 11 (some 14) (v:= ?_) rfl (.inl ⟨by rfl,?_⟩) i ?_;rotate_left;·intro w d;(try dsimp only at d);go_simp;try with_reducible rfl
 try simp only [Act.put,tkja,tkjb,tkjc]
 refine tkj 12 (some 15) (v:= ?_) rfl (.inl ⟨by rfl,?_⟩) i ?_;rotate_left;·intro w d;(try dsimp only at d);go_simp;try with_reducible rfl
 try simp only [Act.put,tkja,tkjb,tkjc]
 refine tkj 13 (some 16) (v:= ?_) rfl (.inl ⟨by rfl,?_⟩) i ?_;rotate_left;·intro w d;(try dsimp only at d);go_simp;try with_reducible rfl
 try simp only [Act.put,tkja,tkjb,tkjc]
 refine tkj 14 (some 17) (v:= ?_) rfl (.inl ⟨by rfl,?_⟩) i ?_;rotate_left;·intro w d;(try dsimp only at d);go_simp;try with_reducible rfl
 try simp only [Act.put,tkja,tkjb,tkjc]
 refine wpAnyH_ready (rs:=[15]) (by kernel_rfl) (by simp) ?_
 refine AllReadyH.cons (o:=⟨none,_,_,_,_,_⟩) rfl (fun K X=> ?_) AllReadyH.nil
 go_simp
 refine X.out _ _ ?_ (fun qb=> ?_)
 ·exact (qe.out _ C _ rfl)
 clear X K
 try simp only [Act.put,tkja,tkjb,tkjc]
 refine wpAnyH_done (by kernel_rfl) ?_ _
 have Q:=zbP (zaJ HB.out C) (show w.heap.size≤w.heap.size+1 by omega) (.string ⟨u.scheme.toArray⟩) (.iface D E) (.int .i64 (effZ u)) (.bool true)
 have U:=zbR (J.out _ C) (.string ⟨u.scheme.toArray⟩) (.iface D E) (.int .i64 (effZ u)) (.bool true)
 unfold put4 at Q U
 have qc:=ylV Q
 have qf:=ylV U
 clear Q U
 go_wp2
 obtain ⟨e0,e1,e2,e3⟩:=qf.out
 refine bodyPost_ret (v:= .agg #[.string ⟨u.scheme.toArray⟩,.iface D E,.int .i64 (effZ u),.bool true]) (by simp [results,Tryz.results13,go_sem,e0,e1,e2,e3]) rfl ?_
 exact ⟨rfl,qc.out⟩
theorem zqG (u:UZ) (pa:Option Addr) (A m:Nat) (D:TypeId) (E:Value) (w:World) (V:u.host.val= .iface D E) (Z:u.user=[]) (qa:u.pass=[]):
  Calls Tryz.prog 13 #[.agg (u.cells (.slice pa A m))] w fun e w'=>e= .returned (.agg #[.string ⟨u.scheme.toArray⟩,.iface D E,.int .i64 (effZ u),.bool false])∧Below w.heap.size w w':=by
 have H:u.cells (.slice pa A m)= #[.string ⟨u.scheme.toArray⟩,.string ⟨#[]⟩,.string ⟨#[]⟩,.iface D E,.int .i64 u.port,.slice pa A m,.string ⟨u.query.toArray⟩,.bool u.hasQ,.string ⟨u.frag.toArray⟩,.bool u.hasF]:=by unfold UZ.cells;rw [V,Z,qa]
 have j:((w.alloc (.cells (u.cells (.slice pa A m)) 27)).alloc (.cells #[.string ⟨#[]⟩,.nilIface,.int .i64 0,.bool false] 37)).heap[w.heap.size]? =some (.cells (u.cells (.slice pa A m)) 27):=(((ylX _ (w.alloc (.cells (u.cells (.slice pa A m)) 27))).alloc (ylW _) _).block _ (by simp)).trans (heap_alloc_new w _)
 have s0:(w.alloc (.cells (u.cells (.slice pa A m)) 27)).heap.size=w.heap.size+1:=by simp
 have B:=heap_alloc_new (w.alloc (.cells (u.cells (.slice pa A m)) 27)) (.cells #[.string ⟨#[]⟩,.nilIface,.int .i64 0,.bool false] 37)
 rw [s0] at B
 have N:Below w.heap.size w ((w.alloc (.cells (u.cells (.slice pa A m)) 27)).alloc (.cells #[.string ⟨#[]⟩,.nilIface,.int .i64 0,.bool false] 37)):=((ylX _ w).alloc (ylW _) _).alloc (by simp) _
 obtain ⟨G,I⟩: ∃y,y=(w.alloc (.cells (u.cells (.slice pa A m)) 27)).alloc (.cells #[.string ⟨#[]⟩,.nilIface,.int .i64 0,.bool false] 37):=⟨_,rfl⟩
 rw [←I] at j B N
 have HB:=ylV N
 have M: ∀y:World,y.heap[w.heap.size]? =some (.cells (u.cells (.slice pa A m)) 27)→y.cell? ⟨w.heap.size,0,none⟩=some (.string ⟨u.scheme.toArray⟩)∧y.cell? ⟨w.heap.size,1,none⟩=some (.string ⟨#[]⟩)∧y.cell? ⟨w.heap.size,2,none⟩=some (.string ⟨#[]⟩)∧y.cell? ⟨w.heap.size,3,none⟩=some (.iface D E)∧y.cell? ⟨w.heap.size,4,none⟩=some (.int .i64 u.port)∧y.cell? ⟨w.heap.size,5,none⟩=some (.slice pa A m)∧y.cell? ⟨w.heap.size,6,none⟩=some (.string ⟨u.query.toArray⟩)∧y.cell? ⟨w.heap.size,7,none⟩=some (.bool u.hasQ)∧y.cell? ⟨w.heap.size,8,none⟩=some (.string ⟨u.frag.toArray⟩)∧y.cell? ⟨w.heap.size,9,none⟩=some (.bool u.hasF):=fun y h=>by
  rw [H] at h
  exact ⟨zaB h 0,zaB h 1,zaB h 2,zaB h 3,zaB h 4,zaB h 5,zaB h 6,zaB h 7,zaB h 8,zaB h 9⟩
 have Y:Hid (∀x,Below G.heap.size G x→x.cell? ⟨w.heap.size,0,none⟩=some (.string ⟨u.scheme.toArray⟩)∧x.cell? ⟨w.heap.size,1,none⟩=some (.string ⟨#[]⟩)∧x.cell? ⟨w.heap.size,2,none⟩=some (.string ⟨#[]⟩)∧x.cell? ⟨w.heap.size,3,none⟩=some (.iface D E)∧x.cell? ⟨w.heap.size,4,none⟩=some (.int .i64 u.port)∧x.cell? ⟨w.heap.size,5,none⟩=some (.slice pa A m)∧x.cell? ⟨w.heap.size,6,none⟩=some (.string ⟨u.query.toArray⟩)∧x.cell? ⟨w.heap.size,7,none⟩=some (.bool u.hasQ)∧x.cell? ⟨w.heap.size,8,none⟩=some (.string ⟨u.frag.toArray⟩)∧x.cell? ⟨w.heap.size,9,none⟩=some (.bool u.hasF)):=fun x hb=>M x ((hb.block _ (zaD j)).trans j)
 have O: ∀x,Below G.heap.size G x→ ∀y,y=put4 x (w.heap.size+1) (.string ⟨u.scheme.toArray⟩) (.iface D E) (.int .i64 (effZ u)) (.bool false)→y.cell? ⟨w.heap.size,0,none⟩=some (.string ⟨u.scheme.toArray⟩)∧y.cell? ⟨w.heap.size,1,none⟩=some (.string ⟨#[]⟩)∧y.cell? ⟨w.heap.size,2,none⟩=some (.string ⟨#[]⟩)∧y.cell? ⟨w.heap.size,3,none⟩=some (.iface D E)∧y.cell? ⟨w.heap.size,4,none⟩=some (.int .i64 u.port)∧y.cell? ⟨w.heap.size,5,none⟩=some (.slice pa A m)∧y.cell? ⟨w.heap.size,6,none⟩=some (.string ⟨u.query.toArray⟩)∧y.cell? ⟨w.heap.size,7,none⟩=some (.bool u.hasQ)∧y.cell? ⟨w.heap.size,8,none⟩=some (.string ⟨u.frag.toArray⟩)∧y.cell? ⟨w.heap.size,9,none⟩=some (.bool u.hasF):=fun x hb y hy=>by
  subst hy
  exact M _ ((zkZ (by omega) _ _ _ _).trans ((hb.block _ (zaD j)).trans j))
 unfold put4 at O
 have qe:=ylV O
 have J:=ylV (fun x (hb:Below G.heap.size G x)=>(hb.block _ (zaD B)).trans B)
 have qd:Hid (∀W,Below G.heap.size G W→Calls Tryz.prog 16 #[.agg #[.string ⟨u.scheme.toArray⟩,.string ⟨#[]⟩,.string ⟨#[]⟩,.iface D E,.int .i64 u.port,.slice pa A m,.string ⟨u.query.toArray⟩,.bool u.hasQ,.string ⟨u.frag.toArray⟩,.bool u.hasF]] W fun e w'=>e= .returned (.int .i64 (effZ u))∧Below G.heap.size G w'):=fun W hW=>by
  have h:=znD u (.slice pa A m) W
  rw [H] at h
  exact h.mono (fun e w' h=>⟨h.1,zaJ hW h.2⟩)
 rw [H] at I ⊢
 clear j B N O s0 V H M Z qa
 go_enter Tryz.func13,Tryz.ntmps13
 go_wp2_with fail
 rw [←I]
 clear I
 refine wp_region_held_drew (S:=fun W=>W.cell? ⟨w.heap.size,0,none⟩=some (.string ⟨u.scheme.toArray⟩)∧W.cell? ⟨w.heap.size,1,none⟩=some (.string ⟨#[]⟩)∧W.cell? ⟨w.heap.size,2,none⟩=some (.string ⟨#[]⟩)∧W.cell? ⟨w.heap.size,3,none⟩=some (.iface D E)∧W.cell? ⟨w.heap.size,4,none⟩=some (.int .i64 u.port)∧W.cell? ⟨w.heap.size,5,none⟩=some (.slice pa A m)∧W.cell? ⟨w.heap.size,6,none⟩=some (.string ⟨u.query.toArray⟩)∧W.cell? ⟨w.heap.size,7,none⟩=some (.bool u.hasQ)∧W.cell? ⟨w.heap.size,8,none⟩=some (.string ⟨u.frag.toArray⟩)∧W.cell? ⟨w.heap.size,9,none⟩=some (.bool u.hasF)) (by kernel_rfl) ?_ (fun f=> ?_)
 ·exact (Y.out _ (zaW _))
 refine tkj 0 (some 3) (v:= ?_) rfl (.inl ⟨by rfl,?_⟩) f ?_;rotate_left;·intro w d;(try dsimp only at d);go_simp;try with_reducible rfl
 try simp only [Act.put,tkja,tkjb,tkjc]
 refine tkj 1 (some 4) (v:= ?_) rfl (.inl ⟨by rfl,?_⟩) f ?_;rotate_left;·intro w d;(try dsimp only at d);go_simp;try with_reducible rfl
 try simp only [Act.put,tkja,tkjb,tkjc]
 refine tkj 2 (some 5) (v:= ?_) rfl (.inl ⟨by rfl,?_⟩) f ?_;rotate_left;·intro w d;(try dsimp only at d);go_simp;try with_reducible rfl
 try simp only [Act.put,tkja,tkjb,tkjc]
 refine tkj 3 (some 6) (v:= ?_) rfl (.inl ⟨by rfl,?_⟩) f ?_;rotate_left;·intro w d;(try dsimp only at d);go_simp;try with_reducible rfl
 try simp only [Act.put,tkja,tkjb,tkjc]
 refine tkj 4 (some 7) (v:= ?_) rfl (.inl ⟨by rfl,?_⟩) f ?_;rotate_left;·intro w d;(try dsimp only at d);go_simp;try with_reducible rfl
 try simp only [Act.put,tkja,tkjb,tkjc]
 refine tkj 6 (some 9) (v:= ?_) rfl (.inl ⟨by rfl,?_⟩) f ?_;rotate_left;·intro w d;(try dsimp only at d);go_simp;try with_reducible rfl
 try simp only [Act.put,tkja,tkjb,tkjc]
 refine tkj 7 (some 10) (v:= ?_) rfl (.inl ⟨by rfl,?_⟩) f ?_;rotate_left;·intro w d;(try dsimp only at d);go_simp;try with_reducible rfl
 try simp only [Act.put,tkja,tkjb,tkjc]
 refine tkj 8 (some 11) (v:= ?_) rfl (.inl ⟨by rfl,?_⟩) f ?_;rotate_left;·intro w d;(try dsimp only at d);go_simp;try with_reducible rfl
 try simp only [Act.put,tkja,tkjb,tkjc]
 refine wpAnyH_ready (rs:=[5]) (by kernel_rfl) (by simp) ?_
 refine AllReadyH.cons (o:=⟨some 8,_,_,_,_,_⟩) rfl (fun K X=> ?_) AllReadyH.nil
 go_simp
 go_at_call 16
 refine (qd.out _ (zaW _)).mono ?_
 rintro e x1 ⟨rfl,C⟩
 obtain ⟨k0,k1,k2,k3⟩:=zcC (J.out _ C)
 have kf:=zaT (J.out _ C)
 (try go_wp2_with fail)
 refine X.out _ _ ?_ (fun i=> ?_)
 ·exact (Y.out _ C)
 clear X K
 try simp only [Act.put,tkja,tkjb,tkjc]
 refine tkj 9 (some 12) (v:= ?_) rfl (.inl ⟨by rfl,?_⟩) i ?_;rotate_left;·intro w d;(try dsimp only at d);go_simp;try with_reducible rfl
 try simp only [Act.put,tkja,tkjb,tkjc]
 refine tkj 10 (some 13) (v:= ?_) rfl (.inl ⟨by rfl,?_⟩) i ?_;rotate_left;·intro w d;(try dsimp only at d);go_simp;try with_reducible rfl
 try simp only [Act.put,tkja,tkjb,tkjc]
 refine tkj 11 (some 14) (v:= ?_) rfl (.inl ⟨by rfl,?_⟩) i ?_;rotate_left;·intro w d;(try dsimp only at d);go_simp;try with_reducible rfl
 try simp only [Act.put,tkja,tkjb,tkjc]
 refine tkj 12 (some 15) (v:= ?_) rfl (.inl ⟨by rfl,?_⟩) i ?_;rotate_left;·intro w d;(try dsimp only at d);go_simp;try with_reducible rfl
 try simp only [Act.put,tkja,tkjb,tkjc]
 refine tkj 13 (some 16) (v:= ?_) rfl (.inl ⟨by rfl,?_⟩) i ?_;rotate_left;·intro w d;(try dsimp only at d);go_simp;try with_reducible rfl
 try simp only [Act.put,tkja,tkjb,tkjc]
 refine tkj 14 (some 17) (v:= ?_) rfl (.inl ⟨by rfl,?_⟩) i ?_;rotate_left;·intro w d;(try dsimp only at d);go_simp;try with_reducible rfl
 try simp only [Act.put,tkja,tkjb,tkjc]
 refine wpAnyH_ready (rs:=[15]) (by kernel_rfl) (by simp) ?_
 refine AllReadyH.cons (o:=⟨none,_,_,_,_,_⟩) rfl (fun K X=> ?_) AllReadyH.nil
 go_simp
 refine X.out _ _ ?_ (fun qb=> ?_)
 ·exact (qe.out _ C _ rfl)
 clear X K
 try simp only [Act.put,tkja,tkjb,tkjc]
 refine wpAnyH_done (by kernel_rfl) ?_ _
 have Q:=zbP (zaJ HB.out C) (show w.heap.size≤w.heap.size+1 by omega) (.string ⟨u.scheme.toArray⟩) (.iface D E) (.int .i64 (effZ u)) (.bool false)
 have U:=zbR (J.out _ C) (.string ⟨u.scheme.toArray⟩) (.iface D E) (.int .i64 (effZ u)) (.bool false)
 unfold put4 at Q U
 have qc:=ylV Q
 have qf:=ylV U
 clear Q U
 go_wp2
 obtain ⟨e0,e1,e2,e3⟩:=qf.out
 refine bodyPost_ret (v:= .agg #[.string ⟨u.scheme.toArray⟩,.iface D E,.int .i64 (effZ u),.bool false]) (by simp [results,Tryz.results13,go_sem,e0,e1,e2,e3]) rfl ?_
 exact ⟨rfl,qc.out⟩
theorem zvA (u:UZ) (pa:Option Addr) (j o:Nat) (w:World) (D: ∃f i,u.host.val= .iface f i):
  Calls Tryz.prog 13 #[.agg (u.cells (.slice pa j o))] w fun e w'=>e= .returned (.agg (ztG u).cells)∧Below w.heap.size w w':=by
 have key: ∀(A:Value) (b:Bool),u.host.val=A→(!(u.user++u.pass).isEmpty)=b→(ztG u).cells= #[.string ⟨u.scheme.toArray⟩,A,.int .i64 (effZ u),.bool b]:=fun A b B C=>by
  unfold SZ.cells ztG
  simp only
  rw [B,C]
 obtain ⟨f,i,h⟩:=D
 cases d:u.user with
 |cons c r=>rw [key _ true h (by rw [d];rfl)];exact zqH u pa j o f i w h d rfl
 |nil=>cases m:u.pass with
  |cons c r=>rw [key _ true h (by rw [d,m];rfl)];exact zpV u pa j o f i w h d m
  |nil=>rw [key _ false h (by rw [d,m];rfl)];exact zqG u pa j o f i w h d m
theorem zhS {t:TypeId} {x:World} {g:Nat} {i j f d:Value} (h:x.heap[g]? =some (.cells #[i,j,f,d] t)):x.cell? ⟨g,0,none⟩=some i∧x.cell? ⟨g,1,none⟩=some j∧x.cell? ⟨g,2,none⟩=some f∧x.cell? ⟨g,3,none⟩=some d:=⟨zaB h 0,zaB h 1,zaB h 2,zaB h 3⟩
end
end Go.Proofs.YtegmcmgndllmaaaGreatDoor
