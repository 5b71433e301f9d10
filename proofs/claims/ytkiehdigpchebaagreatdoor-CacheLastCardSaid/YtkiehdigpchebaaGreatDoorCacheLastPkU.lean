/-
  What the law CacheLast leans on, and its walk (20 of 21).
-/
import Derived.Test.YtkiehdigpchebaaGreatDoorCacheLastPkQ
import Derived.Test.YtkiehdigpchebaaGreatDoorCacheLastPkT
namespace Go.Proofs.YtkiehdigpchebaaGreatDoor
set_option maxRecDepth 100000
set_option maxHeartbeats 16000000
theorem tkU {P : Program} {o : Region.Mode} {g : Array Oper} {Q : Exit → Act → World → Prop} {S : World → Prop} (i : Nat) (s : Option Nat) {p : Op} {y : TypeId} {j : String} {z : _} {q : _} {v : Value} {fuel : Nat} {f : Array Bool} {a : Act} {w : World} (hi : g[i]? = some ⟨s, p, y, j, z, q⟩)
 (I : YieldsIf P g S ⟨s, p, y, j, z, q⟩ v a) (G : S w)
 (h : wpAnyH P o g Q S fuel (f.setIfInBounds i true) (a.put s v) w)
 (H : Region.noSelect g = true := by kernel_rfl) (D : Region.free o g f i = true := by kernel_rfl) (E : (Region.ready o g f).contains i = true := by kernel_rfl)
 (C : ∀ c a w, Q (.panic c) (a.put s v) w → Q (.panic c) a w := by exact fun _ _ _ h => h) : wpAnyH P o g Q S (fuel + 1) f a w :=
 wpAnyH_take hi H D E C I G h
theorem tkUa {α : Type _} (l : List α) (i : Nat) (a : α) : l.toArray.setIfInBounds i a = (l.set i a).toArray := List.setIfInBounds_toArray ..
theorem tkUb {α : Type _} (x y : α) (l : List α) : (x :: l).set 0 y = y :: l := rfl
theorem tkUc {α : Type _} (x y : α) (l : List α) (n : Nat) : (x :: l).set (n + 1) y = x :: l.set n y := rfl
abbrev znQ := @Lib.hid
abbrev znR := @Nat.lt_of_lt_of_le
section
open Go.RowKit Go.Maps Go.Sort Go.Shelf Go.Lib
theorem zcL {x y:World} {M:Nat} (h:Only [M] x y) (g: ∀p:Addr,p.block=M→x.cell? p=none) {p:Addr} {v:Value} (f:x.cell? p=some v):y.cell? p=some v:=
 (World.cell?_of_block (a:=p) (h.block p.block (World.block_lt_of_cell? x _ f) (fun e=>by rw [g p (List.mem_singleton.1 e)] at f;cases f))).trans f
theorem zgT (s:ByteArray):(⟨s.data.toList.toArray⟩:ByteArray)=s:=by cases s;simp
theorem zaN {x y:World} {K:Nat} (g:x.grownBy y (some K)) {p:Addr} (f:p.block≠K) {v:Value} (h:x.cell? p=some v):y.cell? p=some v:=
 (World.cell?_of_block (a:=p) (g.block p.block (World.block_lt_of_cell? x _ h) (fun e=>f (Option.some.inj e)))).trans h
theorem CacZ.off {x:World} {c M K:Nat} {L:List CE} {zf:List UInt8→List AZ} (h:CacZ x c M L zf) (o: ∀p:Addr,p.block=K→x.cell? p=none): ∀e∈L,∀a n k,e.sv= .slice (some a) n k→a.block≠K:=fun e g a n k i q=>by
 obtain ⟨p,v,j,f⟩:=h.at g i
 rw [o p (j.trans q)] at f
 cases f
theorem zbD.off {x:World} {A B K:Nat} {T:List CE} {yf:List UInt8→List AZ} (h:zbD x A B T yf) (o: ∀p:Addr,p.block=K→x.cell? p=none): ∀e∈T,∀a n k,e.sv= .slice (some a) n k→a.block≠K:=fun e g a n k i q=>by
 obtain ⟨p,v,j,f⟩:=h.at g i
 rw [o p (j.trans q)] at f
 cases f
theorem zaK {x:World} {k:TypeId} {R:Value→Option (DataW Value×List MemPlace)} {A n:Nat} {D:DataW Value} (h:x.ownsMap Tryz.prog k R A n D): ∀p:Addr,p.block=A→x.cell? p=none:=fun p a=>by
 obtain ⟨g,c,f,_⟩:=h
 exact zdI (by rw [a];exact f)
theorem zbA {x:World} {base g cp:Nat} {a:List AZ} (h:OwnX 38 1 clZ x base (.slice (some ⟨g,0,none⟩) a.length cp) a) (f:a≠[]):x.cell? ⟨g,0,none⟩=some ((a.head f).val):=by
 cases a with
 |nil=>exact absurd rfl f
 |cons z l=>
  obtain ⟨j,e,i⟩:=h.row zaS 0 z rfl
  obtain rfl:=Option.some.inj e
  exact i 0 (by omega)
theorem zmI {x:World} {base:Nat} {v:Value} {j:List AZ} (h:OwnX 38 1 clZ x base v j) {a:Addr} {n k:Nat} (g:v= .slice (some a) n k):base≤a.block:=by
 rcases h.2 with ⟨e,_⟩|⟨p,o,i,e,f,_⟩
 ·rw [e] at g;simp at g
 ·rw [e] at g
  simp only [Value.slice.injEq,Option.some.injEq] at g
  rw [←g.1]
  exact f
theorem cameG {g:CE→Value} {L:List CE} {n:List UInt8} {o:DataW Value} (h: ∀zd,(DG g L).atKey (.string n) zd=o): ∃e∈L,e.nm=n∧o= .held (g e):=by
 cases f:zaL n L with
 |none=>
  have a:=h (.held (.bool true))
  have j:=h (.held (.bool false))
  rw [zmX,f] at a j
  rw [←j] at a
  simp at a
 |some e=>
  obtain ⟨p,i⟩:=zaP f
  have a:=h (.held (.bool true))
  rw [zmX,f] at a
  exact ⟨e,p,i,a.symm⟩
theorem zeroTk (w:World):(zeroValue 2).run Tryz.prog w= .ok (.int .i64 0) w:=by kernel_rfl
theorem zbD.tick {x:World} {A B:Nat} {T:List CE} {yf:List UInt8→List AZ} (h:zbD x A B T yf) {e:CE} (j:e∈T) (o:e.nm.length≤maxLen):(Instr.lookup 27 (.map (some B)) (.string ⟨e.nm.toArray⟩) false).run Tryz.prog x= .ok (.int .i64 e.un) x:=by
 obtain ⟨v,p,a,i⟩:=h.lb.lookup zcK Tryz.underlying27 (zeroTk x) (zfU 0) (ziV o)
 rw [zmX,zbI h.so j] at i
 obtain ⟨u,f,g⟩:=zjD i
 subst f
 simp only [Prod.mk.injEq,Option.map_some,Option.getD_some,DataW.held.injEq,unV] at g
 rw [a,←g.1]
theorem zeroSl (w:World):(zeroValue 31).run Tryz.prog w= .ok (.slice none 0 0) w:=by kernel_rfl
theorem zhW {X:Type} {s:Nat} {cl:X→List Value} (C: ∀x,(cl x).length=s) {x y:World} {M:Nat} {ao:Option Addr} {f:List X} (h:RowX s cl x ao f) (E: ∀p:Addr,p.block=M→x.cell? p=none) (o:Only [M] x y):RowX s cl y ao f:=fun j z g=>by
 obtain ⟨H,e,D⟩:=h j z g
 refine ⟨H,e,fun i hi=> ?_⟩
 have q:(cl z)[i]? =some ((cl z)[i]'(by rw [C];exact hi)):=List.getElem?_eq_getElem _
 have a:=D i hi
 rw [q] at a ⊢
 exact (World.cell?_of_block (o.block _ (World.block_lt_of_cell? x _ a) (fun G=>by rw [E _ (List.mem_singleton.1 G)] at a;cases a))).trans a
theorem cacheLast_walk (a0:Option Addr) (Qo QM:Nat) (z0:List Ac) (a1:Int) (_w1:(Lit.int .i64 a1).wf=true) (w:World) (w0:IsCRow w a0 Qo QM z0) (QT:PowTab w) (QR:BruTab w) (QQ:MaxVar w):
  Calls Tryz.prog 3 #[.slice a0 Qo QM,.int .i64 a1] w fun e w'=>e= .returned (.bool true)∧Below w.heap.size w w':=by
 have JM:z0.length=Qo:=w0.1
 subst JM
 have QO:=znQ w0
 have Qd:=znQ (aw20 w QT QR QQ)
 clear w0 QT QR QQ
 by_cases g0:150<z0.length
 ·have jS:(150:Int)<z0.length:=by omega
  go_enter Tryz.func3,Tryz.ntmps3
  go_wp2_with fail
  refine Qd.out.mono ?_
  rintro e x0 ⟨rfl,qe⟩
  have G:=znQ qe
  clear qe
  go_wp2
  go_ret
  exact ⟨rfl,G.out⟩
 have jS: ¬(150:Int)<z0.length:=by omega
 by_cases g1:a1<0
 ·go_enter Tryz.func3,Tryz.ntmps3
  go_wp2_with fail
  refine Qd.out.mono ?_
  rintro e x0 ⟨rfl,qe⟩
  have G:=znQ qe
  clear qe
  go_wp2
  go_ret
  exact ⟨rfl,G.out⟩
 by_cases g2:1152921504606846976<a1
 ·go_enter Tryz.func3,Tryz.ntmps3
  go_wp2_with fail
  refine Qd.out.mono ?_
  rintro e x0 ⟨rfl,qe⟩
  have G:=znQ qe
  clear qe
  go_wp2
  go_ret
  exact ⟨rfl,G.out⟩
 have JK:Hid (z0.length≤150):=by show _≤_;omega
 go_enter Tryz.func3,Tryz.ntmps3
 go_wp2_with fail
 refine Qd.out.mono ?_
 rintro e x0 ⟨rfl,qe⟩
 have G:=znQ qe
 have Jk:=znQ (zhR x0)
 clear qe
 go_wp2_with fail
 refine Jk.out.mono ?_
 rintro e x1 ⟨cc,M,rfl,E,Jx,Jc,QH⟩
 have QA:Hid (M<x1.heap.size∧cc<x1.heap.size):=⟨E.map.1.lt,zaH E.box⟩
 obtain ⟨x2,Qe⟩: ∃x,x=(x1.alloc (.map #[] 0)).alloc (.map #[] 0):=⟨_,rfl⟩
 have qV:Below x1.heap.size x1 x2:=by rw [Qe];exact ((Below.refl _ _).alloc (Nat.le_refl _) _).alloc (by simp) _
 have jk:Hid (zbD x2 x1.heap.size (x1.heap.size+1) [] (fun _=>[])):=by
  refine ⟨?_,?_,List.Pairwise.nil,(fun _ h=>nomatch h),(fun _ h=>nomatch h)⟩
  ·rw [Qe];exact (World.ownsMap_made x1 Tryz.prog 9 zbH).alloc _
  ·rw [Qe]
   have:=World.ownsMap_made (x1.alloc (.map #[] 0)) Tryz.prog 9 zhJ
   rw [show (x1.alloc (.map #[] 0)).heap.size=x1.heap.size+1 by simp] at this
   exact this
 have qo:=znQ ((CacZ.new E (fun _=>[])).keep qV)
 have JL:Hid (w.heap.size≤M):=Nat.le_trans G.out.size Jc
 have R:=znQ ((G.out.trans (QH.mono G.out.size)).trans (qV.mono (G.out.trans (QH.mono G.out.size)).size))
 have jl:Hid (w.heap.size≤x1.heap.size):=(G.out.trans (QH.mono G.out.size)).size
 have Jr:= @run_makeMap Tryz.prog
 clear E Jx Jc QH Jk Qd g0 jS g1 g2 G qV
 go_upto_region 7 with fail
 rw [←Qe]
 clear Qe Jr
 obtain ⟨B,hB⟩: ∃b,b=x1.heap.size+1:=⟨_,rfl⟩
 rw [←hB] at jk ⊢
 have js:Hid (x1.heap.size≠B):=by show _≠_;omega
 have Jg:Hid (cc≠x1.heap.size):=by have:=QA.out.2;show _≠_;omega
 have JJ:Hid (cc≠B):=by have:=QA.out.2;show _≠_;omega
 have jp:Hid (M≠x1.heap.size):=by have:=QA.out.1;show _≠_;omega
 have Jj:Hid (M≠B):=by have:=QA.out.1;show _≠_;omega
 have JC:Hid (w.heap.size≤B):=by have:=jl.out;show _≤_;omega
 clear hB
 generalize x1.heap.size=A at*
 go_wp2
 go_loopw [33] (fun i wr=> ∃(k:Nat) (L T:List CE) (zf yf:List UInt8→List AZ),k≤z0.length∧i= .int .i64 k∧T.length≤k∧Hid (CacZ wr cc M L zf)∧Hid (zbD wr A B T yf)∧Hid (RelZ L T zf yf)∧Hid (Below w.heap.size w wr)) (fun i _=>z0.length - (intOf i).toNat)
 case atStart=>exact ⟨0,[],[],_,_,Nat.zero_le _,rfl,Nat.zero_le _,qo,jk,(fun _ h=>nomatch h),R⟩
 case round=>
  clear qo R jk
  obtain ⟨j,L,T,zf,yf,hj,rfl,JR,HZ,HT,jI,HB⟩:=hrel
  by_cases qw:j<z0.length
  ·have JO:(j:Int)<z0.length:=by omega
   have jR:Hid (A<wr.heap.size∧B<wr.heap.size):=⟨HT.out.la.lt,HT.out.lb.lt⟩
   have Jd:Hid (T.length<maxLen):=by have:=JK.out;show _<_;unfold maxLen;omega
   obtain ⟨ad,rfl,x,hx,jK,r0,r1,r2,r3⟩:=(QO.out.keep HB.out).2.1.at4 qw
   have qW:=znQ ((QO.out.keep HB.out).2.2 x jK)
   clear hx jK
   obtain ⟨d,jE,C,la,lc,l⟩:=x
   dsimp only at r0 r1 r2 r3
   obtain ⟨nm,rfl⟩: ∃nm:List UInt8,jE=⟨nm.toArray⟩:=⟨jE.data.toList,(zgT jE).symm⟩
   have Qz:Hid (nm.length≤maxLen):=by have:=qW.out.2.1;rwa [zfC] at this
   have jW:=znQ qW.out.2.2.2.1
   have JP:=znQ qW.out.2.2.2.2
   have hd:=qW.out.1
   dsimp only at hd
   clear qW
   obtain ⟨y,hy⟩: ∃y,y=wr.alloc (.cells #[.int .u8 d,.string ⟨nm.toArray⟩,.int .i64 C,.slice la l.length lc] 30):=⟨_,rfl⟩
   have hb:Below wr.heap.size wr y:=by rw [hy];exact (Below.refl _ _).alloc (Nat.le_refl _) _
   have qr:y.heap[wr.heap.size]? =some (.cells #[.int .u8 d,.string ⟨nm.toArray⟩,.int .i64 C,.slice la l.length lc] 30):=by rw [hy];exact heap_alloc_new wr _
   have jr:=znQ (HZ.out.keep hb)
   have Je:=znQ (HT.out.keep hb)
   have qS:=znQ (HB.out.trans (hb.mono HB.out.size))
   have jJ:=znQ (RowX.keep On.len jW.out hb)
   have e0:=zaE qr 0
   have e1:=zaE qr 1
   have e2:=zaE qr 2
   have e3:=zaE qr 3
   simp at e0 e1 e2 e3
   clear qr hb HZ HT HB jW
   go_upto_region 10 with fail
   rw [←hy]
   clear hy r0 r1 r2 r3
   by_cases q0:20<l.length
   ·have Jf:(20:Int)<l.length:=by omega
    go_wp2
    go_ret
    exact ⟨rfl,qS.out⟩
   have Jf: ¬(20:Int)<l.length:=by omega
   by_cases q1:C<0
   ·go_wp2
    go_ret
    exact ⟨rfl,qS.out⟩
   by_cases q2:1152921504606846976<C
   ·go_wp2
    go_ret
    exact ⟨rfl,qS.out⟩
   have Qm:Hid (l.length≤20):=by show _≤_;omega
   have jq:Hid ((l.map On.az).length≤20):=by show _≤_;rw [List.length_map];exact Qm.out
   have qR:Hid (wr.heap.size≠A):=by have:=jR.out;show _≠_;omega
   have jg:Hid (wr.heap.size≠B):=by have:=jR.out;show _≠_;omega
   obtain ⟨zs,QB⟩: ∃zs,l.map On.az=zs:=⟨_,rfl⟩
   rw [QB] at jq
   have jU:Hid (∀X,Below y.heap.size y X→Calls Tryz.prog 8 #[.slice la l.length lc] X fun e w'=> ∃v,e= .returned v∧OwnX 38 1 clZ w' X.heap.size v zs∧Below X.heap.size X w'):=fun X hX=>by
    have:=zcU la lc l X (RowX.keep On.len jJ.out hX) (by have:=Qm.out;omega)
    rw [QB] at this
    exact this
   have JA:=znQ QB
   clear QB e0
   go_upto_region 12 with fail
   clear q0 Jf q1 q2
   go_wp2_with fail
   refine (jU.out y (Below.refl _ _)).mono ?_
   rintro e5 x5 ⟨v5,rfl,jx,qz⟩
   obtain ⟨a5,c5,rfl⟩:=jx.form
   have qM:=znQ jx
   have qN:=znQ (jr.out.keep qz)
   have qi:=znQ (Je.out.keep qz)
   have QD:=znQ (qS.out.trans (qz.mono qS.out.size))
   have JB:=znQ (RowX.keep On.len jJ.out qz)
   have k1:x5.cell? ⟨wr.heap.size,1,none⟩=some (.string ⟨nm.toArray⟩):=(qz.cell (World.block_lt_of_cell? y _ e1)).trans e1
   have k2:x5.cell? ⟨wr.heap.size,2,none⟩=some (.int .i64 C):=(qz.cell (World.block_lt_of_cell? y _ e2)).trans e2
   have k3:x5.cell? ⟨wr.heap.size,3,none⟩=some (.slice la l.length lc):=(qz.cell (World.block_lt_of_cell? y _ e3)).trans e3
   clear jx qz jU e1 e2 e3
   by_cases qO:zs=[]
   ·subst qO
    have Qi:=znQ (zlU cc ⟨nm.toArray⟩ C a5 c5 x5)
    go_upto_region 13 with fail
    go_wp2_with fail
    refine Qi.out.mono ?_
    rintro e6 x6 ⟨rfl,rfl⟩
    clear Qi
    go_upto_region 18 with fail
    clear k1 k2 k3
    have qY:=znQ (zdV cc M L x5 qN.out.cac)
    have jb:((L).length:Int)≤64:=by have:=qN.out.len;omega
    have jG:=znQ (by omega:(T).length≤j+1)
    go_wp2_with fail
    refine qY.out.mono ?_
    rintro e xl ⟨rfl,rfl⟩
    have qv:=qi.out.la
    clear qY
    go_wp2_with (first
     |(at_range;refine wpList_range_own _ rfl _ 26 rfl 9 31 zcK Tryz.underlying26 zbH A T.length _ rfl qv ?_;intro w0 qA qb QW)
     |go_in)
    try go_frame
    have Qj:=znQ qA
    have G:Hid (Below x5.heap.size x5 w0):=⟨qb.os,qb.tape,qb.output,qb.size,fun k V=>qb.block k V (by simp)⟩
    clear qv qA qb QW jb
    go_loopw [89] (fun _ wq=> ∃(left:Lit→Bool) (Qf:Nat),Hid (wq.ranges Tryz.prog 9 zbH A x5.heap.size T.length (DG CE.sv T) left Qf)∧Hid (Below x5.heap.size x5 wq)) (fun _ wq=>wq.rangeLeft A x5.heap.size)
    case atStart=>exact ⟨_,_,Qj,G⟩
    case round=>
     obtain ⟨left,Qf,jv,qk⟩:=hrel
     have qq:=jv.out
     go_wp2_with (first
      |(at_next;refine wpList_next_ranges (α:=ByteArray) (β:=Option Addr×Nat×Nat) _ rfl _ rfl 9 zcK zbH (fun s=> .string s) (fun p=> .slice p.1 p.2.1 p.2.2) (fun key kl V=>by
        obtain ⟨s,rfl,_⟩:=WideMaps.string_of_keyOf Tryz.underlying9 V
        exact ⟨s,rfl⟩) (fun v y hv=>by
        obtain ⟨a,k,c,rfl,_⟩:=zbL hv
        exact ⟨(a,k,c),rfl⟩) A x5.heap.size T.length _ _ _ rfl qq ?_ ?_)
      |go_in)
     ·intro _ _
      have jC:=znQ (QD.out.trans (qk.out.mono QD.out.size))
      have jH:=znQ (qN.out.keep qk.out)
      have jw:=znQ (qi.out.keep qk.out)
      clear qq
      go_wp2
      go_roundw
      case rel=>exact ⟨j+1,L,T,zf,yf,by omega,by go_num,jG.out,jH,jw,jI,jC⟩
      case measure=>simp [intOf];omega
     ·intro s a k c3 kl yd yp w1 qB qy Qq hv Qw Q qw Ql E Qk
      obtain ⟨s',es,rfl,jz⟩:=WideMaps.string_of_keyOf Tryz.underlying9 qy
      cases es
      obtain ⟨e,Y,qx,rfl⟩:=cameG Qw
      obtain ⟨a0,k0,c0,jj,hy⟩:=zbL hv
      have qh:e.sv= .slice a k c3:=by
       simp only [Prod.mk.injEq,DataW.held.injEq] at hy
       exact hy.1
      obtain ⟨ao,cp,Qn,qC⟩:=qi.out.row e Y
      rw [Qn] at qh
      simp only [Value.slice.injEq] at qh
      obtain ⟨rfl,rfl,rfl⟩:=qh
      obtain rfl:s=⟨e.nm.toArray⟩:=by cases s;simp [qx]
      rw [show (⟨e.nm.toArray⟩:ByteArray).data.toList=e.nm by simp] at Qq Q
      have R:=znQ (qk.out.grown Ql qk.out.size (fun k V=>by cases V;exact Nat.le_refl _))
      have qo:=znQ (qN.out.keep R.out)
      have qs:=znQ Q
      have I:=znQ (qi.out.few e Y)
      have Qa:=znQ qq.left_eq
      have Qr:=znQ qw
      have jn:Hid (x5.heap.size<w1.heap.size):=Q.lt
      have jc:=znQ (fun W (hW:Below x5.heap.size x5 W)=>RowX.keep zaS qC hW)
      have jd:Hid (∀W,Below x5.heap.size x5 W→(Instr.lookup 27 (.map (some B)) (.string ⟨e.nm.toArray⟩) false).run Tryz.prog W= .ok (.int .i64 e.un) W):=fun W hW=>(qi.out.keep hW).tick Y I.out.1
      have Qp:=znQ Y
      have Jq:=E
      clear qq Q Ql Qq Qw qy qw qC Qn hv jj hy jz qx Y
      by_cases N: ∃g∈L,g.nm=e.nm∧a1<g.un
      ·obtain ⟨g,qI,qp,qT⟩:=N
       obtain ⟨e2,h2,h3,h4,h5⟩:=jI.out g qI
       obtain rfl:=qi.out.so.one h2 Qp.out (h3.trans qp)
       have qa:=znQ (zeA cc M L zf e2.nm a1 w1 qo.out I.out.1 (by rw [←qp];exact zbI qo.out.cac.map.2 qI) qT)
       rw [show zf e2.nm=yf e2.nm by rw [←qp,h5]] at qa
       have JF:decide (e2.un≤a1)=false:=decide_eq_false (by rw [h4];omega)
       clear h2 h3 h4 h5 qI qp qT
       go_upto_region 23 with fail
       go_wp2_with fail
       refine qa.out.mono ?_
       rintro e7 x7 ⟨v7,rfl,Z,f⟩
       obtain ⟨gq,jm,ji,jQ,P,k7,rfl⟩: ∃gq,w1.heap.size≤gq∧True∧ ∃qj,x7.heap[gq]? =some (.cells qj 38)∧ ∃k7,v7= .slice (some ⟨gq,0,none⟩) (yf e2.nm).length k7:=by
        rcases Z.2 with ⟨_,hz⟩|⟨gb,QF,qj,QZ,qg,Qc,_⟩
        ·exact absurd (List.eq_nil_of_length_eq_zero hz) I.out.2.1
        ·exact ⟨gb,qg,trivial,qj,Qc,QF,QZ⟩
       have H:=znQ (R.out.trans (f.mono R.out.size))
       have jF:=jd.out x7 H.out
       have Qv:=zbA Z I.out.2.1
       have Qt:=znQ (zcF (some ⟨gq,0,none⟩) ao k7 cp (yf e2.nm) x7 (Z.row zaS) (jc.out x7 H.out) (by have:=I.out.2.2;omega))
       have qf:w1.grownBy x7 none:=⟨f.os,f.tape,f.output,f.size,fun k V _=>f.block k V⟩
       have U:=znQ (qs.out.kept qf (by simp) (by simp))
       have qH:Hid (x5.heap.size<gq):=by have:=jn.out;show _<_;omega
       clear Z f qf qa Qk jm ji
       go_wp2_with fail
       refine Qt.out.mono ?_
       rintro e8 x8 ⟨rfl,J⟩
       have hh:=J.block gq (zaH P)
       have c0:=(World.cell?_of_block (a:=⟨gq,0,none⟩) hh).trans Qv
       have f0:=zaW (hh.trans P) 0
       have je:=znQ ((H.out.trans (J.mono H.out.size)).setCell (p:=⟨gq,0,none⟩) (Nat.le_of_lt qH.out) (.iface 36 (.int .u32 54321)))
       have Qx:x7.grownBy x8 none:=⟨J.os,J.tape,J.output,J.size,fun k V _=>J.block k V⟩
       have qU:x8.grownBy (x8.setCell ⟨gq,0,none⟩ (.iface 36 (.int .u32 54321))) (some gq):=⟨rfl,rfl,rfl,by simp [World.setCell],fun k _ V=>zaZ (fun q=>V (by rw [q])) 0 _⟩
       have qE:=znQ ((U.out.kept Qx (by simp) (by simp)).kept qU (fun q=>by have:=Option.some.inj q;have:=qi.out.la.lt;have:=qH.out;omega) (fun q=>by have:=Option.some.inj q;have:=qH.out;omega))
       have jB:0<(yf e2.nm).length:=List.length_pos_iff.2 I.out.2.1
       have QY:(0:Int)<(yf e2.nm).length:=by omega
       have Qg:=I.out.2.1
       clear J Qx qU hh Qv P jF Qt
       go_wp2
       go_roundw
       case rel=>exact ⟨_,qB,qE,je⟩
       case measure=>rw [qE.out.left_eq,Qa.out];exact Qr.out
      ·have qa:=znQ (zfX cc M L e.nm a1 w1 qo.out.cac I.out.1 (fun g hg hu=>N ⟨g,(zaP hg).1,(zaP hg).2,hu⟩))
       clear N
       go_upto_region 23 with fail
       go_wp2_with fail
       refine qa.out.mono ?_
       rintro e7 x7 ⟨rfl,f⟩
       have H:=znQ (R.out.trans (f.mono R.out.size))
       have qf:w1.grownBy x7 none:=⟨f.os,f.tape,f.output,f.size,fun k V _=>f.block k V⟩
       have U:=znQ (qs.out.kept qf (by simp) (by simp))
       clear f qf qa Qk
       go_wp2
       go_roundw
       case rel=>exact ⟨_,qB,U,H⟩
       case measure=>rw [U.out.left_eq,Qa.out];exact Qr.out
   ·have QL:(0:Int)<zs.length:=by have:=List.length_pos_iff.2 qO;omega
    have Qi:=znQ (put_zo cc M L zf nm C a5 zs c5 x5 qN.out Qz.out qO (by have:=jq.out;omega) (qM.out.row zaS))
    have qm:=znQ qO
    have qL:=znQ (map_none qN.out.cac.map)
    have jD:0<zs.length:=List.length_pos_iff.2 qO
    have Jv:decide ((0:Int)<zs.length)=true:=decide_eq_true QL
    go_upto_region 13 with fail
    go_wp2_with fail
    refine Qi.out.mono ?_
    rintro e6 x6 ⟨rfl,a6,c6,Jm,jX,qc⟩
    have m1:x6.cell? ⟨wr.heap.size,1,none⟩=some (.string ⟨nm.toArray⟩):=zcL qc qL.out k1
    have m2:x6.cell? ⟨wr.heap.size,2,none⟩=some (.int .i64 C):=zcL qc qL.out k2
    have m3:x6.cell? ⟨wr.heap.size,3,none⟩=some (.slice la l.length lc):=zcL qc qL.out k3
    have Jz:=znQ Jm
    have JG:=znQ jX
    have JD:=znQ (qi.out.only qc jp.out.symm Jj.out.symm (qi.out.off qL.out))
    have jN:=znQ (QD.out.trans (zbE qc JL.out QD.out.size))
    have Jy:=znQ (zhW On.len JB.out qL.out qc)
    have jY:Hid (∀X,Below x6.heap.size x6 X→Calls Tryz.prog 8 #[.slice la l.length lc] X fun e w'=> ∃v,e= .returned v∧OwnX 38 1 clZ w' X.heap.size v zs∧Below X.heap.size X w'):=fun X hX=>by
     have:=zcU la lc l X (RowX.keep On.len Jy.out hX) (by have:=Qm.out;omega)
     rw [JA.out] at this
     exact this
    have QU:=znQ qc
    clear Jm jX qc Qi k1 k2 k3
    go_upto_region 16 with fail
    clear qO QL jD Jv
    go_wp2_with fail
    refine wp_region_held_drew (S:=fun W=>W.cell? ⟨wr.heap.size,1,none⟩=some (.string ⟨nm.toArray⟩)∧W.cell? ⟨wr.heap.size,2,none⟩=some (.int .i64 C)∧W.cell? ⟨wr.heap.size,3,none⟩=some (.slice la l.length lc)) (by kernel_rfl) ?_ (fun D=> ?_)
    ·exact ⟨m1,m2,m3⟩
    refine tkU 0 (some 68) (v:= ?_) rfl (.inl ⟨by rfl,?_⟩) D ?_
    rotate_left
    ·intro w z
     (try dsimp only at z)
     obtain ⟨E,qn,ql⟩:=z
     go_simp
     try with_reducible rfl
    try simp only [Act.put,tkUa,tkUb,tkUc]
    refine tkU 1 (some 69) (v:= ?_) rfl (.inl ⟨by rfl,?_⟩) D ?_
    rotate_left
    ·intro w z
     (try dsimp only at z)
     obtain ⟨E,qn,ql⟩:=z
     go_simp
     try with_reducible rfl
    try simp only [Act.put,tkUa,tkUb,tkUc]
    refine tkU 2 (some 70) (v:= ?_) rfl (.inl ⟨by rfl,?_⟩) D ?_
    rotate_left
    ·intro w z
     (try dsimp only at z)
     obtain ⟨E,qn,ql⟩:=z
     go_simp
     try with_reducible rfl
    try simp only [Act.put,tkUa,tkUb,tkUc]
    refine tkU 3 (some 71) (v:= ?_) rfl (.inl ⟨by rfl,?_⟩) D ?_
    rotate_left
    ·intro w z
     (try dsimp only at z)
     obtain ⟨E,qn,ql⟩:=z
     go_simp
     try with_reducible rfl
    try simp only [Act.put,tkUa,tkUb,tkUc]
    refine tkU 4 (some 72) (v:= ?_) rfl (.inl ⟨by rfl,?_⟩) D ?_
    rotate_left
    ·intro w z
     (try dsimp only at z)
     obtain ⟨E,qn,ql⟩:=z
     go_simp
     try with_reducible rfl
    try simp only [Act.put,tkUa,tkUb,tkUc]
    refine tkU 5 (some 73) (v:= ?_) rfl (.inl ⟨by rfl,?_⟩) D ?_
    rotate_left
    ·intro w z
     (try dsimp only at z)
     obtain ⟨E,qn,ql⟩:=z
     go_simp
     try with_reducible rfl
    try simp only [Act.put,tkUa,tkUb,tkUc]
    refine tkU 6 (some 74) (v:= ?_) rfl (.inl ⟨by rfl,?_⟩) D ?_
    rotate_left
    ·intro w z
     (try dsimp only at z)
     obtain ⟨E,qn,ql⟩:=z
     go_simp
     try with_reducible rfl
    try simp only [Act.put,tkUa,tkUb,tkUc]
    refine tkU 7 (some 75) (v:= ?_) rfl (.inl ⟨by rfl,?_⟩) D ?_
    rotate_left
    ·intro w z
     (try dsimp only at z)
     obtain ⟨E,qn,ql⟩:=z
     go_simp
     try with_reducible rfl
    try simp only [Act.put,tkUa,tkUb,tkUc]
    refine tkU 9 (some 77) (v:= ?_) rfl (.inl ⟨by rfl,?_⟩) D ?_
    rotate_left
    ·intro w z
     (try dsimp only at z)
     obtain ⟨E,qn,ql⟩:=z
     go_simp
     try with_reducible rfl
    try simp only [Act.put,tkUa,tkUb,tkUc]
    refine tkU 10 (some 78) (v:= ?_) rfl (.inl ⟨by rfl,?_⟩) D ?_
    rotate_left
    ·intro w z
     (try dsimp only at z)
     obtain ⟨E,qn,ql⟩:=z
     go_simp
     try with_reducible rfl
    try simp only [Act.put,tkUa,tkUb,tkUc]
    refine wpAnyH_ready (rs:=[8]) (by kernel_rfl) (by simp) ?_
    refine AllReadyH.cons (o:=⟨some 76,_,_,_,_,_⟩) rfl (fun K hK=> ?_) AllReadyH.nil
    go_simp
    go_at_call 8
    refine (jY.out _ (zaJ _)).mono ?_
    rintro e7 x7 ⟨v7,rfl,Z,f⟩
    obtain ⟨a7,c7,rfl⟩:=Z.form
    have qd:=(zaJ x6).trans f
    have q1:x7.cell? ⟨wr.heap.size,1,none⟩=some (.string ⟨nm.toArray⟩):=(qd.cell (World.block_lt_of_cell? x6 _ m1)).trans m1
    have q2:x7.cell? ⟨wr.heap.size,2,none⟩=some (.int .i64 C):=(qd.cell (World.block_lt_of_cell? x6 _ m2)).trans m2
    have q3:x7.cell? ⟨wr.heap.size,3,none⟩=some (.slice la l.length lc):=(qd.cell (World.block_lt_of_cell? x6 _ m3)).trans m3
    have jh:=znQ (Jz.out.keep qd)
    have O:=znQ (JD.out.keep qd)
    have H:=znQ (jN.out.trans (qd.mono jN.out.size))
    have jV:=znQ Z
    have QJ:=znQ qd
    obtain ⟨v0,JQ,y1,jA,qJ,Qh⟩:=zfG O.out.la zcK Tryz.underlying26 Jd.out (zeroSl x7) (ziV Qz.out) (zhP a7 zs.length c7)
    obtain ⟨y2,jf,qZ,qP⟩:=Qh y1 rfl
    have QN:=zaM (zaM O.out.lb (qJ.block B O.out.lb.lt (fun q=>js.out (Option.some.inj q).symm))) (qP.block B (by have:=O.out.lb.lt;have:=qJ.size;omega) (fun q=>js.out (Option.some.inj q).symm))
    obtain ⟨y3,QX,Qy,Qb⟩:=QN.update zcK Tryz.underlying27 Jd.out (ziV Qz.out) (zfU C)
    have p1:y1.cell? ⟨wr.heap.size,1,none⟩=some (.string ⟨nm.toArray⟩):=zaN qJ qR.out q1
    have p2:y1.cell? ⟨wr.heap.size,2,none⟩=some (.int .i64 C):=zaN qJ qR.out q2
    have p3:y1.cell? ⟨wr.heap.size,3,none⟩=some (.slice la l.length lc):=zaN qJ qR.out q3
    have s1:y2.cell? ⟨wr.heap.size,1,none⟩=some (.string ⟨nm.toArray⟩):=zaN qP qR.out p1
    have s2:y2.cell? ⟨wr.heap.size,2,none⟩=some (.int .i64 C):=zaN qP qR.out p2
    have s3:y2.cell? ⟨wr.heap.size,3,none⟩=some (.slice la l.length lc):=zaN qP qR.out p3
    have t1:y3.cell? ⟨wr.heap.size,1,none⟩=some (.string ⟨nm.toArray⟩):=zaN Qb jg.out s1
    have t2:y3.cell? ⟨wr.heap.size,2,none⟩=some (.int .i64 C):=zaN Qb jg.out s2
    have t3:y3.cell? ⟨wr.heap.size,3,none⟩=some (.slice la l.length lc):=zaN Qb jg.out s3
    have qD:=znQ qJ
    have qF:=znQ qP
    have qQ:=znQ Qb
    have Jb:=znQ qZ
    have Jt:=znQ Qy
    clear Z f qd Qh QN qJ qP Qb qZ Qy
    (try go_wp2_with fail)
    refine hK.out _ _ ?_ (fun Jn=> ?_)
    ·exact ⟨q1,q2,q3⟩
    clear hK K
    try simp only [Act.put,tkUa,tkUb,tkUc]
    refine wpAnyH_ready (rs:=[11]) (by kernel_rfl) (by simp) ?_
    refine AllReadyH.cons (o:=⟨some 79,_,_,_,_,_⟩) rfl (fun K hK=> ?_) AllReadyH.nil
    go_simp
    refine hK.out _ _ ?_ (fun QG=> ?_)
    ·exact ⟨p1,p2,p3⟩
    clear hK K
    try simp only [Act.put,tkUa,tkUb,tkUc]
    refine tkU 12 (some 80) (v:= ?_) rfl (.inl ⟨by rfl,?_⟩) QG ?_
    rotate_left
    ·intro w z
     (try dsimp only at z)
     obtain ⟨E,qn,ql⟩:=z
     go_simp
     try with_reducible rfl
    try simp only [Act.put,tkUa,tkUb,tkUc]
    refine wpAnyH_ready (rs:=[13]) (by kernel_rfl) (by simp) ?_
    refine AllReadyH.cons (o:=⟨none,_,_,_,_,_⟩) rfl (fun K hK=> ?_) AllReadyH.nil
    go_simp
    refine hK.out _ _ ?_ (fun Jp=> ?_)
    ·exact ⟨s1,s2,s3⟩
    clear hK K
    try simp only [Act.put,tkUa,tkUb,tkUc]
    refine wpAnyH_ready (rs:=[14]) (by kernel_rfl) (by simp) ?_
    refine AllReadyH.cons (o:=⟨none,_,_,_,_,_⟩) rfl (fun K hK=> ?_) AllReadyH.nil
    go_simp
    refine hK.out _ _ ?_ (fun Jo=> ?_)
    ·exact ⟨t1,t2,t3⟩
    clear hK K
    try simp only [Act.put,tkUa,tkUb,tkUc]
    refine wpAnyH_done (by kernel_rfl) ?_ _
    clear m1 m2 m3 q1 q2 q3 p1 p2 p3 s1 s2 s3 t1 t2 t3 jA jf QX
    have jy:=jh.out.off (zaK O.out.la)
    have jZ:=jh.out.off (zaK O.out.lb)
    have QV:=O.out.off (zaK O.out.la)
    have jM:=O.out.off (zaK O.out.lb)
    have Jh:=((jh.out.beside (zaG qD.out) Jg.out jp.out jy).beside (zaG qF.out) Jg.out jp.out jy).beside (zaG qQ.out) JJ.out Jj.out jZ
    have QC:=jV.out.row zaS
    have jo: ∀ad,a7=some ad→ad.block≠A:=fun ad ha q=>by
     obtain ⟨p,v,hp,hv⟩:=zdM QC qm.out ha
     rw [zaK O.out.la p (hp.trans q)] at hv
     cases hv
    have jP: ∀ad,a7=some ad→ad.block≠B:=fun ad ha q=>by
     obtain ⟨p,v,hp,hv⟩:=zdM QC qm.out ha
     rw [zaK O.out.lb p (hp.trans q)] at hv
     cases hv
    have QP:=zaO (zaO (zaO QC jo (zaG qD.out)) jo (zaG qF.out)) jP (zaG qQ.out)
    have jT:zbD y3 A B (putE ⟨nm,C,.slice a7 zs.length c7⟩ T) (upd yf nm zs):=zbD.put O.out.so O.out.few (fun e Y=>by
     obtain ⟨ao,cp,h1,h2⟩:=O.out.row e Y
     exact ⟨ao,cp,h1,zaO (zaO (zaO h2 (fun ad ha=>QV e Y ad _ _ (by rw [h1,ha])) (zaG qD.out)) (fun ad ha=>QV e Y ad _ _ (by rw [h1,ha])) (zaG qF.out)) (fun ad ha=>jM e Y ad _ _ (by rw [h1,ha])) (zaG qQ.out)⟩)
     (zaM Jb.out (qQ.out.block A Jb.out.lt (fun q=>js.out (Option.some.inj q)))) Jt.out QP Qz.out qm.out (by have:=jq.out;omega)
    have Js:=znQ Jh
    have JI:=znQ jT
    have jO:=znQ (jI.out.put nm C (.slice a6 zs.length c6) (.slice a7 zs.length c7) zs)
    have Ja:=znQ (((H.out.trans (zbE (zaG qD.out) jl.out H.out.size)).trans (zbE (zaG qF.out) jl.out (Nat.le_trans H.out.size qD.out.size))).trans (zbE (zaG qQ.out) JC.out (Nat.le_trans (Nat.le_trans H.out.size qD.out.size) qF.out.size)))
    clear jy jZ QV jM Jh QC jo jP QP jT
    obtain ⟨g5,jL,Jw,JN,qX⟩: ∃g5,y.heap.size≤g5∧a5=some ⟨g5,0,none⟩∧ ∃qj,x5.heap[g5]? =some (.cells qj 38):=by
     rcases qM.out.2 with ⟨_,hz⟩|⟨gb,QF,qj,Y,qg,Qc,_⟩
     ·exact absurd (List.eq_nil_of_length_eq_zero hz) qm.out
     ·simp only [Value.slice.injEq] at Y
      exact ⟨gb,qg,Y.1,qj,Qc⟩
    subst Jw
    have ja:g5≠M:=fun q=>by have:=qL.out ⟨g5,0,none⟩ q;rw [zbA qM.out qm.out] at this;cases this
    have QI:g5≠A:=fun q=>by have:=zaK qi.out.la ⟨g5,0,none⟩ q;rw [zbA qM.out qm.out] at this;cases this
    have jt:g5≠B:=fun q=>by have:=zaK qi.out.lb ⟨g5,0,none⟩ q;rw [zbA qM.out qm.out] at this;cases this
    have h5:=zaH qX
    have l6:=znR h5 QU.out.size
    have l7:=znR l6 QJ.out.size
    have k1:=znR l7 qD.out.size
    have k2:=znR k1 qF.out.size
    have Qs:y3.heap[g5]? =x5.heap[g5]? :=(qQ.out.block g5 k2 (fun q=>jt (Option.some.inj q))).trans ((qF.out.block g5 k1 (fun q=>QI (Option.some.inj q))).trans ((qD.out.block g5 l7 (fun q=>QI (Option.some.inj q))).trans ((QJ.out.block g5 l6).trans (QU.out.block g5 h5 (fun q=>ja (List.mem_singleton.1 q))))))
    have QK:=Qs.trans qX
    have c0:y3.cell? ⟨g5,0,none⟩=_:=(World.cell?_of_block (a:=⟨g5,0,none⟩) Qs).trans (zbA qM.out qm.out)
    have f0:=zaW QK 0
    have Jl:Hid (∀e∈putE ⟨nm,C,.slice a6 zs.length c6⟩ (zeT nm L),∀a n k,e.sv= .slice (some a) n k→a.block≠g5):=fun e Y a n k hs=>by
     rcases zaU.1 Y with rfl|⟨Y,_⟩
     ·have:=zmI JG.out hs
      omega
     ·obtain ⟨p,v,hp,hv⟩:=jr.out.at (zbX Y) hs
      have:=World.block_lt_of_cell? y _ hv
      omega
    have Ji:Hid (∀e∈putE ⟨nm,C,.slice a7 zs.length c7⟩ T,∀a n k,e.sv= .slice (some a) n k→a.block≠g5):=fun e Y a n k hs=>by
     rcases zaU.1 Y with rfl|⟨Y,_⟩
     ·have:=zmI jV.out hs
      have:x6.heap.size≤x6.drew.heap.size:=Nat.le_refl _
      omega
     ·obtain ⟨p,v,hp,hv⟩:=Je.out.at Y hs
      have:=World.block_lt_of_cell? y _ hv
      omega
    obtain ⟨X,hX⟩: ∃X,X=y3.setCell ⟨g5,0,none⟩ (.iface 36 (.int .u32 12345)):=⟨_,rfl⟩
    have qK:Only [g5] y3 X:=by rw [hX];exact ⟨rfl,rfl,rfl,by simp [World.setCell],fun k _ V=>zaZ (fun q=>V (by rw [q];simp)) 0 _⟩
    have JE:Hid (cc≠g5):=fun q=>by have h1:=jr.out.cac.box;have:=zaH h1;omega
    have QE:=znQ (Js.out.beside qK JE.out (fun q=>ja q.symm) Jl.out)
    have qG:=znQ (JI.out.only qK (fun q=>QI q.symm) (fun q=>jt q.symm) Ji.out)
    have QS:=znQ (Ja.out.trans (zbE qK (Nat.le_trans qS.out.size jL) Ja.out.size))
    clear h5 l6 l7 k1 k2 Qs QK qK qX ja QI jt jL
    have jB:0<zs.length:=List.length_pos_iff.2 qm.out
    have QY:(0:Int)<zs.length:=by omega
    have Qg:=qm.out
    go_upto_region 18 with fail
    rw [←hX]
    clear hX c0 f0 jB QY Qg
    have qY:=znQ (zdV cc M (putE ⟨nm,C,.slice a6 zs.length c6⟩ (zeT nm L)) X QE.out.cac)
    have jb:(((putE ⟨nm,C,.slice a6 zs.length c6⟩ (zeT nm L))).length:Int)≤64:=by have:=QE.out.len;omega
    have jG:=znQ (by have:=zbD.len (T:=T) ⟨nm,C,.slice a7 zs.length c7⟩;omega:((putE ⟨nm,C,.slice a7 zs.length c7⟩ T)).length≤j+1)
    generalize (putE ⟨nm,C,.slice a6 zs.length c6⟩ (zeT nm L))=Lx at*
    generalize (putE ⟨nm,C,.slice a7 zs.length c7⟩ T)=Tx at*
    generalize (upd zf nm zs)=zx at*
    generalize (upd yf nm zs)=yx at*
    go_wp2_with fail
    refine qY.out.mono ?_
    rintro e xl ⟨rfl,rfl⟩
    have qv:=qG.out.la
    clear qY
    go_wp2_with (first
     |(at_range;refine wpList_range_own _ rfl _ 26 rfl 9 31 zcK Tryz.underlying26 zbH A Tx.length _ rfl qv ?_;intro w0 qA qb QW)
     |go_in)
    try go_frame
    have Qj:=znQ qA
    have G:Hid (Below X.heap.size X w0):=⟨qb.os,qb.tape,qb.output,qb.size,fun k V=>qb.block k V (by simp)⟩
    clear qv qA qb QW jb
    go_loopw [89] (fun _ wq=> ∃(left:Lit→Bool) (Qf:Nat),Hid (wq.ranges Tryz.prog 9 zbH A X.heap.size Tx.length (DG CE.sv Tx) left Qf)∧Hid (Below X.heap.size X wq)) (fun _ wq=>wq.rangeLeft A X.heap.size)
    case atStart=>exact ⟨_,_,Qj,G⟩
    case round=>
     obtain ⟨left,Qf,jv,qk⟩:=hrel
     have qq:=jv.out
     go_wp2_with (first
      |(at_next;refine wpList_next_ranges (α:=ByteArray) (β:=Option Addr×Nat×Nat) _ rfl _ rfl 9 zcK zbH (fun s=> .string s) (fun p=> .slice p.1 p.2.1 p.2.2) (fun key kl V=>by
        obtain ⟨s,rfl,_⟩:=WideMaps.string_of_keyOf Tryz.underlying9 V
        exact ⟨s,rfl⟩) (fun v y hv=>by
        obtain ⟨a,k,c,rfl,_⟩:=zbL hv
        exact ⟨(a,k,c),rfl⟩) A X.heap.size Tx.length _ _ _ rfl qq ?_ ?_)
      |go_in)
     ·intro _ _
      have jC:=znQ (QS.out.trans (qk.out.mono QS.out.size))
      have jH:=znQ (QE.out.keep qk.out)
      have jw:=znQ (qG.out.keep qk.out)
      clear qq
      go_wp2
      go_roundw
      case rel=>exact ⟨j+1,Lx,Tx,zx,yx,by omega,by go_num,jG.out,jH,jw,jO,jC⟩
      case measure=>simp [intOf];omega
     ·intro s a k c3 kl yd yp w1 qB qy Qq hv Qw Q qw Ql E Qk
      obtain ⟨s',es,rfl,jz⟩:=WideMaps.string_of_keyOf Tryz.underlying9 qy
      cases es
      obtain ⟨e,Y,qx,rfl⟩:=cameG Qw
      obtain ⟨a0,k0,c0,jj,hy⟩:=zbL hv
      have qh:e.sv= .slice a k c3:=by
       simp only [Prod.mk.injEq,DataW.held.injEq] at hy
       exact hy.1
      obtain ⟨ao,cp,Qn,qC⟩:=qG.out.row e Y
      rw [Qn] at qh
      simp only [Value.slice.injEq] at qh
      obtain ⟨rfl,rfl,rfl⟩:=qh
      obtain rfl:s=⟨e.nm.toArray⟩:=by cases s;simp [qx]
      rw [show (⟨e.nm.toArray⟩:ByteArray).data.toList=e.nm by simp] at Qq Q
      have R:=znQ (qk.out.grown Ql qk.out.size (fun k V=>by cases V;exact Nat.le_refl _))
      have qo:=znQ (QE.out.keep R.out)
      have qs:=znQ Q
      have I:=znQ (qG.out.few e Y)
      have Qa:=znQ qq.left_eq
      have Qr:=znQ qw
      have jn:Hid (X.heap.size<w1.heap.size):=Q.lt
      have jc:=znQ (fun W (hW:Below X.heap.size X W)=>RowX.keep zaS qC hW)
      have jd:Hid (∀W,Below X.heap.size X W→(Instr.lookup 27 (.map (some B)) (.string ⟨e.nm.toArray⟩) false).run Tryz.prog W= .ok (.int .i64 e.un) W):=fun W hW=>(qG.out.keep hW).tick Y I.out.1
      have Qp:=znQ Y
      have Jq:=E
      clear qq Q Ql Qq Qw qy qw qC Qn hv jj hy jz qx Y
      by_cases N: ∃g∈Lx,g.nm=e.nm∧a1<g.un
      ·obtain ⟨g,qI,qp,qT⟩:=N
       obtain ⟨e2,h2,h3,h4,h5⟩:=jO.out g qI
       obtain rfl:=qG.out.so.one h2 Qp.out (h3.trans qp)
       have qa:=znQ (zeA cc M Lx zx e2.nm a1 w1 qo.out I.out.1 (by rw [←qp];exact zbI qo.out.cac.map.2 qI) qT)
       rw [show zx e2.nm=yx e2.nm by rw [←qp,h5]] at qa
       have JF:decide (e2.un≤a1)=false:=decide_eq_false (by rw [h4];omega)
       clear h2 h3 h4 h5 qI qp qT
       go_upto_region 23 with fail
       go_wp2_with fail
       refine qa.out.mono ?_
       rintro e7 x7 ⟨v7,rfl,Z,f⟩
       obtain ⟨gq,jm,ji,jQ,P,k7,rfl⟩: ∃gq,w1.heap.size≤gq∧True∧ ∃qj,x7.heap[gq]? =some (.cells qj 38)∧ ∃k7,v7= .slice (some ⟨gq,0,none⟩) (yx e2.nm).length k7:=by
        rcases Z.2 with ⟨_,hz⟩|⟨gb,QF,qj,QZ,qg,Qc,_⟩
        ·exact absurd (List.eq_nil_of_length_eq_zero hz) I.out.2.1
        ·exact ⟨gb,qg,trivial,qj,Qc,QF,QZ⟩
       have H:=znQ (R.out.trans (f.mono R.out.size))
       have jF:=jd.out x7 H.out
       have Qv:=zbA Z I.out.2.1
       have Qt:=znQ (zcF (some ⟨gq,0,none⟩) ao k7 cp (yx e2.nm) x7 (Z.row zaS) (jc.out x7 H.out) (by have:=I.out.2.2;omega))
       have qf:w1.grownBy x7 none:=⟨f.os,f.tape,f.output,f.size,fun k V _=>f.block k V⟩
       have U:=znQ (qs.out.kept qf (by simp) (by simp))
       have qH:Hid (X.heap.size<gq):=by have:=jn.out;show _<_;omega
       clear Z f qf qa Qk jm ji
       go_wp2_with fail
       refine Qt.out.mono ?_
       rintro e8 x8 ⟨rfl,J⟩
       have hh:=J.block gq (zaH P)
       have c0:=(World.cell?_of_block (a:=⟨gq,0,none⟩) hh).trans Qv
       have f0:=zaW (hh.trans P) 0
       have je:=znQ ((H.out.trans (J.mono H.out.size)).setCell (p:=⟨gq,0,none⟩) (Nat.le_of_lt qH.out) (.iface 36 (.int .u32 54321)))
       have Qx:x7.grownBy x8 none:=⟨J.os,J.tape,J.output,J.size,fun k V _=>J.block k V⟩
       have qU:x8.grownBy (x8.setCell ⟨gq,0,none⟩ (.iface 36 (.int .u32 54321))) (some gq):=⟨rfl,rfl,rfl,by simp [World.setCell],fun k _ V=>zaZ (fun q=>V (by rw [q])) 0 _⟩
       have qE:=znQ ((U.out.kept Qx (by simp) (by simp)).kept qU (fun q=>by have:=Option.some.inj q;have:=qG.out.la.lt;have:=qH.out;omega) (fun q=>by have:=Option.some.inj q;have:=qH.out;omega))
       have jB:0<(yx e2.nm).length:=List.length_pos_iff.2 I.out.2.1
       have QY:(0:Int)<(yx e2.nm).length:=by omega
       have Qg:=I.out.2.1
       clear J Qx qU hh Qv P jF Qt
       go_wp2
       go_roundw
       case rel=>exact ⟨_,qB,qE,je⟩
       case measure=>rw [qE.out.left_eq,Qa.out];exact Qr.out
      ·have qa:=znQ (zfX cc M Lx e.nm a1 w1 qo.out.cac I.out.1 (fun g hg hu=>N ⟨g,(zaP hg).1,(zaP hg).2,hu⟩))
       clear N
       go_upto_region 23 with fail
       go_wp2_with fail
       refine qa.out.mono ?_
       rintro e7 x7 ⟨rfl,f⟩
       have H:=znQ (R.out.trans (f.mono R.out.size))
       have qf:w1.grownBy x7 none:=⟨f.os,f.tape,f.output,f.size,fun k V _=>f.block k V⟩
       have U:=znQ (qs.out.kept qf (by simp) (by simp))
       clear f qf qa Qk
       go_wp2
       go_roundw
       case rel=>exact ⟨_,qB,U,H⟩
       case measure=>rw [U.out.left_eq,Qa.out];exact Qr.out
  ·have JH:j=z0.length:=by omega
   subst JH
   clear qw
   go_wp2
   go_ret
   exact ⟨rfl,HB.out⟩
end
end Go.Proofs.YtkiehdigpchebaaGreatDoor
