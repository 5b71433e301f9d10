/-
  What the law AuthorityAgrees leans on, and its walk (29 of 43).
-/
import Derived.Test.YtegmcmgndllmaaaGreatDoorAuthorityAgreesPkY
import Derived.Test.YtegmcmgndllmaaaGreatDoorAuthorityAgreesPkc
import Derived.Test.YtegmcmgndllmaaaGreatDoorAuthorityAgreesPkQ
import Derived.Test.YtegmcmgndllmaaaGreatDoorAuthorityAgreesPkR
namespace Go.Proofs.YtegmcmgndllmaaaGreatDoor
set_option maxRecDepth 100000
set_option maxHeartbeats 16000000
abbrev yoR := @Lib.hid
abbrev yoS := @decide_eq_false
abbrev yoT := @decide_eq_true
section
open Go.RowKit
theorem mkf (e:Fn) (first d:Array Value) (w:World):(Instr.makeFunc e first d).run Tryz.prog w= .ok (.func e first d) w:=rfl
theorem zmC (of_:List UInt8) (w:World):
  Calls Tryz.prog 155 #[.string ⟨of_.toArray⟩] w fun e w'=>e= .returned (.func (.func 223) #[] #[.pointer (some ⟨w.heap.size,0,none⟩)])∧w'=w.alloc (.cells #[.string ⟨of_.toArray⟩] 9):=by
 have d:=mkf
 go_enter Tryz.func155,Tryz.ntmps155
 go_wp2
 go_ret
 exact ⟨rfl,rfl⟩
theorem zhE (of_:List UInt8) (h: ∀c∈of_,c.toNat<128) (M:Nat) (l:List UInt8) (w:World) (i:MB w M l):
  Calls Tryz.prog 86 #[.pointer (some ⟨M,0,none⟩),.func (.func 223) #[] #[.pointer (some ⟨w.heap.size,0,none⟩)]] (w.alloc (.cells #[.string ⟨of_.toArray⟩] 9)) (RetU w [] M (l.take (l.findIdx (hasB of_))) (l.drop (l.findIdx (hasB of_)))):=by
 have f:Below w.heap.size w (w.alloc (.cells #[.string ⟨of_.toArray⟩] 9)):=(Below.refl _ w).alloc (Nat.le_refl _) _
 have d:=heap_alloc_new w (.cells #[.string ⟨of_.toArray⟩] 9)
 have:=zjJ (yiO h) [] (fun (_:Unit) _=>True) 223 #[.pointer (some ⟨w.heap.size,0,none⟩)] (enters_of Tryz.func223 (by kernel_rfl) rfl) M l () _ (i.below f) (by simp) (fun b f=>by cases f) trivial (fun _ _ _ _ _=>trivial) (yjO of_ h w.heap.size _ (by simp) (zaA d 0))
 rw [ygE] at this
 exact this.mono fun e w' ⟨g,m,j⟩=>⟨g,m,(Only.of_below (F:=[M]) f).trans j (fun x o=> .inl o)⟩
theorem zqK (M:Nat) (l:List UInt8) (w:World) (e:MB w M l):
  Calls Tryz.prog 86 #[.pointer (some ⟨M,0,none⟩),.func (.func 87) #[] #[]] w (RetU w [] M (l.take (zdZ l)) (zhB l)):=by
 have:=zjJ yaO [] (fun (_:Unit) _=>True) 87 #[] (enters_of Tryz.func87 (by kernel_rfl) rfl) M l () w e (by simp) (fun b d=>by cases d) trivial (fun _ _ _ _ _=>trivial) (yhT w)
 rw [←zjC]
 exact this
theorem zuE (B:Nat): ∀(s:Bool) (W d:World),CapB B s W→(∀b∈[B],d.heap[b]? =W.heap[b]?)→CapB B s d:=fun _ _ _ h k=>(k B (by simp)).trans h
theorem z5D {w:World} {M:Nat} {l:List UInt8} (e:MB w M l):Below w.heap.size w (w.alloc (.cells #[.bool false] 4))∧CapB w.heap.size false (w.alloc (.cells #[.bool false] 4))∧MB (w.alloc (.cells #[.bool false] 4)) M l∧M∉[w.heap.size]:=
 have d:Below w.heap.size w (w.alloc (.cells #[.bool false] 4)):=(Below.refl _ w).alloc (Nat.le_refl _) _
 ⟨d,heap_alloc_new w _,e.below d,fun h=>by have:=zaK e;simp at h;omega⟩
theorem zzW {w x y:World} {M:Nat} (d:Below w.heap.size w x) (h:Only (M::[w.heap.size]) x y):Only [M] w y:=
 (Only.of_below (F:=[M]) d).trans h (fun x f=>by
  rcases List.mem_cons.1 f with e|e
  ·exact .inl (by rw [e];exact List.mem_cons_self ..)
  ·rw [List.mem_singleton] at e;exact .inr (by omega))
def RetSch (w:World) (M:Nat) (o:Option (List UInt8×List UInt8)) (l:List UInt8) (e:Ending) (w':World):Prop:=
 e= .returned (.tuple #[.string ⟨((o.map Prod.fst).getD []).toArray⟩,.bool o.isSome])∧MB w' M ((o.map Prod.snd).getD l)∧Only [M] w w'
theorem z3M (M:Nat) (l:List UInt8) (w:World) (hl:l.length≤1073741824) (Y:MB w M l):
  Calls Tryz.prog 85 #[.pointer (some ⟨M,0,none⟩)] w (RetSch w M (schW l) l):=by
 have qb:=mkf
 obtain ⟨E,I,d,D⟩:=z5D Y
 have c0:=Y.cell
 have c1:=d.cell
 have Q:=yoR (zjJ yfO [w.heap.size] (CapB w.heap.size) 151 #[.pointer (some ⟨w.heap.size,0,none⟩)] (enters_of Tryz.func151 (by kernel_rfl) rfl) M l false _ d D (fun b E=>by simp at E;subst E;simp) I (zuE _) (ylI _ _))
 have HO:=yoR (fun y (h:Only (M::[w.heap.size]) (w.alloc (.cells #[.bool false] 4)) y)=>zzW E h)
 have C:=yoR (zsO l)
 have G:Hid (schN l≤l.length):=zwJ schS l false
 rw [show zbX schS false l=schN l from rfl] at Q
 clear Y d I D E
 go_enter Tryz.func85,Tryz.ntmps85
 go_wp2_with fail
 refine Q.out.mono ?_
 rintro e U ⟨rfl,d,Z⟩
 have j:=HO.out _ Z
 clear Z Q HO
 obtain ⟨n,H⟩: ∃n,schN l=n:=⟨_,rfl⟩
 rw [H] at d C G
 rw [H]
 by_cases K:n=0
 ·subst K
  rw [List.drop_zero] at d
  rw [List.take_zero]
  have d1:=d.cell
  have f1:=zaT d 0
  have o:Hid (schW l=none):=by show _=_;rw [C.out,if_neg (fun g=>g.1 rfl)]
  have T:Hid (MB (U.setCell ⟨M,0,none⟩ (.string ⟨l.toArray⟩)) M l∧Only [M] w (U.setCell ⟨M,0,none⟩ (.string ⟨l.toArray⟩))):=⟨d.set _,j.setCell (p:=⟨M,0,none⟩) (.inl (List.mem_cons_self ..)) _⟩
  clear d j H
  go_wp2
  go_ret2
  rw [o.out]
  exact ⟨rfl,T.out⟩
 ·have B:=yoR (zgC M (l.drop n) [58] U d)
  have qa:(l.take n).isEmpty=false:=by
   rw [Bool.eq_false_iff]
   intro g
   have:=G.out
   have N:(l.take n).length=0:=by rw [List.isEmpty_iff.1 g];rfl
   rw [List.length_take] at N
   omega
  have S:(l.take n).length≤1073741824:=by rw [List.length_take];omega
  have A:=yoR (fun W=>zkI ⟨(l.take n).toArray⟩ W (by rw [zaF];exact S))
  rw [zaM] at A
  have hd:hd1 [58] (l.drop n)=decide (l[n]? =some 58):=by
   cases e:l[n]? with
   |none=>rw [List.drop_eq_nil_of_le (by simpa using e)];rfl
   |some c=>
    obtain ⟨h1,N⟩:=List.getElem?_eq_some_iff.1 e
    rw [List.drop_eq_getElem_cons h1,N]
    show hasB [58] c=_
    by_cases g:c=58
    ·subst g;rfl
    ·rw [yoS (by simpa using g)]
     simp [hasB,Ne.symm g]
  rw [hd] at B
  clear hd
  generalize hq:l.take n=q at*
  by_cases i:l[n]? =some 58
  ·have o:Hid (schW l=some (zaI q,l.drop (n+1))):=by show _=_;rw [C.out,if_pos ⟨K,i⟩]
   rw [yoT i,if_pos rfl,List.drop_drop] at B
   clear i C hq K H
   go_wp2_with fail
   refine B.out.mono ?_
   rintro e L ⟨rfl,f,m⟩
   have X:=yoR (j.trans m (fun x O=> .inl O))
   have V:=yoR f
   clear B j m d f
   go_wp2_with fail
   refine (A.out _).mono ?_
   rintro e x3 ⟨rfl,J⟩
   go_wp2
   go_ret2
   rw [o.out]
   exact ⟨rfl,V.out.below J,X.out.then_below J⟩
  ·have o:Hid (schW l=none):=by show _=_;rw [C.out,if_neg (fun g=>i g.2)]
   rw [yoS i,if_neg (by decide)] at B
   clear i C hq K H
   go_wp2_with fail
   refine B.out.mono ?_
   rintro e L ⟨rfl,f,m⟩
   have d1:=f.cell
   have f1:=zaT f 0
   have T:Hid (MB (L.setCell ⟨M,0,none⟩ (.string ⟨l.toArray⟩)) M l∧Only [M] w (L.setCell ⟨M,0,none⟩ (.string ⟨l.toArray⟩))):=⟨f.set _,(j.trans m (fun x O=> .inl O)).setCell (p:=⟨M,0,none⟩) (.inl (List.mem_cons_self ..)) _⟩
   clear B j m d f A
   go_wp2
   go_ret2
   rw [o.out]
   exact ⟨rfl,T.out⟩
theorem ycI (M:Nat) (l:List UInt8) (w:World) (B:MB w M l):
  Calls Tryz.prog 220 #[.pointer (some ⟨M,0,none⟩)] w (RetU w [] M (hpW false l).1 (l.drop (zbX zgW false l))):=by
 have C:=mkf
 obtain ⟨g,i,d,f⟩:=z5D B
 have m:=yoR (zjJ z8G [w.heap.size] (CapB w.heap.size) 271 #[.pointer (some ⟨w.heap.size,0,none⟩)] (enters_of Tryz.func271 (by kernel_rfl) rfl) M l false _ d f (fun b g=>by simp at g;subst g;simp) i (zuE _) (yeK _ _))
 have A:=yoR (fun y (h:Only (M::[w.heap.size]) (w.alloc (.cells #[.bool false] 4)) y)=>zzW g h)
 rw [(zfZ l false).1] at m
 clear B d i f g
 go_enter Tryz.func220,Tryz.ntmps220
 go_wp2_with fail
 refine m.out.mono ?_
 rintro e D ⟨rfl,d,q⟩
 have o:=yoR (A.out _ q)
 have j:=yoR d
 clear q d m A
 go_wp2
 go_ret
 exact ⟨rfl,j.out,o.out⟩
theorem zeM (s:List UInt8) (w:World):Calls Tryz.prog 31 #[.string ⟨s.toArray⟩] w fun e w'=>e= .returned (.int .i64 (ownZ s))∧w=w':=by
 by_cases d:s=ziL
 ·subst d
  go_enter Tryz.func31,Tryz.ntmps31
  go_wp2
  go_ret
  exact ⟨rfl,rfl⟩
 ·by_cases f:s=zdX
  ·subst f
   go_enter Tryz.func31,Tryz.ntmps31
   go_wp2
   go_ret
   exact ⟨rfl,rfl⟩
  ·have g:Hid (ownZ s=0):=by show _=_;unfold ownZ;rw [if_neg d,if_neg f]
   have i:(s==[104,116,116,112])=false:=by rw [beq_eq_false_iff_ne];exact d
   have j:(s==[104,116,116,112,115])=false:=by rw [beq_eq_false_iff_ne];exact f
   clear d f
   go_enter Tryz.func31,Tryz.ntmps31
   go_wp2
   go_ret
   exact ⟨by rw [g.out];rfl,rfl⟩
theorem zvN (s:ByteArray) (k:Nat) (h:k<s.size) (d: ¬s[k].toNat<128):128≤(Utf8.decode s k).1:=(decode_high s k h (by omega)).1
theorem z1K {name l:List UInt8} (h:digP 0 l=none):zgJ name l=(0,false):=by unfold zgJ;rw [h]
theorem ybZ {name l:List UInt8} {n:Int} (h:digP 0 l=some n) (d:65535<n):zgJ name l=(0,false):=by unfold zgJ;rw [h];exact if_pos d
theorem ydD {name l:List UInt8} {n:Int} (h:digP 0 l=some n) (e: ¬65535<n) (d:l=[]∨n=ownZ name):zgJ name l=(-1,true):=by unfold zgJ;rw [h];exact (if_neg e).trans (if_pos d)
theorem ylR {name l:List UInt8} {n:Int} (h:digP 0 l=some n) (e: ¬65535<n) (d: ¬(l=[]∨n=ownZ name)):zgJ name l=(n,true):=by unfold zgJ;rw [h];exact (if_neg e).trans (if_neg d)
theorem ycD {c:Nat} (h:zaU (c:Int)=true):valZ (c:Int)=(c:Int) - 48∧48≤c∧c≤57:=by
 have d:48≤(c:Int)∧(c:Int)≤57:=by simpa [zaU] using h
 refine ⟨?_,by omega,by omega⟩
 unfold valZ
 (repeat' split)<;>omega
theorem zuI (name l:List UInt8) (w:World):
  Calls Tryz.prog 221 #[.string ⟨l.toArray⟩,.string ⟨name.toArray⟩] w fun e w'=>e= .returned (.tuple #[.int .i64 (zgJ name l).1,.bool (zgJ name l).2])∧Below w.heap.size w w':=by
 have hz:(ByteArray.mk l.toArray).size=l.length:=by simp [ByteArray.size]
 have L:=yoR (z1K (name:=name) (l:=l))
 have Z:=yoR (fun n=>ybZ (name:=name) (l:=l) (n:=n))
 have Y:=yoR (fun n=>ydD (name:=name) (l:=l) (n:=n))
 have U:=yoR (fun n=>ylR (name:=name) (l:=l) (n:=n))
 have V:=yoR (fun W=>zeM name W)
 obtain ⟨res,K⟩: ∃r,zgJ name l=r:=⟨_,rfl⟩
 rw [K] at L Z Y U ⊢
 clear K
 generalize ownZ name=own at*
 go_enter Tryz.func221,Tryz.ntmps221
 go_wp2
 go_loopg [6] l.length (fun gf o wx=> ∃(d:Nat) (n:Int),o= .int .i64 n∧0≤n∧n≤65536∧wx.heap[w.heap.size]? =some (.stringIter ⟨l.toArray⟩ d)∧Below w.heap.size w wx∧d≤l.length∧Hid (digP 0 l=digP n (l.drop d))∧l.length≤d+gf)
 case atStart=>exact ⟨0,0,rfl,by omega,by omega,World.iter_heap w _ 0,(Below.refl _ w).alloc (Nat.le_refl _) _,Nat.zero_le _,rfl,by omega⟩
 case round=>
  obtain ⟨d,n,rfl,qh,qd,H,q,qg,HS,qi⟩:=hrel
  by_cases M:d<l.length
  ·obtain ⟨g',rfl⟩: ∃g',gk=g'+1:=⟨gk - 1,by omega⟩
   have i:d<(ByteArray.mk l.toArray).size:=by rw [hz];exact M
   have D: ∀N,(Instr.next (.pointer (some ⟨w.heap.size,0,none⟩)) true N).run Tryz.prog wr=_:=fun N=>Lib.run_next_any_at wr w.heap.size _ d N H i
   have B:l.drop d=l[d]::l.drop (d+1):=List.drop_eq_getElem_cons M
   have C:(ByteArray.mk l.toArray)[d]=l[d]:=rfl
   by_cases f:(ByteArray.mk l.toArray)[d].toNat<128
   ·rw [decode_ascii _ d i f,C] at D
    rw [C] at f
    have I:=Lib.iterAt_heap wr w.heap.size _ d (d+1) H
    have j:=Lib.below_iterAt q (k:=w.heap.size) (Nat.le_refl _) ⟨l.toArray⟩ (d+1)
    simp only at D
    generalize wr.iterAt w.heap.size ⟨l.toArray⟩ (d+1)=wi at*
    obtain ⟨c,hc⟩: ∃c,l[d]=c:=⟨_,rfl⟩
    rw [hc] at D f B
    have E:Hid (digP 0 l=if zaU c.toNat=true then digP (min (10*n+((c.toNat:Int) - 48)) 65536) (l.drop (d+1)) else none):=by show _=_;rw [HS.out,B,digP]
    have X:=ycD (c:=c.toNat)
    clear hc B C H q i
    generalize c.toNat=G at*
    have J:=yoR (fun W=>zbO (G:Int) W)
    have HV:=yoR (fun W=>zbP (G:Int) W)
    cases O:zaU (G:Int) with
    |false=>
     rw [O] at J E
     have m:=yoR (L.out E.out)
     go_wp2_with fail
     refine (J.out _).mono ?_
     rintro e w' ⟨rfl,rfl⟩
     go_wp2
     go_ret2
     exact ⟨by rw [m.out];rfl,j⟩
    |true=>
     rw [O] at J E
     obtain ⟨v1,v2,v3⟩:=X O
     rw [v1] at HV
     have m:Hid (digP 0 l=digP (min (10*n+((G:Int) - 48)) 65536) (l.drop (d+1))):=E.out.trans (if_pos rfl)
     clear E O v1 X
     by_cases A:65536<10*n+((G:Int) - 48)
     ·have hm:min (10*n+((G:Int) - 48)) 65536=65536:=by omega
      rw [hm] at m
      go_wp2_with (first|(go_at_call 97;refine (J.out _).mono ?_;rintro e w' ⟨rfl,rfl⟩)|(go_at_call 107;refine (HV.out _).mono ?_;rintro e w' ⟨rfl,rfl⟩))
      go_roundg g'
      case measure=>omega
      case rel=>exact ⟨d+1,65536,rfl,by omega,by omega,I,j,by omega,m.out,by omega⟩
     ·have hm:min (10*n+((G:Int) - 48)) 65536=10*n+((G:Int) - 48):=by omega
      rw [hm] at m
      go_wp2_with (first|(go_at_call 97;refine (J.out _).mono ?_;rintro e w' ⟨rfl,rfl⟩)|(go_at_call 107;refine (HV.out _).mono ?_;rintro e w' ⟨rfl,rfl⟩))
      go_roundg g'
      case measure=>omega
      case rel=>exact ⟨d+1,10*n+((G:Int) - 48),rfl,by omega,by omega,I,j,by omega,m.out,by omega⟩
   ·have qb:=zvN _ d i f
    have S:zaU (l[d].toNat:Int)=false:=yoS (by rw [C] at f;omega)
    have m:=yoR (L.out (by rw [HS.out,B,digP,if_neg (by rw [S];decide)]))
    obtain ⟨R,hR⟩: ∃R,(Utf8.decode ⟨l.toArray⟩ d).1=R:=⟨_,rfl⟩
    rw [hR] at qb D
    have j:=Lib.below_iterAt q (k:=w.heap.size) (Nat.le_refl _) ⟨l.toArray⟩ (d+(Utf8.decode ⟨l.toArray⟩ d).2)
    generalize wr.iterAt w.heap.size ⟨l.toArray⟩ (d+(Utf8.decode ⟨l.toArray⟩ d).2)=wi at*
    have J:=yoR (fun W=>zbO (R:Int) W)
    rw [show zaU (R:Int)=false from yoS (by omega)] at J
    clear hR S B C f
    go_wp2_with fail
    refine (J.out _).mono ?_
    rintro e w' ⟨rfl,rfl⟩
    go_wp2
    go_ret2
    exact ⟨by rw [m.out];rfl,j⟩
  ·have i: ¬d<(ByteArray.mk l.toArray).size:=by rw [hz];exact M
   have D: ∀N,(Instr.next (.pointer (some ⟨w.heap.size,0,none⟩)) true N).run Tryz.prog wr=_:=fun N=>Lib.run_next_end_at wr w.heap.size _ d N H i
   have HE:Hid (digP 0 l=some n):=by show _=_;rw [HS.out,List.drop_eq_nil_of_le (by omega)];rfl
   by_cases A:65535<n
   ·have m:=yoR (Z.out n HE.out A)
    have O:decide (65535<n)=true:=yoT A
    go_wp2
    go_ret2
    exact ⟨by rw [m.out];rfl,q⟩
   ·have O:decide (65535<n)=false:=yoS A
    have T:=yoR (Y.out n HE.out (by omega))
    have qa:=yoR (U.out n HE.out (by omega))
    cases Q:l with
    |nil=>
     have m:=yoR (T.out (.inl Q))
     subst Q
     go_wp2
     go_ret2
     exact ⟨by rw [m.out];rfl,q⟩
    |cons c r=>
     have qe:l.isEmpty=false:=by rw [Q];rfl
     have qc:l≠[]:=by rw [Q];simp
     rw [←Q]
     clear Q
     by_cases ho:n=own
     ·have m:=yoR (T.out (.inr ho))
      subst ho
      go_wp2_with fail
      refine (V.out _).mono ?_
      rintro e w' ⟨rfl,rfl⟩
      go_wp2
      go_ret2
      exact ⟨by rw [m.out];rfl,q⟩
     ·have m:=yoR (qa.out (by rintro (g|g);exact qc g;exact ho g))
      have qf:(n==own)=false:=beq_eq_false_iff_ne.2 ho
      go_wp2_with fail
      refine (V.out _).mono ?_
      rintro e w' ⟨rfl,rfl⟩
      go_wp2
      go_ret2
      exact ⟨by rw [m.out];rfl,q⟩
def UZ.cells (u:UZ) (pv:Value):Array Value:= #[.string ⟨u.scheme.toArray⟩,.string ⟨u.user.toArray⟩,.string ⟨u.pass.toArray⟩,u.host.val,.int .i64 u.port,pv,.string ⟨u.query.toArray⟩,.bool u.hasQ,.string ⟨u.frag.toArray⟩,.bool u.hasF]
def UB (w:World) (U:Nat) (u:UZ) (pv:Value):Prop:=w.heap[U]? =some (.cells (u.cells pv) 27)
theorem UB.only {w w':World} {F:List Nat} {U:Nat} {u:UZ} {pv:Value} (h:UB w U u pv) (d:Only F w w') (e:U∉F):UB w' U u pv:=(d.block U (zaK h) e).trans h
theorem UB.below {w w':World} {U:Nat} {u:UZ} {pv:Value} (h:UB w U u pv) (d:Below w.heap.size w w'):UB w' U u pv:=(d.block U (zaK h)).trans h
theorem UB.qry {w:World} {U:Nat} {u:UZ} {pv:Value} (h:UB w U u pv) (q:List UInt8):UB ((w.setCell ⟨U,6,none⟩ (.string ⟨q.toArray⟩)).setCell ⟨U,7,none⟩ (.bool true)) U {u with query:=q,hasQ:=true} pv:=zaL (zaL h 6 _) 7 _
theorem UB.frg {w:World} {U:Nat} {u:UZ} {pv:Value} (h:UB w U u pv) (q:List UInt8):UB ((w.setCell ⟨U,8,none⟩ (.string ⟨q.toArray⟩)).setCell ⟨U,9,none⟩ (.bool true)) U {u with frag:=q,hasF:=true} pv:=zaL (zaL h 8 _) 9 _
theorem UB.ne {w:World} {U M:Nat} {u:UZ} {pv:Value} {l:List UInt8} (h:UB w U u pv) (d:MB w M l):U≠M:=fun e=>by
 subst e
 unfold UB at h
 rw [d] at h
 injection h with h
 injection h with _ h
 revert h
 decide
theorem MB.set2 {w:World} {M U:Nat} {l:List UInt8} (h:MB w M l) (d:U≠M) (i j:Nat) (a b:Value):MB ((w.setCell ⟨U,i,none⟩ a).setCell ⟨U,j,none⟩ b) M l:=by
 unfold MB
 rw [zcR d.symm,zcR d.symm]
 exact h
theorem znO {w x:World} {M U:Nat} (h:Only [M,U] w x) (i j:Nat) (a b:Value):Only [M,U] w ((x.setCell ⟨U,i,none⟩ a).setCell ⟨U,j,none⟩ b):=
 (h.setCell (p:=⟨U,i,none⟩) (.inl (by simp)) _).setCell (p:=⟨U,j,none⟩) (.inl (by simp)) _
theorem znJ {w x y:World} {M U:Nat} (h:Only [M,U] w x) (k:Only [M] x y):Only [M,U] w y:=h.trans k (fun z d=> .inl (by rw [List.mem_singleton.1 d];simp))
theorem UB.st6 {w:World} {U:Nat} {u:UZ} {pv:Value} (h:UB w U u pv) (a:Value):(w.cell? ⟨U,6,none⟩=some (.string ⟨u.query.toArray⟩)∧w.frozen? ⟨U,6,none⟩=false)∧(w.setCell ⟨U,6,none⟩ a).cell? ⟨U,7,none⟩=some (.bool u.hasQ)∧(w.setCell ⟨U,6,none⟩ a).frozen? ⟨U,7,none⟩=false:=⟨⟨zaA h 6,zaT h 6⟩,zaA (zaL h 6 a) 7,zaT (zaL h 6 a) 7⟩
theorem UB.st8 {w:World} {U:Nat} {u:UZ} {pv:Value} (h:UB w U u pv) (a:Value):(w.cell? ⟨U,8,none⟩=some (.string ⟨u.frag.toArray⟩)∧w.frozen? ⟨U,8,none⟩=false)∧(w.setCell ⟨U,8,none⟩ a).cell? ⟨U,9,none⟩=some (.bool u.hasF)∧(w.setCell ⟨U,8,none⟩ a).frozen? ⟨U,9,none⟩=false:=⟨⟨zaA h 8,zaT h 8⟩,zaA (zaL h 8 a) 9,zaT (zaL h 8 a) 9⟩
theorem zmK (c:UInt8) (l:List UInt8):hd1 [c] l=decide (l.head? =some c):=by
 match l with
 |[]=>rfl
 |d::r=>
  show hasB [c] d=_
  by_cases g:d=c
  ·subst g;simp [hasB]
  ·rw [yoS (by simpa using g)]
   simp [hasB,Ne.symm g]
theorem zfP (st:Int) (l:List UInt8) (w:World) (f:0≤st) (d:l.length≤67108864):Calls Tryz.prog 222 #[.int .u8 st,.string ⟨l.toArray⟩] w fun e w'=>e= .returned (.string ⟨(encW st l).toArray⟩)∧Below w.heap.size w w':=
 z0Y st ⟨l.toArray⟩ w f (by rw [zaF];exact d)
theorem z8Z (M U:Nat) (l:List UInt8) (u:UZ) (pv:Value) (w:World) (hl:l.length≤67108864) (V:MB w M l) (N:UB w U u pv) (C:l.head? ≠some 63):
  Calls Tryz.prog 157 #[.pointer (some ⟨M,0,none⟩),.pointer (some ⟨U,0,none⟩)] w fun e w'=>e= .returned (.tuple #[])∧UB w' U (finC u l) pv∧Only [M,U] w w':=by
 have E:=yoR (N.ne V)
 have S:=yoR N
 have T:=yoR (zgC M l [63] w V)
 rw [zmK,yoS C,if_neg (by decide)] at T
 have o:Hid (finC u l=if l.head? =some 35 then {u with frag:=encW 1 (l.drop 1),hasF:=true} else u):=if_neg C
 clear V N C
 go_enter Tryz.func157,Tryz.ntmps157
 go_wp2_with fail
 refine T.out.mono ?_
 rintro e x1 ⟨rfl,K,q⟩
 have L:=yoR (S.out.only q (by simp [E.out]))
 have H:=yoR (q.mono (G:=[M,U]) (fun x hx=>by rw [List.mem_singleton.1 hx];simp))
 have g:=yoR (zgC M l [35] x1 K)
 rw [zmK] at g
 clear T q K
 by_cases f:l.head? =some 35
 ·rw [yoT f,if_pos rfl] at g
  have j:=o.out.trans (if_pos f)
  clear o
  have o:=yoR j
  have Z:(l.drop 1).length≤l.length:=by rw [List.length_drop];omega
  generalize l.drop 1=m at*
  clear f j
  go_wp2_with fail
  refine (g.out).mono ?_
  rintro e Y ⟨rfl,i,d⟩
  have A:=yoR (L.out.only d (by simp [E.out]))
  have D:=yoR (znJ H.out d)
  have ca:=i.cell
  have qa:=yoR i
  clear i d
  have I:=yoR (fun W=>zfP 1 m W (by decide) (by omega))
  go_wp2_with fail
  refine (I.out _).mono ?_
  rintro e xb ⟨rfl,B⟩
  have J:=yoR (A.out.below B)
  have O:=yoR (D.out.then_below B)
  obtain ⟨⟨e8,f8⟩,e9,f9⟩:=J.out.st8 (.string ⟨(encW 1 m).toArray⟩)
  have X:=yoR (J.out.frg (encW 1 m))
  have Q:=yoR (znO O.out 8 9 (.string ⟨(encW 1 m).toArray⟩) (.bool true))
  clear I B
  go_wp2
  go_end0
  exact ⟨rfl,by rw [o.out];exact X.out,Q.out⟩
 ·rw [yoS f,if_neg (by decide)] at g
  have j:=o.out.trans (if_neg f)
  clear o
  have o:=yoR j
  clear f j
  go_wp2_with fail
  refine (g.out).mono ?_
  rintro e Y ⟨rfl,i,d⟩
  have A:=yoR (L.out.only d (by simp [E.out]))
  have D:=yoR (znJ H.out d)
  clear i d
  go_wp2
  go_end0
  exact ⟨rfl,by rw [o.out];exact A.out,D.out⟩
theorem z3D (M U:Nat) (l:List UInt8) (u:UZ) (pv:Value) (w:World) (hl:l.length≤67108864) (hm:MB w M l) (hu:UB w U u pv) (I:l.head? =some 63):
  Calls Tryz.prog 157 #[.pointer (some ⟨M,0,none⟩),.pointer (some ⟨U,0,none⟩)] w fun e w'=>e= .returned (.tuple #[])∧UB w' U (finC u l) pv∧Only [M,U] w w':=by
 have j:=yoR (hu.ne hm)
 have qf:=yoR hu
 have HK:=yoR (zgC M l [63] w hm)
 rw [zmK,yoT I,if_pos rfl] at HK
 have B:Hid (finC u l=_):=if_pos I
 have qm:(l.drop 1).length≤l.length:=by rw [List.length_drop];omega
 clear hm hu I
 generalize l.drop 1=r at*
 have qn:(r.take (r.findIdx (hasB [35]))).length≤r.length:=by rw [List.length_take];omega
 have ql:(r.drop (r.findIdx (hasB [35]))).length≤r.length:=by rw [List.length_drop];omega
 have qe:=yoR (fun W (h:MB W M r)=>zhE [35] (by decide) M r W h)
 have Z:=yoR (fun W=>zfP 3 (r.take (r.findIdx (hasB [35]))) W (by decide) (by omega))
 generalize r.take (r.findIdx (hasB [35]))=qt at*
 generalize r.drop (r.findIdx (hasB [35]))=Y at*
 go_enter Tryz.func157,Tryz.ntmps157
 go_wp2_with fail
 refine HK.out.mono ?_
 rintro e x1 ⟨rfl,N,D⟩
 have i:=yoR (qf.out.only D (by simp [j.out]))
 have f:=yoR (D.mono (G:=[M,U]) (fun x hx=>by rw [List.mem_singleton.1 hx];simp))
 have qb:=yoR (qe.out _ N)
 clear HK D N qe
 go_wp2_with fail
 refine (zmC [35] _).mono ?_
 rintro e x2 ⟨rfl,rfl⟩
 go_wp2_with fail
 refine qb.out.mono ?_
 rintro e x3 ⟨rfl,Q,J⟩
 have qc:=yoR (i.out.only J (by simp [j.out]))
 have qa:=yoR (znJ f.out J)
 have qd:=yoR Q
 clear qb Q J i f
 go_wp2_with fail
 refine (Z.out _).mono ?_
 rintro e x4 ⟨rfl,C⟩
 have K:=yoR (qc.out.below C)
 have S:=yoR (qa.out.then_below C)
 have V:=yoR (qd.out.below C)
 clear qc qa qd C Z
 obtain ⟨⟨e6,f6⟩,e7,f7⟩:=K.out.st6 (.string ⟨(encW 3 qt).toArray⟩)
 have O:=yoR (K.out.qry (encW 3 qt))
 have T:=yoR (znO S.out 6 7 (.string ⟨(encW 3 qt).toArray⟩) (.bool true))
 have E:=yoR (V.out.set2 j.out 6 7 (.string ⟨(encW 3 qt).toArray⟩) (.bool true))
 clear K S V
 have A:=yoR (zgC M Y [35] _ E.out)
 rw [zmK] at A
 by_cases g:Y.head? =some 35
 ·rw [yoT g,if_pos rfl] at A
  have q:=B.out.trans (if_pos g)
  have HF:=yoR q
  have qj:(Y.drop 1).length≤Y.length:=by rw [List.length_drop];omega
  generalize Y.drop 1=m at*
  clear g q B E
  go_wp2_with fail
  refine (A.out).mono ?_
  rintro e xa ⟨rfl,o,d⟩
  have i:=yoR (O.out.only d (by simp [j.out]))
  have f:=yoR (znJ T.out d)
  have ca:=o.cell
  have qk:=yoR o
  clear o d
  have L:=yoR (fun W=>zfP 1 m W (by decide) (by omega))
  go_wp2_with fail
  refine (L.out _).mono ?_
  rintro e xb ⟨rfl,H⟩
  have X:=yoR (i.out.below H)
  have qh:=yoR (f.out.then_below H)
  obtain ⟨⟨e8,f8⟩,e9,f9⟩:=X.out.st8 (.string ⟨(encW 1 m).toArray⟩)
  have qg:=yoR (X.out.frg (encW 1 m))
  have qi:=yoR (znO qh.out 8 9 (.string ⟨(encW 1 m).toArray⟩) (.bool true))
  clear L H
  go_wp2
  go_end0
  exact ⟨rfl,by rw [HF.out];exact qg.out,qi.out⟩
 ·rw [yoS g,if_neg (by decide)] at A
  have q:=B.out.trans (if_neg g)
  have HF:=yoR q
  clear g q B E
  go_wp2_with fail
  refine (A.out).mono ?_
  rintro e xa ⟨rfl,o,d⟩
  have i:=yoR (O.out.only d (by simp [j.out]))
  have f:=yoR (znJ T.out d)
  clear o d
  go_wp2
  go_end0
  exact ⟨rfl,by rw [HF.out];exact i.out,f.out⟩
theorem z2Z (M U:Nat) (l:List UInt8) (u:UZ) (pv:Value) (w:World) (d:l.length≤67108864) (f:MB w M l) (g:UB w U u pv):
  Calls Tryz.prog 157 #[.pointer (some ⟨M,0,none⟩),.pointer (some ⟨U,0,none⟩)] w fun e w'=>e= .returned (.tuple #[])∧UB w' U (finC u l) pv∧Only [M,U] w w':=by
 by_cases h:l.head? =some 63
 ·exact z3D M U l u pv w d f g h
 ·exact z8Z M U l u pv w d f g h
end
end Go.Proofs.YtegmcmgndllmaaaGreatDoor
