/-
  What the law AgreeNever leans on, and its walk (30 of 42).
-/
import Derived.Test.YtegmcmgndllmaaaGreatDoorAgreeNeverPkX
import Derived.Test.YtegmcmgndllmaaaGreatDoorAgreeNeverPkd
import Derived.Test.YtegmcmgndllmaaaGreatDoorAgreeNeverPkR
import Derived.Test.YtegmcmgndllmaaaGreatDoorAgreeNeverPkT
namespace Go.Proofs.YtegmcmgndllmaaaGreatDoor
set_option maxRecDepth 100000
set_option maxHeartbeats 16000000
abbrev ylL := @Lib.hid
abbrev ylM := @decide_eq_false
abbrev ylN := @decide_eq_true
section
open Go.RowKit
theorem mkf (f:Fn) (first d:Array Value) (w:World):(Instr.makeFunc f first d).run Tryz.prog w= .ok (.func f first d) w:=rfl
theorem znV (of_:List UInt8) (w:World):
  Calls Tryz.prog 155 #[.string ⟨of_.toArray⟩] w fun e w'=>e= .returned (.func (.func 223) #[] #[.pointer (some ⟨w.heap.size,0,none⟩)])∧w'=w.alloc (.cells #[.string ⟨of_.toArray⟩] 9):=by
 have d:=mkf
 go_enter Tryz.func155,Tryz.ntmps155
 go_wp2
 go_ret
 exact ⟨rfl,rfl⟩
theorem zhL (of_:List UInt8) (h: ∀c∈of_,c.toNat<128) (M:Nat) (l:List UInt8) (w:World) (o:MB w M l):
  Calls Tryz.prog 86 #[.pointer (some ⟨M,0,none⟩),.func (.func 223) #[] #[.pointer (some ⟨w.heap.size,0,none⟩)]] (w.alloc (.cells #[.string ⟨of_.toArray⟩] 9)) (RetU w [] M (l.take (l.findIdx (hasB of_))) (l.drop (l.findIdx (hasB of_)))):=by
 have f:Below w.heap.size w (w.alloc (.cells #[.string ⟨of_.toArray⟩] 9)):=(Below.refl _ w).alloc (Nat.le_refl _) _
 have d:=heap_alloc_new w (.cells #[.string ⟨of_.toArray⟩] 9)
 have:=zjV (ydP h) [] (fun (_:Unit) _=>True) 223 #[.pointer (some ⟨w.heap.size,0,none⟩)] (enters_of Tryz.func223 (by kernel_rfl) rfl) M l () _ (o.below f) (by simp) (fun b f=>by cases f) trivial (fun _ _ _ _ _=>trivial) (yjN of_ h w.heap.size _ (by simp) (zaB d 0))
 rw [ydD] at this
 exact this.mono fun e w' ⟨j,m,A⟩=>⟨j,m,(Only.of_below (F:=[M]) f).trans A (fun x i=> .inl i)⟩
theorem zqC (M:Nat) (l:List UInt8) (w:World) (f:MB w M l):
  Calls Tryz.prog 86 #[.pointer (some ⟨M,0,none⟩),.func (.func 87) #[] #[]] w (RetU w [] M (l.take (zeF l)) (ziX l)):=by
 have:=zjV z9X [] (fun (_:Unit) _=>True) 87 #[] (enters_of Tryz.func87 (by kernel_rfl) rfl) M l () w f (by simp) (fun b d=>by cases d) trivial (fun _ _ _ _ _=>trivial) (yeF w)
 rw [←ziQ]
 exact this
theorem ztL (B:Nat): ∀(s:Bool) (W d:World),CapB B s W→(∀b∈[B],d.heap[b]? =W.heap[b]?)→CapB B s d:=fun _ _ _ h k=>(k B (by simp)).trans h
theorem z9E {w:World} {M:Nat} {l:List UInt8} (d:MB w M l):Below w.heap.size w (w.alloc (.cells #[.bool false] 4))∧CapB w.heap.size false (w.alloc (.cells #[.bool false] 4))∧MB (w.alloc (.cells #[.bool false] 4)) M l∧M∉[w.heap.size]:=
 have f:Below w.heap.size w (w.alloc (.cells #[.bool false] 4)):=(Below.refl _ w).alloc (Nat.le_refl _) _
 ⟨f,heap_alloc_new w _,d.below f,fun h=>by have:=zaD d;simp at h;omega⟩
theorem zxQ {w x y:World} {M:Nat} (f:Below w.heap.size w x) (h:Only (M::[w.heap.size]) x y):Only [M] w y:=
 (Only.of_below (F:=[M]) f).trans h (fun x d=>by
  rcases List.mem_cons.1 d with e|e
  ·exact .inl (by rw [e];exact List.mem_cons_self ..)
  ·rw [List.mem_singleton] at e;exact .inr (by omega))
def RetSch (w:World) (M:Nat) (o:Option (List UInt8×List UInt8)) (l:List UInt8) (e:Ending) (w':World):Prop:=
 e= .returned (.tuple #[.string ⟨((o.map Prod.fst).getD []).toArray⟩,.bool o.isSome])∧MB w' M ((o.map Prod.snd).getD l)∧Only [M] w w'
theorem z1I (M:Nat) (l:List UInt8) (w:World) (hl:l.length≤1073741824) (Y:MB w M l):
  Calls Tryz.prog 85 #[.pointer (some ⟨M,0,none⟩)] w (RetSch w M (schW l) l):=by
 have qb:=mkf
 obtain ⟨I,J,d,G⟩:=z9E Y
 have c0:=Y.cell
 have c1:=d.cell
 have X:=ylL (zjV yfK [w.heap.size] (CapB w.heap.size) 151 #[.pointer (some ⟨w.heap.size,0,none⟩)] (enters_of Tryz.func151 (by kernel_rfl) rfl) M l false _ d G (fun b I=>by simp at I;subst I;simp) J (ztL _) (yhY _ _))
 have HO:=ylL (fun y (h:Only (M::[w.heap.size]) (w.alloc (.cells #[.bool false] 4)) y)=>zxQ I h)
 have C:=ylL (zrF l)
 have D:Hid (schN l≤l.length):=zvD schS l false
 rw [show zcB schS false l=schN l from rfl] at X
 clear Y d J G I
 go_enter Tryz.func85,Tryz.ntmps85
 go_wp2_with fail
 refine X.out.mono ?_
 rintro e V ⟨rfl,d,ho⟩
 have i:=HO.out _ ho
 clear ho X HO
 obtain ⟨n,E⟩: ∃n,schN l=n:=⟨_,rfl⟩
 rw [E] at d C D
 rw [E]
 by_cases K:n=0
 ·subst K
  rw [List.drop_zero] at d
  rw [List.take_zero]
  have d1:=d.cell
  have f1:=zaF d 0
  have m:Hid (schW l=none):=by show _=_;rw [C.out,if_neg (fun g=>g.1 rfl)]
  have U:Hid (MB (V.setCell ⟨M,0,none⟩ (.string ⟨l.toArray⟩)) M l∧Only [M] w (V.setCell ⟨M,0,none⟩ (.string ⟨l.toArray⟩))):=⟨d.set _,i.setCell (p:=⟨M,0,none⟩) (.inl (List.mem_cons_self ..)) _⟩
  clear d i E
  go_wp2
  go_ret2
  rw [m.out]
  exact ⟨rfl,U.out⟩
 ·have B:=ylL (zgQ M (l.drop n) [58] V d)
  have qc:(l.take n).isEmpty=false:=by
   rw [Bool.eq_false_iff]
   intro g
   have:=D.out
   have O:(l.take n).length=0:=by rw [List.isEmpty_iff.1 g];rfl
   rw [List.length_take] at O
   omega
  have Q:(l.take n).length≤1073741824:=by rw [List.length_take];omega
  have A:=ylL (fun W=>zkG ⟨(l.take n).toArray⟩ W (by rw [zaI];exact Q))
  rw [zaQ] at A
  have hd:hd1 [58] (l.drop n)=decide (l[n]? =some 58):=by
   cases e:l[n]? with
   |none=>rw [List.drop_eq_nil_of_le (by simpa using e)];rfl
   |some c=>
    obtain ⟨h1,O⟩:=List.getElem?_eq_some_iff.1 e
    rw [List.drop_eq_getElem_cons h1,O]
    show hasB [58] c=_
    by_cases g:c=58
    ·subst g;rfl
    ·rw [ylM (by simpa using g)]
     simp [hasB,Ne.symm g]
  rw [hd] at B
  clear hd
  generalize hq:l.take n=q at*
  by_cases j:l[n]? =some 58
  ·have m:Hid (schW l=some (zaM q,l.drop (n+1))):=by show _=_;rw [C.out,if_pos ⟨K,j⟩]
   rw [ylN j,if_pos rfl,List.drop_drop] at B
   clear j C hq K E
   go_wp2_with fail
   refine B.out.mono ?_
   rintro e N ⟨rfl,f,o⟩
   have S:=ylL (i.trans o (fun x Z=> .inl Z))
   have qa:=ylL f
   clear B i o d f
   go_wp2_with fail
   refine (A.out _).mono ?_
   rintro e x3 ⟨rfl,H⟩
   go_wp2
   go_ret2
   rw [m.out]
   exact ⟨rfl,qa.out.below H,S.out.then_below H⟩
  ·have m:Hid (schW l=none):=by show _=_;rw [C.out,if_neg (fun g=>j g.2)]
   rw [ylM j,if_neg (by decide)] at B
   clear j C hq K E
   go_wp2_with fail
   refine B.out.mono ?_
   rintro e N ⟨rfl,f,o⟩
   have d1:=f.cell
   have f1:=zaF f 0
   have U:Hid (MB (N.setCell ⟨M,0,none⟩ (.string ⟨l.toArray⟩)) M l∧Only [M] w (N.setCell ⟨M,0,none⟩ (.string ⟨l.toArray⟩))):=⟨f.set _,(i.trans o (fun x Z=> .inl Z)).setCell (p:=⟨M,0,none⟩) (.inl (List.mem_cons_self ..)) _⟩
   clear B i o d f A
   go_wp2
   go_ret2
   rw [m.out]
   exact ⟨rfl,U.out⟩
theorem z3N (M:Nat) (l:List UInt8) (w:World) (C:MB w M l):
  Calls Tryz.prog 220 #[.pointer (some ⟨M,0,none⟩)] w (RetU w [] M (hpW false l).1 (l.drop (zcB zgY false l))):=by
 have E:=mkf
 obtain ⟨i,j,d,f⟩:=z9E C
 have o:=ylL (zjV z8Z [w.heap.size] (CapB w.heap.size) 271 #[.pointer (some ⟨w.heap.size,0,none⟩)] (enters_of Tryz.func271 (by kernel_rfl) rfl) M l false _ d f (fun b i=>by simp at i;subst i;simp) j (ztL _) (yfE _ _))
 have B:=ylL (fun y (h:Only (M::[w.heap.size]) (w.alloc (.cells #[.bool false] 4)) y)=>zxQ i h)
 rw [(zgF l false).1] at o
 clear C d j f i
 go_enter Tryz.func220,Tryz.ntmps220
 go_wp2_with fail
 refine o.out.mono ?_
 rintro e G ⟨rfl,d,D⟩
 have A:=ylL (B.out _ D)
 have m:=ylL d
 clear D d o B
 go_wp2
 go_ret
 exact ⟨rfl,m.out,A.out⟩
theorem zgD (s:List UInt8) (w:World):Calls Tryz.prog 31 #[.string ⟨s.toArray⟩] w fun e w'=>e= .returned (.int .i64 (ownZ s))∧w=w':=by
 by_cases d:s=zjR
 ·subst d
  go_enter Tryz.func31,Tryz.ntmps31
  go_wp2
  go_ret
  exact ⟨rfl,rfl⟩
 ·by_cases f:s=zeY
  ·subst f
   go_enter Tryz.func31,Tryz.ntmps31
   go_wp2
   go_ret
   exact ⟨rfl,rfl⟩
  ·have i:Hid (ownZ s=0):=by show _=_;unfold ownZ;rw [if_neg d,if_neg f]
   have j:(s==[104,116,116,112])=false:=by rw [beq_eq_false_iff_ne];exact d
   have m:(s==[104,116,116,112,115])=false:=by rw [beq_eq_false_iff_ne];exact f
   clear d f
   go_enter Tryz.func31,Tryz.ntmps31
   go_wp2
   go_ret
   exact ⟨by rw [i.out];rfl,rfl⟩
theorem zuC (s:ByteArray) (k:Nat) (h:k<s.size) (d: ¬s[k].toNat<128):128≤(Utf8.decode s k).1:=(decode_high s k h (by omega)).1
theorem z1Z {name l:List UInt8} (h:digP 0 l=none):zgS name l=(0,false):=by unfold zgS;rw [h]
theorem z9I {name l:List UInt8} {n:Int} (h:digP 0 l=some n) (d:65535<n):zgS name l=(0,false):=by unfold zgS;rw [h];exact if_pos d
theorem z4T {name l:List UInt8} {n:Int} (h:digP 0 l=some n) (d: ¬65535<n) (f:l=[]∨n=ownZ name):zgS name l=(-1,true):=by unfold zgS;rw [h];exact (if_neg d).trans (if_pos f)
theorem yhN {name l:List UInt8} {n:Int} (h:digP 0 l=some n) (d: ¬65535<n) (f: ¬(l=[]∨n=ownZ name)):zgS name l=(n,true):=by unfold zgS;rw [h];exact (if_neg d).trans (if_neg f)
theorem z3R {c:Nat} (h:zaX (c:Int)=true):valZ (c:Int)=(c:Int) - 48∧48≤c∧c≤57:=by
 have d:48≤(c:Int)∧(c:Int)≤57:=by simpa [zaX] using h
 refine ⟨?_,by omega,by omega⟩
 unfold valZ
 (repeat' split)<;>omega
theorem zrR (name l:List UInt8) (w:World):
  Calls Tryz.prog 221 #[.string ⟨l.toArray⟩,.string ⟨name.toArray⟩] w fun e w'=>e= .returned (.tuple #[.int .i64 (zgS name l).1,.bool (zgS name l).2])∧Below w.heap.size w w':=by
 have hz:(ByteArray.mk l.toArray).size=l.length:=by simp [ByteArray.size]
 have N:=ylL (z1Z (name:=name) (l:=l))
 have qa:=ylL (fun n=>z9I (name:=name) (l:=l) (n:=n))
 have qc:=ylL (fun n=>z4T (name:=name) (l:=l) (n:=n))
 have Z:=ylL (fun n=>yhN (name:=name) (l:=l) (n:=n))
 have V:=ylL (fun W=>zgD name W)
 obtain ⟨res,K⟩: ∃r,zgS name l=r:=⟨_,rfl⟩
 rw [K] at N qa qc Z ⊢
 clear K
 generalize ownZ name=own at*
 go_enter Tryz.func221,Tryz.ntmps221
 go_wp2
 go_loopg [6] l.length (fun gf o wx=> ∃(d:Nat) (n:Int),o= .int .i64 n∧0≤n∧n≤65536∧wx.heap[w.heap.size]? =some (.stringIter ⟨l.toArray⟩ d)∧Below w.heap.size w wx∧d≤l.length∧Hid (digP 0 l=digP n (l.drop d))∧l.length≤d+gf)
 case atStart=>exact ⟨0,0,rfl,by omega,by omega,World.iter_heap w _ 0,(Below.refl _ w).alloc (Nat.le_refl _) _,Nat.zero_le _,rfl,by omega⟩
 case round=>
  obtain ⟨d,n,rfl,qj,qh,H,A,qk,HS,qg⟩:=hrel
  by_cases Q:d<l.length
  ·obtain ⟨g',rfl⟩: ∃g',gk=g'+1:=⟨gk - 1,by omega⟩
   have f:d<(ByteArray.mk l.toArray).size:=by rw [hz];exact Q
   have C: ∀O,(Instr.next (.pointer (some ⟨w.heap.size,0,none⟩)) true O).run Tryz.prog wr=_:=fun O=>Lib.run_next_any_at wr w.heap.size _ d O H f
   have D:l.drop d=l[d]::l.drop (d+1):=List.drop_eq_getElem_cons Q
   have G:(ByteArray.mk l.toArray)[d]=l[d]:=rfl
   by_cases i:(ByteArray.mk l.toArray)[d].toNat<128
   ·rw [decode_ascii _ d f i,G] at C
    rw [G] at i
    have J:=Lib.iterAt_heap wr w.heap.size _ d (d+1) H
    have j:=Lib.below_iterAt A (k:=w.heap.size) (Nat.le_refl _) ⟨l.toArray⟩ (d+1)
    simp only at C
    generalize wr.iterAt w.heap.size ⟨l.toArray⟩ (d+1)=wi at*
    obtain ⟨c,hc⟩: ∃c,l[d]=c:=⟨_,rfl⟩
    rw [hc] at C i D
    have E:Hid (digP 0 l=if zaX c.toNat=true then digP (min (10*n+((c.toNat:Int) - 48)) 65536) (l.drop (d+1)) else none):=by show _=_;rw [HS.out,D,digP]
    have qb:=z3R (c:=c.toNat)
    clear hc D G H A f
    generalize c.toNat=I at*
    have M:=ylL (fun W=>zbT (I:Int) W)
    have HV:=ylL (fun W=>zbS (I:Int) W)
    cases S:zaX (I:Int) with
    |false=>
     rw [S] at M E
     have m:=ylL (N.out E.out)
     go_wp2_with fail
     refine (M.out _).mono ?_
     rintro e w' ⟨rfl,rfl⟩
     go_wp2
     go_ret2
     exact ⟨by rw [m.out];rfl,j⟩
    |true=>
     rw [S] at M E
     obtain ⟨v1,v2,v3⟩:=qb S
     rw [v1] at HV
     have m:Hid (digP 0 l=digP (min (10*n+((I:Int) - 48)) 65536) (l.drop (d+1))):=E.out.trans (if_pos rfl)
     clear E S v1 qb
     by_cases B:65536<10*n+((I:Int) - 48)
     ·have hm:min (10*n+((I:Int) - 48)) 65536=65536:=by omega
      rw [hm] at m
      go_wp2_with (first|(go_at_call 97;refine (M.out _).mono ?_;rintro e w' ⟨rfl,rfl⟩)|(go_at_call 107;refine (HV.out _).mono ?_;rintro e w' ⟨rfl,rfl⟩))
      go_roundg g'
      case measure=>omega
      case rel=>exact ⟨d+1,65536,rfl,by omega,by omega,J,j,by omega,m.out,by omega⟩
     ·have hm:min (10*n+((I:Int) - 48)) 65536=10*n+((I:Int) - 48):=by omega
      rw [hm] at m
      go_wp2_with (first|(go_at_call 97;refine (M.out _).mono ?_;rintro e w' ⟨rfl,rfl⟩)|(go_at_call 107;refine (HV.out _).mono ?_;rintro e w' ⟨rfl,rfl⟩))
      go_roundg g'
      case measure=>omega
      case rel=>exact ⟨d+1,10*n+((I:Int) - 48),rfl,by omega,by omega,J,j,by omega,m.out,by omega⟩
   ·have qf:=zuC _ d f i
    have Y:zaX (l[d].toNat:Int)=false:=ylM (by rw [G] at i;omega)
    have m:=ylL (N.out (by rw [HS.out,D,digP,if_neg (by rw [Y];decide)]))
    obtain ⟨R,hR⟩: ∃R,(Utf8.decode ⟨l.toArray⟩ d).1=R:=⟨_,rfl⟩
    rw [hR] at qf C
    have j:=Lib.below_iterAt A (k:=w.heap.size) (Nat.le_refl _) ⟨l.toArray⟩ (d+(Utf8.decode ⟨l.toArray⟩ d).2)
    generalize wr.iterAt w.heap.size ⟨l.toArray⟩ (d+(Utf8.decode ⟨l.toArray⟩ d).2)=wi at*
    have M:=ylL (fun W=>zbT (R:Int) W)
    rw [show zaX (R:Int)=false from ylM (by omega)] at M
    clear hR Y D G i
    go_wp2_with fail
    refine (M.out _).mono ?_
    rintro e w' ⟨rfl,rfl⟩
    go_wp2
    go_ret2
    exact ⟨by rw [m.out];rfl,j⟩
  ·have f: ¬d<(ByteArray.mk l.toArray).size:=by rw [hz];exact Q
   have C: ∀O,(Instr.next (.pointer (some ⟨w.heap.size,0,none⟩)) true O).run Tryz.prog wr=_:=fun O=>Lib.run_next_end_at wr w.heap.size _ d O H f
   have HE:Hid (digP 0 l=some n):=by show _=_;rw [HS.out,List.drop_eq_nil_of_le (by omega)];rfl
   by_cases B:65535<n
   ·have m:=ylL (qa.out n HE.out B)
    have S:decide (65535<n)=true:=ylN B
    go_wp2
    go_ret2
    exact ⟨by rw [m.out];rfl,A⟩
   ·have S:decide (65535<n)=false:=ylM B
    have X:=ylL (qc.out n HE.out (by omega))
    have qd:=ylL (Z.out n HE.out (by omega))
    cases U:l with
    |nil=>
     have m:=ylL (X.out (.inl U))
     subst U
     go_wp2
     go_ret2
     exact ⟨by rw [m.out];rfl,A⟩
    |cons c r=>
     have qi:l.isEmpty=false:=by rw [U];rfl
     have qe:l≠[]:=by rw [U];simp
     rw [←U]
     clear U
     by_cases ho:n=own
     ·have m:=ylL (X.out (.inr ho))
      subst ho
      go_wp2_with fail
      refine (V.out _).mono ?_
      rintro e w' ⟨rfl,rfl⟩
      go_wp2
      go_ret2
      exact ⟨by rw [m.out];rfl,A⟩
     ·have m:=ylL (qd.out (by rintro (g|g);exact qe g;exact ho g))
      have ql:(n==own)=false:=beq_eq_false_iff_ne.2 ho
      go_wp2_with fail
      refine (V.out _).mono ?_
      rintro e w' ⟨rfl,rfl⟩
      go_wp2
      go_ret2
      exact ⟨by rw [m.out];rfl,A⟩
def UZ.cells (u:UZ) (pv:Value):Array Value:= #[.string ⟨u.scheme.toArray⟩,.string ⟨u.user.toArray⟩,.string ⟨u.pass.toArray⟩,u.host.val,.int .i64 u.port,pv,.string ⟨u.query.toArray⟩,.bool u.hasQ,.string ⟨u.frag.toArray⟩,.bool u.hasF]
def UB (w:World) (U:Nat) (u:UZ) (pv:Value):Prop:=w.heap[U]? =some (.cells (u.cells pv) 27)
theorem UB.only {w w':World} {F:List Nat} {U:Nat} {u:UZ} {pv:Value} (h:UB w U u pv) (f:Only F w w') (d:U∉F):UB w' U u pv:=(f.block U (zaD h) d).trans h
theorem UB.below {w w':World} {U:Nat} {u:UZ} {pv:Value} (h:UB w U u pv) (d:Below w.heap.size w w'):UB w' U u pv:=(d.block U (zaD h)).trans h
theorem UB.qry {w:World} {U:Nat} {u:UZ} {pv:Value} (h:UB w U u pv) (q:List UInt8):UB ((w.setCell ⟨U,6,none⟩ (.string ⟨q.toArray⟩)).setCell ⟨U,7,none⟩ (.bool true)) U {u with query:=q,hasQ:=true} pv:=zaK (zaK h 6 _) 7 _
theorem UB.frg {w:World} {U:Nat} {u:UZ} {pv:Value} (h:UB w U u pv) (q:List UInt8):UB ((w.setCell ⟨U,8,none⟩ (.string ⟨q.toArray⟩)).setCell ⟨U,9,none⟩ (.bool true)) U {u with frag:=q,hasF:=true} pv:=zaK (zaK h 8 _) 9 _
theorem UB.ne {w:World} {U M:Nat} {u:UZ} {pv:Value} {l:List UInt8} (h:UB w U u pv) (d:MB w M l):U≠M:=fun e=>by
 subst e
 unfold UB at h
 rw [d] at h
 injection h with h
 injection h with _ h
 revert h
 decide
theorem MB.set2 {w:World} {M U:Nat} {l:List UInt8} (h:MB w M l) (d:U≠M) (i j:Nat) (a b:Value):MB ((w.setCell ⟨U,i,none⟩ a).setCell ⟨U,j,none⟩ b) M l:=by
 unfold MB
 rw [zaZ d.symm,zaZ d.symm]
 exact h
theorem znB {w x:World} {M U:Nat} (h:Only [M,U] w x) (i j:Nat) (a b:Value):Only [M,U] w ((x.setCell ⟨U,i,none⟩ a).setCell ⟨U,j,none⟩ b):=
 (h.setCell (p:=⟨U,i,none⟩) (.inl (by simp)) _).setCell (p:=⟨U,j,none⟩) (.inl (by simp)) _
theorem znQ {w x y:World} {M U:Nat} (h:Only [M,U] w x) (k:Only [M] x y):Only [M,U] w y:=h.trans k (fun z d=> .inl (by rw [List.mem_singleton.1 d];simp))
theorem UB.st6 {w:World} {U:Nat} {u:UZ} {pv:Value} (h:UB w U u pv) (a:Value):(w.cell? ⟨U,6,none⟩=some (.string ⟨u.query.toArray⟩)∧w.frozen? ⟨U,6,none⟩=false)∧(w.setCell ⟨U,6,none⟩ a).cell? ⟨U,7,none⟩=some (.bool u.hasQ)∧(w.setCell ⟨U,6,none⟩ a).frozen? ⟨U,7,none⟩=false:=⟨⟨zaB h 6,zaF h 6⟩,zaB (zaK h 6 a) 7,zaF (zaK h 6 a) 7⟩
theorem UB.st8 {w:World} {U:Nat} {u:UZ} {pv:Value} (h:UB w U u pv) (a:Value):(w.cell? ⟨U,8,none⟩=some (.string ⟨u.frag.toArray⟩)∧w.frozen? ⟨U,8,none⟩=false)∧(w.setCell ⟨U,8,none⟩ a).cell? ⟨U,9,none⟩=some (.bool u.hasF)∧(w.setCell ⟨U,8,none⟩ a).frozen? ⟨U,9,none⟩=false:=⟨⟨zaB h 8,zaF h 8⟩,zaB (zaK h 8 a) 9,zaF (zaK h 8 a) 9⟩
theorem znY (c:UInt8) (l:List UInt8):hd1 [c] l=decide (l.head? =some c):=by
 match l with
 |[]=>rfl
 |d::r=>
  show hasB [c] d=_
  by_cases g:d=c
  ·subst g;simp [hasB]
  ·rw [ylM (by simpa using g)]
   simp [hasB,Ne.symm g]
theorem zfU (st:Int) (l:List UInt8) (w:World) (f:0≤st) (d:l.length≤67108864):Calls Tryz.prog 222 #[.int .u8 st,.string ⟨l.toArray⟩] w fun e w'=>e= .returned (.string ⟨(encW st l).toArray⟩)∧Below w.heap.size w w':=
 z2L st ⟨l.toArray⟩ w f (by rw [zaI];exact d)
theorem z9B (M U:Nat) (l:List UInt8) (u:UZ) (pv:Value) (w:World) (hl:l.length≤67108864) (Y:MB w M l) (S:UB w U u pv) (D:l.head? ≠some 63):
  Calls Tryz.prog 157 #[.pointer (some ⟨M,0,none⟩),.pointer (some ⟨U,0,none⟩)] w fun e w'=>e= .returned (.tuple #[])∧UB w' U (finC u l) pv∧Only [M,U] w w':=by
 have C:=ylL (S.ne Y)
 have qa:=ylL S
 have X:=ylL (zgQ M l [63] w Y)
 rw [znY,ylM D,if_neg (by decide)] at X
 have A:Hid (finC u l=if l.head? =some 35 then {u with frag:=encW 1 (l.drop 1),hasF:=true} else u):=if_neg D
 clear Y S D
 go_enter Tryz.func157,Tryz.ntmps157
 go_wp2_with fail
 refine X.out.mono ?_
 rintro e x1 ⟨rfl,Q,B⟩
 have J:=ylL (qa.out.only B (by simp [C.out]))
 have K:=ylL (B.mono (G:=[M,U]) (fun x hx=>by rw [List.mem_singleton.1 hx];simp))
 have i:=ylL (zgQ M l [35] x1 Q)
 rw [znY] at i
 clear X B Q
 by_cases f:l.head? =some 35
 ·rw [ylN f,if_pos rfl] at i
  have o:=A.out.trans (if_pos f)
  clear A
  have A:=ylL o
  have qc:(l.drop 1).length≤l.length:=by rw [List.length_drop];omega
  generalize l.drop 1=m at*
  clear f o
  go_wp2_with fail
  refine (i.out).mono ?_
  rintro e xa ⟨rfl,j,d⟩
  have E:=ylL (J.out.only d (by simp [C.out]))
  have I:=ylL (znQ K.out d)
  have ca:=j.cell
  have qd:=ylL j
  clear j d
  have O:=ylL (fun W=>zfU 1 m W (by decide) (by omega))
  go_wp2_with fail
  refine (O.out _).mono ?_
  rintro e xb ⟨rfl,H⟩
  have N:=ylL (E.out.below H)
  have Z:=ylL (I.out.then_below H)
  obtain ⟨⟨e8,f8⟩,e9,f9⟩:=N.out.st8 (.string ⟨(encW 1 m).toArray⟩)
  have V:=ylL (N.out.frg (encW 1 m))
  have qb:=ylL (znB Z.out 8 9 (.string ⟨(encW 1 m).toArray⟩) (.bool true))
  clear O H
  go_wp2
  go_end0
  exact ⟨rfl,by rw [A.out];exact V.out,qb.out⟩
 ·rw [ylM f,if_neg (by decide)] at i
  have o:=A.out.trans (if_neg f)
  clear A
  have A:=ylL o
  clear f o
  go_wp2_with fail
  refine (i.out).mono ?_
  rintro e xa ⟨rfl,j,d⟩
  have E:=ylL (J.out.only d (by simp [C.out]))
  have I:=ylL (znQ K.out d)
  clear j d
  go_wp2
  go_end0
  exact ⟨rfl,by rw [A.out];exact E.out,I.out⟩
theorem z2Z (M U:Nat) (l:List UInt8) (u:UZ) (pv:Value) (w:World) (hl:l.length≤67108864) (hm:MB w M l) (hu:UB w U u pv) (K:l.head? =some 63):
  Calls Tryz.prog 157 #[.pointer (some ⟨M,0,none⟩),.pointer (some ⟨U,0,none⟩)] w fun e w'=>e= .returned (.tuple #[])∧UB w' U (finC u l) pv∧Only [M,U] w w':=by
 have o:=ylL (hu.ne hm)
 have qm:=ylL hu
 have HK:=ylL (zgQ M l [63] w hm)
 rw [znY,ylN K,if_pos rfl] at HK
 have E:Hid (finC u l=_):=if_pos K
 have qq:(l.drop 1).length≤l.length:=by rw [List.length_drop];omega
 clear hm hu K
 generalize l.drop 1=r at*
 have qp:(r.take (r.findIdx (hasB [35]))).length≤r.length:=by rw [List.length_take];omega
 have qo:(r.drop (r.findIdx (hasB [35]))).length≤r.length:=by rw [List.length_drop];omega
 have qi:=ylL (fun W (h:MB W M r)=>zhL [35] (by decide) M r W h)
 have S:=ylL (fun W=>zfU 3 (r.take (r.findIdx (hasB [35]))) W (by decide) (by omega))
 generalize r.take (r.findIdx (hasB [35]))=qt at*
 generalize r.drop (r.findIdx (hasB [35]))=Z at*
 go_enter Tryz.func157,Tryz.ntmps157
 go_wp2_with fail
 refine HK.out.mono ?_
 rintro e x1 ⟨rfl,X,H⟩
 have i:=ylL (qm.out.only H (by simp [o.out]))
 have j:=ylL (H.mono (G:=[M,U]) (fun x hx=>by rw [List.mem_singleton.1 hx];simp))
 have qe:=ylL (qi.out _ X)
 clear HK H X qi
 go_wp2_with fail
 refine (znV [35] _).mono ?_
 rintro e x2 ⟨rfl,rfl⟩
 go_wp2_with fail
 refine qe.out.mono ?_
 rintro e x3 ⟨rfl,qd,O⟩
 have Y:=ylL (i.out.only O (by simp [o.out]))
 have qf:=ylL (znQ j.out O)
 have qh:=ylL qd
 clear qe qd O i j
 go_wp2_with fail
 refine (S.out _).mono ?_
 rintro e x4 ⟨rfl,D⟩
 have J:=ylL (Y.out.below D)
 have qg:=ylL (qf.out.then_below D)
 have Q:=ylL (qh.out.below D)
 clear Y qf qh D S
 obtain ⟨⟨e6,f6⟩,e7,f7⟩:=J.out.st6 (.string ⟨(encW 3 qt).toArray⟩)
 have qa:=ylL (J.out.qry (encW 3 qt))
 have qb:=ylL (znB qg.out 6 7 (.string ⟨(encW 3 qt).toArray⟩) (.bool true))
 have I:=ylL (Q.out.set2 o.out 6 7 (.string ⟨(encW 3 qt).toArray⟩) (.bool true))
 clear J qg Q
 have B:=ylL (zgQ M Z [35] _ I.out)
 rw [znY] at B
 by_cases f:Z.head? =some 35
 ·rw [ylN f,if_pos rfl] at B
  have A:=E.out.trans (if_pos f)
  have HF:=ylL A
  have qn:(Z.drop 1).length≤Z.length:=by rw [List.length_drop];omega
  generalize Z.drop 1=m at*
  clear f A E I
  go_wp2_with fail
  refine (B.out).mono ?_
  rintro e xa ⟨rfl,C,d⟩
  have i:=ylL (qa.out.only d (by simp [o.out]))
  have j:=ylL (znQ qb.out d)
  have ca:=C.cell
  have qr:=ylL C
  clear C d
  have V:=ylL (fun W=>zfU 1 m W (by decide) (by omega))
  go_wp2_with fail
  refine (V.out _).mono ?_
  rintro e xb ⟨rfl,N⟩
  have qc:=ylL (i.out.below N)
  have qj:=ylL (j.out.then_below N)
  obtain ⟨⟨e8,f8⟩,e9,f9⟩:=qc.out.st8 (.string ⟨(encW 1 m).toArray⟩)
  have ql:=ylL (qc.out.frg (encW 1 m))
  have qk:=ylL (znB qj.out 8 9 (.string ⟨(encW 1 m).toArray⟩) (.bool true))
  clear V N
  go_wp2
  go_end0
  exact ⟨rfl,by rw [HF.out];exact ql.out,qk.out⟩
 ·rw [ylM f,if_neg (by decide)] at B
  have A:=E.out.trans (if_neg f)
  have HF:=ylL A
  clear f A E I
  go_wp2_with fail
  refine (B.out).mono ?_
  rintro e xa ⟨rfl,C,d⟩
  have i:=ylL (qa.out.only d (by simp [o.out]))
  have j:=ylL (znQ qb.out d)
  clear C d
  go_wp2
  go_end0
  exact ⟨rfl,by rw [HF.out];exact i.out,j.out⟩
theorem z2F (M U:Nat) (l:List UInt8) (u:UZ) (pv:Value) (w:World) (i:l.length≤67108864) (d:MB w M l) (f:UB w U u pv):
  Calls Tryz.prog 157 #[.pointer (some ⟨M,0,none⟩),.pointer (some ⟨U,0,none⟩)] w fun e w'=>e= .returned (.tuple #[])∧UB w' U (finC u l) pv∧Only [M,U] w w':=by
 by_cases h:l.head? =some 63
 ·exact z2Z M U l u pv w i d f h
 ·exact z9B M U l u pv w i d f h
end
end Go.Proofs.YtegmcmgndllmaaaGreatDoor
