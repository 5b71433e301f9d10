/-
  What the law AgreeNever leans on, and its walk (27 of 42).
-/
import Derived.Lib.IndexMore
import Derived.Lib.TrimByte
import Derived.Test.YtegmcmgndllmaaaGreatDoorAgreeNeverPkE
import Derived.Test.YtegmcmgndllmaaaGreatDoorAgreeNeverPkY
import Derived.Test.YtegmcmgndllmaaaGreatDoorAgreeNeverPka
namespace Go.Proofs.YtegmcmgndllmaaaGreatDoor
set_option maxRecDepth 100000
set_option maxHeartbeats 16000000
section
open Go.RowKit
def badM:List UInt8:=[92,32,9,0,127,255,60,34,123]
def lowQ (c:UInt8):Bool:= !hasB badM c
def LowQ (l:List UInt8):Prop:= ∀c∈l,lowQ c=true
theorem yiY (c:UInt8) (h:(48≤c.toNat∧c.toNat≤57)∨(65≤c.toNat∧c.toNat≤90)∨(97≤c.toNat∧c.toNat≤122)):lowQ c=true:=by
 have key: ∀d:Fin 256,(48≤d.val∧d.val≤57)∨(65≤d.val∧d.val≤90)∨(97≤d.val∧d.val≤122)→lowQ (UInt8.ofNat d.val)=true:=by decide+kernel
 have:=key ⟨c.toNat,c.toNat_lt⟩ h
 rwa [UInt8.ofNat_toNat] at this
theorem z3M (b:Int) (c:UInt8) (h:digC b c=true):lowQ c=true:=by
 have d:=(of_decide_eq_true h).1
 refine yiY c ?_
 unfold valZ at d
 split at d
 ·omega
 ·split at d
  ·omega
  ·split at d<;>omega
theorem zsR (b:Int) (l:List UInt8) (h:zbO b l=true):LowQ l:=fun c d=>z3M b c (List.all_eq_true.1 h c d)
theorem ycY (p:UInt8→Bool) (D: ∀c,p c=true→lowQ c=true) (l:List UInt8): ∀xs t,(∀x∈(l.foldl (zbD p) (xs,t)).1,LowQ x)→LowQ (l.foldl (zbD p) (xs,t)).2→(∀x∈xs,LowQ x)∧LowQ t∧LowQ l:=by
 induction l with
 |nil=>intro xs t j f;exact ⟨j,f,fun _ h=>by cases h⟩
 |cons c r C=>
  intro xs t j f
  rw [List.foldl_cons] at j f
  cases h:p c with
  |true=>
   rw [show zbD p (xs,t) c=(xs++[t],[]) from by simp [zbD,h]] at j f
   obtain ⟨m,B,o⟩:=C _ _ j f
   refine ⟨fun x A=>m x (by simp [A]),m t (by simp),fun d i=> ?_⟩
   rcases List.mem_cons.1 i with rfl|i
   ·exact D _ h
   ·exact o d i
  |false=>
   rw [show zbD p (xs,t) c=(xs,t++[c]) from by simp [zbD,h]] at j f
   obtain ⟨m,B,o⟩:=C _ _ j f
   refine ⟨m,fun x A=>B x (by simp [A]),fun d i=> ?_⟩
   rcases List.mem_cons.1 i with rfl|i
   ·exact B _ (by simp)
   ·exact o d i
theorem zmM (p:UInt8→Bool) (d: ∀c,p c=true→lowQ c=true) (l:List UInt8) (h: ∀x∈zbW p l,LowQ x):LowQ l:=by
 unfold zbW spl at h
 exact (ycY p d l [] [] (fun x f=>h x (by simp [f])) (h _ (by simp))).2.2
theorem zzL (k:UInt8) (d:lowQ k=true) (c:UInt8) (h:hasB [k] c=true):lowQ c=true:=by
 simp only [hasB,List.any_cons,List.any_nil,Bool.or_false,beq_iff_eq] at h
 rw [←h];exact d
theorem yfI (l:List UInt8) (m:Int) (h:(decZ l m).2=true):LowQ l:=by
 refine zsR 10 l ?_
 unfold decZ at h
 split at h
 ·cases h
 ·rename_i d
  cases f:zbO 10 l with
  |true=>rfl
  |false=>rw [f] at d;simp at d
theorem ycM (ps:List (List UInt8)): ∀A,(goS A ps).2=true→ ∀p∈ps,LowQ p:=by
 induction ps with
 |nil=>intro A _ p d;cases d
 |cons q r i=>
  intro A h p d
  unfold goS at h
  split at h
  ·rename_i f
   rcases List.mem_cons.1 d with rfl|d
   ·exact yfI _ _ f
   ·exact i _ h p d
  ·cases h
theorem zwZ (l:List UInt8) (h:(zaP l).2=true):LowQ l:=by
 unfold zaP at h
 split at h
 ·exact zmM _ (zzL 46 (by decide)) l (ycM _ _ h)
 ·cases h
theorem z2Q (l:List UInt8) (h:(zdQ l).2=true):LowQ l:=by
 unfold zdQ at h
 split at h
 ·cases h
 ·split at h
  ·exact zsR 16 l (by assumption)
  ·cases h
theorem z3T (last:Bool) (ps:List (List UInt8)): ∀f,(rowP last f ps).2=true→ ∀p∈ps,LowQ p:=by
 induction ps with
 |nil=>intro A _ p d;cases d
 |cons q r j=>
  intro f h p d
  unfold rowP at h
  split at h
  ·rename_i i
   rw [i.2.1] at d
   simp at d
   subst d
   exact zwZ _ i.2.2
  ·split at h
   ·rename_i i
    rcases List.mem_cons.1 d with rfl|d
    ·exact z2Q _ i
    ·exact j _ h p d
   ·cases h
theorem zpU (l:List UInt8) (last:Bool) (h:(rowZ l last).2=true):LowQ l:=by
 unfold rowZ at h
 split at h
 ·rename_i e;subst e;intro c d;cases d
 ·exact zmM _ (zzL 58 (by decide)) l (z3T _ _ _ h)
theorem yhT {l:List UInt8} {k:Nat} (h:ccAt l=some k) (i:LowQ (l.take k)) (m:LowQ (l.drop (k+2))):LowQ l:=by
 induction l generalizing k with
 |nil=>intro c d;cases d
 |cons a r A=>
  rw [ccAt] at h
  split at h
  ·rename_i d
   cases h
   cases r with
   |nil=>simp at d
   |cons b r=>
    simp at d
    obtain ⟨rfl,rfl⟩:=d
    intro c d
    simp only [List.mem_cons] at d
    rcases d with rfl|rfl|d
    ·decide
    ·decide
    ·exact m c (by simpa using d)
  ·cases f:ccAt r with
   |none=>rw [f] at h;cases h
   |some j=>
    rw [f] at h
    cases h
    have o:LowQ r:=A f (fun c d=>i c (by simp [d])) (fun c d=>m c (by simpa using d))
    intro c d
    rcases List.mem_cons.1 d with rfl|d
    ·exact i _ (by simp)
    ·exact o c d
theorem yeB (l:List UInt8) (h:(sixZ l).2=true):LowQ l:=by
 unfold sixZ sixL at h
 simp only at h
 split at h
 ·split at h
  ·rename_i d;exact zpU _ _ d.1
  ·cases h
 ·rename_i k f
  split at h
  ·rename_i d;exact yhT f (zpU _ _ d.1) (zpU _ _ d.2.1)
  ·cases h
theorem LowQ.app {a b:List UInt8} (d:LowQ a) (i:LowQ b):LowQ (a++b):=fun c f=>(List.mem_append.1 f).elim (d c) (i c)
theorem LowQ.cons {a:UInt8} {b:List UInt8} (f:lowQ a=true) (i:LowQ b):LowQ (a::b):=fun c d=>by
 rcases List.mem_cons.1 d with rfl|d
 ·exact f
 ·exact i c d
theorem LowQ.nil:LowQ []:=fun _ h=>by cases h
theorem LowQ.ite {b:Bool} {a:List UInt8} (h:b=true→LowQ a):LowQ (if b then a else []):=by
 cases b
 ·exact .nil
 ·exact h rfl
theorem yeM: ∀d:Fin 256,(ziJ (UInt8.ofNat d.val)||hexA (UInt8.ofNat d.val)||zgB (UInt8.ofNat d.val)||zdD (UInt8.ofNat d.val))=true→lowQ (UInt8.ofNat d.val)=true:=by decide+kernel
theorem zgG {c:UInt8} (h:(ziJ c||hexA c||zgB c||zdD c)=true):lowQ c=true:=by
 have:=yeM ⟨c.toNat,c.toNat_lt⟩
 simp only [UInt8.ofNat_toNat] at this
 exact this h
theorem ziB {i:List UInt8} (f: ∀c,i.contains c=true→lowQ c=true): ∀l:List UInt8,isA i l=true→LowQ l:=by
 intro l
 induction l with
 |nil=>exact fun _=> .nil
 |cons c l j=>
  intro h
  rw [zlR] at h
  simp only [Bool.and_eq_true,Bool.or_eq_true] at h
  refine .cons ?_ (j h.2)
  rcases h.1 with (d|d)|d
  ·exact zgG (by rw [d];rfl)
  ·unfold pctA at d
   split at d
   ·rename_i e
    cases e
    simp only [Bool.and_eq_true,beq_iff_eq] at d
    rw [d.1.1];decide
   ·cases d
  ·exact f c d
theorem zwB {s:List UInt8} (h:zcZ s=true):LowQ s:=by
 unfold zcZ at h
 split at h
 ·cases h
 ·rename_i c l
  simp only [Bool.and_eq_true] at h
  refine .cons (zgG (by rw [h.1];simp)) fun d i=> ?_
  have f:=List.all_eq_true.1 h.2 d i
  simp only [Bool.or_eq_true] at f
  rcases f with (f|f)|f
  ·exact zgG (by rw [f];simp)
  ·exact zgG (by rw [f];simp)
  ·have:d=43∨d=45∨d=46:=by simpa using f
   rcases this with rfl|rfl|rfl<;>decide
theorem zvG {s:List UInt8} (h:zfK s=true):LowQ s:=by
 unfold zfK at h
 split at h
 ·cases h
 ·rename_i c l
  simp only [Bool.and_eq_true,Bool.or_eq_true,beq_iff_eq] at h
  have j:lowQ c=true:=by rcases h.1 with rfl|rfl<;>decide
  refine .cons j ?_
  have i:=h.2
  have e:=zdM (· ==46) l
  have f:=zgK (· ==46) l
  split at i
  ·rename_i d x r m
   rw [m] at e f
   simp only [Bool.and_eq_true] at i
   rw [e]
   refine .app (fun c j=>zgG (by rw [List.all_eq_true.1 i.1.1.2 c j];simp)) (.cons ?_ (ziB (fun c j=> ?_) _ i.1.2))
   ·rcases f with f|⟨c,r,f,o⟩
    ·cases f
    ·cases f
     have:x=46:=by simpa using o
     rw [this];decide
   ·have:c=58:=by simpa using j
    rw [this];decide
  ·cases i
theorem z9H {s:List UInt8} (h:zfW sixB s=true):LowQ s:=by
 unfold zfW at h
 split at h
 ·rename_i l
  simp only [Bool.and_eq_true,Bool.or_eq_true,beq_iff_eq] at h
  obtain ⟨y,rfl⟩:=List.getLast?_eq_some_iff.1 h.1
  rw [List.dropLast_concat] at h
  refine .cons (by decide) (.app ?_ (.cons (by decide) .nil))
  rcases h.2 with d|d
  ·exact yeB _ d
  ·exact zvG d
 ·exact ziB (fun c f=>by simp at f) _ h
theorem ybB {p:PZ} (h:zpK sixB p=true) (o:(p.hasS&& !zcZ p.scheme)=false):LowQ (zzD p):=by
 have m: ∀c,([58,64,47]:List UInt8).contains c=true→lowQ c=true:=fun c d=>by
  have:c=58∨c=64∨c=47:=by simpa using d
  rcases this with rfl|rfl|rfl<;>decide
 have i: ∀c,([58,64,47,63]:List UInt8).contains c=true→lowQ c=true:=fun c d=>by
  have:c=58∨c=64∨c=47∨c=63:=by simpa using d
  rcases this with rfl|rfl|rfl|rfl<;>decide
 have j: ∀c,([58]:List UInt8).contains c=true→lowQ c=true:=fun c d=>by
  have:c=58:=by simpa using d
  rcases this with rfl;decide
 unfold zpK z8F at h
 simp only [Bool.and_eq_true] at h
 obtain ⟨⟨⟨f,A,-⟩,C⟩,B⟩:=h
 unfold zzD yhO
 refine .app (.ite fun e=> ?_) (.app (.app (.ite fun e=> ?_) (ziB m _ A)) (.app (.ite fun _=> .cons (by decide) (ziB i _ C)) (.ite fun _=> .cons (by decide) (ziB i _ B))))
 ·rw [e,Bool.true_and,Bool.not_eq_false'] at o
  exact .app (zwB o) (.cons (by decide) .nil)
 ·rw [e] at f
  simp only [Bool.not_true,Bool.false_or,Bool.and_eq_true] at f
  exact .cons (by decide) (.cons (by decide) (.app (.ite fun _=> .app (ziB j _ f.1.1) (.cons (by decide) .nil)) (.app (z9H f.1.2) (.ite fun _=> .cons (by decide) fun c d=>zgG (by rw [List.all_eq_true.1 f.2 c d];simp)))))
theorem z0N {s:List UInt8} {c:UInt8} (i:c∈s) (j:hasB badM c=true):(zdK sixB s).2≠0:=fun h=>by
 obtain ⟨_,d,f,_⟩:=zsX h
 have:=ybB f d c (by rw [z1D];exact i)
 unfold lowQ at this
 rw [j] at this
 cases this
theorem zqW {a z n m:List UInt8} (h:a++58::z=n++58::47::47::m) (o: ∀c∈n,c≠58) (j: ∀x y,a≠x++58::47::47::y):z=47::47::m:=by
 rcases List.append_eq_append_iff.1 h with ⟨b,i,f⟩|⟨b,i,f⟩
 ·cases b with
  |nil=>rw [List.nil_append,List.cons.injEq] at f;exact f.2
  |cons d b=>
   rw [List.cons_append,List.cons.injEq] at f
   exact absurd f.1.symm (o d (by rw [i];simp))
 ·cases b with
  |nil=>rw [List.nil_append,List.cons.injEq] at f;exact f.2.symm
  |cons d b=>
   rw [List.cons_append,List.cons.injEq] at f
   obtain ⟨rfl,f⟩:=f
   cases b with
   |nil=>cases f
   |cons d b=>
    rw [List.cons_append,List.cons.injEq] at f
    obtain ⟨rfl,f⟩:=f
    cases b with
    |nil=>cases f
    |cons d b=>
     rw [List.cons_append,List.cons.injEq] at f
     obtain ⟨rfl,f⟩:=f
     exact absurd i (j n b)
theorem ziT {s:List UInt8} (M:(zbK s).hasS=true) (H:(zbK s).hasA=true): ∃n m,s=n++58::47::47::m∧(∀c∈n,c≠58)∧(∀r,m=117::64::r→(zbK s).hasU=true):=by
 have D:=zhY s
 have N:=zeR zhB s
 have E:(zaO s).1=true:=M
 rw [E,if_pos rfl] at D
 have J: ∀c∈(zaO s).2.1,c≠58:=by
  unfold zaO
  split
  ·exact fun c O e=>by have:=N c O;rw [e] at this;exact absurd this (by decide)
  ·exact fun _ h=>by cases h
 have G:=zgW 35 (zaO s).2.2
 have K:=zgW 63 (cutA 35 (zaO s).2.2).1
 have A:(zdI (cutA 63 (cutA 35 (zaO s).2.2).1).1).2.1=true:=H
 have I:(zbK s).hasU=(zdI (cutA 63 (cutA 35 (zaO s).2.2).1).1).2.2.1:=rfl
 rw [I]
 generalize (cutA 63 (cutA 35 (zaO s).2.2).1)=q at*
 generalize (cutA 35 (zaO s).2.2)=f at*
 unfold zdI at A ⊢
 split at A
 ·rename_i r C
  have o:=K.1
  have j:=G.1
  rw [C] at o
  rw [o] at j
  refine ⟨(zaO s).2.1,_,by conv=>lhs;rw [D.1,j];simp;rfl,J,fun t i=> ?_⟩
  have B: ∀d,((if q.2.1=true then 63::q.2.2 else [])++if f.2.1=true then 35::f.2.2 else []:List UInt8).head? =some d→d=63∨d=35:=by
   intro d
   cases q.2.1<;>cases f.2.1<;>simp<;>intro h<;>simp [h]
  generalize ((if q.2.1=true then 63::q.2.2 else [])++if f.2.1=true then 35::f.2.2 else []:List UInt8)=z at i B
  cases r with
  |nil=>
   rw [List.nil_append] at i
   rcases B 117 (by rw [i];rfl) with e|e<;>exact absurd e (by decide)
  |cons a r=>
   rw [List.cons_append,List.cons.injEq] at i
   obtain ⟨rfl,i⟩:=i
   cases r with
   |nil=>
    rw [List.nil_append] at i
    rcases B 64 (by rw [i];rfl) with e|e<;>exact absurd e (by decide)
   |cons b r=>
    rw [List.cons_append,List.cons.injEq] at i
    obtain ⟨rfl,i⟩:=i
    rfl
 ·cases A
theorem z2X {a b:List UInt8} (i: ∀x y,a≠x++58::47::47::y) (d:(zbK (a++58::47::47::117::64::b)).hasS=true) (f:(zbK (a++58::47::47::117::64::b)).hasA=true):(zbK (a++58::47::47::117::64::b)).hasU=true:=by
 obtain ⟨n,m,e,o,j⟩:=ziT d f
 have:=zqW e o i
 rw [List.cons.injEq,List.cons.injEq] at this
 exact j b this.2.2.symm
theorem z2R {a b:List UInt8} (j: ∀x y,a≠x++58::47::47::y) (d:b.head? ≠some 47) (f:(zbK (a++58::b)).hasS=true) (i:(zbK (a++58::b)).hasA=true):False:=by
 obtain ⟨n,m,e,o,-⟩:=ziT f i
 have:=zqW e o j
 rw [this] at d
 exact d rfl
theorem zvC {a b:List UInt8} (j: ∀x y,a≠x++58::47::47::y) (d:b.head? ≠some 47) (f:(zbK (a++58::47::b)).hasS=true) (i:(zbK (a++58::47::b)).hasA=true):False:=by
 obtain ⟨n,m,e,o,-⟩:=ziT f i
 have:=zqW e o j
 rw [List.cons.injEq] at this
 rw [this.2] at d
 exact d rfl
theorem z2O (l:List UInt8) (c:UInt8):(Lib.trimLeftB l c).head? ≠some c:=by
 unfold Lib.trimLeftB
 induction l with
 |nil=>simp
 |cons d l f=>
  rw [List.dropWhile_cons]
  split
  ·exact f
  ·rename_i i
   intro e
   simp only [List.head?_cons,Option.some.injEq] at e
   exact i (by rw [e];simp)
theorem ybR (l:List UInt8) (h:(Lib.cut l [58,47,47]).2.2=true):l=(Lib.cut l [58,47,47]).1++58::47::47::(Lib.cut l [58,47,47]).2.1∧ ∀x y,(Lib.cut l [58,47,47]).1≠x++58::47::47::y:=by
 induction l with
 |nil=>exact absurd h (by decide)
 |cons b l o=>
  unfold Lib.cut at h ⊢
  by_cases f:([58,47,47]:List UInt8).isPrefixOf (b::l)=true
  ·have e:Lib.index (b::l) [58,47,47]=0:=by unfold Lib.index;rw [if_pos f]
   rw [e,if_pos (by decide)]
   obtain ⟨t,B⟩:=List.isPrefixOf_iff_prefix.1 f
   refine ⟨?_,fun x y=> ?_⟩
   ·rw [←B];rfl
   ·simp
  ·have hi:=Lib.index_ge l [58,47,47]
   by_cases i:Lib.index l [58,47,47]= -1
   ·have e:Lib.index (b::l) [58,47,47]= -1:=by
     conv=>lhs;unfold Lib.index
     rw [if_neg f,i];rfl
    rw [e] at h
    exact absurd h (by simp)
   ·have e:Lib.index (b::l) [58,47,47]=Lib.index l [58,47,47]+1:=by
     conv=>lhs;unfold Lib.index
     rw [if_neg f,if_neg (by simpa using i)]
    have D:0≤Lib.index l [58,47,47]:=by omega
    have C:Lib.cut l [58,47,47]=(l.take (Lib.index l [58,47,47]).toNat,l.drop ((Lib.index l [58,47,47]).toNat+3),true):=by unfold Lib.cut;rw [if_pos D];rfl
    rw [C] at o
    obtain ⟨E,j⟩:=o rfl
    rw [e,if_pos (by omega)]
    have A:(Lib.index l [58,47,47]+1).toNat=(Lib.index l [58,47,47]).toNat+1:=by omega
    simp only at E j
    refine ⟨?_,fun x y=> ?_⟩
    ·show b::l=(b::l).take _++_
     rw [A,List.take_succ_cons,List.cons_append]
     congr 1
    ·show (b::l).take _≠_
     rw [A,List.take_succ_cons]
     cases x with
     |nil=>
      intro q
      rw [List.nil_append,List.cons.injEq] at q
      obtain ⟨rfl,q⟩:=q
      refine f (List.isPrefixOf_iff_prefix.2 ?_)
      refine ⟨y++l.drop (Lib.index l [58,47,47]).toNat,?_⟩
      have m:=List.take_append_drop (Lib.index l [58,47,47]).toNat l
      rw [q] at m
      exact congrArg (List.cons 58) m
     |cons d x=>
      intro q
      rw [List.cons_append,List.cons.injEq] at q
      exact j x y q.2
end
end Go.Proofs.YtegmcmgndllmaaaGreatDoor
