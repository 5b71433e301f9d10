/-
  What the law AgreeNever leans on, and its walk (41 of 42).
-/
import Derived.Deep.RegionHeld3
import Derived.Test.YtegmcmgndllmaaaGreatDoorAgreeNeverPkK
import Derived.Test.YtegmcmgndllmaaaGreatDoorAgreeNeverPko
import Derived.Test.YtegmcmgndllmaaaGreatDoorAgreeNeverPkn
namespace Go.Proofs.YtegmcmgndllmaaaGreatDoor
set_option maxRecDepth 100000
set_option maxHeartbeats 16000000
abbrev ymF := @Lib.hid
abbrev ymG := @Go.RowKit.Below.refl
section
open Go.RowKit
theorem ydO {n:Int} (h:(Lit.int .u16 n).wf=true):0≤n∧n≤65535:=by
 simp [Lit.wf,IntKind.min,IntKind.max,IntKind.bits,IntKind.signed] at h
 omega
def Nev (s:List UInt8):Prop:=(zfC s none).2=0→(zdK sixB s).2=0→(zcO (zdK sixB s).1).2=0→(zcO (zdK sixB s).1).1.user=true
theorem zvU {p:PZ} (h:(zcO p).2=0):p.hasS=true∧p.hasA=true∧(zcO p).1.user=p.hasU:=by
 unfold zcO at h ⊢
 split
 ·rename_i d;rw [if_pos d] at h;exact absurd h (by decide)
 ·rename_i d
  rw [if_neg d] at h
  split
  ·rename_i f;rw [if_pos f] at h;exact absurd h (by decide)
  ·rename_i f
   rw [if_neg f] at h
   split
   ·rename_i i;rw [if_pos i] at h;exact absurd h i
   ·rename_i i
    rw [if_neg i] at h
    split
    ·rename_i j;rw [if_pos j] at h;exact absurd h (by decide)
    ·exact ⟨by cases q:p.hasS;exact absurd (.inl q) d;rfl,by cases q:p.hasA;exact absurd q f;rfl,rfl⟩
theorem z8M {s:List UInt8} (h:(zbK s).hasS=true→(zbK s).hasA=true→(zbK s).hasU=true):Nev s:=fun _ j d=>by
 obtain ⟨_,_,_,e⟩:=zsX j
 rw [e] at d ⊢
 obtain ⟨f,i,m⟩:=zvU d
 exact m.trans (h f i)
theorem ydS {a b:List UInt8} {c:UInt8} (f:hasB badM c=true):Nev (a++[c]++b):=fun _ d _=>absurd d (z0N (by simp) f)
theorem yfB {a b:List UInt8} (i: ∀x y,a≠x++58::47::47::y):Nev (a++[58,47,47,117,64]++b):=by
 refine z8M fun d f=> ?_
 rw [show a++[58,47,47,117,64]++b=a++58::47::47::117::64::b by simp] at d f ⊢
 exact z2X i d f
theorem yeW {a b:List UInt8} (i: ∀x y,a≠x++58::47::47::y) (j:b.head? ≠some 47):Nev (a++[58]++b):=by
 refine z8M fun d f=> ?_
 rw [show a++[58]++b=a++58::b by simp] at d f
 exact (z2R i j d f).elim
theorem ybD {a b:List UInt8} (i: ∀x y,a≠x++58::47::47::y) (j:b.head? ≠some 47):Nev (a++[58,47]++b):=by
 refine z8M fun d f=> ?_
 rw [show a++[58,47]++b=a++58::47::b by simp] at d f
 exact (zvC i j d f).elim
theorem yfQ (W:World) (B:Nat) (t:TypeId) (h:W.heap[B]? =some (.cells #[.string ⟨#[92]⟩,.string ⟨#[32]⟩,.string ⟨#[9]⟩,.string ⟨#[0]⟩,.string ⟨#[127]⟩,.string ⟨#[255]⟩,.string ⟨#[60]⟩,.string ⟨#[34]⟩,.string ⟨#[123]⟩] t)): ∀k,k<9→ ∃c,hasB badM c=true∧W.cell? ⟨B,k,none⟩=some (.string ⟨#[c]⟩):=by
 intro k d
 rcases (show k=0∨k=1∨k=2∨k=3∨k=4∨k=5∨k=6∨k=7∨k=8 from by omega) with rfl|rfl|rfl|rfl|rfl|rfl|rfl|rfl|rfl
 ·exact ⟨92,by decide,zaB h 0⟩
 ·exact ⟨32,by decide,zaB h 1⟩
 ·exact ⟨9,by decide,zaB h 2⟩
 ·exact ⟨0,by decide,zaB h 3⟩
 ·exact ⟨127,by decide,zaB h 4⟩
 ·exact ⟨255,by decide,zaB h 5⟩
 ·exact ⟨60,by decide,zaB h 6⟩
 ·exact ⟨34,by decide,zaB h 7⟩
 ·exact ⟨123,by decide,zaB h 8⟩
theorem z6H (l:List UInt8) (c:UInt8):(Lib.trimLeftB l c).length≤l.length:=by
 unfold Lib.trimLeftB
 exact (List.dropWhile_suffix _).length_le
theorem agreeNever_walk (D:Option Addr) (J f:Nat) (A:List Ru) (C:Option Addr) (I d:Nat) (E:List Int) (G:Bool) (a1:ByteArray) (a2:Int) (_w1:a1.size≤maxLen) (w2:(Lit.int .u16 a2).wf=true) (w:World) (U:IsURow w D J f A) (S:IsIRow w C I d E) (qn:PowTab w) (qm:BruTab w) (N:MaxVar w) (qk:Lib.Utf8Tabs 1 2 w):
  Calls Tryz.prog 7 #[.agg #[.slice D J f,.slice C I d,.bool G],.string a1,.int .u16 a2] w fun e w'=>e= .returned (.bool true)∧Below w.heap.size w w':=by
 obtain ⟨l,rfl⟩: ∃l:List UInt8,a1=⟨l.toArray⟩:=⟨a1.data.toList,by simp⟩
 have hz:=zaI l
 obtain ⟨qR,Qc⟩:=ydO w2
 have Qi:A.length=J:=U.1
 have Qj:E.length=I:=S.1
 subst Qi Qj
 have HA:Hid (∀W,Below w.heap.size w W→Calls Tryz.prog 19 #[] W fun e w'=>e= .returned (.bool true)∧Below W.heap.size W w'):=fun W j=>aw19 W (zaH qn j) (zaG qm j) (zaA N j)
 have HG:Hid (∀W,Below w.heap.size w W→Calls Tryz.prog 20 #[.agg #[.slice D A.length f,.slice C E.length d,.bool G]] W fun e w'=> ∃Q A1 n1 c1 A2 n2 c2 b ok,e= .returned (.tuple #[Q,.agg #[.slice A1 n1 c1,.slice A2 n2 c2,.bool b],.bool ok])∧Below W.heap.size W w'):=fun W j=>z0M D C f d G A E W (zaA N j) (U.keep j) (S.keep j)
 have M:Hid (∀(s:List UInt8) (Q:Value) (W:World),Below w.heap.size w W→s.length≤1000000→Nev s→Calls Tryz.prog 21 #[Q,.string ⟨s.toArray⟩] W fun e w'=> ∃o,e= .returned (.tuple #[.agg #[.string ⟨#[]⟩,.string ⟨#[]⟩,.string ⟨#[]⟩,.nilIface,.int .i64 0,.slice none 0 0,.string ⟨#[]⟩,.bool false,.string ⟨#[]⟩,.bool false,.string ⟨#[]⟩,.nilIface,.int .i64 0,.bool false],.int .i64 o])∧o≠0∧Below W.heap.size W w'):=fun s Q W j hs hn=>zvY s Q W hs (zaA N j) (zeU qk j) hn
 have H:Hid (∀W,Below w.heap.size w W→l.length≤1000→Calls Tryz.prog 34 #[.string ⟨l.toArray⟩,.string ⟨#[58,47,47]⟩] W fun e w'=>e= .returned (.tuple #[.string ⟨(Lib.cut l [58,47,47]).1.toArray⟩,.string ⟨(Lib.cut l [58,47,47]).2.1.toArray⟩,.bool (Lib.cut l [58,47,47]).2.2])∧Below W.heap.size W w'):=fun W j hs=>by
  obtain ⟨m,hm⟩:=zaA N j
  refine (Tryz.strings_Cut ⟨l.toArray⟩ ⟨#[58,47,47]⟩ m W (by rw [hz];omega) hm).mono ?_
  rintro e w' ⟨rfl,n,rfl⟩
  exact ⟨rfl,zbV (ymG _ _) n⟩
 have K:Hid (∀(b:List UInt8) (W:World),Calls Tryz.prog 35 #[.string ⟨b.toArray⟩,.string ⟨#[47]⟩] W fun e w'=>e= .returned (.string ⟨(Lib.trimLeftB b 47).toArray⟩)∧W=w'):=fun b W=>(Tryz.strings_TrimLeft_one ⟨b.toArray⟩ 47 (by decide) W).mono (fun e w' h=>⟨h.1,h.2.symm⟩)
 have qy:=(Blks.empty w).new #[.slice D A.length f,.slice C E.length d,.bool G] 48
 have qs:Below w.heap.size w (w.alloc (.cells #[.slice D A.length f,.slice C E.length d,.bool G] 48)):=(ymG _ _).alloc (Nat.le_refl _) _
 obtain ⟨x0,qo⟩: ∃y,y=w.alloc (.cells #[.slice D A.length f,.slice C E.length d,.bool G] 48):=⟨_,rfl⟩
 rw [←qo] at qy qs
 have qK:=ymF qy
 have qx:=ymF qs
 clear qn qm N qk U S w2 qy qs
 go_enter Tryz.func7,Tryz.ntmps7
 go_upto_region 1 with fail
 rw [←qo]
 clear qo
 go_wp2_with fail
 refine (HA.out x0 qx.out).mono ?_
 rintro e x1 ⟨rfl,qD⟩
 have qw:=ymF (zaJ qx.out qD)
 have qH:=ymF (qK.out.keep qD)
 clear qD qK qx HA
 obtain ⟨l1,p0,p1,p2⟩:=qH.out.r3 (.head _)
 go_wp2_with fail
 refine (HG.out x1 qw.out).mono ?_
 rintro e x2 ⟨Q,A1,n1,c1,A2,n2,c2,b,ok,rfl,qJ⟩
 obtain ⟨y2,qr⟩: ∃y,y=x2.alloc (.cells #[.slice A1 n1 c1,.slice A2 n2 c2,.bool b] 52):=⟨_,rfl⟩
 have qb:Below x2.heap.size x2 y2:=by rw [qr];exact (ymG _ _).alloc (Nat.le_refl _) _
 have qd:=ymF (zaJ (zaJ qw.out qJ) qb)
 clear HG qw qH l1 p0 p1 p2 qJ qb
 go_upto_region 4 with fail
 rw [←qr]
 clear qr
 cases ok with
 |false=>
  clear M H K
  go_wp2
  go_ret
  exact ⟨rfl,qd.out⟩
 |true=>
 by_cases ql:1000<l.length
 ·clear M H K
  go_wp2
  go_ret
  exact ⟨rfl,qd.out⟩
 have hl:l.length≤1000:=Nat.not_lt.1 ql
 obtain ⟨i,hi⟩: ∃i:Nat,a2 % ((l.length:Int)+1)=i:=⟨(a2 % ((l.length:Int)+1)).toNat,(Int.toNat_of_nonneg (Int.emod_nonneg _ (by omega))).symm⟩
 have qM:i≤l.length:=by have:=Int.emod_lt_of_pos a2 (show (0:Int)<(l.length:Int)+1 by omega);omega
 have Qa:a2.tmod ((l.length:Int)+1)=(i:Int):=by rw [Int.tmod_eq_emod_of_nonneg qR];exact hi
 have qT:=ymF (zmL l i qM)
 have qG:=ymF (zfA l i qM)
 have Qd:(l.take i).length≤l.length:=by rw [List.length_take];omega
 have Qh:(l.drop i).length≤l.length:=by rw [List.length_drop];omega
 have qQ:Hid (∀c W,(Op.stringOp .add ⟨(l.take i).toArray⟩ ⟨#[c]⟩).run Tryz.prog W= .ok (.string ⟨(l.take i++[c]).toArray⟩) W):=fun c=>ztC (l.take i) [c] (by simp only [List.length_cons,List.length_nil];omega)
 have qV:Hid (∀c W,(Op.stringOp .add ⟨(l.take i++[c]).toArray⟩ ⟨(l.drop i).toArray⟩).run Tryz.prog W= .ok (.string ⟨(l.take i++[c]++l.drop i).toArray⟩) W):=fun c=>ztC (l.take i++[c]) (l.drop i) (by simp only [List.length_append,List.length_cons,List.length_nil];omega)
 have qO:Hid (∀c W,Below w.heap.size w W→hasB badM c=true→Calls Tryz.prog 21 #[Q,.string ⟨(l.take i++[c]++l.drop i).toArray⟩] W fun e w'=> ∃o,e= .returned (.tuple #[.agg #[.string ⟨#[]⟩,.string ⟨#[]⟩,.string ⟨#[]⟩,.nilIface,.int .i64 0,.slice none 0 0,.string ⟨#[]⟩,.bool false,.string ⟨#[]⟩,.bool false,.string ⟨#[]⟩,.nilIface,.int .i64 0,.bool false],.int .i64 o])∧o≠0∧Below W.heap.size W w'):=fun c W j hc=>M.out _ Q W j (by simp only [List.length_append,List.length_cons,List.length_nil];omega) (ydS hc)
 have H:=ymF (fun W j=>H.out W j hl)
 have qg:=ymF (ybR l)
 clear Qd Qh hi ql
 generalize l.take i=t1 at*
 generalize l.drop i=t2 at*
 obtain ⟨y3,qc⟩: ∃y,y=y2.alloc (.cells #[.string ⟨#[92]⟩,.string ⟨#[32]⟩,.string ⟨#[9]⟩,.string ⟨#[0]⟩,.string ⟨#[127]⟩,.string ⟨#[255]⟩,.string ⟨#[60]⟩,.string ⟨#[34]⟩,.string ⟨#[123]⟩] 9):=⟨_,rfl⟩
 have qb:Below y2.heap.size y2 y3:=by rw [qc];exact (ymG _ _).alloc (Nat.le_refl _) _
 have qe:y3.heap[y2.heap.size]? =some (.cells #[.string ⟨#[92]⟩,.string ⟨#[32]⟩,.string ⟨#[9]⟩,.string ⟨#[0]⟩,.string ⟨#[127]⟩,.string ⟨#[255]⟩,.string ⟨#[60]⟩,.string ⟨#[34]⟩,.string ⟨#[123]⟩] 9):=by rw [qc];exact heap_alloc_new y2 _
 obtain ⟨B,hB⟩: ∃B,B=y2.heap.size:=⟨_,rfl⟩
 rw [←hB] at qe
 have qU:Hid (∀W,Below y3.heap.size y3 W→ ∀k,k<9→ ∃c,hasB badM c=true∧W.cell? ⟨B,k,none⟩=some (.string ⟨#[c]⟩)):=fun W j=>yfQ W B _ ((j.block _ (zaD qe)).trans qe)
 have qF:=ymF (zaJ qd.out qb)
 clear qb qe qd
 go_wp2
 rw [←qc,←hB]
 clear qc hB Qa qR Qc
 go_loopw [47] (fun i wr=> ∃k:Nat,k≤9∧i= .int .i64 k∧Hid (Below y3.heap.size y3 wr)) (fun i _=>9 - (intOf i).toNat)
 case atStart=>exact ⟨0,by omega,rfl,ymG _ _⟩
 case round=>
  obtain ⟨k,hk,rfl,V⟩:=hrel
  by_cases Qg:k<9
  ·obtain ⟨c,hc,Qk⟩:=qU.out wr V.out k Qg
   have O:=zaJ qF.out V.out
   have p1:=qQ.out c
   have p2:=qV.out c
   have Qe:=qT.out
   have Qf:=qG.out
   have qf:=ymF (fun W j=>qO.out c W j hc)
   generalize t1++[c]++t2=s2 at p2 qf
   generalize t1++[c]=s1 at p1 p2
   have qW:Hid (∀W,Below wr.heap.size wr W→Calls Tryz.prog 21 #[Q,.string ⟨s2.toArray⟩] W fun e w'=>(∃o,e= .returned (.tuple #[.agg #[.string ⟨#[]⟩,.string ⟨#[]⟩,.string ⟨#[]⟩,.nilIface,.int .i64 0,.slice none 0 0,.string ⟨#[]⟩,.bool false,.string ⟨#[]⟩,.bool false,.string ⟨#[]⟩,.nilIface,.int .i64 0,.bool false],.int .i64 o])∧o≠0)∧Below wr.heap.size wr w'):=fun W j=>(qf.out W (zaJ O j)).mono (fun e w' h=>by
    obtain ⟨o,h1,h2,h3⟩:=h
    exact ⟨⟨o,h1,h2⟩,zaJ j h3⟩)
   have Z:Below wr.heap.size wr (wr.alloc (.cells #[.string ⟨#[]⟩,.string ⟨#[]⟩,.string ⟨#[]⟩,.nilIface,.int .i64 0,.slice none 0 0,.string ⟨#[]⟩,.bool false,.string ⟨#[]⟩,.bool false,.string ⟨#[]⟩,.nilIface,.int .i64 0,.bool false] 56)):=(ymG _ _).alloc (Nat.le_refl _) _
   have qL:Hid (∀W,Below (wr.alloc (.cells #[.string ⟨#[]⟩,.string ⟨#[]⟩,.string ⟨#[]⟩,.nilIface,.int .i64 0,.slice none 0 0,.string ⟨#[]⟩,.bool false,.string ⟨#[]⟩,.bool false,.string ⟨#[]⟩,.nilIface,.int .i64 0,.bool false] 56)).heap.size (wr.alloc (.cells #[.string ⟨#[]⟩,.string ⟨#[]⟩,.string ⟨#[]⟩,.nilIface,.int .i64 0,.slice none 0 0,.string ⟨#[]⟩,.bool false,.string ⟨#[]⟩,.bool false,.string ⟨#[]⟩,.nilIface,.int .i64 0,.bool false] 56)) W→Calls Tryz.prog 21 #[Q,.string ⟨s2.toArray⟩] W fun e w'=>(∃o,e= .returned (.tuple #[.agg #[.string ⟨#[]⟩,.string ⟨#[]⟩,.string ⟨#[]⟩,.nilIface,.int .i64 0,.slice none 0 0,.string ⟨#[]⟩,.bool false,.string ⟨#[]⟩,.bool false,.string ⟨#[]⟩,.nilIface,.int .i64 0,.bool false],.int .i64 o])∧o≠0)∧Below (wr.alloc (.cells #[.string ⟨#[]⟩,.string ⟨#[]⟩,.string ⟨#[]⟩,.nilIface,.int .i64 0,.slice none 0 0,.string ⟨#[]⟩,.bool false,.string ⟨#[]⟩,.bool false,.string ⟨#[]⟩,.nilIface,.int .i64 0,.bool false] 56)).heap.size (wr.alloc (.cells #[.string ⟨#[]⟩,.string ⟨#[]⟩,.string ⟨#[]⟩,.nilIface,.int .i64 0,.slice none 0 0,.string ⟨#[]⟩,.bool false,.string ⟨#[]⟩,.bool false,.string ⟨#[]⟩,.nilIface,.int .i64 0,.bool false] 56)) w'∧Below wr.heap.size wr w'):=fun W j=>(qf.out W (zaJ O (zaJ Z j))).mono (fun e w' h=>by
    obtain ⟨o,h1,h2,h3⟩:=h
    exact ⟨⟨o,h1,h2⟩,zaJ j h3,zaJ Z (zaJ j h3)⟩)
   have qz:Hid ((wr.alloc (.cells #[.string ⟨#[]⟩,.string ⟨#[]⟩,.string ⟨#[]⟩,.nilIface,.int .i64 0,.slice none 0 0,.string ⟨#[]⟩,.bool false,.string ⟨#[]⟩,.bool false,.string ⟨#[]⟩,.nilIface,.int .i64 0,.bool false] 56)).heap[wr.heap.size]? =some (.cells zgI 56)):=heap_alloc_new wr _
   have qv:=ymF O
   clear O Z hc
   go_upto_region 10 with fail
   go_cut [13,14] (fun sv ev wc=> ∃(gb:Nat) (o:Int),sv= .pointer (some ⟨gb,0,none⟩)∧ev= .int .i64 o∧Hid (o≠0)∧Hid (Below wr.heap.size wr wc))
   case first=>
    go_wp2_with fail
    go_region_held3 (fun _=>True) (exact trivial)
     (first
      |(go_simp;go_at_call 21;((with_reducible refine (qW.out _ (zaW _)).mono ?_);rintro e x4 ⟨⟨o,rfl,Y⟩,qa⟩;have Qq:=qa))
      |(go_simp;go_at_call 21;((with_reducible refine (qL.out _ (zaW _)).mono ?_);rintro e x4 ⟨⟨o,rfl,Y⟩,qZ,qa⟩;have qB:=(qZ.block _ (zaD qz.out)).trans qz.out;obtain ⟨k0,k1,k2,k3,k4,k5,k6,k7,k8,k9,Qn,Qm,Ql,Qp⟩:=zdY qB;have kf:=zaT qB)))
    all_goals
     go_wp2
     go_meet
     first
      |exact ⟨_,o,rfl,rfl,Y,(by have q:=zeM qa qB;unfold putZ at q;exact q)⟩
      |exact ⟨_,o,rfl,rfl,Y,qa.alloc qa.size _⟩
   case rest=>
    rename World=>z
    obtain ⟨gb,o,rfl,rfl,Y,Z⟩:=hcut
    have Qo:(o==0)=false:=beq_eq_false_iff_ne.2 Y.out
    clear qW qL qz qf p1 p2 Qe Qf
    go_wp2
    go_roundw
    case rel=>exact ⟨k+1,by omega,by go_num,zaJ V.out Z.out⟩
    case measure=>simp [intOf];omega
  ·have O:=zaJ qF.out V.out
   have qv:=ymF O
   have H:=ymF (H.out wr O)
   clear O V qU qT qG qQ qV qO
   go_wp2_with fail
   generalize Lib.cut l [58,47,47]=ct at*
   obtain ⟨a,b3,is⟩:=ct
   simp only at qg H
   refine H.out.mono ?_
   rintro e x5 ⟨rfl,qE⟩
   have X:=ymF (zaJ qv.out qE)
   clear qv H qE
   cases is with
   |false=>
    clear M K qg
    go_wp2
    go_ret
    exact ⟨rfl,X.out⟩
   |true=>
    obtain ⟨qI,qj⟩:=qg.out rfl
    have qN:l.length=a.length+3+b3.length:=by rw [qI];simp;omega
    obtain ⟨t,ht⟩: ∃t,Lib.trimLeftB b3 47=t:=⟨_,rfl⟩
    have qC:t.head? ≠some 47:=by rw [←ht];exact z2O b3 47
    have Qb:t.length≤b3.length:=by rw [←ht];exact z6H b3 47
    have K:=ymF (K.out b3)
    rw [ht] at K
    have p1: ∀W,(Op.stringOp .add ⟨a.toArray⟩ ⟨#[58,47,47,117,64]⟩).run Tryz.prog W= .ok (.string ⟨(a++[58,47,47,117,64]).toArray⟩) W:=ztC a [58,47,47,117,64] (by simp only [List.length_cons,List.length_nil];omega)
    have p2: ∀W,(Op.stringOp .add ⟨(a++[58,47,47,117,64]).toArray⟩ ⟨b3.toArray⟩).run Tryz.prog W= .ok (.string ⟨(a++[58,47,47,117,64]++b3).toArray⟩) W:=ztC _ b3 (by simp only [List.length_append,List.length_cons,List.length_nil];omega)
    have p3: ∀W,(Op.stringOp .add ⟨a.toArray⟩ ⟨#[58]⟩).run Tryz.prog W= .ok (.string ⟨(a++[58]).toArray⟩) W:=ztC a [58] (by simp only [List.length_cons,List.length_nil];omega)
    have p4: ∀W,(Op.stringOp .add ⟨(a++[58]).toArray⟩ ⟨t.toArray⟩).run Tryz.prog W= .ok (.string ⟨(a++[58]++t).toArray⟩) W:=ztC _ t (by simp only [List.length_append,List.length_cons,List.length_nil];omega)
    have p5: ∀W,(Op.stringOp .add ⟨a.toArray⟩ ⟨#[58,47]⟩).run Tryz.prog W= .ok (.string ⟨(a++[58,47]).toArray⟩) W:=ztC a [58,47] (by simp only [List.length_cons,List.length_nil];omega)
    have p6: ∀W,(Op.stringOp .add ⟨(a++[58,47]).toArray⟩ ⟨t.toArray⟩).run Tryz.prog W= .ok (.string ⟨(a++[58,47]++t).toArray⟩) W:=ztC _ t (by simp only [List.length_append,List.length_cons,List.length_nil];omega)
    have N1:=ymF (fun W j=>M.out (a++[58,47,47,117,64]++b3) Q W j (by simp only [List.length_append,List.length_cons,List.length_nil];omega) (yfB qj))
    have N2:=ymF (fun W j=>M.out (a++[58]++t) Q W j (by simp only [List.length_append,List.length_cons,List.length_nil];omega) (yeW qj qC))
    have N3:=ymF (fun W j=>M.out (a++[58,47]++t) Q W j (by simp only [List.length_append,List.length_cons,List.length_nil];omega) (ybD qj qC))
    clear M qg qI qj qN ht qC Qb
    generalize a++[58,47,47,117,64]++b3=s1 at*
    generalize a++[58,47,47,117,64]=q1 at*
    generalize a++[58,47]++t=s3 at*
    generalize a++[58,47]=q3 at*
    generalize a++[58]++t=s2 at*
    generalize a++[58]=q2 at*
    go_wp2_with fail
    refine (N1.out x5 X.out).mono ?_
    rintro e x6 ⟨e1,rfl,qX,qq⟩
    have qi:=ymF ((zaJ X.out qq).alloc (zaJ X.out qq).size (.cells #[.string ⟨#[]⟩,.string ⟨#[]⟩,.string ⟨#[]⟩,.nilIface,.int .i64 0,.slice none 0 0,.string ⟨#[]⟩,.bool false,.string ⟨#[]⟩,.bool false,.string ⟨#[]⟩,.nilIface,.int .i64 0,.bool false] 56))
    clear N1 X qq p1 p2
    go_wp2_with fail
    refine (K.out _).mono ?_
    rintro e w' ⟨rfl,rfl⟩
    go_wp2_with fail
    refine (N2.out _ qi.out).mono ?_
    rintro e x7 ⟨e2,rfl,qP,qp⟩
    have qh:=ymF ((zaJ qi.out qp).alloc (zaJ qi.out qp).size (.cells #[.string ⟨#[]⟩,.string ⟨#[]⟩,.string ⟨#[]⟩,.nilIface,.int .i64 0,.slice none 0 0,.string ⟨#[]⟩,.bool false,.string ⟨#[]⟩,.bool false,.string ⟨#[]⟩,.nilIface,.int .i64 0,.bool false] 56))
    clear N2 qi qp p3 p4
    go_wp2_with fail
    refine (K.out _).mono ?_
    rintro e w' ⟨rfl,rfl⟩
    go_wp2_with fail
    refine (N3.out _ qh.out).mono ?_
    rintro e x8 ⟨e3,rfl,qS,qA⟩
    have qY:=ymF ((zaJ qh.out qA).alloc (zaJ qh.out qA).size (.cells #[.string ⟨#[]⟩,.string ⟨#[]⟩,.string ⟨#[]⟩,.nilIface,.int .i64 0,.slice none 0 0,.string ⟨#[]⟩,.bool false,.string ⟨#[]⟩,.bool false,.string ⟨#[]⟩,.nilIface,.int .i64 0,.bool false] 56))
    have d1:(e1 !=0)=true:=bne_iff_ne.2 qX
    have d2:(e2 !=0)=true:=bne_iff_ne.2 qP
    have d3:(e3 !=0)=true:=bne_iff_ne.2 qS
    clear N3 qh qA p5 p6 K qX qP qS
    go_wp2
    go_ret
    exact ⟨rfl,qY.out⟩
end
end Go.Proofs.YtegmcmgndllmaaaGreatDoor
