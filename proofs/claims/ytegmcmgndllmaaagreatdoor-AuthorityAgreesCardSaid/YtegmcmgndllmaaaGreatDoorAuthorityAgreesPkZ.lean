/-
  What the law AuthorityAgrees leans on, and its walk (25 of 43).
-/
import Derived.Shelf.Strings.MapAny
import Derived.Shelf.Unicode.DecodeLastEight
import Derived.Deep.RegionHeld3
import Derived.Test.YtegmcmgndllmaaaGreatDoorAuthorityAgreesPkU
import Derived.Test.YtegmcmgndllmaaaGreatDoorAuthorityAgreesPkY
import Derived.Test.YtegmcmgndllmaaaGreatDoorAuthorityAgreesPkB
import Derived.Test.YtegmcmgndllmaaaGreatDoorAuthorityAgreesPkT
import Derived.Test.YtegmcmgndllmaaaGreatDoorAuthorityAgreesPkD
import Derived.Test.YtegmcmgndllmaaaGreatDoorAuthorityAgreesPkG
namespace Go.Proofs.YtegmcmgndllmaaaGreatDoor
set_option maxRecDepth 100000
set_option maxHeartbeats 16000000
theorem tkZ {P : Program} {g : Region.Mode} {e : Array Oper} {Q : Exit → Act → World → Prop} {S : World → Prop} (i : Nat) (s : Option Nat) {o : Op} {q : TypeId} {f : String} {m : _} {j : _} {v : Value} {fuel : Nat} {d : Array Bool} {a : Act} {w : World} (hi : e[i]? = some ⟨s, o, q, f, m, j⟩)
 (A : YieldsIf P e S ⟨s, o, q, f, m, j⟩ v a) (D : S w)
 (h : wpAnyH P g e Q S fuel (d.setIfInBounds i true) (a.put s v) w)
 (B : Region.noSelect e = true := by kernel_rfl) (C : Region.free g e d i = true := by kernel_rfl) (G : (Region.ready g e d).contains i = true := by kernel_rfl)
 (E : ∀ c a w, Q (.panic c) (a.put s v) w → Q (.panic c) a w := by exact fun _ _ _ h => h) : wpAnyH P g e Q S (fuel + 1) d a w :=
 wpAnyH_take hi B C G E A D h
theorem tkZa {d : Type _} (l : List d) (i : Nat) (a : d) : l.toArray.setIfInBounds i a = (l.set i a).toArray := List.setIfInBounds_toArray ..
theorem tkZb {d : Type _} (x y : d) (l : List d) : (x :: l).set 0 y = y :: l := rfl
theorem tkZc {d : Type _} (x y : d) (l : List d) (n : Nat) : (x :: l).set (n + 1) y = x :: l.set n y := rfl
abbrev yoM := @Lib.hid
abbrev yoN := @Nat.le_refl
abbrev yoO := @decide_eq_false
abbrev yoP := @decide_eq_true
abbrev yoQ := @Go.RowKit.Below.refl
section
open Go.RowKit
theorem zfS {g e:Nat} {w w':World} (h:Lib.Utf8Tabs g e w) (f:Below w.heap.size w w'):Lib.Utf8Tabs g e w':=by
 have k: ∀{a:Addr} {v:Value},w.cell? a=some v→w'.cell? a=some v:=fun {a v} d=>(f.cell (World.block_lt_of_cell? w a d)).trans d
 exact ⟨fun c d=>k (h.1 c d),fun i hi=>⟨k (h.2 i hi).1,k (h.2 i hi).2⟩⟩
theorem zdU (of:List UInt8) (c:UInt8):of.contains c=hasB of c:=by
 unfold hasB
 rw [Bool.eq_iff_iff]
 simp
def zqJ:List UInt8:=[45,46,95,126,33,36,38,39,40,41,42,43,44,59,61]
def zoP (r:Nat):Bool:=decide (r<128)&&zjZ (UInt8.ofNat r)
theorem yhV (r:Nat):zoP r=(zbY (r:Int)||(zaU (r:Int)||zfX zqJ r)):=by
 unfold zoP zfX
 by_cases h:r<128
 ·have e: ∀d:Fin 128,zjZ (UInt8.ofNat d.val)=(zbY (d.val:Int)||(zaU (d.val:Int)||(true&&hasB zqJ (UInt8.ofNat d.val)))):=by decide+kernel
  rw [yoP h]
  exact e ⟨r,h⟩
 ·have f:zbY (r:Int)=false:=yoO (by omega)
  have g:zaU (r:Int)=false:=yoO (by omega)
  rw [yoO h,f,g];rfl
theorem zlL (r:Nat) (w:World) (g:isB (r:Int)=true):
  Calls Tryz.prog 164 #[.int .i32 (r:Int)] w (zbE w (zoP r)):=by
 have d:=yoM (yhV r)
 have i:=yoM (zoB (r:Int))
 have q:=yoM (zbO (r:Int))
 have m:=yoM (zcE zqJ (by decide) r g)
 generalize zoP r=res at*
 generalize zbY (r:Int)=o at*
 generalize zaU (r:Int)=j at*
 generalize zfX zqJ r=C at*
 generalize (r:Int)=A at*
 clear g
 go_enter Tryz.func164,Tryz.ntmps164
 go_wp2_with fail
 refine (i.out _).mono ?_
 rintro e w' ⟨rfl,rfl⟩
 cases o with
 |true=>
  go_wp2
  go_ret
  exact zaE d.out (yoQ _ _)
 |false=>
  go_wp2_with fail
  refine (q.out _).mono ?_
  rintro e w' ⟨rfl,rfl⟩
  cases j with
  |true=>
   go_wp2
   go_ret
   exact zaE d.out (yoQ _ _)
  |false=>
   go_wp2_with fail
   refine (m.out _).mono ?_
   rintro e B ⟨rfl,f⟩
   go_wp2
   go_ret
   exact zaE d.out f
def hexR (r:Int):Bool:=decide (0≤valZ r)
theorem zmR (r:Int) (w:World):Calls Tryz.prog 227 #[.int .i32 r] w fun e w'=>e= .returned (.bool (hexR r))∧w=w':=by
 have f:=yoM (zbP r w)
 have d:Hid (hexR r=decide (0≤valZ r)):=rfl
 generalize valZ r=z at*
 go_enter Tryz.func227,Tryz.ntmps227
 go_wp2_with fail
 refine f.out.mono ?_
 rintro e w' ⟨rfl,rfl⟩
 go_wp2
 go_ret
 exact ⟨zaV d.out.symm,rfl⟩
theorem ylK: ∀d:Fin 256,hexR (d.val:Int)=hexA (UInt8.ofNat d.val):=by decide+kernel
theorem zvM (c:UInt8):hexR (c.toNat:Int)=hexA c:=by
 have:=ylK ⟨c.toNat,c.toNat_lt⟩
 simpa using this
theorem z3C (q:List UInt8) (c d e:UInt8) (w:World) (J:q.length≤1000000) (N:2<q.length) (L: ∀h:0<(ByteArray.mk q.toArray).size,(ByteArray.mk q.toArray)[0]'h=c) (K: ∀h:1<(ByteArray.mk q.toArray).size,(ByteArray.mk q.toArray)[1]'h=d) (I: ∀h:2<(ByteArray.mk q.toArray).size,(ByteArray.mk q.toArray)[2]'h=e) (o:pctA q=(c==37&&hexA d&&hexA e)):
  Calls Tryz.prog 165 #[.string ⟨q.toArray⟩] w fun e w'=>e= .returned (.bool (pctA q))∧w=w':=by
 have M:=zaF q
 have g:=yoM o
 have m:=yoM (zmR (d.toNat:Int) w)
 have j:=yoM (zmR (e.toNat:Int) w)
 rw [zvM] at m j
 have D:=d.toNat_lt
 have C:=e.toNat_lt
 have f:(c==37)=((c.toNat:Int)==37):=by
  rw [Bool.eq_iff_iff,beq_iff_eq,beq_iff_eq]
  exact ⟨fun h=>by rw [h];rfl,fun h=>UInt8.toNat_inj.1 (by show c.toNat=37;omega)⟩
 rw [f] at g
 have E:IntKind.i32.wrap (d.toNat:Int)=(d.toNat:Int):=IntWalk.i32_in _ (by omega)
 have G:IntKind.i32.wrap (e.toNat:Int)=(e.toNat:Int):=IntWalk.i32_in _ (by omega)
 clear o
 generalize pctA q=res at*
 generalize hexA d=B at*
 generalize hexA e=H at*
 obtain ⟨A,i⟩: ∃b,((c.toNat:Int)==37)=b:=⟨_,rfl⟩
 rw [i] at g
 clear f
 cases A with
 |false=>
  go_enter Tryz.func165,Tryz.ntmps165
  go_wp2
  go_ret
  exact ⟨zaV g.out.symm,rfl⟩
 |true=>
  go_enter Tryz.func165,Tryz.ntmps165
  go_wp2_with fail
  refine m.out.mono ?_
  rintro e w' ⟨rfl,rfl⟩
  cases B with
  |false=>
   go_wp2
   go_ret
   exact ⟨zaV g.out.symm,rfl⟩
  |true=>
   go_wp2_with fail
   refine j.out.mono ?_
   rintro e w' ⟨rfl,rfl⟩
   go_wp2
   go_ret
   exact ⟨zaV g.out.symm,rfl⟩
theorem z5V (l:List UInt8) (w:World) (g:l.length≤1000000):
  Calls Tryz.prog 165 #[.string ⟨l.toArray⟩] w fun e w'=>e= .returned (.bool (pctA l))∧w=w':=by
 have f:=zaF l
 match l,f,g with
 |[],f,_=>
  go_enter Tryz.func165,Tryz.ntmps165
  go_wp2
  go_ret
  exact ⟨rfl,rfl⟩
 |[_],f,_=>
  go_enter Tryz.func165,Tryz.ntmps165
  go_wp2
  go_ret
  exact ⟨rfl,rfl⟩
 |[_,_],f,_=>
  go_enter Tryz.func165,Tryz.ntmps165
  go_wp2
  go_ret
  exact ⟨rfl,rfl⟩
 |c::d::e::r,f,g=>exact z3C (c::d::e::r) c d e w g (by simp) (fun _=>rfl) (fun _=>rfl) (fun _=>rfl) rfl
theorem yfE {of l:List UInt8} {k i:Nat} (h:i<k) (hi:i<l.length) (d:hasB of l[i]=false):zeV of l k=false:=by
 unfold zeV
 rw [List.all_eq_false]
 refine ⟨l[i],?_,by rw [zdU,d];decide⟩
 exact List.mem_take_iff_getElem.2 ⟨i,by omega,rfl⟩
theorem ybF {of l:List UInt8} {k:Nat} (h: ∀i (hi:i<l.length),i<k→hasB of l[i]=true):zeV of l k=true:=by
 unfold zeV
 rw [List.all_eq_true]
 intro x d
 obtain ⟨i,hi,rfl⟩:=List.mem_take_iff_getElem.1 d
 rw [zdU]
 exact h i (by omega) (by omega)
theorem zwS (of l:List UInt8) (w:World) (X:l.length≤1000000) (f:Lib.Utf8Tabs 1 2 w):
  Calls Tryz.prog 166 #[.string ⟨of.toArray⟩,.string ⟨l.toArray⟩] w (zbE w (zeV of l (Lib.decodeGo ⟨l.toArray⟩).2)):=by
 have V:=zaF l
 have C:=yoM (Tryz.utf8_DecodeRuneInString ⟨l.toArray⟩ w f)
 have O:=Lib.decodeGo_le_size ⟨l.toArray⟩
 rw [V] at O
 have H:Hid (∀i,i<(Lib.decodeGo ⟨l.toArray⟩).2→ ∀hi:i<l.length,hasB of l[i]=false→zeV of l (Lib.decodeGo ⟨l.toArray⟩).2=false):=fun i h hi U=>yfE h hi U
 have I:Hid ((∀i (hi:i<l.length),i<(Lib.decodeGo ⟨l.toArray⟩).2→hasB of l[i]=true)→zeV of l (Lib.decodeGo ⟨l.toArray⟩).2=true):=fun h=>ybF h
 have L:Hid (∀j (h:j<l.length),(ByteArray.mk l.toArray)[j]'(by rw [zaF];exact h)=l[j]):=fun j h=>rfl
 have M:Hid (∀(c:UInt8) W,Calls Tryz.prog 184 #[.string ⟨of.toArray⟩,.int .u8 (c.toNat:Int)] W fun e w'=>e= .returned (.int .i64 (Lib.indexByte of c))∧W=w'):=fun c W=>(Tryz.strings_IndexByte ⟨of.toArray⟩ (c.toNat:Int) W).mono (fun e w' h=>⟨by rw [h.1,zgK],h.2.symm⟩)
 have J:=yoM (fun c=>zcG of c)
 generalize (Lib.decodeGo ⟨l.toArray⟩).1=R at*
 generalize (Lib.decodeGo ⟨l.toArray⟩).2=K at*
 clear f
 go_enter Tryz.func166,Tryz.ntmps166
 go_wp2_with fail
 refine C.out.mono ?_
 rintro e x1 ⟨rfl,B⟩
 have D:=yoM B
 clear B C
 go_wp2
 go_loop [14] (fun i=> ∃k:Nat,k≤K∧i= .int .i64 k∧Hid (∀j (h:j<l.length),j<k→hasB of l[j]=true)) (fun i=>K - (intOf i).toNat)
 case atStart=>exact ⟨0,Nat.zero_le _,rfl,fun j _ h=>by omega⟩
 case round=>
  obtain ⟨k,hk,rfl,E⟩:=hrel
  by_cases N:k<K
  ·have d:k<l.length:=by omega
   obtain ⟨c,G⟩: ∃c,l[k]=c:=⟨_,rfl⟩
   have Y:(ByteArray.mk l.toArray)[k]'(by rw [zaF];exact d)=c:=by rw [L.out k d,G]
   have g:=yoM (M.out c)
   obtain ⟨o,m⟩:=J.out c
   cases A:hasB of c with
   |false=>
    have e:=m A
    have S:=yoM (H.out k N d (by rw [G];exact A))
    rw [e] at g
    clear H I L M J E o m G A
    go_wp2_with fail
    refine (g.out _).mono ?_
    rintro e w' ⟨rfl,rfl⟩
    go_wp2
    go_ret
    exact zaE S.out D.out
   |true=>
    have e:=o A
    have Q:Hid (∀j (h:j<l.length),j<k+1→hasB of l[j]=true):=fun j h Z=>by
     by_cases q:j=k
     ·subst q;rw [G];exact A
     ·exact E.out j h (by omega)
    generalize Lib.indexByte of c=T at*
    have hd:decide (T<0)=false:=yoO (by omega)
    clear H I L M J E o m G A
    go_wp2_with fail
    refine (g.out _).mono ?_
    rintro e w' ⟨rfl,rfl⟩
    go_wp2
    exact ⟨⟨k+1,by omega,by go_num,Q.out⟩,by simp [intOf];omega⟩
  ·have S:=yoM (I.out (fun i hi h=>E.out i hi (by omega)))
   clear H I L M J E
   go_wp2
   go_ret
   exact zaE S.out D.out
theorem zhS (s:ByteArray) (m:Nat→Nat→Bool) (f:FuncId) (Y:Array Value) (ef: ∀args w,(callFunc f args).run Tryz.prog w= .ok (.enter f args) w) (w:World)
  (hF: ∀W p,p<s.size→Below w.heap.size w W→Calls Tryz.prog f (#[.int .i64 (p:Nat),.int .i32 ((Utf8.decode s p).1:Nat)]++Y) W (zbE W (m p (Utf8.decode s p).1))) (_hs:s.size≤1000000):
  Calls Tryz.prog 94 #[.string s,.func (.func f) #[] Y] w (zbE w (allP s m 0)):=by
 have T:=yoM hF
 have S:=yoM (fun p (h: ¬p<s.size)=>zgS s m h)
 have HT:=yoM (fun p (h:p<s.size)=>zhT s m h)
 clear hF
 go_enter Tryz.func94,Tryz.ntmps94
 go_wp2
 go_loopw [] (fun wr=> ∃d:Nat,wr.heap[w.heap.size]? =some (.stringIter s d)∧Below w.heap.size w wr∧Hid (allP s m 0=allP s m d)) (fun wr=>s.size - wr.iterPos w.heap.size)
 case atStart=>exact ⟨0,World.iter_heap w s 0,(yoQ _ _).alloc (yoN _) _,rfl⟩
 case round=>
  obtain ⟨d,j,H,E⟩:=hrel
  have Q:w.heap.size<wr.heap.size:=(Array.getElem?_eq_some_iff.1 j).1
  have O:Hid (wr.iterPos w.heap.size=d):=by
   show wr.iterPos w.heap.size=d
   simp only [World.iterPos,j]
  by_cases D:d<s.size
  ·have Z:=zeP s d D
   have V: ∀C,(Instr.next (.pointer (some ⟨w.heap.size,0,none⟩)) true C).run Tryz.prog wr=_:=fun C=>Lib.run_next_any_at wr w.heap.size s d C j D
   have I:=Lib.iterAt_heap wr w.heap.size s d (d+(Utf8.decode s d).2) j
   have i:=Lib.below_iterAt H (k:=w.heap.size) (yoN _) s (d+(Utf8.decode s d).2)
   have M:w.heap.size<(wr.iterAt w.heap.size s (d+(Utf8.decode s d).2)).heap.size:=by rw [Lib.iterAt_size];exact Q
   have J:=HT.out d D
   have L:=fun W (hW:Below w.heap.size w W)=>T.out W d D hW
   generalize wr.iterAt w.heap.size s (d+(Utf8.decode s d).2)=wi at*
   generalize (Utf8.decode s d).1=R at*
   generalize (Utf8.decode s d).2=K at*
   have o:=yoM (L wi i)
   have g:=yoM J
   clear L J T S HT
   cases N:m d R with
   |false=>
    rw [N] at o g
    have B:Hid (allP s m 0=false):=by show _=_;rw [E.out,g.out];rfl
    clear E g N
    go_wp2_with (go_at_fn f;refine o.out.mono ?_;rintro e X ⟨rfl,q⟩)
    go_ret
    exact zaE B.out (i.trans (q.mono (by omega)))
   |true=>
    rw [N] at o g
    have U:Hid (allP s m 0=allP s m (d+K)):=by show _=_;rw [E.out,g.out];rfl
    clear E g N
    go_wp2_with (go_at_fn f;refine o.out.mono ?_;rintro e X ⟨rfl,q⟩)
    have A:=(q.block w.heap.size M).trans I
    have G:Below w.heap.size w X:=i.trans (q.mono (by omega))
    go_roundw
    case rel=>exact ⟨d+K,A,G,U.out⟩
    case measure=>
     rw [O.out]
     simp only [World.iterPos,A]
     omega
  ·have V: ∀C,(Instr.next (.pointer (some ⟨w.heap.size,0,none⟩)) true C).run Tryz.prog wr=_:=fun C=>Lib.run_next_end_at wr w.heap.size s d C j D
   have B:Hid (allP s m 0=true):=by show _=_;rw [E.out,S.out d D]
   clear T S HT E
   go_wp2
   go_ret
   exact zaE B.out H
theorem ykV (l of:List UInt8) (N Q:Nat) (p r:Nat) (W:World) (M:W.cell? ⟨N,0,none⟩=some (.string ⟨l.toArray⟩)) (J:W.cell? ⟨Q,0,none⟩=some (.string ⟨of.toArray⟩)) (hp:p<l.length) (Y:isB (r:Int)=true) (hl:l.length≤1000000)
  (G:Lib.Utf8Tabs 1 2 W):
  Calls Tryz.prog 163 #[.int .i64 (p:Nat),.int .i32 (r:Nat),.pointer (some ⟨N,0,none⟩),.pointer (some ⟨Q,0,none⟩)] W (zbE W (isPr ⟨l.toArray⟩ of p r)):=by
 have j:Hid (∀X,Below W.heap.size W X→X.cell? ⟨N,0,none⟩=some (.string ⟨l.toArray⟩)∧X.cell? ⟨Q,0,none⟩=some (.string ⟨of.toArray⟩)):=fun X hX=>
  ⟨(hX.cell (World.block_lt_of_cell? W _ M)).trans M,(hX.cell (World.block_lt_of_cell? W _ J)).trans J⟩
 have hs:=zgQ l p (by omega)
 have I:(l.drop p).length≤1000000:=by rw [List.length_drop];omega
 have L:=yoM (fun X=>zlL r X Y)
 have H:=yoM (fun X=>z5V (l.drop p) X I)
 have E:=yoM (fun X (h:Below W.heap.size W X)=>zwS of (l.drop p) X I (zfS G h))
 have T:(Lib.decodeGo ⟨(l.drop p).toArray⟩)=Utf8.decode ⟨l.toArray⟩ p:=by
  have:=Lib.decodeGo_extract ⟨l.toArray⟩ p (by rw [zaF];exact hp)
  rw [←this]
  congr 1
  apply ByteArray.ext
  rw [zaF]
  simp [List.take_of_length_le]
 rw [T] at E
 have O:Hid (isPr ⟨l.toArray⟩ of p r=(zoP r||pctA (l.drop p)||zeV of (l.drop p) (Utf8.decode ⟨l.toArray⟩ p).2)):=rfl
 clear M J G Y T I
 generalize isPr ⟨l.toArray⟩ of p r=res at*
 generalize zeV of (l.drop p) (Utf8.decode ⟨l.toArray⟩ p).2=b3 at*
 generalize pctA (l.drop p)=b2 at*
 generalize zoP r=b1 at*
 generalize l.drop p=q at*
 generalize (r:Int)=rr at*
 cases b1 with
 |true=>
  have D:Hid (res=true):=O.out
  clear O H E hs
  go_enter Tryz.func163,Tryz.ntmps163
  go_wp2_with fail
  refine wp_region_held_drew (S:=fun W=>W.cell? ⟨N,0,none⟩=some (.string ⟨l.toArray⟩)∧W.cell? ⟨Q,0,none⟩=some (.string ⟨of.toArray⟩)) (by kernel_rfl) ?_ (fun i=> ?_)
  ·exact j.out _ (zaH _)
  refine tkZ 0 (some 7) (v:= ?_) rfl (.inl ⟨by rfl,?_⟩) i ?_;rotate_left;·intro w f;(try dsimp only at f);go_simp;try with_reducible rfl
  try simp only [Act.put,tkZa,tkZb,tkZc]
  refine wpAnyH_ready (rs:=[1]) (by kernel_rfl) (by simp) ?_
  refine AllReadyH.cons (o:=⟨some 8,_,_,_,_,_⟩) rfl (fun K m=> ?_) AllReadyH.nil
  go_simp
  go_at_call 164
  refine (L.out _).mono ?_
  rintro e U ⟨rfl,B⟩
  have C:Below W.heap.size W U:=zaG (zaH _) B
  (try go_wp2_with fail)
  refine m.out _ _ ?_ (fun d=> ?_)
  ·exact j.out _ C
  clear m K
  try simp only [Act.put,tkZa,tkZb,tkZc]
  refine tkZ 2 (some 9) (v:= ?_) rfl (.inl ⟨by rfl,?_⟩) d ?_;rotate_left;·intro w f;(try dsimp only at f);go_simp;try with_reducible rfl
  try simp only [Act.put,tkZa,tkZb,tkZc]
  refine tkZ 3 (some 10) (v:=undef) rfl (.inr ⟨by rfl,rfl⟩) d ?_
  try simp only [Act.put,tkZa,tkZb,tkZc]
  refine tkZ 4 (some 11) (v:=undef) rfl (.inr ⟨by rfl,rfl⟩) d ?_
  try simp only [Act.put,tkZa,tkZb,tkZc]
  refine tkZ 5 (some 12) (v:=undef) rfl (.inr ⟨by rfl,rfl⟩) d ?_
  try simp only [Act.put,tkZa,tkZb,tkZc]
  refine tkZ 6 (some 13) (v:=undef) rfl (.inr ⟨by rfl,rfl⟩) d ?_
  try simp only [Act.put,tkZa,tkZb,tkZc]
  refine tkZ 7 (some 14) (v:= ?_) rfl (.inl ⟨by rfl,?_⟩) d ?_;rotate_left;·intro w f;(try dsimp only at f);go_simp;try with_reducible rfl
  try simp only [Act.put,tkZa,tkZb,tkZc]
  refine tkZ 8 (some 15) (v:= ?_) rfl (.inl ⟨by rfl,?_⟩) d ?_;rotate_left;·intro w f;(try dsimp only at f);go_simp;try with_reducible rfl
  try simp only [Act.put,tkZa,tkZb,tkZc]
  refine tkZ 9 (some 16) (v:=undef) rfl (.inr ⟨by rfl,rfl⟩) d ?_
  try simp only [Act.put,tkZa,tkZb,tkZc]
  refine tkZ 10 (some 17) (v:=undef) rfl (.inr ⟨by rfl,rfl⟩) d ?_
  try simp only [Act.put,tkZa,tkZb,tkZc]
  refine tkZ 11 (some 18) (v:=undef) rfl (.inr ⟨by rfl,rfl⟩) d ?_
  try simp only [Act.put,tkZa,tkZb,tkZc]
  refine tkZ 12 (some 19) (v:=undef) rfl (.inr ⟨by rfl,rfl⟩) d ?_
  try simp only [Act.put,tkZa,tkZb,tkZc]
  refine tkZ 13 (some 20) (v:=undef) rfl (.inr ⟨by rfl,rfl⟩) d ?_
  try simp only [Act.put,tkZa,tkZb,tkZc]
  refine tkZ 14 (some 21) (v:= ?_) rfl (.inl ⟨by rfl,?_⟩) d ?_;rotate_left;·intro w f;(try dsimp only at f);go_simp;try with_reducible rfl
  try simp only [Act.put,tkZa,tkZb,tkZc]
  refine tkZ 15 (some 6) (v:= ?_) rfl (.inl ⟨by rfl,?_⟩) d ?_;rotate_left;·intro w f;(try dsimp only at f);go_simp;try with_reducible rfl
  try simp only [Act.put,tkZa,tkZb,tkZc]
  refine wpAnyH_done (by kernel_rfl) ?_ _
  go_wp2
  go_ret
  exact zaE D.out C
 |false=>
 cases b2 with
 |true=>
  have D:Hid (res=true):=O.out
  clear O E
  go_enter Tryz.func163,Tryz.ntmps163
  go_wp2_with fail
  refine wp_region_held_drew (S:=fun W=>W.cell? ⟨N,0,none⟩=some (.string ⟨l.toArray⟩)∧W.cell? ⟨Q,0,none⟩=some (.string ⟨of.toArray⟩)) (by kernel_rfl) ?_ (fun i=> ?_)
  ·exact j.out _ (zaH _)
  refine tkZ 0 (some 7) (v:= ?_) rfl (.inl ⟨by rfl,?_⟩) i ?_;rotate_left;·intro w f;(try dsimp only at f);go_simp;try with_reducible rfl
  try simp only [Act.put,tkZa,tkZb,tkZc]
  refine wpAnyH_ready (rs:=[1]) (by kernel_rfl) (by simp) ?_
  refine AllReadyH.cons (o:=⟨some 8,_,_,_,_,_⟩) rfl (fun K m=> ?_) AllReadyH.nil
  go_simp
  go_at_call 164
  refine (L.out _).mono ?_
  rintro e U ⟨rfl,B⟩
  have C:Below W.heap.size W U:=zaG (zaH _) B
  (try go_wp2_with fail)
  refine m.out _ _ ?_ (fun d=> ?_)
  ·exact j.out _ C
  clear m K
  try simp only [Act.put,tkZa,tkZb,tkZc]
  refine tkZ 2 (some 9) (v:= ?_) rfl (.inl ⟨by rfl,?_⟩) d ?_;rotate_left;·intro w f;(try dsimp only at f);go_simp;try with_reducible rfl
  try simp only [Act.put,tkZa,tkZb,tkZc]
  refine tkZ 3 (some 10) (v:= ?_) rfl (.inl ⟨by rfl,?_⟩) d ?_;rotate_left;·intro w f;(try dsimp only at f);go_simp;try with_reducible rfl
  try simp only [Act.put,tkZa,tkZb,tkZc]
  refine tkZ 4 (some 11) (v:= ?_) rfl (.inl ⟨by rfl,?_⟩) d ?_;rotate_left;·intro w f;(try dsimp only at f);go_simp;try with_reducible rfl
  try simp only [Act.put,tkZa,tkZb,tkZc]
  refine tkZ 5 (some 12) (v:= ?_) rfl (.inl ⟨by rfl,?_⟩) d ?_;rotate_left;·intro w f;(try dsimp only at f);go_simp;try with_reducible rfl
  try simp only [Act.put,tkZa,tkZb,tkZc]
  refine wpAnyH_ready (rs:=[6]) (by kernel_rfl) (by simp) ?_
  refine AllReadyH.cons (o:=⟨some 13,_,_,_,_,_⟩) rfl (fun K m=> ?_) AllReadyH.nil
  go_simp
  go_at_call 165
  refine (H.out _).mono ?_
  rintro e x2 ⟨rfl,rfl⟩
  (try go_wp2_with fail)
  refine m.out _ _ ?_ (fun g=> ?_)
  ·exact j.out _ C
  clear m K
  try simp only [Act.put,tkZa,tkZb,tkZc]
  refine tkZ 7 (some 14) (v:= ?_) rfl (.inl ⟨by rfl,?_⟩) g ?_;rotate_left;·intro w f;(try dsimp only at f);go_simp;try with_reducible rfl
  try simp only [Act.put,tkZa,tkZb,tkZc]
  refine tkZ 8 (some 15) (v:= ?_) rfl (.inl ⟨by rfl,?_⟩) g ?_;rotate_left;·intro w f;(try dsimp only at f);go_simp;try with_reducible rfl
  try simp only [Act.put,tkZa,tkZb,tkZc]
  refine tkZ 9 (some 16) (v:=undef) rfl (.inr ⟨by rfl,rfl⟩) g ?_
  try simp only [Act.put,tkZa,tkZb,tkZc]
  refine tkZ 10 (some 17) (v:=undef) rfl (.inr ⟨by rfl,rfl⟩) g ?_
  try simp only [Act.put,tkZa,tkZb,tkZc]
  refine tkZ 11 (some 18) (v:=undef) rfl (.inr ⟨by rfl,rfl⟩) g ?_
  try simp only [Act.put,tkZa,tkZb,tkZc]
  refine tkZ 12 (some 19) (v:=undef) rfl (.inr ⟨by rfl,rfl⟩) g ?_
  try simp only [Act.put,tkZa,tkZb,tkZc]
  refine tkZ 13 (some 20) (v:=undef) rfl (.inr ⟨by rfl,rfl⟩) g ?_
  try simp only [Act.put,tkZa,tkZb,tkZc]
  refine tkZ 14 (some 21) (v:= ?_) rfl (.inl ⟨by rfl,?_⟩) g ?_;rotate_left;·intro w f;(try dsimp only at f);go_simp;try with_reducible rfl
  try simp only [Act.put,tkZa,tkZb,tkZc]
  refine tkZ 15 (some 6) (v:= ?_) rfl (.inl ⟨by rfl,?_⟩) g ?_;rotate_left;·intro w f;(try dsimp only at f);go_simp;try with_reducible rfl
  try simp only [Act.put,tkZa,tkZb,tkZc]
  refine wpAnyH_done (by kernel_rfl) ?_ _
  go_wp2
  go_ret
  exact zaE D.out C
 |false=>
  have D:Hid (res=b3):=O.out
  clear O
  go_enter Tryz.func163,Tryz.ntmps163
  go_wp2_with fail
  refine wp_region_held_drew (S:=fun W=>W.cell? ⟨N,0,none⟩=some (.string ⟨l.toArray⟩)∧W.cell? ⟨Q,0,none⟩=some (.string ⟨of.toArray⟩)) (by kernel_rfl) ?_ (fun i=> ?_)
  ·exact j.out _ (zaH _)
  refine tkZ 0 (some 7) (v:= ?_) rfl (.inl ⟨by rfl,?_⟩) i ?_;rotate_left;·intro w f;(try dsimp only at f);go_simp;try with_reducible rfl
  try simp only [Act.put,tkZa,tkZb,tkZc]
  refine wpAnyH_ready (rs:=[1]) (by kernel_rfl) (by simp) ?_
  refine AllReadyH.cons (o:=⟨some 8,_,_,_,_,_⟩) rfl (fun K m=> ?_) AllReadyH.nil
  go_simp
  go_at_call 164
  refine (L.out _).mono ?_
  rintro e U ⟨rfl,B⟩
  have C:Below W.heap.size W U:=zaG (zaH _) B
  (try go_wp2_with fail)
  refine m.out _ _ ?_ (fun d=> ?_)
  ·exact j.out _ C
  clear m K
  try simp only [Act.put,tkZa,tkZb,tkZc]
  refine tkZ 2 (some 9) (v:= ?_) rfl (.inl ⟨by rfl,?_⟩) d ?_;rotate_left;·intro w f;(try dsimp only at f);go_simp;try with_reducible rfl
  try simp only [Act.put,tkZa,tkZb,tkZc]
  refine tkZ 3 (some 10) (v:= ?_) rfl (.inl ⟨by rfl,?_⟩) d ?_;rotate_left;·intro w f;(try dsimp only at f);go_simp;try with_reducible rfl
  try simp only [Act.put,tkZa,tkZb,tkZc]
  refine tkZ 4 (some 11) (v:= ?_) rfl (.inl ⟨by rfl,?_⟩) d ?_;rotate_left;·intro w f;(try dsimp only at f);go_simp;try with_reducible rfl
  try simp only [Act.put,tkZa,tkZb,tkZc]
  refine tkZ 5 (some 12) (v:= ?_) rfl (.inl ⟨by rfl,?_⟩) d ?_;rotate_left;·intro w f;(try dsimp only at f);go_simp;try with_reducible rfl
  try simp only [Act.put,tkZa,tkZb,tkZc]
  refine wpAnyH_ready (rs:=[6]) (by kernel_rfl) (by simp) ?_
  refine AllReadyH.cons (o:=⟨some 13,_,_,_,_,_⟩) rfl (fun K m=> ?_) AllReadyH.nil
  go_simp
  go_at_call 165
  refine (H.out _).mono ?_
  rintro e x2 ⟨rfl,rfl⟩
  (try go_wp2_with fail)
  refine m.out _ _ ?_ (fun g=> ?_)
  ·exact j.out _ C
  clear m K
  try simp only [Act.put,tkZa,tkZb,tkZc]
  refine tkZ 7 (some 14) (v:= ?_) rfl (.inl ⟨by rfl,?_⟩) g ?_;rotate_left;·intro w f;(try dsimp only at f);go_simp;try with_reducible rfl
  try simp only [Act.put,tkZa,tkZb,tkZc]
  refine tkZ 8 (some 15) (v:= ?_) rfl (.inl ⟨by rfl,?_⟩) g ?_;rotate_left;·intro w f;(try dsimp only at f);go_simp;try with_reducible rfl
  try simp only [Act.put,tkZa,tkZb,tkZc]
  refine tkZ 9 (some 16) (v:= ?_) rfl (.inl ⟨by rfl,?_⟩) g ?_;rotate_left;·intro w f;(try dsimp only at f);go_simp;try with_reducible rfl
  try simp only [Act.put,tkZa,tkZb,tkZc]
  refine tkZ 10 (some 17) (v:= ?_) rfl (.inl ⟨by rfl,?_⟩) g ?_;rotate_left;·intro w f;(try dsimp only at f);go_simp;try with_reducible rfl
  try simp only [Act.put,tkZa,tkZb,tkZc]
  refine tkZ 11 (some 18) (v:= ?_) rfl (.inl ⟨by rfl,?_⟩) g ?_;rotate_left;·intro w f;(try dsimp only at f);go_simp;try with_reducible rfl
  try simp only [Act.put,tkZa,tkZb,tkZc]
  refine tkZ 12 (some 19) (v:= ?_) rfl (.inl ⟨by rfl,?_⟩) g ?_;rotate_left;·intro w f;(try dsimp only at f);go_simp;try with_reducible rfl
  try simp only [Act.put,tkZa,tkZb,tkZc]
  refine wpAnyH_ready (rs:=[13]) (by kernel_rfl) (by simp) ?_
  refine AllReadyH.cons (o:=⟨some 20,_,_,_,_,_⟩) rfl (fun K m=> ?_) AllReadyH.nil
  go_simp
  go_at_call 166
  refine (E.out _ C).mono ?_
  rintro e x3 ⟨rfl,V⟩
  have Z:Below W.heap.size W x3:=zaG C V
  (try go_wp2_with fail)
  refine m.out _ _ ?_ (fun A=> ?_)
  ·exact j.out _ Z
  clear m K
  try simp only [Act.put,tkZa,tkZb,tkZc]
  refine tkZ 14 (some 21) (v:= ?_) rfl (.inl ⟨by rfl,?_⟩) A ?_;rotate_left;·intro w f;(try dsimp only at f);go_simp;try with_reducible rfl
  try simp only [Act.put,tkZa,tkZb,tkZc]
  refine tkZ 15 (some 6) (v:= ?_) rfl (.inl ⟨by rfl,?_⟩) A ?_;rotate_left;·intro w f;(try dsimp only at f);go_simp;try with_reducible rfl
  try simp only [Act.put,tkZa,tkZb,tkZc]
  refine wpAnyH_done (by kernel_rfl) ?_ _
  go_wp2
  go_ret
  exact zaE D.out Z
theorem idx_at {d l:List UInt8} {p:Nat} (h:p<l.length) (q: ∀j (hj:j<l.length),j<p→d.contains l[j]=false) (e:d.contains l[p]=true):Lib.indexAny l d=(p:Nat):=by
 rcases zlF d l with ⟨_,_,f⟩|⟨i,hi,m,A,f⟩
 ·rw [f l[p] (List.getElem_mem _)] at e;cases e
 ·have g:=zgI d.contains l
  rw [A] at g
  rw [m]
  by_cases o:i<p
  ·rw [q i hi o] at f;cases f
  ·by_cases B:p<i
   ·have:=g l[p] (List.mem_take_iff_getElem.2 ⟨p,by omega,rfl⟩)
    rw [this] at e;cases e
   ·congr 1;omega
theorem yhK {d l:List UInt8} (g: ∀j (hj:j<l.length),d.contains l[j]=false):Lib.indexAny l d= -1:=by
 rcases zlF d l with ⟨_,f,_⟩|⟨i,hi,_,_,e⟩
 ·exact f
 ·rw [g i hi] at e;cases e
theorem zoL (l g:List UInt8) (w:World) (h8:l.length≤8) (h2:2≤g.length) (qf:g.length≤1000) (ha: ∀c∈g,c.toNat<128):
  Calls Tryz.prog 91 #[.string ⟨l.toArray⟩,.string ⟨g.toArray⟩] w fun e w'=>e= .returned (.int .i64 (Lib.indexAny l g))∧Below w.heap.size w w':=by
 have hz:=zaF l
 have qg:=zaF g
 have C:=yoM ha
 have Y:Hid (Asc ⟨g.toArray⟩):=zyR ha
 have D:Hid (∀p (h:p<l.length),(∀j (A:j<l.length),j<p→g.contains l[j]=false)→g.contains l[p]=true→Lib.indexAny l g=(p:Nat)):=fun p h=>idx_at h
 have B:=yoM (@yhK g l)
 clear ha
 have he:g.isEmpty=false:=List.isEmpty_eq_false_iff.2 (fun e=>by rw [e] at h2;simp at h2)
 have qi:((g.length:Int)==1)=false:=beq_eq_false_iff_ne.2 (by omega)
 have qj:decide ((8:Int)<(l.length:Int))=false:=yoO (by omega)
 go_enter Tryz.func91,Tryz.ntmps91
 go_wp2_with (go_at_call 160;refine ((Tryz.strings_shouldUseASCIISet _ _).mono fun _ _ h=>(⟨h.1,h.2.symm⟩:_∧_)).mono ?_;rintro e w' ⟨rfl,rfl⟩)
 go_loopw [] (fun wr=> ∃f:Nat,wr.heap[w.heap.size]? =some (.stringIter ⟨l.toArray⟩ f)∧Below w.heap.size w wr∧Hid (∀j (h:j<l.length),j<f→g.contains l[j]=false)) (fun wr=>l.length - wr.iterPos w.heap.size)
 case atStart=>exact ⟨0,World.iter_heap w _ 0,(yoQ _ _).alloc (yoN _) _,fun j _ h=>by omega⟩
 case round=>
  obtain ⟨f,q,O,L⟩:=hrel
  have qb:w.heap.size<wr.heap.size:=(Array.getElem?_eq_some_iff.1 q).1
  have qa:Hid (wr.iterPos w.heap.size=f):=by
   show wr.iterPos w.heap.size=f
   simp only [World.iterPos,q]
  by_cases hp:f<l.length
  ·have i:f<(ByteArray.mk l.toArray).size:=by rw [hz];exact hp
   have qh:=zeP ⟨l.toArray⟩ f i
   have qc: ∀J,(Instr.next (.pointer (some ⟨w.heap.size,0,none⟩)) true J).run Tryz.prog wr=_:=fun J=>Lib.run_next_any_at wr w.heap.size _ f J q i
   have T:=Lib.iterAt_heap wr w.heap.size ⟨l.toArray⟩ f (f+(Utf8.decode ⟨l.toArray⟩ f).2) q
   have H:=Lib.below_iterAt O (k:=w.heap.size) (yoN _) ⟨l.toArray⟩ (f+(Utf8.decode ⟨l.toArray⟩ f).2)
   have U:w.heap.size<(wr.iterAt w.heap.size ⟨l.toArray⟩ (f+(Utf8.decode ⟨l.toArray⟩ f).2)).heap.size:=by rw [Lib.iterAt_size];exact qb
   generalize wr.iterAt w.heap.size ⟨l.toArray⟩ (f+(Utf8.decode ⟨l.toArray⟩ f).2)=V at*
   have qe: ∃x:Int,(Calls Tryz.prog 153 #[.string ⟨g.toArray⟩,.int .i32 ((Utf8.decode ⟨l.toArray⟩ f).1:Int)] V fun e w'=>e= .returned (.int .i64 x)∧Below V.heap.size V w')∧
     ((0≤x∧g.contains l[f]=true)∨(x<0∧ ∀j (h:j<l.length),j<f+(Utf8.decode ⟨l.toArray⟩ f).2→g.contains l[j]=false)):=by
    have N:(ByteArray.mk l.toArray)[f]'i=l[f]:=rfl
    by_cases Q:(l[f]).toNat<128
    ·rw [decode_ascii ⟨l.toArray⟩ f i Q]
     refine ⟨Lib.indexByte g l[f],?_,?_⟩
     ·refine (Tryz.strings_IndexRune_ascii ⟨g.toArray⟩ _ V (by simp only [N];omega) (by simp only [N];omega)).mono ?_
      rintro e w' ⟨rfl,rfl⟩
      simp only [zgK,N]
      exact ⟨by first|trivial|rfl,yoQ _ _⟩
     ·rw [zdU]
      have hi:=zcG g l[f]
      cases M:hasB g l[f] with
      |true=>exact .inl ⟨hi.1 M,rfl⟩
      |false=>
       refine .inr ⟨by rw [hi.2 M];omega,fun j A h1=> ?_⟩
       by_cases e:j=f
       ·subst e;rw [zdU];exact M
       ·exact L.out j A (by simp only at h1;omega)
    ·refine ⟨-1,zjM ⟨g.toArray⟩ Y.out _ V (by have:=(decode_high ⟨l.toArray⟩ f i (by rw [N];omega)).1;omega) (zfY _ f),.inr ⟨by omega,fun j A h1=> ?_⟩⟩
     by_cases e:j<f
     ·exact L.out j A e
     ·obtain ⟨c,h3,h4⟩:=zmG ⟨l.toArray⟩ f i (by rw [N];omega) (j - f) (by omega)
      have e2:f+(j - f)=j:=by omega
      rw [e2] at h3
      have e3:l[j]? =some c:=h3
      rw [List.getElem?_eq_getElem A] at e3
      rw [Option.some.inj e3,zdU]
      cases M:hasB g c with
      |false=>rfl
      |true=>
       unfold hasB at M
       rw [List.any_eq_true] at M
       obtain ⟨d,hd,X⟩:=M
       have:=C.out d hd
       rw [beq_iff_eq] at X
       rw [X] at this
       omega
   obtain ⟨x,o,hx⟩:=qe
   have HX:=yoM o
   clear o
   generalize (Utf8.decode ⟨l.toArray⟩ f).2=K at*
   generalize ((Utf8.decode ⟨l.toArray⟩ f).1:Int)=r at*
   rcases hx with ⟨h0,I⟩|⟨h0,S⟩
   ·have HF:=yoM (D.out f hp (fun j A h=>L.out j A h) I)
    have hd:decide ((0:Int)≤x)=true:=yoP h0
    clear I D B C L Y
    go_wp2_with fail
    refine HX.out.mono ?_
    rintro e Z ⟨rfl,E⟩
    have m:Below w.heap.size w Z:=H.trans (E.mono (by omega))
    go_wp2
    go_ret
    exact ⟨by rw [HF.out];rfl,m⟩
   ·have hd:decide ((0:Int)≤x)=false:=yoO (by omega)
    have qd:=yoM S
    clear S D B C L Y
    go_wp2_with fail
    refine HX.out.mono ?_
    rintro e Z ⟨rfl,E⟩
    have G:=(E.block w.heap.size U).trans T
    have m:Below w.heap.size w Z:=H.trans (E.mono (by omega))
    go_wp2
    go_roundw
    case rel=>exact ⟨f+K,G,m,qd.out⟩
    case measure=>
     rw [qa.out]
     simp only [World.iterPos,G]
     omega
  ·have qc: ∀J,(Instr.next (.pointer (some ⟨w.heap.size,0,none⟩)) true J).run Tryz.prog wr=_:=fun J=>Lib.run_next_end_at wr w.heap.size _ f J q (by rw [hz];exact hp)
   have HF:=yoM (B.out (fun j A=>L.out j A (by omega)))
   clear D B C L Y
   go_wp2
   go_ret
   exact ⟨by rw [HF.out];rfl,O⟩
theorem yaQ (l:List UInt8) (w:World) (m:l.length≤1000000):
  Calls Tryz.prog 91 #[.string ⟨l.toArray⟩,.string ⟨#[58,47,63,35]⟩] w fun e w'=>e= .returned (.int .i64 (Lib.indexAny l [58,47,63,35]))∧Below w.heap.size w w':=by
 by_cases i:l.length≤8
 ·exact zoL l [58,47,63,35] w i (by decide) (by decide) (by decide)
 ·have o:=zaF l
  refine (Tryz.strings_IndexAny_long (fun w=>(Tryz.zeroValue138 w).trans (by kernel_rfl)) ⟨l.toArray⟩ ⟨#[58,47,63,35]⟩ w (by decide) (by omega) (by omega) (by decide) (fun j b g=> ?_)).mono ?_
  ·have d:j<4:=by have:=(List.getElem?_eq_some_iff.1 g).1;simpa using this
   have f: ∀j:Fin 4,∀b,([58,47,63,35]:List UInt8)[j.val]? =some b→b.toNat<128:=by decide
   exact f ⟨j,d⟩ b g
  ·rintro e w' ⟨rfl,rfl⟩
   exact ⟨rfl,((yoQ _ _).alloc (yoN _) _).alloc (by simp) _⟩
theorem ymG (b:UInt8) (l:List UInt8):Lib.cut l [b]=((cutA b l).1,(cutA b l).2.2,(cutA b l).2.1):=by
 obtain ⟨d,i,g⟩:=zqL b l
 have e:b∉(cutA b l).1:=fun h=>by have:=i b h;simp at this
 cases f:(cutA b l).2.1 with
 |true=>
  rw [f,if_pos rfl] at d
  conv=>lhs;rw [d]
  exact z0V _ e
 |false=>
  rw [f,if_neg (by decide),List.append_nil] at d
  rw [g f,←d]
  rw [←d] at e
  exact z0G e
def RetCut (w:World) (x:List UInt8×Bool×List UInt8) (e:Ending) (w':World):Prop:=e= .returned (.tuple #[.string ⟨x.1.toArray⟩,.string ⟨x.2.2.toArray⟩,.bool x.2.1])∧Below w.heap.size w w'
theorem zjY (b:UInt8) (l:List UInt8) (w:World) (g:l.length≤1000000) (d:MaxVar w):
  Calls Tryz.prog 34 #[.string ⟨l.toArray⟩,.string ⟨[b].toArray⟩] w (RetCut w (cutA b l)):=by
 obtain ⟨m,f⟩:=d
 refine (Tryz.strings_Cut ⟨l.toArray⟩ ⟨[b].toArray⟩ m w (by rw [zaF];omega) f).mono ?_
 rintro e w' ⟨rfl,n,rfl⟩
 refine ⟨?_,zcD (yoQ _ _) n⟩
 rw [zaM,zaM,ymG]
theorem zfF (b:UInt8) (l:List UInt8):(cutA b l).1.length≤l.length∧(cutA b l).2.2.length≤l.length:=by
 obtain ⟨f,_,g⟩:=zqL b l
 have e:=congrArg List.length f
 cases d:(cutA b l).2.1 with
 |true=>
  rw [d,if_pos rfl] at e
  simp at e
  omega
 |false=>
  rw [d,if_neg (by decide)] at e
  simp at e
  rw [g d]
  simp
  omega
theorem zjH (l of:List UInt8) (w:World) (E:l.length≤1000000) (d:Lib.Utf8Tabs 1 2 w):
  Calls Tryz.prog 98 #[.string ⟨l.toArray⟩,.string ⟨of.toArray⟩] w (zbE w (isA of l)):=by
 obtain ⟨x,f⟩: ∃x,x=(w.alloc (.cells #[.string ⟨l.toArray⟩] 9)).alloc (.cells #[.string ⟨of.toArray⟩] 9):=⟨_,rfl⟩
 have m:Below w.heap.size w x:=by rw [f];exact ((yoQ _ w).alloc (yoN _) _).alloc (by simp) _
 have o:x.cell? ⟨w.heap.size,0,none⟩=some (.string ⟨l.toArray⟩):=by
  have g:=zaA (heap_alloc_new w (.cells #[.string ⟨l.toArray⟩] 9)) 0
  have D:=((yoQ (w.alloc (.cells #[.string ⟨l.toArray⟩] 9)).heap.size _).alloc (yoN _) (.cells #[.string ⟨of.toArray⟩] 9)).cell (World.block_lt_of_cell? _ _ g)
  rw [f]
  exact D.trans g
 have q:x.cell? ⟨w.heap.size+1,0,none⟩=some (.string ⟨of.toArray⟩):=by
  have g:=zaA (heap_alloc_new (w.alloc (.cells #[.string ⟨l.toArray⟩] 9)) (.cells #[.string ⟨of.toArray⟩] 9)) 0
  have e:(w.alloc (.cells #[.string ⟨l.toArray⟩] 9)).heap.size=w.heap.size+1:=by simp
  rw [e] at g
  rw [f]
  exact g
 have j:=yoM (fun W (h:Below x.heap.size x W)=>zfS (zfS d m) h)
 have i:Hid (Calls Tryz.prog 94 #[.string ⟨l.toArray⟩,.func (.func 163) #[] #[.pointer (some ⟨w.heap.size,0,none⟩),.pointer (some ⟨w.heap.size+1,0,none⟩)]] x (zbE x (isA of l))):=by
  have h:=zhS ⟨l.toArray⟩ (isPr ⟨l.toArray⟩ of) 163 #[.pointer (some ⟨w.heap.size,0,none⟩),.pointer (some ⟨w.heap.size+1,0,none⟩)] (enters_of Tryz.func163 (by kernel_rfl) rfl) x (fun W p C B=> ?_) (by rw [zaF];omega)
  ·have e:=yjE ⟨l.toArray⟩ of (ByteArray.mk l.toArray).size 0 (by omega)
   rw [List.drop_zero,zaM] at e
   rw [e] at h
   exact h
  ·exact ykV l of w.heap.size (w.heap.size+1) p _ W ((B.cell (World.block_lt_of_cell? x _ o)).trans o) ((B.cell (World.block_lt_of_cell? x _ q)).trans q) (by rw [zaF] at C;exact C) (zfY _ p) E (j.out W B)
 have I:=yoM m
 have G:=yoM o
 clear m q j d
 have A:(w.alloc (.cells #[.string ⟨l.toArray⟩] 9)).heap.size=w.heap.size+1:=by simp
 go_enter Tryz.func98,Tryz.ntmps98
 go_wp2_with fail
 rw [←f]
 clear f A
 refine i.out.mono ?_
 rintro e y ⟨rfl,H⟩
 go_wp2
 go_ret
 exact ⟨rfl,zaG I.out H⟩
theorem sch_is (p r:Nat):zkZ p r=(zbY (r:Int)||(decide ((0:Int)<(p:Int))&&(zaU (r:Int)||zfX [43,45,46] r))):=by
 have e:decide ((0:Int)<(p:Int))=decide (0<p):=by
  by_cases h:0<p
  ·rw [yoP h,yoP (by omega)]
  ·rw [yoO h,yoO (by omega)]
 rw [e]
 unfold zkZ zfX
 by_cases h:r<128
 ·have f: ∀d:Fin 128,∀b:Bool,(zgY (UInt8.ofNat d.val)||(b&&(zdF (UInt8.ofNat d.val)||[43,45,46].contains (UInt8.ofNat d.val))))=(zbY (d.val:Int)||(b&&(zaU (d.val:Int)||(true&&hasB [43,45,46] (UInt8.ofNat d.val))))):=by decide+kernel
  rw [yoP h]
  exact f ⟨r,h⟩ (decide (0<p))
 ·have g:zbY (r:Int)=false:=yoO (by omega)
  have i:zaU (r:Int)=false:=yoO (by omega)
  rw [yoO h,g,i]
  simp
theorem yiC (p r:Nat) (w:World) (j:isB (r:Int)=true):
  Calls Tryz.prog 95 #[.int .i64 (p:Nat),.int .i32 (r:Nat)] w (zbE w (zkZ p r)):=by
 have f:=yoM (sch_is p r)
 have A:=yoM (zoB (r:Int))
 have D:=yoM (zbO (r:Int))
 have B:=yoM (zcE [43,45,46] (by decide) r j)
 generalize zkZ p r=res at*
 generalize zbY (r:Int)=C at*
 generalize zaU (r:Int)=q at*
 generalize zfX [43,45,46] r=E at*
 generalize (r:Int)=H at*
 obtain ⟨m,d⟩: ∃b,decide ((0:Int)<(p:Int))=b:=⟨_,rfl⟩
 rw [d] at f
 clear j
 go_enter Tryz.func95,Tryz.ntmps95
 go_wp2_with fail
 refine (A.out _).mono ?_
 rintro e w' ⟨rfl,rfl⟩
 cases C with
 |true=>
  go_wp2
  go_ret
  exact zaE f.out (yoQ _ _)
 |false=>
  by_cases o:0<p
  ·have i:decide ((0:Int)<(p:Int))=true:=yoP (by omega)
   obtain rfl:m=true:=by rw [←d,i]
   go_wp2_with fail
   refine (D.out _).mono ?_
   rintro e w' ⟨rfl,rfl⟩
   cases q with
   |true=>
    go_wp2
    go_ret
    exact zaE f.out (yoQ _ _)
   |false=>
    go_wp2_with fail
    refine (B.out _).mono ?_
    rintro e G ⟨rfl,g⟩
    go_wp2
    go_ret
    exact zaE f.out g
  ·obtain rfl:p=0:=by omega
   obtain rfl:m=false:=by rw [←d];rfl
   go_wp2
   go_ret
   exact zaE f.out (yoQ _ _)
theorem zsP (l:List UInt8) (w:World) (i:l.length≤1000000):
  Calls Tryz.prog 40 #[.string ⟨l.toArray⟩] w (zbE w (zeA l)):=by
 have f:=yoM (ylO ⟨l.toArray⟩)
 rw [zaM] at f
 have d:=yoM (zhS ⟨l.toArray⟩ zkZ 95 #[] (enters_of Tryz.func95 (by kernel_rfl) rfl) w (fun W p j o=>yiC p _ W (zfY _ p)) (by rw [zaF];omega))
 generalize allP ⟨l.toArray⟩ zkZ 0=b at*
 generalize zeA l=res at*
 cases h:l.isEmpty with
 |true=>
  rw [h] at f
  obtain rfl:=List.isEmpty_iff.1 h
  clear d
  go_enter Tryz.func40,Tryz.ntmps40
  go_wp2
  go_ret
  exact zaE f.out.symm (yoQ _ _)
 |false=>
  rw [h] at f
  have m:(l==[])=false:=beq_eq_false_iff_ne.2 (fun e=>by rw [e] at h;cases h)
  go_enter Tryz.func40,Tryz.ntmps40
  go_wp2_with fail
  refine d.out.mono ?_
  rintro e y ⟨rfl,g⟩
  go_wp2
  go_ret
  exact zaE f.out.symm g
theorem yaV (c:UInt8):zaU (c.toNat:Int)=zdF c:=by
 have e: ∀d:Fin 256,zaU (d.val:Int)=zdF (UInt8.ofNat d.val):=by decide+kernel
 have:=e ⟨c.toNat,c.toNat_lt⟩
 simpa using this
theorem znL {q:UInt8→Bool} (h: ∀d:Fin 256,128≤d.val→q (UInt8.ofNat d.val)=false) (c:UInt8) (e:128≤c.toNat):q c=false:=by
 have:=h ⟨c.toNat,c.toNat_lt⟩ e
 simpa using this
theorem ycR (p r:Nat) (w:World):Calls Tryz.prog 170 #[.int .i64 (p:Nat),.int .i32 (r:Nat)] w (zbE w (zaU (r:Int))):=by
 have d:=yoM (zbO (r:Int))
 generalize zaU (r:Int)=g at*
 generalize (r:Int)=f at*
 go_enter Tryz.func170,Tryz.ntmps170
 go_wp2_with fail
 refine (d.out _).mono ?_
 rintro e w' ⟨rfl,rfl⟩
 go_wp2
 go_ret
 exact ⟨rfl,yoQ _ _⟩
theorem z1M (l:List UInt8) (w:World) (g:l.length≤1000000):
  Calls Tryz.prog 100 #[.string ⟨l.toArray⟩] w (zbE w (l.all zdF)):=by
 have d:=yoM (zhS ⟨l.toArray⟩ (fun _ r=>zaU (r:Int)) 170 #[] (enters_of Tryz.func170 (by kernel_rfl) rfl) w (fun W p i j=>ycR p _ W) (by rw [zaF];omega))
 have e:=zlR ⟨l.toArray⟩ (fun _ r=>zaU (r:Int)) zdF (fun p h _=>yaV _) (fun _ r h=>yoO (by omega)) (znL (by decide+kernel)) (ByteArray.mk l.toArray).size 0 (by omega)
 rw [List.drop_zero,zaM] at e
 rw [e] at d
 clear e
 generalize l.all zdF=b at*
 go_enter Tryz.func100,Tryz.ntmps100
 go_wp2_with fail
 refine d.out.mono ?_
 rintro e y ⟨rfl,f⟩
 go_wp2
 go_ret
 exact ⟨rfl,f⟩
theorem yhH (p r:Nat) (w:World):Calls Tryz.prog 231 #[.int .i64 (p:Nat),.int .i32 (r:Nat)] w (zbE w (hexR (r:Int))):=by
 have d:=yoM (zmR (r:Int))
 generalize hexR (r:Int)=g at*
 generalize (r:Int)=f at*
 go_enter Tryz.func231,Tryz.ntmps231
 go_wp2_with fail
 refine (d.out _).mono ?_
 rintro e w' ⟨rfl,rfl⟩
 go_wp2
 go_ret
 exact ⟨rfl,yoQ _ _⟩
def verR (r:Nat):Bool:=zoP r||decide (r=58)
theorem yhG (p r:Nat) (w:World) (f:isB (r:Int)=true):Calls Tryz.prog 232 #[.int .i64 (p:Nat),.int .i32 (r:Nat)] w (zbE w (verR r)):=by
 have j:=yoM (fun W=>zlL r W f)
 have e:((r:Int)==58)=decide (r=58):=by
  rw [Bool.eq_iff_iff,beq_iff_eq,decide_eq_true_eq];omega
 have g:Hid (verR r=(zoP r||decide (r=58))):=rfl
 generalize verR r=res at*
 generalize zoP r=i at*
 generalize decide (r=58)=o at*
 generalize (r:Int)=m at*
 clear f
 go_enter Tryz.func232,Tryz.ntmps232
 go_wp2_with fail
 refine (j.out _).mono ?_
 rintro e w' ⟨rfl,d⟩
 cases i with
 |true=>
  go_wp2
  go_ret
  exact zaE g.out d
 |false=>
  go_wp2
  go_ret
  exact zaE g.out d
theorem yeC (l:List UInt8) (w:World) (d:l.length≤1000000):
  Calls Tryz.prog 94 #[.string ⟨l.toArray⟩,.func (.func 231) #[] #[]] w (zbE w (l.all hexA)):=by
 have h:=zhS ⟨l.toArray⟩ (fun _ r=>hexR (r:Int)) 231 #[] (enters_of Tryz.func231 (by kernel_rfl) rfl) w (fun W p f g=>yhH p _ W) (by rw [zaF];omega)
 have e:=zlR ⟨l.toArray⟩ (fun _ r=>hexR (r:Int)) hexA (fun p h _=>zvM _) (fun _ r h=>yoO (by unfold valZ;(repeat' split)<;>omega)) (znL (by decide+kernel)) (ByteArray.mk l.toArray).size 0 (by omega)
 rw [List.drop_zero,zaM] at e
 rw [e] at h
 exact h
theorem yfS (c:UInt8) (h:c.toNat<128):verR c.toNat=verA c:=by
 have e: ∀d:Fin 128,verR d.val=verA (UInt8.ofNat d.val):=by decide+kernel
 have:=e ⟨c.toNat,h⟩
 simpa using this
theorem yhB (l:List UInt8) (w:World) (f:l.length≤1000000):
  Calls Tryz.prog 94 #[.string ⟨l.toArray⟩,.func (.func 232) #[] #[]] w (zbE w (l.all verA)):=by
 have h:=zhS ⟨l.toArray⟩ (fun _ r=>verR r) 232 #[] (enters_of Tryz.func232 (by kernel_rfl) rfl) w (fun W p g i=>yhG p _ W (zfY _ p)) (by rw [zaF];omega)
 have e:=zlR ⟨l.toArray⟩ (fun _ r=>verR r) verA (fun p h d=>yfS _ d) (fun _ r h=>by unfold verR zoP;rw [yoO (by omega),yoO (by omega)];rfl) (znL (by decide+kernel)) (ByteArray.mk l.toArray).size 0 (by omega)
 rw [List.drop_zero,zaM] at e
 rw [e] at h
 exact h
theorem znN (l p:List UInt8):(Lib.trimPrefix l p).length≤l.length:=by
 unfold Lib.trimPrefix
 split
 ·rw [List.length_drop];omega
 ·exact yoN _
theorem zsU (l:List UInt8) (w:World) (hl:l.length≤1000000) (f:MaxVar w):
  Calls Tryz.prog 169 #[.string ⟨l.toArray⟩] w (zbE w (zhP l)):=by
 have j:=yoM (ybE l)
 have X:=yoM f
 have g:=yoM (fun W=>zkI ⟨l.toArray⟩ W (by rw [zaF];omega))
 rw [zaM] at g
 have J:=zhL l
 have K:=znN (zaI l) [118]
 obtain ⟨m,B⟩:=zfF 46 (Lib.trimPrefix (zaI l) [118])
 have q:Hid (∀W,Calls Tryz.prog 92 #[.string ⟨(zaI l).toArray⟩,.string ⟨#[118]⟩] W fun e w'=>e= .returned (.tuple #[.string ⟨(Lib.trimPrefix (zaI l) [118]).toArray⟩,.bool (Lib.hasPrefix (zaI l) [118])])∧W=w'):=fun W=>(Tryz.strings_CutPrefix ⟨(zaI l).toArray⟩ ⟨#[118]⟩ W).mono (fun _ _ h=>⟨h.1,h.2.symm⟩)
 have o:=yoM (fun W (h:MaxVar W)=>zjY 46 (Lib.trimPrefix (zaI l) [118]) W (by omega) h)
 have N:=yoM (fun W=>yeC (cutA 46 (Lib.trimPrefix (zaI l) [118])).1 W (by omega))
 have O:=yoM (fun W=>yhB (cutA 46 (Lib.trimPrefix (zaI l) [118])).2.2 W (by omega))
 clear m B K J f
 generalize zhP l=res at*
 generalize cutA 46 (Lib.trimPrefix (zaI l) [118])=x at*
 obtain ⟨H,fd,C⟩:=x
 simp only at j N O
 generalize Lib.trimPrefix (zaI l) [118]=t at*
 generalize Lib.hasPrefix (zaI l) [118]=U at*
 generalize zaI l=lo at*
 generalize H.all hexA=V at*
 generalize C.all verA=bv at*
 have Q:(H==[])=H.isEmpty:=by cases H<;>rfl
 have T:(C==[])=C.isEmpty:=by cases C<;>rfl
 obtain ⟨Y,E⟩: ∃b,H.isEmpty=b:=⟨_,rfl⟩
 obtain ⟨S,I⟩: ∃b,C.isEmpty=b:=⟨_,rfl⟩
 rw [E,I] at j
 rw [E] at Q
 rw [I] at T
 go_enter Tryz.func169,Tryz.ntmps169
 go_wp2_with fail
 refine (g.out _).mono ?_
 rintro e x1 ⟨rfl,i⟩
 go_wp2_with fail
 refine (q.out _).mono ?_
 rintro e Z ⟨rfl,rfl⟩
 go_wp2_with fail
 refine (o.out _ (zaD X.out i)).mono ?_
 rintro e x3 ⟨rfl,A⟩
 have d:=zaG i A
 clear i A g q o
 cases U with
 |false=>
  go_wp2
  go_ret
  exact zaE j.out d
 |true=>
 cases Y with
 |true=>
  go_wp2
  go_ret
  exact zaE j.out d
 |false=>
 cases S with
 |true=>
  go_wp2
  go_ret
  exact zaE j.out d
 |false=>
 go_wp2_with fail
 refine (N.out _).mono ?_
 rintro e x4 ⟨rfl,G⟩
 have D:=zaG d G
 clear d G
 cases V with
 |false=>
  go_wp2
  go_ret
  exact zaE j.out D
 |true=>
 go_wp2_with fail
 refine (O.out _).mono ?_
 rintro e x5 ⟨rfl,L⟩
 have M:=zaG D L
 go_wp2
 go_ret
 exact zaE j.out M
def sixB (l:List UInt8):Bool:=(sixZ l).2
theorem pre91 (l:List UInt8):(Lib.hasPrefix l [91]=true∧ ∃r,l=91::r∧Lib.trimPrefix l [91]=r)∨(Lib.hasPrefix l [91]=false∧l.head? ≠some 91):=by
 cases l with
 |nil=>exact .inr ⟨rfl,by simp⟩
 |cons c r=>
  by_cases h:c=91
  ·subst h
   exact .inl ⟨rfl,r,rfl,rfl⟩
  ·right
   refine ⟨?_,by simpa using h⟩
   unfold Lib.hasPrefix
   simp [List.isPrefixOf,Ne.symm h]
theorem z1N (l:List UInt8) (w:World) (D:l.length≤1000000) (j:MaxVar w) (f:Lib.Utf8Tabs 1 2 w):
  Calls Tryz.prog 99 #[.string ⟨l.toArray⟩] w (zbE w (zhH sixB l)):=by
 have M:=yoM j
 have g:Hid (∀W,Calls Tryz.prog 92 #[.string ⟨l.toArray⟩,.string ⟨#[91]⟩] W fun e w'=>e= .returned (.tuple #[.string ⟨(Lib.trimPrefix l [91]).toArray⟩,.bool (Lib.hasPrefix l [91])])∧W=w'):=fun W=>(Tryz.strings_CutPrefix ⟨l.toArray⟩ ⟨#[91]⟩ W).mono (fun _ _ h=>⟨h.1,h.2.symm⟩)
 rcases pre91 l with ⟨B,r,rfl,N⟩|⟨B,q⟩
 ·rw [B,N] at g
  have m:=yoM (z4A sixB r)
  have S:r.length≤1000000:=by simp at D;omega
  have H:Hid (∀W,Calls Tryz.prog 167 #[.string ⟨r.toArray⟩,.string ⟨#[93]⟩] W fun e w'=>e= .returned (.tuple #[.string ⟨(Lib.trimSuffix r [93]).toArray⟩,.bool (Lib.hasSuffix r [93])])∧W=w'):=fun W=>(Tryz.strings_CutSuffix ⟨r.toArray⟩ ⟨#[93]⟩ W (by rw [zaF];omega)).mono (fun _ _ h=>⟨h.1,h.2.symm⟩)
  have A:(Lib.trimSuffix r [93]).length≤1000000:=by
   unfold Lib.trimSuffix
   split
   ·rw [List.length_take];omega
   ·omega
  have o:=yoM (fun W (h:MaxVar W)=>zqD ⟨(Lib.trimSuffix r [93]).toArray⟩ W (by rw [zaF];omega) h)
  rw [zaM] at o
  have J:=yoM (fun W (h:MaxVar W)=>zsU (Lib.trimSuffix r [93]) W A h)
  unfold sixB at m ⊢
  clear B N f j A D
  generalize Lib.trimSuffix r [93]=t at*
  generalize Lib.hasSuffix r [93]=Q at*
  generalize zhP t=T at*
  generalize zhH (fun l=>(sixZ l).2) (91::r)=res at*
  generalize sixZ t=z at*
  obtain ⟨⟨hi,lo⟩,O⟩:=z
  simp only at m
  generalize 91::r=l at*
  go_enter Tryz.func99,Tryz.ntmps99
  go_wp2_with fail
  refine (g.out _).mono ?_
  rintro e K ⟨rfl,rfl⟩
  go_wp2_with fail
  refine (H.out _).mono ?_
  rintro e K ⟨rfl,rfl⟩
  go_wp2_with fail
  refine (o.out _ M.out).mono ?_
  rintro e L ⟨rfl,i⟩
  simp only
  have d:Below w.heap.size w (L.alloc (.cells #[.int .u64 hi,.int .u64 lo] 173)):=i.alloc i.size _
  cases Q with
  |false=>
   go_wp2
   go_ret
   exact zaE m.out d
  |true=>
  cases O with
  |true=>
   go_wp2
   go_ret
   exact zaE m.out d
  |false=>
   have C:=yoM (J.out _ (zaD M.out d))
   have I:=yoM d
   clear d
   go_wp2_with fail
   refine C.out.mono ?_
   rintro e V ⟨rfl,G⟩
   go_wp2
   go_ret
   exact zaE m.out (zaG I.out G)
 ·rw [B] at g
  have m:=yoM (zxC sixB q)
  have E:=yoM (zjH l [] w D f)
  clear B q f
  generalize Lib.trimPrefix l [91]=t at*
  generalize isA [] l=U at*
  generalize zhH sixB l=res at*
  go_enter Tryz.func99,Tryz.ntmps99
  go_wp2_with fail
  refine (g.out _).mono ?_
  rintro e K ⟨rfl,rfl⟩
  go_wp2_with fail
  refine E.out.mono ?_
  rintro e L ⟨rfl,i⟩
  go_wp2
  go_ret
  exact zaE m.out i
def PZ.cells (p:PZ):Array Value:= #[.string ⟨p.scheme.toArray⟩,.bool p.hasS,.string ⟨p.user.toArray⟩,.bool p.hasU,.string ⟨p.host.toArray⟩,.bool p.hasA,.string ⟨p.port.toArray⟩,.bool p.hasP,.string ⟨p.path.toArray⟩,.string ⟨p.query.toArray⟩,.bool p.hasQ,.string ⟨p.frag.toArray⟩,.bool p.hasF]
def PB (t:TypeId) (w:World) (P:Nat) (p:PZ):Prop:=w.heap[P]? =some (.cells p.cells t)
theorem PB.below {t:TypeId} {w w':World} {P:Nat} {p:PZ} (h:PB t w P p) (d:Below w.heap.size w w'):PB t w' P p:=(d.block P (zaK h)).trans h
theorem PB.new (t:TypeId) (w:World) (p:PZ):PB t (w.alloc (.cells p.cells t)) w.heap.size p:=heap_alloc_new w _
theorem PB.all {t:TypeId} {w:World} {P:Nat} {p:PZ} (h:PB t w P p):w.cell? ⟨P,0,none⟩=some (.string ⟨p.scheme.toArray⟩)∧w.cell? ⟨P,1,none⟩=some (.bool p.hasS)∧w.cell? ⟨P,2,none⟩=some (.string ⟨p.user.toArray⟩)∧w.cell? ⟨P,3,none⟩=some (.bool p.hasU)∧w.cell? ⟨P,4,none⟩=some (.string ⟨p.host.toArray⟩)∧w.cell? ⟨P,5,none⟩=some (.bool p.hasA)∧w.cell? ⟨P,6,none⟩=some (.string ⟨p.port.toArray⟩)∧w.cell? ⟨P,7,none⟩=some (.bool p.hasP)∧w.cell? ⟨P,8,none⟩=some (.string ⟨p.path.toArray⟩)∧w.cell? ⟨P,9,none⟩=some (.string ⟨p.query.toArray⟩)∧w.cell? ⟨P,10,none⟩=some (.bool p.hasQ)∧w.cell? ⟨P,11,none⟩=some (.string ⟨p.frag.toArray⟩)∧w.cell? ⟨P,12,none⟩=some (.bool p.hasF):=
 ⟨zaA h 0,zaA h 1,zaA h 2,zaA h 3,zaA h 4,zaA h 5,zaA h 6,zaA h 7,zaA h 8,zaA h 9,zaA h 10,zaA h 11,zaA h 12⟩
def PZ.Few (p:PZ) (n:Nat):Prop:=p.scheme.length≤n∧p.user.length≤n∧p.host.length≤n∧p.port.length≤n∧p.path.length≤n∧p.query.length≤n∧p.frag.length≤n
def zhC (p:PZ):List UInt8:=(if p.hasU then p.user++[64] else [])++(p.host++(if p.hasP then 58::p.port else []))
theorem zvR (p:PZ) (w:World) (hf:p.Few 100000) (O:MaxVar w) (Q:Lib.Utf8Tabs 1 2 w):
  Calls Tryz.prog 41 #[.agg p.cells] w (zbE w (zjD sixB p)):=by
 obtain ⟨f1,f2,f3,f4,f5,f6,f7⟩:=hf
 have hb:Below w.heap.size w (w.alloc (.cells p.cells 32)):=(yoQ _ w).alloc (yoN _) _
 have m:=yoM (fun y (hy:Below (w.alloc (.cells p.cells 32)).heap.size (w.alloc (.cells p.cells 32)) y)=>(And.intro ((PB.new 32 w p).below hy).all (zaG hb hy):_∧Below w.heap.size w y))
 have i:=yoM (fun y (hy:Below w.heap.size w y)=>(And.intro (zaD O hy) (zfS Q hy):MaxVar y∧Lib.Utf8Tabs 1 2 y))
 obtain ⟨d0,d1,d2,d3,d4,d5,d6,d7,d8,d9,qy,qz,qB⟩:=(PB.new 32 w p).all
 have HB:=yoM hb
 have HR:Hid (Below (w.alloc (.cells p.cells 32)).heap.size (w.alloc (.cells p.cells 32)) (w.alloc (.cells p.cells 32))):=yoQ _ _
 have A:=yoM (fun W (h:MaxVar W∧Lib.Utf8Tabs 1 2 W)=>zjH p.user [58] W (by omega) h.2)
 have B:=yoM (fun W (h:MaxVar W∧Lib.Utf8Tabs 1 2 W)=>z1N p.host W (by omega) h.1 h.2)
 have j:=yoM (fun W (_:MaxVar W∧Lib.Utf8Tabs 1 2 W)=>z1M p.port W (by omega))
 have C:=yoM (fun W (h:MaxVar W∧Lib.Utf8Tabs 1 2 W)=>zjH p.path [58,64,47] W (by omega) h.2)
 have q:=yoM (fun W (h:MaxVar W∧Lib.Utf8Tabs 1 2 W)=>zjH p.query [58,64,47,63] W (by omega) h.2)
 have o:=yoM (fun W (h:MaxVar W∧Lib.Utf8Tabs 1 2 W)=>zjH p.frag [58,64,47,63] W (by omega) h.2)
 have Y:Hid (zjD sixB p=(isA [58] p.user&&zhH sixB p.host&&p.port.all zdF&&isA [58,64,47] p.path&&isA [58,64,47,63] p.query&&isA [58,64,47,63] p.frag)):=rfl
 generalize zjD sixB p=res at*
 generalize isA [58] p.user=b1 at*
 generalize zhH sixB p.host=b2 at*
 generalize p.port.all zdF=b3 at*
 generalize isA [58,64,47] p.path=b4 at*
 generalize isA [58,64,47,63] p.query=b5 at*
 generalize isA [58,64,47,63] p.frag=b6 at*
 unfold PZ.cells at*
 clear hb O Q
 go_enter Tryz.func41,Tryz.ntmps41
 go_wp2_with fail
 refine (A.out _ (i.out _ HB.out)).mono ?_
 rintro e y1 ⟨rfl,qo⟩
 have qi:=yoM (qo:Below (w.alloc (.cells p.cells 32)).heap.size (w.alloc (.cells p.cells 32)) y1)
 obtain ⟨⟨I,L,N,J,E,G,H,M,D,K,g,f,d⟩,qj⟩:=m.out y1 qi.out
 have V:=yoM qj
 clear d0 d1 d2 d3 d4 d5 d6 d7 d8 d9 qy qz qB HB qo qj
 have qm:=yoM (i.out y1 V.out)
 cases b1 with
 |false=>
  clear A B j C q o
  go_wp2
  go_ret
  exact zaE Y.out V.out
 |true=>
 go_wp2_with fail
 refine (B.out _ qm.out).mono ?_
 rintro e y2 ⟨rfl,qc⟩
 clear I L N J E G H M D K g f d qm
 have qd:=yoM (zaG qi.out qc:Below (w.alloc (.cells p.cells 32)).heap.size (w.alloc (.cells p.cells 32)) y2)
 obtain ⟨⟨I,L,N,J,E,G,H,M,D,K,g,f,d⟩,qr⟩:=m.out y2 qd.out
 have T:=yoM qr
 clear V qc qr
 have qg:=yoM (i.out y2 T.out)
 cases b2 with
 |false=>
  clear A B j C q o
  go_wp2
  go_ret
  exact zaE Y.out T.out
 |true=>
 go_wp2_with fail
 refine (j.out _ qg.out).mono ?_
 rintro e y3 ⟨rfl,qa⟩
 clear I L N J E G H M D K g f d qg
 have qk:=yoM (zaG qd.out qa:Below (w.alloc (.cells p.cells 32)).heap.size (w.alloc (.cells p.cells 32)) y3)
 obtain ⟨⟨I,L,N,J,E,G,H,M,D,K,g,f,d⟩,qn⟩:=m.out y3 qk.out
 have U:=yoM qn
 clear T qa qn
 have qx:=yoM (i.out y3 U.out)
 cases b3 with
 |false=>
  clear A B j C q o
  go_wp2
  go_ret
  exact zaE Y.out U.out
 |true=>
 go_wp2_with fail
 refine (C.out _ qx.out).mono ?_
 rintro e y4 ⟨rfl,qv⟩
 clear I L N J E G H M D K g f d qx
 have qb:=yoM (zaG qk.out qv:Below (w.alloc (.cells p.cells 32)).heap.size (w.alloc (.cells p.cells 32)) y4)
 obtain ⟨⟨I,L,N,J,E,G,H,M,D,K,g,f,d⟩,qh⟩:=m.out y4 qb.out
 have S:=yoM qh
 clear U qv qh
 have qw:=yoM (i.out y4 S.out)
 cases b4 with
 |false=>
  clear A B j C q o
  go_wp2
  go_ret
  exact zaE Y.out S.out
 |true=>
 go_wp2_with fail
 refine (q.out _ qw.out).mono ?_
 rintro e y5 ⟨rfl,ql⟩
 clear I L N J E G H M D K g f d qw
 have qs:=yoM (zaG qb.out ql:Below (w.alloc (.cells p.cells 32)).heap.size (w.alloc (.cells p.cells 32)) y5)
 obtain ⟨⟨I,L,N,J,E,G,H,M,D,K,g,f,d⟩,qq⟩:=m.out y5 qs.out
 have X:=yoM qq
 clear S ql qq
 have Z:=yoM (i.out y5 X.out)
 cases b5 with
 |false=>
  clear A B j C q o
  go_wp2
  go_ret
  exact zaE Y.out X.out
 |true=>
 go_wp2_with fail
 refine (o.out _ Z.out).mono ?_
 rintro e y6 ⟨rfl,qe⟩
 clear I L N J E G H M D K g f d Z
 have qA:=yoM (zaG qs.out qe:Below (w.alloc (.cells p.cells 32)).heap.size (w.alloc (.cells p.cells 32)) y6)
 obtain ⟨⟨I,L,N,J,E,G,H,M,D,K,g,f,d⟩,qp⟩:=m.out y6 qA.out
 have qf:=yoM qp
 clear X qe qp
 have qC:=yoM (i.out y6 qf.out)
 go_wp2
 go_ret
 exact zaE Y.out qf.out
theorem z2X (b:UInt8) (s:List UInt8):(cutA b s).1=(zaR (· ==b) s).1∧(zaR (· ==b) s).2=s.drop (cutA b s).1.length:=by
 have f:=zfQ (· ==b) s
 have d:(cutA b s).1=(zaR (· ==b) s).1:=by
  unfold cutA
  split
  ·rename_i e
   rw [e,List.append_nil] at f
   exact f
  ·rfl
 refine ⟨d,?_⟩
 rw [d]
 have e:=congrArg (List.drop (zaR (· ==b) s).1.length) f
 rw [List.drop_left] at e
 exact e.symm
theorem zuY {a u r:List UInt8} (h:cutA 64 a=(u,true,r)):zeT a=(true,u,(zcW r).1,(zcW r).2.1,(zcW r).2.2):=by unfold zeT;rw [h]
theorem zzH {a u r:List UInt8} (h:cutA 64 a=(u,false,r)):zeT a=(false,[],(zcW a).1,(zcW a).2.1,(zcW a).2.2):=by unfold zeT;rw [h]
def z7Y (p:PZ) (x:Bool×List UInt8×List UInt8×Bool×List UInt8):PZ:={p with user:=x.2.1,hasU:=x.1,host:=x.2.2.1,port:=x.2.2.2.2,hasP:=x.2.2.2.1}
def zwG (w:World) (P:Nat) (p:PZ) (s:List UInt8) (e:Ending) (w':World):Prop:=e= .returned (.string ⟨((zaR (· ==47) s).2).toArray⟩)∧PB 32 w' P (z7Y p (zeT (zaR (· ==47) s).1))∧Only [P] w w'
theorem PB.st2 {t:TypeId} {w:World} {P:Nat} {p:PZ} (h:PB t w P p) (a:Value):(w.cell? ⟨P,2,none⟩=some (.string ⟨p.user.toArray⟩)∧w.frozen? ⟨P,2,none⟩=false)∧(w.setCell ⟨P,2,none⟩ a).cell? ⟨P,3,none⟩=some (.bool p.hasU)∧(w.setCell ⟨P,2,none⟩ a).frozen? ⟨P,3,none⟩=false:=⟨⟨zaA h 2,zaT h 2⟩,zaA (zaL h 2 a) 3,zaT (zaL h 2 a) 3⟩
theorem PB.st6 {t:TypeId} {w:World} {P:Nat} {p:PZ} (h:PB t w P p) (a:Value):(w.cell? ⟨P,6,none⟩=some (.string ⟨p.port.toArray⟩)∧w.frozen? ⟨P,6,none⟩=false)∧(w.setCell ⟨P,6,none⟩ a).cell? ⟨P,7,none⟩=some (.bool p.hasP)∧(w.setCell ⟨P,6,none⟩ a).frozen? ⟨P,7,none⟩=false:=⟨⟨zaA h 6,zaT h 6⟩,zaA (zaL h 6 a) 7,zaT (zaL h 6 a) 7⟩
theorem PB.user {t:TypeId} {w:World} {P:Nat} {p:PZ} (h:PB t w P p) (u:List UInt8):PB t ((w.setCell ⟨P,2,none⟩ (.string ⟨u.toArray⟩)).setCell ⟨P,3,none⟩ (.bool true)) P {p with user:=u,hasU:=true}:=zaL (zaL h 2 _) 3 _
theorem PB.port {t:TypeId} {w:World} {P:Nat} {p:PZ} (h:PB t w P p) (u:List UInt8):PB t ((w.setCell ⟨P,6,none⟩ (.string ⟨u.toArray⟩)).setCell ⟨P,7,none⟩ (.bool true)) P {p with port:=u,hasP:=true}:=zaL (zaL h 6 _) 7 _
theorem PB.host {t:TypeId} {w:World} {P:Nat} {p:PZ} (h:PB t w P p) (u:List UInt8):PB t (w.setCell ⟨P,4,none⟩ (.string ⟨u.toArray⟩)) P {p with host:=u}:=zaL h 4 _
theorem zhX {w x:World} {P:Nat} (h:Only [P] w x) (i:Nat) (a:Value):Only [P] w (x.setCell ⟨P,i,none⟩ a):=h.setCell (p:=⟨P,i,none⟩) (.inl (by simp)) _
theorem znB {w x:World} {P:Nat} (h:Only [P] w x) (i j:Nat) (a b:Value):Only [P] w ((x.setCell ⟨P,i,none⟩ a).setCell ⟨P,j,none⟩ b):=zhX (zhX h i a) j b
theorem zrX (P:Nat) (p:PZ) (s:List UInt8) (w:World) (hl:s.length≤100000) (hp:PB 32 w P p) (hu:p.user=[]∧p.hasU=false∧p.port=[]∧p.hasP=false) (I:MaxVar w):
  Calls Tryz.prog 93 #[.pointer (some ⟨P,0,none⟩),.string ⟨s.toArray⟩] w (zwG w P p s):=by
 obtain ⟨u1,u2,u3,u4⟩:=hu
 obtain ⟨k1,k2⟩:=z2X 47 s
 have qo:=zfF 47 s
 have HX:=yoM I
 have qk:=yoM (zjY 47 s w (by omega) I)
 have A:Hid (∀(e:Ending) (w':World),e= .returned (.string ⟨(s.drop (cutA 47 s).1.length).toArray⟩)→PB 32 w' P (z7Y p (zeT (cutA 47 s).1))→Only [P] w w'→zwG w P p s e w'):=fun e w' h1 h2 h3=>by
  unfold zwG
  rw [←k1,k2]
  exact ⟨h1,h2,h3⟩
 have qr:=zgQ s (cutA 47 s).1.length qo.1
 clear k1 k2 I
 generalize qp:cutA 47 s=x at*
 obtain ⟨a,b0,c0⟩:=x
 simp only at A qr qo
 have qB:=zaF a
 have G:=yoM (@zoX)
 have Z:=yoM (fun W (h:MaxVar W)=>zjY 64 a W (by omega) h)
 have qA:=(zfF 64 a).2
 have qa:Hid (∀u r,cutA 64 a=(u,true,r)→zeT a=(true,u,(zcW r).1,(zcW r).2.1,(zcW r).2.2)):=fun _ _ h=>zuY h
 have qn:Hid (∀u r,cutA 64 a=(u,false,r)→zeT a=(false,[],(zcW a).1,(zcW a).2.1,(zcW a).2.2)):=fun _ _ h=>zzH h
 generalize qz:cutA 64 a=x at*
 obtain ⟨u,bu,r⟩:=x
 have E:Hid (∀(c:UInt8) (l:List UInt8) W,l.length≤100000→Calls Tryz.prog 162 #[.string ⟨l.toArray⟩,.int .u8 (c.toNat:Int)] W fun e w'=>e= .returned (.int .i64 (Lib.lastIndexByte ⟨l.toArray⟩ (c.toNat:Int)))∧W=w'):=fun c l W h=>(Tryz.strings_LastIndexByte ⟨l.toArray⟩ (c.toNat:Int) (by rw [zaF];omega) W).mono (fun _ _ h=>⟨h.1,h.2.symm⟩)
 have HP:=yoM hp
 clear hp qp
 go_enter Tryz.func93,Tryz.ntmps93
 go_wp2_with fail
 refine qk.out.mono ?_
 rintro e x1 ⟨rfl,qe⟩
 go_wp2_with fail
 refine (Z.out _ (zaD HX.out qe)).mono ?_
 rintro e x2 ⟨rfl,ql⟩
 simp only at*
 have qd:=zaG qe ql
 have D:=yoM (HP.out.below qd)
 have Y:Hid (Only [P] w x2):=(Only.of_below (F:=[]) qd).mono (fun _ h=>by cases h)
 clear qe ql qd qk Z HX HP
 cases bu with
 |true=>
  obtain ⟨⟨c2,f2⟩,c3,f3⟩:=D.out.st2 (.string ⟨u.toArray⟩)
  go_wp2_with fail
  obtain ⟨x3,V⟩: ∃y,y=(x2.setCell ⟨P,2,none⟩ (.string ⟨u.toArray⟩)).setCell ⟨P,3,none⟩ (.bool true):=⟨_,rfl⟩
  rw [←V]
  have U:Hid (PB 32 x3 P {p with user:=u,hasU:=true}):=by rw [V];exact D.out.user u
  have qm:Hid (Only [P] w x3):=by rw [V];exact znB Y.out 2 3 _ _
  clear c2 f2 c3 f3 V D Y
  have g:=yoM (E.out 58 r x3 (by omega))
  have j:=yoM (E.out 93 r x3 (by omega))
  have qy:r.length≤100000:=(by omega)
  have qs:=zaF r
  clear E
  rcases G.out r with ⟨i,hi,N,T,m⟩|⟨qq,m⟩
  ·have B:Hid (zeT a=(true,u,(r.take i),true,(r.drop (i+1)))):=by show _=_;rw [qa.out _ _ rfl,m]
   rw [show ((58:UInt8).toNat:Int)=58 from rfl,N] at g
   rw [show ((93:UInt8).toNat:Int)=93 from rfl] at j
   have qw:=zmF r i hi
   have qv:=zpY r i (by omega)
   have hd:decide (Lib.lastIndexByte ⟨r.toArray⟩ 93<(i:Int))=true:=yoP T
   have qx:IntKind.i64.wrap ((i:Int)+1)=(i:Int)+1:=IntWalk.i64_in _ (by omega)
   generalize Lib.lastIndexByte ⟨r.toArray⟩ 93=z at*
   generalize r.take i=hh at*
   generalize r.drop (i+1)=X at*
   clear G m N T
   go_wp2_with fail
   refine g.out.mono ?_
   rintro e w' ⟨rfl,rfl⟩
   go_wp2_with fail
   refine j.out.mono ?_
   rintro e w' ⟨rfl,rfl⟩
   go_wp2_with fail
   refine wp_region_held_drew (S:=fun _=>True) (by kernel_rfl) trivial (fun d=> ?_)
   refine tkZ 0 (some 44) (v:= ?_) rfl (.inl ⟨by rfl,?_⟩) d ?_
   rotate_left
   ·intro w f
    go_simp
    try with_reducible rfl
   try simp only [Act.put,tkZa,tkZb,tkZc]
   refine tkZ 1 (some 45) (v:= ?_) rfl (.inl ⟨by rfl,?_⟩) d ?_
   rotate_left
   ·intro w f
    go_simp
    try with_reducible rfl
   try simp only [Act.put,tkZa,tkZb,tkZc]
   refine tkZ 2 (some 46) (v:= ?_) rfl (.inl ⟨by rfl,?_⟩) d ?_
   rotate_left
   ·intro w f
    go_simp
    try with_reducible rfl
   try simp only [Act.put,tkZa,tkZb,tkZc]
   refine tkZ 3 (some 47) (v:= ?_) rfl (.inl ⟨by rfl,?_⟩) d ?_
   rotate_left
   ·intro w f
    go_simp
    try with_reducible rfl
   try simp only [Act.put,tkZa,tkZb,tkZc]
   refine tkZ 4 (some 48) (v:= ?_) rfl (.inl ⟨by rfl,?_⟩) d ?_
   rotate_left
   ·intro w f
    go_simp
    try with_reducible rfl
   try simp only [Act.put,tkZa,tkZb,tkZc]
   refine tkZ 5 (some 49) (v:= ?_) rfl (.inl ⟨by rfl,?_⟩) d ?_
   rotate_left
   ·intro w f
    go_simp
    try with_reducible rfl
   try simp only [Act.put,tkZa,tkZb,tkZc]
   refine tkZ 6 (some 50) (v:= ?_) rfl (.inl ⟨by rfl,?_⟩) d ?_
   rotate_left
   ·intro w f
    go_simp
    try with_reducible rfl
   try simp only [Act.put,tkZa,tkZb,tkZc]
   refine tkZ 7 (some 51) (v:= ?_) rfl (.inl ⟨by rfl,?_⟩) d ?_
   rotate_left
   ·intro w f
    go_simp
    try with_reducible rfl
   try simp only [Act.put,tkZa,tkZb,tkZc]
   refine tkZ 8 (some 52) (v:= ?_) rfl (.inl ⟨by rfl,?_⟩) d ?_
   rotate_left
   ·intro w f
    go_simp
    try with_reducible rfl
   try simp only [Act.put,tkZa,tkZb,tkZc]
   refine tkZ 9 (some 53) (v:= ?_) rfl (.inl ⟨by rfl,?_⟩) d ?_
   rotate_left
   ·intro w f
    go_simp
    try with_reducible rfl
   try simp only [Act.put,tkZa,tkZb,tkZc]
   refine tkZ 10 (some 54) (v:= ?_) rfl (.inl ⟨by rfl,?_⟩) d ?_
   rotate_left
   ·intro w f
    go_simp
    try with_reducible rfl
   try simp only [Act.put,tkZa,tkZb,tkZc]
   have C:=U.out.below (zaH x3)
   have M:=Only.then_below qm.out (zaH x3)
   generalize qh:x3.drew=xd at*
   obtain ⟨⟨c6,f6⟩,c7,f7⟩:=C.st6 (.string ⟨X.toArray⟩)
   have Q:=yoM C
   have J:=yoM M
   clear C M qh
   refine wpAnyH_ready (rs:=[11]) (by kernel_rfl) (by simp) ?_
   refine AllReadyH.cons (o:=⟨none,_,_,_,_,_⟩) rfl (fun K H=> ?_) AllReadyH.nil
   go_simp
   refine H.out _ _ trivial (fun O=> ?_)
   clear H K
   try simp only [Act.put,tkZa,tkZb,tkZc]
   refine tkZ 12 (some 55) (v:= ?_) rfl (.inl ⟨by rfl,?_⟩) O ?_
   rotate_left
   ·intro w f
    go_simp
    try with_reducible rfl
   try simp only [Act.put,tkZa,tkZb,tkZc]
   refine tkZ 13 (some 56) (v:= ?_) rfl (.inl ⟨by rfl,?_⟩) O ?_
   rotate_left
   ·intro w f
    go_simp
    try with_reducible rfl
   try simp only [Act.put,tkZa,tkZb,tkZc]
   refine wpAnyH_ready (rs:=[14]) (by kernel_rfl) (by simp) ?_
   refine AllReadyH.cons (o:=⟨none,_,_,_,_,_⟩) rfl (fun K H=> ?_) AllReadyH.nil
   go_simp
   refine H.out _ _ trivial (fun qc=> ?_)
   clear H K
   try simp only [Act.put,tkZa,tkZb,tkZc]
   refine tkZ 15 (some 5) (v:= ?_) rfl (.inl ⟨by rfl,?_⟩) qc ?_
   rotate_left
   ·intro w f
    go_simp
    try with_reducible rfl
   try simp only [Act.put,tkZa,tkZb,tkZc]
   refine wpAnyH_done (by kernel_rfl) ?_ _
   have q:=Q.out.port X
   have L:=znB J.out 6 7 (.string ⟨X.toArray⟩) (.bool true)
   generalize (xd.setCell ⟨P,6,none⟩ (.string ⟨X.toArray⟩)).setCell ⟨P,7,none⟩ (.bool true)=x4 at*
   have k4:=zaA q 4
   have g4:=zaT q 4
   have qi:=yoM q
   have qg:=yoM L
   clear q L c6 f6 c7 f7 Q J
   simp [PZ.cells] at k4
   go_wp2
   go_ret
   refine A.out _ _ rfl ?_ (zhX qg.out 4 _)
   rw [B.out]
   have hq:=qi.out.host hh
   exact hq
  ·have B:Hid (zeT a=(true,u,r,false,[])):=by show _=_;rw [qa.out _ _ rfl,m]
   rw [show ((58:UInt8).toNat:Int)=58 from rfl] at g
   rw [show ((93:UInt8).toNat:Int)=93 from rfl] at j
   have hd:decide (Lib.lastIndexByte ⟨r.toArray⟩ 93<Lib.lastIndexByte ⟨r.toArray⟩ 58)=false:=yoO (by omega)
   generalize Lib.lastIndexByte ⟨r.toArray⟩ 93=z at*
   generalize Lib.lastIndexByte ⟨r.toArray⟩ 58=z2 at*
   clear G m
   obtain ⟨d0,d1,d2,d3,d4,d5,d6,d7,d8,d9,qb,qj,qf⟩:=U.out.all
   have f4:=zaT U.out 4
   clear d0 d1 d2 d3 d5 d6 d7 d8 d9 qb qj qf
   go_wp2_with fail
   refine g.out.mono ?_
   rintro e w' ⟨rfl,rfl⟩
   go_wp2_with fail
   refine j.out.mono ?_
   rintro e w' ⟨rfl,rfl⟩
   go_wp2
   go_ret
   refine A.out _ _ rfl ?_ (zhX qm.out 4 _)
   rw [B.out]
   have hq:=U.out.host r
   simpa [z7Y,u3,u4] using hq
 |false=>
  have g:=yoM (E.out 58 a x2 (by omega))
  have j:=yoM (E.out 93 a x2 (by omega))
  have qy:a.length≤100000:=(by omega)
  have qs:=zaF a
  clear E
  rcases G.out a with ⟨i,hi,N,T,m⟩|⟨qq,m⟩
  ·have B:Hid (zeT a=(false,[],(a.take i),true,(a.drop (i+1)))):=by show _=_;rw [qn.out _ _ rfl,m]
   rw [show ((58:UInt8).toNat:Int)=58 from rfl,N] at g
   rw [show ((93:UInt8).toNat:Int)=93 from rfl] at j
   have qw:=zmF a i hi
   have qv:=zpY a i (by omega)
   have hd:decide (Lib.lastIndexByte ⟨a.toArray⟩ 93<(i:Int))=true:=yoP T
   have qx:IntKind.i64.wrap ((i:Int)+1)=(i:Int)+1:=IntWalk.i64_in _ (by omega)
   generalize Lib.lastIndexByte ⟨a.toArray⟩ 93=z at*
   generalize a.take i=hh at*
   generalize a.drop (i+1)=X at*
   clear G m N T
   go_wp2_with fail
   refine g.out.mono ?_
   rintro e w' ⟨rfl,rfl⟩
   go_wp2_with fail
   refine j.out.mono ?_
   rintro e w' ⟨rfl,rfl⟩
   go_wp2_with fail
   refine wp_region_held_drew (S:=fun _=>True) (by kernel_rfl) trivial (fun d=> ?_)
   refine tkZ 0 (some 44) (v:= ?_) rfl (.inl ⟨by rfl,?_⟩) d ?_
   rotate_left
   ·intro w f
    go_simp
    try with_reducible rfl
   try simp only [Act.put,tkZa,tkZb,tkZc]
   refine tkZ 1 (some 45) (v:= ?_) rfl (.inl ⟨by rfl,?_⟩) d ?_
   rotate_left
   ·intro w f
    go_simp
    try with_reducible rfl
   try simp only [Act.put,tkZa,tkZb,tkZc]
   refine tkZ 2 (some 46) (v:= ?_) rfl (.inl ⟨by rfl,?_⟩) d ?_
   rotate_left
   ·intro w f
    go_simp
    try with_reducible rfl
   try simp only [Act.put,tkZa,tkZb,tkZc]
   refine tkZ 3 (some 47) (v:= ?_) rfl (.inl ⟨by rfl,?_⟩) d ?_
   rotate_left
   ·intro w f
    go_simp
    try with_reducible rfl
   try simp only [Act.put,tkZa,tkZb,tkZc]
   refine tkZ 4 (some 48) (v:= ?_) rfl (.inl ⟨by rfl,?_⟩) d ?_
   rotate_left
   ·intro w f
    go_simp
    try with_reducible rfl
   try simp only [Act.put,tkZa,tkZb,tkZc]
   refine tkZ 5 (some 49) (v:= ?_) rfl (.inl ⟨by rfl,?_⟩) d ?_
   rotate_left
   ·intro w f
    go_simp
    try with_reducible rfl
   try simp only [Act.put,tkZa,tkZb,tkZc]
   refine tkZ 6 (some 50) (v:= ?_) rfl (.inl ⟨by rfl,?_⟩) d ?_
   rotate_left
   ·intro w f
    go_simp
    try with_reducible rfl
   try simp only [Act.put,tkZa,tkZb,tkZc]
   refine tkZ 7 (some 51) (v:= ?_) rfl (.inl ⟨by rfl,?_⟩) d ?_
   rotate_left
   ·intro w f
    go_simp
    try with_reducible rfl
   try simp only [Act.put,tkZa,tkZb,tkZc]
   refine tkZ 8 (some 52) (v:= ?_) rfl (.inl ⟨by rfl,?_⟩) d ?_
   rotate_left
   ·intro w f
    go_simp
    try with_reducible rfl
   try simp only [Act.put,tkZa,tkZb,tkZc]
   refine tkZ 9 (some 53) (v:= ?_) rfl (.inl ⟨by rfl,?_⟩) d ?_
   rotate_left
   ·intro w f
    go_simp
    try with_reducible rfl
   try simp only [Act.put,tkZa,tkZb,tkZc]
   refine tkZ 10 (some 54) (v:= ?_) rfl (.inl ⟨by rfl,?_⟩) d ?_
   rotate_left
   ·intro w f
    go_simp
    try with_reducible rfl
   try simp only [Act.put,tkZa,tkZb,tkZc]
   have C:=D.out.below (zaH x2)
   have M:=Only.then_below Y.out (zaH x2)
   generalize qh:x2.drew=xd at*
   obtain ⟨⟨c6,f6⟩,c7,f7⟩:=C.st6 (.string ⟨X.toArray⟩)
   have Q:=yoM C
   have J:=yoM M
   clear C M qh
   refine wpAnyH_ready (rs:=[11]) (by kernel_rfl) (by simp) ?_
   refine AllReadyH.cons (o:=⟨none,_,_,_,_,_⟩) rfl (fun K H=> ?_) AllReadyH.nil
   go_simp
   refine H.out _ _ trivial (fun O=> ?_)
   clear H K
   try simp only [Act.put,tkZa,tkZb,tkZc]
   refine tkZ 12 (some 55) (v:= ?_) rfl (.inl ⟨by rfl,?_⟩) O ?_
   rotate_left
   ·intro w f
    go_simp
    try with_reducible rfl
   try simp only [Act.put,tkZa,tkZb,tkZc]
   refine tkZ 13 (some 56) (v:= ?_) rfl (.inl ⟨by rfl,?_⟩) O ?_
   rotate_left
   ·intro w f
    go_simp
    try with_reducible rfl
   try simp only [Act.put,tkZa,tkZb,tkZc]
   refine wpAnyH_ready (rs:=[14]) (by kernel_rfl) (by simp) ?_
   refine AllReadyH.cons (o:=⟨none,_,_,_,_,_⟩) rfl (fun K H=> ?_) AllReadyH.nil
   go_simp
   refine H.out _ _ trivial (fun qc=> ?_)
   clear H K
   try simp only [Act.put,tkZa,tkZb,tkZc]
   refine tkZ 15 (some 5) (v:= ?_) rfl (.inl ⟨by rfl,?_⟩) qc ?_
   rotate_left
   ·intro w f
    go_simp
    try with_reducible rfl
   try simp only [Act.put,tkZa,tkZb,tkZc]
   refine wpAnyH_done (by kernel_rfl) ?_ _
   have q:=Q.out.port X
   have L:=znB J.out 6 7 (.string ⟨X.toArray⟩) (.bool true)
   generalize (xd.setCell ⟨P,6,none⟩ (.string ⟨X.toArray⟩)).setCell ⟨P,7,none⟩ (.bool true)=x4 at*
   have k4:=zaA q 4
   have g4:=zaT q 4
   have qi:=yoM q
   have qg:=yoM L
   clear q L c6 f6 c7 f7 Q J
   simp [PZ.cells] at k4
   go_wp2
   go_ret
   refine A.out _ _ rfl ?_ (zhX qg.out 4 _)
   rw [B.out]
   have hq:=qi.out.host hh
   simpa [z7Y,u1,u2] using hq
  ·have B:Hid (zeT a=(false,[],a,false,[])):=by show _=_;rw [qn.out _ _ rfl,m]
   rw [show ((58:UInt8).toNat:Int)=58 from rfl] at g
   rw [show ((93:UInt8).toNat:Int)=93 from rfl] at j
   have hd:decide (Lib.lastIndexByte ⟨a.toArray⟩ 93<Lib.lastIndexByte ⟨a.toArray⟩ 58)=false:=yoO (by omega)
   generalize Lib.lastIndexByte ⟨a.toArray⟩ 93=z at*
   generalize Lib.lastIndexByte ⟨a.toArray⟩ 58=z2 at*
   clear G m
   obtain ⟨d0,d1,d2,d3,d4,d5,d6,d7,d8,d9,qb,qj,qf⟩:=D.out.all
   have f4:=zaT D.out 4
   clear d0 d1 d2 d3 d5 d6 d7 d8 d9 qb qj qf
   go_wp2_with fail
   refine g.out.mono ?_
   rintro e w' ⟨rfl,rfl⟩
   go_wp2_with fail
   refine j.out.mono ?_
   rintro e w' ⟨rfl,rfl⟩
   go_wp2
   go_ret
   refine A.out _ _ rfl ?_ (zhX Y.out 4 _)
   rw [B.out]
   have hq:=D.out.host a
   simpa [z7Y,u1,u2,u3,u4] using hq
theorem PB.frozen {t:TypeId} {w:World} {P:Nat} {p:PZ} (h:PB t w P p): ∀i,w.frozen? ⟨P,i,none⟩=false:=zaJ h
def zcZ (x:World) (g:Nat) (j i E A D q m o C B e d f:Value):World:=(((((((((((((x.setCell ⟨g,0,none⟩ j).setCell ⟨g,1,none⟩ i).setCell ⟨g,2,none⟩ E).setCell ⟨g,3,none⟩ A).setCell ⟨g,4,none⟩ D).setCell ⟨g,5,none⟩ q).setCell ⟨g,6,none⟩ m).setCell ⟨g,7,none⟩ o).setCell ⟨g,8,none⟩ C).setCell ⟨g,9,none⟩ B).setCell ⟨g,10,none⟩ e).setCell ⟨g,11,none⟩ d).setCell ⟨g,12,none⟩ f)
theorem ycZ {t:TypeId} {x:World} {g:Nat} {p:PZ} (h:PB t x g p) (j i E A D q m o C B e d f:Value):(zcZ x g j i E A D q m o C B e d f).heap[g]? =some (.cells #[j,i,E,A,D,q,m,o,C,B,e,d,f] t):=by
 have:=zaL (zaL (zaL (zaL (zaL (zaL (zaL (zaL (zaL (zaL (zaL (zaL (zaL h 0 j) 1 i) 2 E) 3 A) 4 D) 5 q) 6 m) 7 o) 8 C) 9 B) 10 e) 11 d) 12 f
 unfold zcZ
 simpa [PZ.cells] using this
theorem zwX {w x:World} {g B:Nat} (h:Below B w x) (d:B≤g) (j A E D q o C m H G f e i:Value):Below B w (zcZ x g j A E D q o C m H G f e i):=
 (((((((((((((h.setCell (p:=⟨g,0,none⟩) d _).setCell (p:=⟨g,1,none⟩) d _).setCell (p:=⟨g,2,none⟩) d _).setCell (p:=⟨g,3,none⟩) d _).setCell (p:=⟨g,4,none⟩) d _).setCell (p:=⟨g,5,none⟩) d _).setCell (p:=⟨g,6,none⟩) d _).setCell (p:=⟨g,7,none⟩) d _).setCell (p:=⟨g,8,none⟩) d _).setCell (p:=⟨g,9,none⟩) d _).setCell (p:=⟨g,10,none⟩) d _).setCell (p:=⟨g,11,none⟩) d _).setCell (p:=⟨g,12,none⟩) d _)
theorem zxK {t:TypeId} {x:World} {g:Nat} {p:PZ} (h:PB t x g p) (j i E A D q m o C B e d f:Value):(zcZ x g j i E A D q m o C B e d f).cell? ⟨g,0,none⟩=some j∧(zcZ x g j i E A D q m o C B e d f).cell? ⟨g,1,none⟩=some i∧(zcZ x g j i E A D q m o C B e d f).cell? ⟨g,2,none⟩=some E∧(zcZ x g j i E A D q m o C B e d f).cell? ⟨g,3,none⟩=some A∧(zcZ x g j i E A D q m o C B e d f).cell? ⟨g,4,none⟩=some D∧(zcZ x g j i E A D q m o C B e d f).cell? ⟨g,5,none⟩=some q∧(zcZ x g j i E A D q m o C B e d f).cell? ⟨g,6,none⟩=some m∧(zcZ x g j i E A D q m o C B e d f).cell? ⟨g,7,none⟩=some o∧(zcZ x g j i E A D q m o C B e d f).cell? ⟨g,8,none⟩=some C∧(zcZ x g j i E A D q m o C B e d f).cell? ⟨g,9,none⟩=some B∧(zcZ x g j i E A D q m o C B e d f).cell? ⟨g,10,none⟩=some e∧(zcZ x g j i E A D q m o C B e d f).cell? ⟨g,11,none⟩=some d∧(zcZ x g j i E A D q m o C B e d f).cell? ⟨g,12,none⟩=some f:=by
 have h:=ycZ h j i E A D q m o C B e d f
 exact ⟨zaA h 0,zaA h 1,zaA h 2,zaA h 3,zaA h 4,zaA h 5,zaA h 6,zaA h 7,zaA h 8,zaA h 9,zaA h 10,zaA h 11,zaA h 12⟩
theorem zbU {w x:World} {g B:Nat} (h:Below B w x) (d:B≤g) (p:PZ):Below B w (zcZ x g (.string ⟨p.scheme.toArray⟩) (.bool p.hasS) (.string ⟨p.user.toArray⟩) (.bool p.hasU) (.string ⟨p.host.toArray⟩) (.bool p.hasA) (.string ⟨p.port.toArray⟩) (.bool p.hasP) (.string ⟨p.path.toArray⟩) (.string ⟨p.query.toArray⟩) (.bool p.hasQ) (.string ⟨p.frag.toArray⟩) (.bool p.hasF)):=zwX h d ..
theorem zbT {t:TypeId} {x:World} {g:Nat} {q:PZ} (h:PB t x g q) (p:PZ): ∀y,y=zcZ x g (.string ⟨p.scheme.toArray⟩) (.bool p.hasS) (.string ⟨p.user.toArray⟩) (.bool p.hasU) (.string ⟨p.host.toArray⟩) (.bool p.hasA) (.string ⟨p.port.toArray⟩) (.bool p.hasP) (.string ⟨p.path.toArray⟩) (.string ⟨p.query.toArray⟩) (.bool p.hasQ) (.string ⟨p.frag.toArray⟩) (.bool p.hasF)→y.cell? ⟨g,0,none⟩=some (.string ⟨p.scheme.toArray⟩)∧y.cell? ⟨g,1,none⟩=some (.bool p.hasS)∧y.cell? ⟨g,2,none⟩=some (.string ⟨p.user.toArray⟩)∧y.cell? ⟨g,3,none⟩=some (.bool p.hasU)∧y.cell? ⟨g,4,none⟩=some (.string ⟨p.host.toArray⟩)∧y.cell? ⟨g,5,none⟩=some (.bool p.hasA)∧y.cell? ⟨g,6,none⟩=some (.string ⟨p.port.toArray⟩)∧y.cell? ⟨g,7,none⟩=some (.bool p.hasP)∧y.cell? ⟨g,8,none⟩=some (.string ⟨p.path.toArray⟩)∧y.cell? ⟨g,9,none⟩=some (.string ⟨p.query.toArray⟩)∧y.cell? ⟨g,10,none⟩=some (.bool p.hasQ)∧y.cell? ⟨g,11,none⟩=some (.string ⟨p.frag.toArray⟩)∧y.cell? ⟨g,12,none⟩=some (.bool p.hasF):=fun y d=>by
 subst d
 exact zxK h ..
structure ST (t:TypeId) (w x:World) (R P:Nat) (p:PZ):Prop where
 below:Below w.heap.size w x
 row:PB t x P p
 res:PB t x R zaY
 hR:w.heap.size≤R
 hP:w.heap.size≤P
 ne:R≠P
theorem ST.keep {t:TypeId} {w x y:World} {R P:Nat} {p:PZ} (h:ST t w x R P p) (d:Below x.heap.size x y):ST t w y R P p:=
 ⟨zaG h.below d,h.row.below d,h.res.below d,h.hR,h.hP,h.ne⟩
theorem ST.only {t:TypeId} {w x y:World} {R P:Nat} {p q:PZ} (h:ST t w x R P p) (d:Only [P] x y) (f:PB t y P q):ST t w y R P q:=
 ⟨⟨d.os.trans h.below.os,d.tape.trans h.below.tape,d.output.trans h.below.output,Nat.le_trans h.below.size d.size,fun k e=>(d.block k (Nat.lt_of_lt_of_le e h.below.size) (by have:=h.hP;simp;omega)).trans (h.below.block k e)⟩,f,(d.block R (zaK h.res) (by have:=h.ne;simpa using this)).trans h.res,h.hR,h.hP,h.ne⟩
theorem ST.set {t:TypeId} {w x:World} {R P:Nat} {p:PZ} (h:ST t w x R P p) (i:Nat) (v:Value) {q:PZ} (d:p.cells.setIfInBounds i v=q.cells):ST t w (x.setCell ⟨P,i,none⟩ v) R P q:=by
 refine ⟨h.below.setCell (p:=⟨P,i,none⟩) h.hP _,?_,?_,h.hR,h.hP,h.ne⟩
 ·unfold PB
  rw [←d]
  exact zaL h.row i v
 ·unfold PB
  rw [zcR h.ne]
  exact h.res
theorem ST.first (t:TypeId) (w:World):ST t w ((w.alloc (.cells zaY.cells t)).alloc (.cells zaY.cells t)) w.heap.size (w.heap.size+1) zaY:=by
 have f:=PB.new t w zaY
 have e:(w.alloc (.cells zaY.cells t)).heap.size=w.heap.size+1:=by simp
 have d:=PB.new t (w.alloc (.cells zaY.cells t)) zaY
 rw [e] at d
 exact ⟨((yoQ _ w).alloc (yoN _) _).alloc (by simp) _,d,f.below ((yoQ _ _).alloc (yoN _) _),yoN _,by omega,by omega⟩
theorem zzS (p:PZ):p.cells.size=13:=rfl
theorem ST.st {t:TypeId} {w x:World} {R P:Nat} {p:PZ} (h:ST t w x R P p) (i j:Nat) (a:Value) (hi:i<13) (f:j<13): ∃e d,x.cell? ⟨P,i,none⟩=some e∧x.frozen? ⟨P,i,none⟩=false∧(x.setCell ⟨P,i,none⟩ a).cell? ⟨P,j,none⟩=some d∧(x.setCell ⟨P,i,none⟩ a).frozen? ⟨P,j,none⟩=false:=
 ⟨_,_,(zaA h.row i).trans (Array.getElem?_eq_getElem (by rw [zzS];exact hi)),zaT h.row i,(zaA (zaL h.row i a) j).trans (Array.getElem?_eq_getElem (by rw [Array.size_setIfInBounds,zzS];exact f)),zaT (zaL h.row i a) j⟩
theorem zyD (s:List UInt8):(Lib.hasPrefix s [47,47]=true∧zfL s=((zaR (· ==47) (Lib.trimPrefix s [47,47])).2,true,zeT (zaR (· ==47) (Lib.trimPrefix s [47,47])).1))∨(Lib.hasPrefix s [47,47]=false∧Lib.trimPrefix s [47,47]=s∧zfL s=(s,false,(false,[],[],false,[]))):=by
 cases h:Lib.hasPrefix s [47,47] with
 |true=>
  left
  refine ⟨rfl,?_⟩
  have d:=h
  unfold Lib.hasPrefix at d
  rw [List.isPrefixOf_iff_prefix] at d
  obtain ⟨r,f⟩:=d
  have e:s=47::47::r:=f.symm
  have g:Lib.trimPrefix s [47,47]=r:=by unfold Lib.trimPrefix;rw [h,if_pos rfl,e];rfl
  rw [g,e]
  rfl
 |false=>
  right
  refine ⟨rfl,by unfold Lib.trimPrefix;rw [h,if_neg (by decide)],?_⟩
  unfold zfL
  split
  ·unfold Lib.hasPrefix at h
   simp [List.isPrefixOf] at h
  ·rfl
theorem ygM (l:List UInt8) {a:Bool×List UInt8×List UInt8} {f q:List UInt8×Bool×List UInt8} {h:List UInt8×Bool×(Bool×List UInt8×List UInt8×Bool×List UInt8)} (d:zaO l=a) (g:cutA 35 a.2.2=f) (e:cutA 63 f.1=q) (i:zfL q.1=h):
  zcJ l=⟨a.2.1,a.1,h.2.2.2.1,h.2.2.1,h.2.2.2.2.1,h.2.1,h.2.2.2.2.2.2,h.2.2.2.2.2.1,h.1,q.2.2,q.2.1,f.2.2,f.2.1⟩:=by
 subst d g e i
 rfl
def RetPZ (w:World) (p:PZ) (e:Ending) (w':World):Prop:=e= .returned (.agg p.cells)∧Below w.heap.size w w'
theorem znD (l:List UInt8):(zaO l).2.2.length≤l.length∧(zaO l).2.1.length≤l.length:=by
 obtain ⟨f,g⟩:=zqC l
 have e:=congrArg List.length f
 cases d:(zaO l).1 with
 |true=>rw [d,if_pos rfl] at e;simp at e;omega
 |false=>rw [d,if_neg (by decide)] at e;rw [g d];simp at e;simp;omega
theorem z9W (l:List UInt8) (w:World) (hl:l.length≤100000) (qK:MaxVar w):
  Calls Tryz.prog 39 #[.string ⟨l.toArray⟩] w (RetPZ w (zcJ l)):=by
 have hz:=zaF l
 have C:Hid (∀(x:World) (R P:Nat) (p:PZ),ST 32 w x R P p→MaxVar x):=fun x R P p h=>zaD qK h.below
 have qT:=(znD l).1
 have qy:=yoM (ST.first 32 w)
 have D:=yoM (fun W=>yaQ l W (by omega))
 have qR:=z3K l
 have qD:= @ygM l _ _ _ _ rfl rfl rfl rfl
 have qi:=yoM (fun W (h:MaxVar W)=>zjY 35 (zaO l).2.2 W (by omega) h)
 have qP:=(zfF 35 (zaO l).2.2).1
 have qg:=yoM (fun W (h:MaxVar W)=>zjY 63 (cutA 35 (zaO l).2.2).1 W (by omega) h)
 have qM:=(zfF 63 (cutA 35 (zaO l).2.2).1).1
 have qk:=zyD (cutA 63 (cutA 35 (zaO l).2.2).1).1
 have Y:Hid (∀W,Calls Tryz.prog 92 #[.string ⟨(cutA 63 (cutA 35 (zaO l).2.2).1).1.toArray⟩,.string ⟨#[47,47]⟩] W fun e w'=>e= .returned (.tuple #[.string ⟨(Lib.trimPrefix (cutA 63 (cutA 35 (zaO l).2.2).1).1 [47,47]).toArray⟩,.bool (Lib.hasPrefix (cutA 63 (cutA 35 (zaO l).2.2).1).1 [47,47])])∧W=w'):=fun W=>(Tryz.strings_CutPrefix ⟨(cutA 63 (cutA 35 (zaO l).2.2).1).1.toArray⟩ ⟨#[47,47]⟩ W).mono (fun _ _ h=>⟨h.1,h.2.symm⟩)
 have qN:=znN (cutA 63 (cutA 35 (zaO l).2.2).1).1 [47,47]
 generalize zcJ l=res at*
 generalize qW:zaO l=sc at*
 obtain ⟨a1,a2,a3⟩:=sc
 simp only at qi qg Y qk qD qT qP qM qN
 generalize cutA 35 a3=fx at*
 obtain ⟨f1,f2,X⟩:=fx
 simp only at qg Y qk qD qP qM qN
 generalize cutA 63 f1=qx at*
 obtain ⟨q1,q2,q3⟩:=qx
 simp only at Y qk qD qM qN
 generalize zfL q1=hx at*
 have qS:(Lib.trimPrefix q1 [47,47]).length≤100000:=by omega
 generalize Lib.trimPrefix q1 [47,47]=tp at*
 generalize Lib.hasPrefix q1 [47,47]=bp at*
 have G:=yoM qD
 have Z:=yoM (fun P p W h1 h2 h3=>zrX P p tp W qS h1 h2 h3)
 obtain ⟨x0,qJ⟩: ∃y,y=(w.alloc (.cells zaY.cells 32)).alloc (.cells zaY.cells 32):=⟨_,rfl⟩
 rw [←qJ] at qy
 unfold zaY PZ.cells at qJ
 clear qK qD
 go_enter Tryz.func39,Tryz.ntmps39
 go_wp2_with fail
 rw [←qJ]
 clear qJ
 refine (D.out _).mono ?_
 rintro e x1 ⟨rfl,qO⟩
 have qj:=yoM (qy.out.keep qO)
 clear qO qy D
 generalize hR:w.heap.size=R at*
 generalize hP:R+1=P at*
 clear hR hP
 rcases qR with ⟨i,hi,E,hc,H⟩|⟨H,E|⟨i,hi,E,hc⟩⟩
 ·rw [E]
  simp only [Prod.mk.injEq] at H
  obtain ⟨rfl,rfl,rfl⟩:=H
  have hb:(ByteArray.mk l.toArray)[i]'(by rw [hz];exact hi)=58:=hc
  have qV:=zpY l i (by omega)
  have qU:=zmF l i hi
  have qX:IntKind.i64.wrap ((i:Int)+1)=(i:Int)+1:=IntWalk.i64_in _ (by omega)
  obtain ⟨v1,v2,c0,g0,c1,g1⟩:=qj.out.st 0 1 (.string ⟨(l.take i).toArray⟩) (by decide) (by decide)
  go_wp2_with fail
  obtain ⟨x2,qL⟩: ∃y,y=(x1.setCell ⟨P,0,none⟩ (.string ⟨(l.take i).toArray⟩)).setCell ⟨P,1,none⟩ (.bool true):=⟨_,rfl⟩
  rw [←qL]
  have B:Hid (ST 32 w x2 R P {zaY with scheme:=l.take i,hasS:=true}):=by rw [qL];exact (qj.out.set 0 _ (q:={zaY with scheme:=l.take i}) rfl).set 1 _ rfl
  clear qj qL c0 g0 c1 g1 hb qV qU hc hi E
  refine (qi.out _ (C.out _ _ _ _ B.out)).mono ?_
  rintro e y1 ⟨rfl,qd⟩
  have S:=yoM (B.out.keep qd)
  obtain ⟨v3,v4,qB,qv,qq,qr⟩:=S.out.st 11 12 (.string ⟨X.toArray⟩) (by decide) (by decide)
  clear qi B qd
  go_wp2_with fail
  obtain ⟨x3,U⟩: ∃y,y=(y1.setCell ⟨P,11,none⟩ (.string ⟨X.toArray⟩)).setCell ⟨P,12,none⟩ (.bool f2):=⟨_,rfl⟩
  rw [←U]
  have N:Hid (ST 32 w x3 R P {zaY with scheme:=(l.take i),hasS:=true,frag:=X,hasF:=f2}):=by rw [U];exact (S.out.set 11 _ (q:={zaY with scheme:=(l.take i),hasS:=true,frag:=X}) rfl).set 12 _ rfl
  clear S qB qv qq qr U
  refine (qg.out _ (C.out _ _ _ _ N.out)).mono ?_
  rintro e y2 ⟨rfl,qf⟩
  have Q:=yoM (N.out.keep qf)
  obtain ⟨v5,v6,c9,g9,qG,qp⟩:=Q.out.st 9 10 (.string ⟨q3.toArray⟩) (by decide) (by decide)
  clear qg N qf
  go_wp2_with fail
  obtain ⟨x4,V⟩: ∃y,y=(y2.setCell ⟨P,9,none⟩ (.string ⟨q3.toArray⟩)).setCell ⟨P,10,none⟩ (.bool q2):=⟨_,rfl⟩
  rw [←V]
  have I:Hid (ST 32 w x4 R P {zaY with scheme:=(l.take i),hasS:=true,frag:=X,hasF:=f2,query:=q3,hasQ:=q2}):=by rw [V];exact (Q.out.set 9 _ (q:={zaY with scheme:=(l.take i),hasS:=true,frag:=X,hasF:=f2,query:=q3}) rfl).set 10 _ rfl
  clear Q c9 g9 qG qp V
  refine (Y.out _).mono ?_
  rintro e w' ⟨rfl,rfl⟩
  obtain ⟨v7,v8,c5,g5,ql,qE⟩:=I.out.st 5 5 (.bool bp) (by decide) (by decide)
  have g:Hid (ST 32 w (x4.setCell ⟨P,5,none⟩ (.bool bp)) R P {zaY with scheme:=(l.take i),hasS:=true,frag:=X,hasF:=f2,query:=q3,hasQ:=q2,hasA:=bp}):=I.out.set 5 _ rfl
  have qn:=g.out.row.all.2.2.2.2.2.1
  clear Y I ql qE
  rcases qk with ⟨rfl,A⟩|⟨rfl,qA,A⟩
  ·have D:=A
   clear A
   go_wp2_with fail
   have qh:=C.out _ _ _ _ g.out
   have qc:=g.out.row
   have qb:=yoM g.out
   generalize x4.setCell ⟨P,5,none⟩ (.bool true)=x5 at*
   refine (Z.out P _ x5 qc ⟨rfl,rfl,rfl,rfl⟩ qh).mono ?_
   rintro e y5 ⟨rfl,qe,ho⟩
   have f:=yoM (qb.out.only ho qe)
   clear Z qh qc qb g qe ho c5 g5 qn
   obtain ⟨v1,v2,c8,g8,hh⟩:=f.out.st 8 8 (.string ⟨(zaR (· ==47) tp).2.toArray⟩) (by decide) (by decide)
   clear hh v2
   have d:Hid (ST 32 w (y5.setCell ⟨P,8,none⟩ (.string ⟨(zaR (· ==47) tp).2.toArray⟩)) R P res):=by show ST _ _ _ _ _ _;rw [G.out,D];exact f.out.set 8 _ rfl
   obtain ⟨d0,d1,d2,d3,d4,d5,d6,d7,d8,d9,qm,qF,qz⟩:=d.out.row.all
   obtain ⟨r0,r1,r2,r3,r4,r5,r6,r7,r8,r9,qC,qI,qw⟩:=d.out.res.all
   have rf:=d.out.res.frozen
   have J:=d.out.ne
   have qa:P≠R:=J.symm
   obtain ⟨s0,s1,s2,s3,s4,s5,s6,s7,s8,s9,qH,qs,qo⟩:=f.out.res.all
   have j:=zbU d.out.below d.out.hR res
   have o:=zbT d.out.res res _ rfl
   unfold zcZ at j o
   have M:=yoM j
   have K:=yoM o
   clear j o f d G C
   go_wp2
   obtain ⟨e0,e1,e2,e3,e4,e5,e6,e7,e8,e9,T,O,L⟩:=K.out
   refine bodyPost_ret (v:= .agg res.cells) (by simp [results,Tryz.results39,go_sem,e0,e1,e2,e3,e4,e5,e6,e7,e8,e9,T,O,L,PZ.cells]) rfl ?_
   exact ⟨rfl,M.out⟩
  ·have D:=A
   subst qA
   clear A Z
   have f:=yoM g.out
   clear g
   obtain ⟨v1,v2,c8,g8,hh⟩:=f.out.st 8 8 (.string ⟨tp.toArray⟩) (by decide) (by decide)
   clear hh v2
   have d:Hid (ST 32 w ((x4.setCell ⟨P,5,none⟩ (.bool false)).setCell ⟨P,8,none⟩ (.string ⟨tp.toArray⟩)) R P res):=by show ST _ _ _ _ _ _;rw [G.out,D];exact f.out.set 8 _ rfl
   obtain ⟨d0,d1,d2,d3,d4,d5,d6,d7,d8,d9,qm,qF,qz⟩:=d.out.row.all
   obtain ⟨r0,r1,r2,r3,r4,r5,r6,r7,r8,r9,qC,qI,qw⟩:=d.out.res.all
   have rf:=d.out.res.frozen
   have J:=d.out.ne
   have qa:P≠R:=J.symm
   obtain ⟨s0,s1,s2,s3,s4,s5,s6,s7,s8,s9,qH,qs,qo⟩:=f.out.res.all
   have j:=zbU d.out.below d.out.hR res
   have o:=zbT d.out.res res _ rfl
   unfold zcZ at j o
   have M:=yoM j
   have K:=yoM o
   clear j o f d G C
   go_wp2
   obtain ⟨e0,e1,e2,e3,e4,e5,e6,e7,e8,e9,T,O,L⟩:=K.out
   refine bodyPost_ret (v:= .agg res.cells) (by simp [results,Tryz.results39,go_sem,e0,e1,e2,e3,e4,e5,e6,e7,e8,e9,T,O,L,PZ.cells]) rfl ?_
   exact ⟨rfl,M.out⟩
 ·rw [E]
  simp only [Prod.mk.injEq] at H
  obtain ⟨rfl,rfl,rfl⟩:=H
  have B:Hid (ST 32 w x1 R P {zaY with scheme:=[],hasS:=false}):=qj.out
  clear qj E
  go_wp2_with fail
  refine (qi.out _ (C.out _ _ _ _ B.out)).mono ?_
  rintro e y1 ⟨rfl,qd⟩
  have S:=yoM (B.out.keep qd)
  obtain ⟨v3,v4,qB,qv,qq,qr⟩:=S.out.st 11 12 (.string ⟨X.toArray⟩) (by decide) (by decide)
  clear qi B qd
  go_wp2_with fail
  obtain ⟨x3,U⟩: ∃y,y=(y1.setCell ⟨P,11,none⟩ (.string ⟨X.toArray⟩)).setCell ⟨P,12,none⟩ (.bool f2):=⟨_,rfl⟩
  rw [←U]
  have N:Hid (ST 32 w x3 R P {zaY with scheme:=[],hasS:=false,frag:=X,hasF:=f2}):=by rw [U];exact (S.out.set 11 _ (q:={zaY with scheme:=[],hasS:=false,frag:=X}) rfl).set 12 _ rfl
  clear S qB qv qq qr U
  refine (qg.out _ (C.out _ _ _ _ N.out)).mono ?_
  rintro e y2 ⟨rfl,qf⟩
  have Q:=yoM (N.out.keep qf)
  obtain ⟨v5,v6,c9,g9,qG,qp⟩:=Q.out.st 9 10 (.string ⟨q3.toArray⟩) (by decide) (by decide)
  clear qg N qf
  go_wp2_with fail
  obtain ⟨x4,V⟩: ∃y,y=(y2.setCell ⟨P,9,none⟩ (.string ⟨q3.toArray⟩)).setCell ⟨P,10,none⟩ (.bool q2):=⟨_,rfl⟩
  rw [←V]
  have I:Hid (ST 32 w x4 R P {zaY with scheme:=[],hasS:=false,frag:=X,hasF:=f2,query:=q3,hasQ:=q2}):=by rw [V];exact (Q.out.set 9 _ (q:={zaY with scheme:=[],hasS:=false,frag:=X,hasF:=f2,query:=q3}) rfl).set 10 _ rfl
  clear Q c9 g9 qG qp V
  refine (Y.out _).mono ?_
  rintro e w' ⟨rfl,rfl⟩
  obtain ⟨v7,v8,c5,g5,ql,qE⟩:=I.out.st 5 5 (.bool bp) (by decide) (by decide)
  have g:Hid (ST 32 w (x4.setCell ⟨P,5,none⟩ (.bool bp)) R P {zaY with scheme:=[],hasS:=false,frag:=X,hasF:=f2,query:=q3,hasQ:=q2,hasA:=bp}):=I.out.set 5 _ rfl
  have qn:=g.out.row.all.2.2.2.2.2.1
  clear Y I ql qE
  rcases qk with ⟨rfl,A⟩|⟨rfl,qA,A⟩
  ·have D:=A
   clear A
   go_wp2_with fail
   have qh:=C.out _ _ _ _ g.out
   have qc:=g.out.row
   have qb:=yoM g.out
   generalize x4.setCell ⟨P,5,none⟩ (.bool true)=x5 at*
   refine (Z.out P _ x5 qc ⟨rfl,rfl,rfl,rfl⟩ qh).mono ?_
   rintro e y5 ⟨rfl,qe,ho⟩
   have f:=yoM (qb.out.only ho qe)
   clear Z qh qc qb g qe ho c5 g5 qn
   obtain ⟨v1,v2,c8,g8,hh⟩:=f.out.st 8 8 (.string ⟨(zaR (· ==47) tp).2.toArray⟩) (by decide) (by decide)
   clear hh v2
   have d:Hid (ST 32 w (y5.setCell ⟨P,8,none⟩ (.string ⟨(zaR (· ==47) tp).2.toArray⟩)) R P res):=by show ST _ _ _ _ _ _;rw [G.out,D];exact f.out.set 8 _ rfl
   obtain ⟨d0,d1,d2,d3,d4,d5,d6,d7,d8,d9,qm,qF,qz⟩:=d.out.row.all
   obtain ⟨r0,r1,r2,r3,r4,r5,r6,r7,r8,r9,qC,qI,qw⟩:=d.out.res.all
   have rf:=d.out.res.frozen
   have J:=d.out.ne
   have qa:P≠R:=J.symm
   obtain ⟨s0,s1,s2,s3,s4,s5,s6,s7,s8,s9,qH,qs,qo⟩:=f.out.res.all
   have j:=zbU d.out.below d.out.hR res
   have o:=zbT d.out.res res _ rfl
   unfold zcZ at j o
   have M:=yoM j
   have K:=yoM o
   clear j o f d G C
   go_wp2
   obtain ⟨e0,e1,e2,e3,e4,e5,e6,e7,e8,e9,T,O,L⟩:=K.out
   refine bodyPost_ret (v:= .agg res.cells) (by simp [results,Tryz.results39,go_sem,e0,e1,e2,e3,e4,e5,e6,e7,e8,e9,T,O,L,PZ.cells]) rfl ?_
   exact ⟨rfl,M.out⟩
  ·have D:=A
   subst qA
   clear A Z
   have f:=yoM g.out
   clear g
   obtain ⟨v1,v2,c8,g8,hh⟩:=f.out.st 8 8 (.string ⟨tp.toArray⟩) (by decide) (by decide)
   clear hh v2
   have d:Hid (ST 32 w ((x4.setCell ⟨P,5,none⟩ (.bool false)).setCell ⟨P,8,none⟩ (.string ⟨tp.toArray⟩)) R P res):=by show ST _ _ _ _ _ _;rw [G.out,D];exact f.out.set 8 _ rfl
   obtain ⟨d0,d1,d2,d3,d4,d5,d6,d7,d8,d9,qm,qF,qz⟩:=d.out.row.all
   obtain ⟨r0,r1,r2,r3,r4,r5,r6,r7,r8,r9,qC,qI,qw⟩:=d.out.res.all
   have rf:=d.out.res.frozen
   have J:=d.out.ne
   have qa:P≠R:=J.symm
   obtain ⟨s0,s1,s2,s3,s4,s5,s6,s7,s8,s9,qH,qs,qo⟩:=f.out.res.all
   have j:=zbU d.out.below d.out.hR res
   have o:=zbT d.out.res res _ rfl
   unfold zcZ at j o
   have M:=yoM j
   have K:=yoM o
   clear j o f d G C
   go_wp2
   obtain ⟨e0,e1,e2,e3,e4,e5,e6,e7,e8,e9,T,O,L⟩:=K.out
   refine bodyPost_ret (v:= .agg res.cells) (by simp [results,Tryz.results39,go_sem,e0,e1,e2,e3,e4,e5,e6,e7,e8,e9,T,O,L,PZ.cells]) rfl ?_
   exact ⟨rfl,M.out⟩
 ·rw [E]
  simp only [Prod.mk.injEq] at H
  obtain ⟨rfl,rfl,rfl⟩:=H
  have hb:((ByteArray.mk a3.toArray)[i]'(by rw [hz];exact hi)).toNat≠58:=fun e=>hc (UInt8.toNat_inj.1 e)
  obtain ⟨m,hm⟩: ∃m,((ByteArray.mk a3.toArray)[i]'(by rw [hz];exact hi)).toNat=m:=⟨_,rfl⟩
  rw [hm] at hb
  have qQ:((m:Int)==58)=false:=beq_eq_false_iff_ne.2 (by omega)
  have B:Hid (ST 32 w x1 R P {zaY with scheme:=[],hasS:=false}):=qj.out
  clear qj E hc
  go_wp2_with fail
  clear hb hm qQ
  refine (qi.out _ (C.out _ _ _ _ B.out)).mono ?_
  rintro e y1 ⟨rfl,qd⟩
  have S:=yoM (B.out.keep qd)
  obtain ⟨v3,v4,qB,qv,qq,qr⟩:=S.out.st 11 12 (.string ⟨X.toArray⟩) (by decide) (by decide)
  clear qi B qd
  go_wp2_with fail
  obtain ⟨x3,U⟩: ∃y,y=(y1.setCell ⟨P,11,none⟩ (.string ⟨X.toArray⟩)).setCell ⟨P,12,none⟩ (.bool f2):=⟨_,rfl⟩
  rw [←U]
  have N:Hid (ST 32 w x3 R P {zaY with scheme:=[],hasS:=false,frag:=X,hasF:=f2}):=by rw [U];exact (S.out.set 11 _ (q:={zaY with scheme:=[],hasS:=false,frag:=X}) rfl).set 12 _ rfl
  clear S qB qv qq qr U
  refine (qg.out _ (C.out _ _ _ _ N.out)).mono ?_
  rintro e y2 ⟨rfl,qf⟩
  have Q:=yoM (N.out.keep qf)
  obtain ⟨v5,v6,c9,g9,qG,qp⟩:=Q.out.st 9 10 (.string ⟨q3.toArray⟩) (by decide) (by decide)
  clear qg N qf
  go_wp2_with fail
  obtain ⟨x4,V⟩: ∃y,y=(y2.setCell ⟨P,9,none⟩ (.string ⟨q3.toArray⟩)).setCell ⟨P,10,none⟩ (.bool q2):=⟨_,rfl⟩
  rw [←V]
  have I:Hid (ST 32 w x4 R P {zaY with scheme:=[],hasS:=false,frag:=X,hasF:=f2,query:=q3,hasQ:=q2}):=by rw [V];exact (Q.out.set 9 _ (q:={zaY with scheme:=[],hasS:=false,frag:=X,hasF:=f2,query:=q3}) rfl).set 10 _ rfl
  clear Q c9 g9 qG qp V
  refine (Y.out _).mono ?_
  rintro e w' ⟨rfl,rfl⟩
  obtain ⟨v7,v8,c5,g5,ql,qE⟩:=I.out.st 5 5 (.bool bp) (by decide) (by decide)
  have g:Hid (ST 32 w (x4.setCell ⟨P,5,none⟩ (.bool bp)) R P {zaY with scheme:=[],hasS:=false,frag:=X,hasF:=f2,query:=q3,hasQ:=q2,hasA:=bp}):=I.out.set 5 _ rfl
  have qn:=g.out.row.all.2.2.2.2.2.1
  clear Y I ql qE
  rcases qk with ⟨rfl,A⟩|⟨rfl,qA,A⟩
  ·have D:=A
   clear A
   go_wp2_with fail
   have qh:=C.out _ _ _ _ g.out
   have qc:=g.out.row
   have qb:=yoM g.out
   generalize x4.setCell ⟨P,5,none⟩ (.bool true)=x5 at*
   refine (Z.out P _ x5 qc ⟨rfl,rfl,rfl,rfl⟩ qh).mono ?_
   rintro e y5 ⟨rfl,qe,ho⟩
   have f:=yoM (qb.out.only ho qe)
   clear Z qh qc qb g qe ho c5 g5 qn
   obtain ⟨v1,v2,c8,g8,hh⟩:=f.out.st 8 8 (.string ⟨(zaR (· ==47) tp).2.toArray⟩) (by decide) (by decide)
   clear hh v2
   have d:Hid (ST 32 w (y5.setCell ⟨P,8,none⟩ (.string ⟨(zaR (· ==47) tp).2.toArray⟩)) R P res):=by show ST _ _ _ _ _ _;rw [G.out,D];exact f.out.set 8 _ rfl
   obtain ⟨d0,d1,d2,d3,d4,d5,d6,d7,d8,d9,qm,qF,qz⟩:=d.out.row.all
   obtain ⟨r0,r1,r2,r3,r4,r5,r6,r7,r8,r9,qC,qI,qw⟩:=d.out.res.all
   have rf:=d.out.res.frozen
   have J:=d.out.ne
   have qa:P≠R:=J.symm
   obtain ⟨s0,s1,s2,s3,s4,s5,s6,s7,s8,s9,qH,qs,qo⟩:=f.out.res.all
   have j:=zbU d.out.below d.out.hR res
   have o:=zbT d.out.res res _ rfl
   unfold zcZ at j o
   have M:=yoM j
   have K:=yoM o
   clear j o f d G C
   go_wp2
   obtain ⟨e0,e1,e2,e3,e4,e5,e6,e7,e8,e9,T,O,L⟩:=K.out
   refine bodyPost_ret (v:= .agg res.cells) (by simp [results,Tryz.results39,go_sem,e0,e1,e2,e3,e4,e5,e6,e7,e8,e9,T,O,L,PZ.cells]) rfl ?_
   exact ⟨rfl,M.out⟩
  ·have D:=A
   subst qA
   clear A Z
   have f:=yoM g.out
   clear g
   obtain ⟨v1,v2,c8,g8,hh⟩:=f.out.st 8 8 (.string ⟨tp.toArray⟩) (by decide) (by decide)
   clear hh v2
   have d:Hid (ST 32 w ((x4.setCell ⟨P,5,none⟩ (.bool false)).setCell ⟨P,8,none⟩ (.string ⟨tp.toArray⟩)) R P res):=by show ST _ _ _ _ _ _;rw [G.out,D];exact f.out.set 8 _ rfl
   obtain ⟨d0,d1,d2,d3,d4,d5,d6,d7,d8,d9,qm,qF,qz⟩:=d.out.row.all
   obtain ⟨r0,r1,r2,r3,r4,r5,r6,r7,r8,r9,qC,qI,qw⟩:=d.out.res.all
   have rf:=d.out.res.frozen
   have J:=d.out.ne
   have qa:P≠R:=J.symm
   obtain ⟨s0,s1,s2,s3,s4,s5,s6,s7,s8,s9,qH,qs,qo⟩:=f.out.res.all
   have j:=zbU d.out.below d.out.hR res
   have o:=zbT d.out.res res _ rfl
   unfold zcZ at j o
   have M:=yoM j
   have K:=yoM o
   clear j o f d G C
   go_wp2
   obtain ⟨e0,e1,e2,e3,e4,e5,e6,e7,e8,e9,T,O,L⟩:=K.out
   refine bodyPost_ret (v:= .agg res.cells) (by simp [results,Tryz.results39,go_sem,e0,e1,e2,e3,e4,e5,e6,e7,e8,e9,T,O,L,PZ.cells]) rfl ?_
   exact ⟨rfl,M.out⟩
theorem ztO (a:List UInt8):(zcW a).1.length≤a.length∧(zcW a).2.2.length≤a.length:=by
 rcases zoX a with ⟨i,hi,_,_,e⟩|⟨_,e⟩
 ·rw [e];simp only [List.length_take,List.length_drop];omega
 ·rw [e];simp
theorem ydN (a:List UInt8):(zeT a).2.1.length≤a.length∧(zeT a).2.2.1.length≤a.length∧(zeT a).2.2.2.2.length≤a.length:=by
 obtain ⟨e,f⟩:=zfF 64 a
 cases d:cutA 64 a with
 |mk u x=>
  obtain ⟨b,r⟩:=x
  rw [d] at e f
  simp only at e f
  cases b with
  |true=>
   rw [zuY d]
   have:=ztO r
   simp only
   omega
  |false=>
   rw [zzH d]
   have:=ztO a
   simp only [List.length_nil]
   omega
theorem z9L (s:List UInt8):(zfL s).1.length≤s.length∧(zfL s).2.2.2.1.length≤s.length∧(zfL s).2.2.2.2.1.length≤s.length∧(zfL s).2.2.2.2.2.2.length≤s.length:=by
 rcases zyD s with ⟨_,e⟩|⟨_,_,e⟩
 ·rw [e]
  have g:=znN s [47,47]
  have d:=congrArg List.length (zfQ (· ==47) (Lib.trimPrefix s [47,47]))
  rw [List.length_append] at d
  have f:=ydN (zaR (· ==47) (Lib.trimPrefix s [47,47])).1
  simp only
  omega
 ·rw [e];simp
theorem zvE (l:List UInt8):(zcJ l).Few l.length:=by
 have d:=znD l
 have f:=zfF 35 (zaO l).2.2
 have e:=zfF 63 (cutA 35 (zaO l).2.2).1
 have g:=z9L (cutA 63 (cutA 35 (zaO l).2.2).1).1
 unfold PZ.Few zcJ
 simp only
 omega
theorem PZ.Few.mono {p:PZ} {n m:Nat} (h:p.Few n) (d:n≤m):p.Few m:=by
 unfold PZ.Few at*
 omega
theorem ST.alloc {t:TypeId} {w x:World} {R:Nat} {p:PZ} (d:Below w.heap.size w x) (f:PB t x R zaY) (hR:w.heap.size≤R):ST t w (x.alloc (.cells p.cells t)) R x.heap.size p:=
 ⟨d.alloc d.size _,PB.new t x p,f.below ((yoQ _ _).alloc (yoN _) _),hR,d.size,fun e=>by have:=zaK f;omega⟩
def zgH (w:World) (x:PZ×Int) (e:Ending) (w':World):Prop:=e= .returned (.tuple #[.agg x.1.cells,.int .i64 x.2])∧Below w.heap.size w w'
theorem zwB (l:List UInt8) (w:World) (M:MaxVar w) (qa:Lib.Utf8Tabs 1 2 w):
  Calls Tryz.prog 10 #[.string ⟨l.toArray⟩] w (zgH w (zfA sixB l)):=by
 have hz:=zaF l
 have Z:=PB.new 32 w zaY
 have Q:Below w.heap.size w (w.alloc (.cells zaY.cells 32)):=(yoQ _ w).alloc (yoN _) _
 by_cases qc:4096<l.length
 ·have HF:Hid (zfA sixB l=(zaY,3)):=by show _=_;unfold zfA;rw [if_pos qc]
  obtain ⟨x0,I⟩: ∃y,y=w.alloc (.cells zaY.cells 32):=⟨_,rfl⟩
  rw [←I] at Z Q
  dsimp only [zaY,PZ.cells] at I
  have L:=yoM Z
  have qb:=yoM Q
  generalize hW:w.heap.size=R at*
  clear Z Q M qa
  go_enter Tryz.func10,Tryz.ntmps10
  go_upto_region 2 with fail
  rw [←I]
  clear I
  obtain ⟨r0,r1,r2,r3,r4,r5,r6,r7,r8,r9,N,U,T⟩:=L.out.all
  have rf:=L.out.frozen
  have g:=zbU qb.out (yoN _) zaY
  have f:=zbT L.out zaY _ rfl
  unfold zcZ at g f
  have i:=yoM g
  have j:=yoM f
  dsimp only [zaY,PZ.cells] at r0 r1 r2 r3 r4 r5 r6 r7 r8 r9 N U T i j
  clear g f
  go_wp2
  obtain ⟨e0,e1,e2,e3,e4,e5,e6,e7,e8,e9,C,B,A⟩:=j.out
  refine bodyPost_ret (v:= .tuple #[.agg zaY.cells,.int .i64 3]) (by simp [results,Tryz.results10,go_sem,e0,e1,e2,e3,e4,e5,e6,e7,e8,e9,C,B,A,zaY,PZ.cells]) rfl ?_
  unfold zgH
  rw [HF.out,hW]
  exact ⟨rfl,i.out⟩
 have hl:l.length≤100000:=by omega
 have qf:=(zvE l).mono (m:=100000) hl
 have X:=yoM (fun y (hy:Below w.heap.size w y)=>(And.intro (zaD M hy) (zfS qa hy):MaxVar y∧Lib.Utf8Tabs 1 2 y))
 have HC:=yoM (z9W l (w.alloc (.cells zaY.cells 32)) hl (zaD M Q))
 have qi:=zxO sixB l
 have E:Hid (zfA sixB l=if (zcJ l).hasS&& !zeA (zcJ l).scheme then (zaY,5) else if zjD sixB (zcJ l) then (zcJ l,0) else (zaY,11)):=by
  show _=_
  rw [←qi]
  unfold zfA
  rw [if_neg qc]
 generalize zcJ l=p at*
 have qe:=yoM (fun W=>zsP p.scheme W (by have:=qf.1;omega))
 have Y:=yoM (fun W (h:MaxVar W∧Lib.Utf8Tabs 1 2 W)=>zvR p W qf h.1 h.2)
 generalize zfA sixB l=res at*
 generalize zeA p.scheme=qk at*
 generalize zjD sixB p=qh at*
 have L:=yoM Z
 have qb:=yoM Q
 have qd:(w.alloc (.cells zaY.cells 32)).heap.size=w.heap.size+1:=by simp
 obtain ⟨x0,I⟩: ∃y,y=w.alloc (.cells zaY.cells 32):=⟨_,rfl⟩
 rw [←I] at L qb HC qd
 dsimp only [zaY,PZ.cells] at I
 clear Z Q M qa qi qf
 go_enter Tryz.func10,Tryz.ntmps10
 go_wp2_with fail
 rw [←I]
 clear I
 refine HC.out.mono ?_
 rintro e x1 ⟨rfl,qg⟩
 have q:Hid (ST 32 w (x1.alloc (.cells p.cells 32)) w.heap.size x1.heap.size p):=ST.alloc (zaG qb.out qg) (L.out.below qg) (yoN _)
 clear HC L qb qg qd
 obtain ⟨d0,O,d2,d3,d4,d5,d6,d7,d8,d9,D,G,H⟩:=q.out.row.all
 unfold PZ.cells at d0 O d2 d3 d4 d5 d6 d7 d8 d9 D G H
 obtain ⟨x2,S⟩: ∃y,y=x1.alloc (.cells p.cells 32):=⟨_,rfl⟩
 rw [←S] at q
 unfold PZ.cells at S ⊢
 generalize K:p.hasS=bs at*
 cases bs with
 |false=>
  clear qe
  go_wp2_with fail
  rw [←S]
  clear S d0 O d2 d3 d4 d5 d6 d7 d8 d9 D G H
  have o:=yoM (Y.out _ (X.out _ q.out.below))
  unfold PZ.cells at o
  rw [K] at o
  refine o.out.mono ?_
  rintro e y2 ⟨rfl,V⟩
  have d:=yoM (q.out.keep V)
  clear q V Y X o
  cases qh with
  |false=>
   have HF:Hid (res=(zaY,11)):=E.out
   clear E
   obtain ⟨d0,O,d2,d3,d4,d5,d6,d7,d8,d9,D,G,H⟩:=d.out.row.all
   obtain ⟨r0,r1,r2,r3,r4,r5,r6,r7,r8,r9,N,U,T⟩:=d.out.res.all
   have rf:=d.out.res.frozen
   have g:=zbU d.out.below d.out.hR zaY
   have f:=zbT d.out.res zaY _ rfl
   unfold zcZ at g f
   have i:=yoM g
   have j:=yoM f
   clear g f d
   dsimp only [zaY] at i j
   go_wp2
   obtain ⟨e0,e1,e2,e3,e4,e5,e6,e7,e8,e9,C,B,A⟩:=j.out
   refine bodyPost_ret (v:= .tuple #[.agg (PZ.cells zaY),.int .i64 11]) (by simp [results,Tryz.results10,go_sem,e0,e1,e2,e3,e4,e5,e6,e7,e8,e9,C,B,A,zaY,PZ.cells]) rfl ?_
   unfold zgH
   rw [HF.out]
   exact ⟨rfl,i.out⟩
  |true=>
   have HF:Hid (res=(p,0)):=E.out
   clear E
   obtain ⟨d0,O,d2,d3,d4,d5,d6,d7,d8,d9,D,G,H⟩:=d.out.row.all
   obtain ⟨r0,r1,r2,r3,r4,r5,r6,r7,r8,r9,N,U,T⟩:=d.out.res.all
   have rf:=d.out.res.frozen
   have g:=zbU d.out.below d.out.hR p
   have f:=zbT d.out.res p _ rfl
   unfold zcZ at g f
   have i:=yoM g
   have j:=yoM f
   clear g f d
   rw [K] at O i j
   go_wp2
   obtain ⟨e0,e1,e2,e3,e4,e5,e6,e7,e8,e9,C,B,A⟩:=j.out
   refine bodyPost_ret (v:= .tuple #[.agg (PZ.cells p),.int .i64 0]) (by simp [results,Tryz.results10,go_sem,e0,e1,e2,e3,e4,e5,e6,e7,e8,e9,C,B,A,K,PZ.cells]) rfl ?_
   unfold zgH
   rw [HF.out]
   exact ⟨rfl,i.out⟩
 |true=>
  go_wp2_with fail
  rw [←S]
  clear S d0 O d2 d3 d4 d5 d6 d7 d8 d9 D G H
  refine (qe.out _).mono ?_
  rintro e y1 ⟨rfl,qj⟩
  have J:=yoM (q.out.keep qj)
  clear q qj qe
  cases qk with
  |false=>
   have HF:Hid (res=(zaY,5)):=E.out
   clear E X Y
   obtain ⟨d0,O,d2,d3,d4,d5,d6,d7,d8,d9,D,G,H⟩:=J.out.row.all
   obtain ⟨r0,r1,r2,r3,r4,r5,r6,r7,r8,r9,N,U,T⟩:=J.out.res.all
   have rf:=J.out.res.frozen
   have g:=zbU J.out.below J.out.hR zaY
   have f:=zbT J.out.res zaY _ rfl
   unfold zcZ at g f
   have i:=yoM g
   have j:=yoM f
   clear g f J
   dsimp only [zaY] at i j
   go_wp2
   obtain ⟨e0,e1,e2,e3,e4,e5,e6,e7,e8,e9,C,B,A⟩:=j.out
   refine bodyPost_ret (v:= .tuple #[.agg (PZ.cells zaY),.int .i64 5]) (by simp [results,Tryz.results10,go_sem,e0,e1,e2,e3,e4,e5,e6,e7,e8,e9,C,B,A,zaY,PZ.cells]) rfl ?_
   unfold zgH
   rw [HF.out]
   exact ⟨rfl,i.out⟩
  |true=>
   have q:=yoM J.out
   clear J
   obtain ⟨d0,O,d2,d3,d4,d5,d6,d7,d8,d9,D,G,H⟩:=q.out.row.all
   rw [K] at O
   go_wp2_with fail
   clear d0 O d2 d3 d4 d5 d6 d7 d8 d9 D G H
   have o:=yoM (Y.out _ (X.out _ q.out.below))
   unfold PZ.cells at o
   rw [K] at o
   refine o.out.mono ?_
   rintro e y2 ⟨rfl,V⟩
   have d:=yoM (q.out.keep V)
   clear q V Y X o
   cases qh with
   |false=>
    have HF:Hid (res=(zaY,11)):=E.out
    clear E
    obtain ⟨d0,O,d2,d3,d4,d5,d6,d7,d8,d9,D,G,H⟩:=d.out.row.all
    obtain ⟨r0,r1,r2,r3,r4,r5,r6,r7,r8,r9,N,U,T⟩:=d.out.res.all
    have rf:=d.out.res.frozen
    have g:=zbU d.out.below d.out.hR zaY
    have f:=zbT d.out.res zaY _ rfl
    unfold zcZ at g f
    have i:=yoM g
    have j:=yoM f
    clear g f d
    dsimp only [zaY] at i j
    go_wp2
    obtain ⟨e0,e1,e2,e3,e4,e5,e6,e7,e8,e9,C,B,A⟩:=j.out
    refine bodyPost_ret (v:= .tuple #[.agg (PZ.cells zaY),.int .i64 11]) (by simp [results,Tryz.results10,go_sem,e0,e1,e2,e3,e4,e5,e6,e7,e8,e9,C,B,A,zaY,PZ.cells]) rfl ?_
    unfold zgH
    rw [HF.out]
    exact ⟨rfl,i.out⟩
   |true=>
    have HF:Hid (res=(p,0)):=E.out
    clear E
    obtain ⟨d0,O,d2,d3,d4,d5,d6,d7,d8,d9,D,G,H⟩:=d.out.row.all
    obtain ⟨r0,r1,r2,r3,r4,r5,r6,r7,r8,r9,N,U,T⟩:=d.out.res.all
    have rf:=d.out.res.frozen
    have g:=zbU d.out.below d.out.hR p
    have f:=zbT d.out.res p _ rfl
    unfold zcZ at g f
    have i:=yoM g
    have j:=yoM f
    clear g f d
    rw [K] at O i j
    go_wp2
    obtain ⟨e0,e1,e2,e3,e4,e5,e6,e7,e8,e9,C,B,A⟩:=j.out
    refine bodyPost_ret (v:= .tuple #[.agg (PZ.cells p),.int .i64 0]) (by simp [results,Tryz.results10,go_sem,e0,e1,e2,e3,e4,e5,e6,e7,e8,e9,C,B,A,K,PZ.cells]) rfl ?_
    unfold zgH
    rw [HF.out]
    exact ⟨rfl,i.out⟩
end
end Go.Proofs.YtegmcmgndllmaaaGreatDoor
