/-
  What the law AuthorityAgrees leans on, and its walk (24 of 43).
-/
import Derived.Shelf.Abstract
import Derived.Test.YtegmcmgndllmaaaGreatDoorAuthorityAgreesPkT
import Derived.Test.YtegmcmgndllmaaaGreatDoorAuthorityAgreesPkG
import Derived.Test.YtegmcmgndllmaaaGreatDoorAuthorityAgreesPkX
namespace Go.Proofs.YtegmcmgndllmaaaGreatDoor
set_option maxRecDepth 100000
set_option maxHeartbeats 16000000
abbrev yoI := @Lib.hid
abbrev yoJ := @decide_eq_false
abbrev yoK := @decide_eq_true
abbrev yoL := @List.mem_cons_self
section
open Go.RowKit
def MB (w:World) (M:Nat) (l:List UInt8):Prop:=w.heap[M]? =some (.cells #[.string ⟨l.toArray⟩] 145)
theorem MB.only {w w':World} {F:List Nat} {M:Nat} {l:List UInt8} (h:MB w M l) (d:Only F w w') (e:M∉F):MB w' M l:=(d.block M (zaK h) e).trans h
theorem MB.below {w w':World} {M:Nat} {l:List UInt8} (h:MB w M l) (d:Below w.heap.size w w'):MB w' M l:=(d.block M (zaK h)).trans h
theorem MB.cell {w:World} {M:Nat} {l:List UInt8} (h:MB w M l):w.cell? ⟨M,0,none⟩=some (.string ⟨l.toArray⟩):=zaA h 0
theorem MB.set {w:World} {M:Nat} {l:List UInt8} (h:MB w M l) (m:List UInt8):MB (w.setCell ⟨M,0,none⟩ (.string ⟨m.toArray⟩)) M m:=zaL h 0 _
theorem Only.iterAt {F:List Nat} {a b:World} {k:Nat} (h:Only F a b) (e:a.heap.size≤k) (s:ByteArray) (p:Nat):Only F a (b.iterAt k s p):=
 ⟨h.os,h.tape,h.output,by rw [Lib.iterAt_size];exact h.size,fun j d hF=>(Lib.iterAt_other _ _ _ _ _ (by omega)).trans (h.block j d hF)⟩
theorem zpY (l:List UInt8) (n:Nat) (h:n≤l.length): ∀W,(Instr.slice 9 (.string ⟨l.toArray⟩) none (some (.int .i64 (n:Int))) none).run Tryz.prog W= .ok (.string ⟨(l.take n).toArray⟩) W:=fun W=>by
 have d:(ByteArray.mk l.toArray).size=l.length:=by simp [ByteArray.size]
 rw [run_slice_string_to_if W 9 _ .i64 _ Tryz.underlying9,if_pos (by rw [d];omega)]
 have:(ByteArray.mk l.toArray).extract 0 n=⟨(l.take n).toArray⟩:=by
  apply ByteArray.ext;simp
 simp [this]
theorem zgQ (l:List UInt8) (n:Nat) (h:n≤l.length): ∀W,(Instr.slice 9 (.string ⟨l.toArray⟩) (some (.int .i64 (n:Int))) none none).run Tryz.prog W= .ok (.string ⟨(l.drop n).toArray⟩) W:=fun W=>by
 have d:(ByteArray.mk l.toArray).size=l.length:=by simp [ByteArray.size]
 rw [zpJ W 9 _ (n:Int) n rfl (by rw [d];exact h) Tryz.underlying9]
 have:(ByteArray.mk l.toArray).extract n (ByteArray.mk l.toArray).size=⟨(l.drop n).toArray⟩:=by
  apply ByteArray.ext;rw [d];simp [List.take_of_length_le]
 rw [this]
theorem zmF (l:List UInt8) (k:Nat) (h:k<l.length): ∀W,(Instr.slice 9 (.string ⟨l.toArray⟩) (some (.int .i64 ((k:Int)+1))) none none).run Tryz.prog W= .ok (.string ⟨(l.drop (k+1)).toArray⟩) W:=zgQ l (k+1) h
def Ends {g:Type} (F:List Nat) (w:World) (d:g→World→Prop) (sr:g→Nat→Bool×g) (f:FuncId) (j:Array Value):Prop:=
 ∀(W:World) (s:g) (r:Nat),Only F w W→d s W→isB (r:Int)=true→Calls Tryz.prog f (#[.int .i32 (r:Int)]++j) W fun e i=>e= .returned (.bool (sr s r).1)∧Only F W i∧d (sr s r).2 i
def RetU (w:World) (F:List Nat) (M:Nat) (d left:List UInt8) (e:Ending) (w':World):Prop:=e= .returned (.string ⟨d.toArray⟩)∧MB w' M left∧Only (M::F) w w'
theorem ztF {w x:World} {F:List Nat} {M n:Nat} {l:List UInt8} (f:MB x M l) (d:Only F w x):MB (x.setCell ⟨M,0,none⟩ (.string ⟨(l.drop n).toArray⟩)) M (l.drop n)∧Only (M::F) w (x.setCell ⟨M,0,none⟩ (.string ⟨(l.drop n).toArray⟩)):=
 ⟨f.set _,(d.mono (fun _ e=>List.mem_cons_of_mem _ e)).setCell (p:=⟨M,0,none⟩) (.inl (yoL ..)) _⟩
theorem zjJ {T:Type} {sr:T→Nat→Bool×T} {st:T→UInt8→Option T} (H:zvV sr st) (F:List Nat) (A:T→World→Prop) (f:FuncId) (lb:Array Value) (ef: ∀args w,(callFunc f args).run Tryz.prog w= .ok (.enter f args) w)
  (M:Nat) (l:List UInt8) (I:T) (w:World) (hm:MB w M l) (qk:M∉F) (hF: ∀b∈F,b<w.heap.size) (Q:A I w) (D: ∀s W m,A s W→(∀b∈F,m.heap[b]? =W.heap[b]?)→A s m) (hE:Ends F w A sr f lb):
  Calls Tryz.prog 86 #[.pointer (some ⟨M,0,none⟩),.func (.func f) #[] lb] w (RetU w F M (l.take (zbX st I l)) (l.drop (zbX st I l))):=by
 have qo:=zaK hm
 have hz:(ByteArray.mk l.toArray).size=l.length:=by simp [ByteArray.size]
 have Z:=yoI (fun W (O:Only F w W)=>hm.only O qk)
 have qf:=hm.cell
 have HK:=yoI D
 have HC:=yoI Q
 have HE:=yoI hE
 have HF:=yoI hF
 clear hm D Q hE hF
 go_enter Tryz.func86,Tryz.ntmps86
 go_wp2
 go_loopg [5] l.length (fun gf o wx=> ∃(d:Nat) (s:T),o= .int .i64 (l.length:Nat)∧wx.heap[w.heap.size]? =some (.stringIter ⟨l.toArray⟩ d)∧Only F w wx∧Hid (A s wx)∧d≤l.length∧Hid (zbX st I l=d+zbX st s (l.drop d))∧l.length≤d+gf)
 case atStart=>
  refine ⟨0,I,rfl,World.iter_heap w _ 0,(Only.refl F w).alloc _,?_,Nat.zero_le _,?_,by omega⟩
  ·exact HK.out _ _ _ HC.out (fun b E=>((Below.refl _ w).alloc (Nat.le_refl _) _).block b (HF.out b E))
  ·show _=_;simp
 case round=>
  obtain ⟨d,s,rfl,G,O,qb,qa,HS,qp⟩:=hrel
  by_cases qj:d<l.length
  ·obtain ⟨g',rfl⟩: ∃g',gk=g'+1:=⟨gk - 1,by omega⟩
   have i:d<(ByteArray.mk l.toArray).size:=by rw [hz];exact qj
   have qi: ∀V,(Instr.next (.pointer (some ⟨w.heap.size,0,none⟩)) true V).run Tryz.prog wr=_:=fun V=>Lib.run_next_any_at wr w.heap.size _ d V G i
   have ql:=zeP _ d i
   have J:=z7W H ⟨l.toArray⟩ d i s
   have q:=ylD H ⟨l.toArray⟩ d i s
   have U:(sr s (Utf8.decode ⟨l.toArray⟩ d).1).1=false→d+(Utf8.decode ⟨l.toArray⟩ d).2≤l.length:=fun e=>by
    have h1:=q e
    have h2:=zwJ st ((ByteArray.mk l.toArray).data.toList.drop d) s
    rw [h1,List.length_drop] at h2
    rw [zaM] at h2
    omega
   have hB:=zfY ⟨l.toArray⟩ d
   rw [zaM] at J q
   obtain ⟨R,hR⟩: ∃R,(Utf8.decode ⟨l.toArray⟩ d).1=R:=⟨_,rfl⟩
   obtain ⟨K,hK⟩: ∃K,(Utf8.decode ⟨l.toArray⟩ d).2=K:=⟨_,rfl⟩
   rw [hR] at J q hB U
   rw [hK] at q U ql
   rw [hR,hK] at qi
   have C:=Lib.iterAt_heap wr w.heap.size _ d (d+K) G
   have L:=O.iterAt (Nat.le_refl _) ⟨l.toArray⟩ (d+K)
   have qc:Hid (A s (wr.iterAt w.heap.size ⟨l.toArray⟩ (d+K))):=HK.out _ _ _ qb.out (fun b E=>Lib.iterAt_other _ _ _ _ _ (by have:=HF.out b E;omega))
   generalize wr.iterAt w.heap.size ⟨l.toArray⟩ (d+K)=W at*
   have N:=yoI (HE.out W s R L qc.out hB)
   have qq:=L.size
   have qe:Hid (∀m,Only F W m→m.heap[w.heap.size]? =some (.stringIter ⟨l.toArray⟩ (d+K))∧Only F w m∧m.cell? ⟨M,0,none⟩=some (.string ⟨l.toArray⟩)∧m.frozen? ⟨M,0,none⟩=false):=fun m B=>by
    have Y:Only F w m:=L.trans B (fun x hx=> .inl hx)
    have j:=(B.block w.heap.size (zaK C) (fun g=>by have:=HF.out _ g;omega)).trans C
    exact ⟨j,Y,(Z.out _ Y).cell,zaT (Z.out _ Y) 0⟩
   have HW:=yoI (fun m (Y:Only F w m)=>ztF (n:=zbX st I l) (Z.out _ Y) Y)
   have HG:=yoI q
   have HT:=yoI J
   clear G O C L q J qb qc HC HE hB hR hK qf
   cases E:(sr s R).1 with
   |false=>
    have qn:=U E
    have qm:=yoI (HS.out.trans (by rw [HG.out E,Nat.add_assoc]:_=d+K+zbX st (sr s R).2 (l.drop (d+K))))
    rw [E] at N
    go_wp2_with (go_at_fn f;refine N.out.mono ?_;rintro e m ⟨rfl,B,qh⟩;obtain ⟨j,S,-,-⟩:=qe.out _ B)
    go_roundg g'
    case measure=>omega
    case rel=>exact ⟨d+K,(sr s R).2,rfl,j,S,qh,by omega,qm.out,by omega⟩
   |true=>
    have X:zbX st I l=d:=by rw [HS.out,HT.out E];rfl
    rw [X] at HW
    have HN:=yoI X
    clear X
    have qg:=zpY l d qa
    have qd:=zgQ l d qa
    rw [E] at N
    go_wp2_with (go_at_fn f;refine N.out.mono ?_;rintro e m ⟨rfl,B,qh⟩;obtain ⟨j,S,c1,f1⟩:=qe.out _ B)
    go_ret
    rw [HN.out]
    exact ⟨rfl,HW.out _ S⟩
  ·have i: ¬d<(ByteArray.mk l.toArray).size:=by rw [hz];exact qj
   have qi: ∀V,(Instr.next (.pointer (some ⟨w.heap.size,0,none⟩)) true V).run Tryz.prog wr=_:=fun V=>Lib.run_next_end_at wr w.heap.size _ d V G i
   have X:zbX st I l=l.length:=by
    rw [HS.out,List.drop_eq_nil_of_le (by omega)]
    show d+0=_
    omega
   have HW:=yoI (ztF (n:=zbX st I l) (Z.out _ O) O)
   have qg:=zpY l l.length (Nat.le_refl _)
   have qd:=zgQ l l.length (Nat.le_refl _)
   rw [X,List.drop_length] at HW
   rw [List.take_length] at qg
   rw [List.drop_length] at qd
   have HN:=yoI X
   have c1:=(Z.out _ O).cell
   have f1:=zaT (Z.out _ O) 0
   clear qf X
   go_wp2
   go_ret
   rw [HN.out,List.drop_length,List.take_length]
   exact ⟨rfl,HW.out⟩
def hd1 (of_:List UInt8):List UInt8→Bool
 |[]=>false
 |c::_=>hasB of_ c
def RetK (w:World) (M:Nat) (b:Bool) (left:List UInt8) (e:Ending) (w':World):Prop:=e= .returned (.bool b)∧MB w' M left∧Only [M] w w'
theorem zgC (M:Nat) (l of_:List UInt8) (w:World) (d:MB w M l):
  Calls Tryz.prog 152 #[.pointer (some ⟨M,0,none⟩),.string ⟨of_.toArray⟩] w (RetK w M (hd1 of_ l) (if hd1 of_ l=true then l.drop 1 else l)):=by
 have D:=d.cell
 have H:=zaT d 0
 match l,d with
 |[],d=>
  have A:=yoI d
  clear d
  go_enter Tryz.func152,Tryz.ntmps152
  go_wp2
  go_ret
  exact ⟨rfl,A.out,Only.refl _ _⟩
 |c::r,d=>
  have N:Hid (MB (w.setCell ⟨M,0,none⟩ (.string ⟨r.toArray⟩)) M r∧Only [M] w (w.setCell ⟨M,0,none⟩ (.string ⟨r.toArray⟩))):=⟨d.set _,(Only.refl _ w).setCell (p:=⟨M,0,none⟩) (.inl (yoL ..)) _⟩
  have A:=yoI d
  have B:=zgQ (c::r) 1 (by simp)
  have O:(ByteArray.mk (c::r).toArray).size=r.length+1:=by simp [ByteArray.size]
  have Q:0<(ByteArray.mk (c::r).toArray).size:=by rw [O];omega
  have L:(ByteArray.mk (c::r).toArray)[0]=c:=rfl
  have E:(c::r).isEmpty=false:=rfl
  have G:Hid ((c::r).drop 1=r):=rfl
  have K: ∀W,(Instr.slice 9 (.string ⟨(c::r).toArray⟩) (some (.int .i64 1)) none none).run Tryz.prog W= .ok (.string ⟨r.toArray⟩) W:=B
  have C:Hid (∀W,Calls Tryz.prog 184 #[.string ⟨of_.toArray⟩,.int .u8 (c.toNat:Int)] W fun e w'=>e= .returned (.int .i64 (Lib.indexByte of_ c))∧W=w'):=fun W=>(Tryz.strings_IndexByte ⟨of_.toArray⟩ (c.toNat:Int) W).mono (fun e w' h=>⟨by rw [h.1,zgK],h.2.symm⟩)
  have f:=(zcG of_ c).1
  have g:=(zcG of_ c).2
  have i:Hid (hd1 of_ (c::r)=hasB of_ c):=rfl
  clear d B
  generalize m:hasB of_ c=J at*
  clear m
  generalize c::r=q at*
  generalize Lib.indexByte of_ c=I at*
  cases J with
  |true=>
   have j:=f rfl
   have S:decide (I<0)=false:=yoJ (by omega)
   have o:Hid (hd1 of_ q=true):=i.out
   clear f g j i
   rw [o.out,if_pos rfl]
   go_enter Tryz.func152,Tryz.ntmps152
   go_wp2_with fail
   refine (C.out _).mono ?_
   rintro e w' ⟨rfl,rfl⟩
   go_wp2
   go_ret
   rw [G.out]
   exact ⟨rfl,N.out⟩
  |false=>
   have j:=g rfl
   subst j
   have o:Hid (hd1 of_ q=false):=i.out
   clear f g i
   rw [o.out,if_neg (by decide)]
   go_enter Tryz.func152,Tryz.ntmps152
   go_wp2_with fail
   refine (C.out _).mono ?_
   rintro e w' ⟨rfl,rfl⟩
   go_wp2
   go_ret
   exact ⟨rfl,A.out,Only.refl _ _⟩
def zfX (of_:List UInt8) (r:Nat):Bool:=decide (r<128)&&hasB of_ (UInt8.ofNat r)
theorem zwN {of_:List UInt8} {r:Nat} (h:r<128):decide (0≤Lib.indexByte of_ (r:Int).toNat.toUInt8)=zfX of_ r:=by
 unfold zfX
 rw [yoK h,Bool.true_and]
 show decide (0≤Lib.indexByte of_ (UInt8.ofNat r))=_
 cases e:hasB of_ (UInt8.ofNat r) with
 |true=>rw [yoK ((zcG _ _).1 e)]
 |false=>rw [(zcG _ _).2 e];rfl
theorem zyR {of_:List UInt8} (h: ∀c∈of_,c.toNat<128):Asc ⟨of_.toArray⟩:=fun k d=>h _ (by
 have e:(ByteArray.mk of_.toArray)[k]=of_[k]'(by simpa [ByteArray.size] using d):=rfl
 rw [e];exact List.getElem_mem _)
theorem zcE (of_:List UInt8) (h: ∀c∈of_,c.toNat<128) (r:Nat) (g:isB (r:Int)=true) (w:World):
  Calls Tryz.prog 88 #[.string ⟨of_.toArray⟩,.int .i32 (r:Int)] w (zbE w (zfX of_ r)):=by
 by_cases f:r<128
 ·refine (Tryz.strings_ContainsRune_ascii _ _ w (by omega) (by omega)).mono ?_
  rintro e w' ⟨rfl,rfl⟩
  exact zaE (zwN (of_:=of_) f).symm (Below.refl _ _)
 ·have i:Hid (zfX of_ r=false):=by show _=_;unfold zfX;rw [yoJ f];rfl
  have j:=yoI (zjM ⟨of_.toArray⟩ (zyR h) (r:Int) w (by omega) g)
  clear f g
  generalize (r:Int)=m at*
  go_enter Tryz.func88,Tryz.ntmps88
  go_wp2_with fail
  refine j.out.mono ?_
  rintro e o ⟨rfl,d⟩
  go_wp2
  go_ret
  exact zaE i.out d
theorem z7L: ∀c∈([47,92]:List UInt8),c.toNat<128:=by decide
theorem z5B (r:Nat):(zpO () r).1= !zfX [47,92] r:=by
 unfold zpO zfX
 by_cases h:r<128
 ·have e: ∀d:Fin 128,(decide (d.val=47)||decide (d.val=92))=hasB [47,92] (UInt8.ofNat d.val):=by decide+kernel
  rw [yoK h,Bool.true_and]
  exact congrArg (!·) (e ⟨r,h⟩)
 ·rw [yoJ h,yoJ (by omega),yoJ (by omega)];rfl
theorem yhT (w:World):Ends [] w (fun (_:Unit) _=>True) zpO 87 #[]:=by
 intro W s r j _ f
 have i:=yoI (z5B r)
 have g:=yoI (zcE [47,92] z7L r f W)
 show Calls _ _ #[.int .i32 (r:Int)] _ _
 generalize zfX [47,92] r=b at*
 generalize (r:Int)=m at*
 go_enter Tryz.func87,Tryz.ntmps87
 go_wp2_with fail
 refine g.out.mono ?_
 rintro e o ⟨rfl,d⟩
 go_wp2
 go_ret
 exact ⟨by rw [i.out];rfl,Only.of_below d,trivial⟩
theorem yjO (of_:List UInt8) (h: ∀c∈of_,c.toNat<128) (B:Nat) (w:World) (m:B<w.heap.size) (g:w.cell? ⟨B,0,none⟩=some (.string ⟨of_.toArray⟩)):
  Ends [] w (fun (_:Unit) _=>True) (ycP of_) 223 #[.pointer (some ⟨B,0,none⟩)]:=by
 intro W s r f _ i
 have j:W.cell? ⟨B,0,none⟩=some (.string ⟨of_.toArray⟩):=by
  have q:Below w.heap.size w W:=f.below (Nat.le_refl _) (fun x o=>by cases o)
  exact (q.cell (p:=⟨B,0,none⟩) m).trans g
 have C:Hid ((ycP of_ () r).1=zfX of_ r):=rfl
 have A:=yoI (zcE of_ h r i W)
 clear f g h
 show Calls _ _ #[.int .i32 (r:Int),.pointer (some ⟨B,0,none⟩)] _ _
 generalize zfX of_ r=b at*
 generalize (r:Int)=E at*
 go_enter Tryz.func223,Tryz.ntmps223
 go_wp2_with fail
 refine A.out.mono ?_
 rintro e D ⟨rfl,d⟩
 go_wp2
 go_ret
 exact ⟨by rw [C.out];rfl,Only.of_below d,trivial⟩
def CapB (B:Nat) (s:Bool) (W:World):Prop:=W.heap[B]? =some (.cells #[.bool s] 4)
theorem CapB.set {B:Nat} {s:Bool} {W:World} (h:CapB B s W) (t:Bool):CapB B t (W.setCell ⟨B,0,none⟩ (.bool t)):=zaL h 0 _
theorem ylI (B:Nat) (w:World):Ends [B] w (CapB B) ztN 151 #[.pointer (some ⟨B,0,none⟩)]:=by
 intro W s r H j E
 have A:=zaK j
 have q:Hid ((ztN s r).1= !(zbY r||(s&&(zaU r||zfX [43,45,46] r)))):=by
  have e:(decide (r=43)||decide (r=45)||decide (r=46))=zfX [43,45,46] r:=by
   unfold zfX
   by_cases h:r<128
   ·have D: ∀d:Fin 128,(decide (d.val=43)||decide (d.val=45)||decide (d.val=46))=hasB [43,45,46] (UInt8.ofNat d.val):=by decide+kernel
    rw [yoK h,Bool.true_and]
    exact D ⟨r,h⟩
   ·rw [yoJ h,yoJ (by omega),yoJ (by omega),yoJ (by omega)];rfl
  show _=_
  unfold ztN
  rw [e]
 have O:=yoI (fun W=>zcE [43,45,46] (by decide) r E W)
 have Q:=yoI (fun (x:World) (G:Below W.heap.size W x)=>(And.intro ((G.block B A).trans j) G:CapB B s x∧Below W.heap.size W x))
 have o:Hid (∀x,CapB B s x→Below W.heap.size W x→Only [B] W (x.setCell ⟨B,0,none⟩ (.bool true))∧CapB B true (x.setCell ⟨B,0,none⟩ (.bool true))):=fun x M I=>⟨((Only.of_below (F:=[]) I).mono (fun _ h=>by cases h)).setCell (p:=⟨B,0,none⟩) (.inl (yoL ..)) _,M.set true⟩
 have N:=zaA j 0
 have T:=zaT j 0
 simp at N
 have g:=yoI j
 show Calls _ _ #[.int .i32 (r:Int),.pointer (some ⟨B,0,none⟩)] _ _
 clear H j E
 generalize zfX [43,45,46] r=b at*
 have L:=yoI (fun W=>zoB (r:Int) W)
 have C:=yoI (fun W=>zbO (r:Int) W)
 have f:Hid ((ztN s r).2=true):=rfl
 generalize zbY (r:Int)=S at*
 generalize zaU (r:Int)=J at*
 generalize ztN s r=res at*
 generalize (r:Int)=V at*
 go_enter Tryz.func151,Tryz.ntmps151
 go_wp2_with fail
 refine (L.out _).mono ?_
 rintro e w' ⟨rfl,rfl⟩
 cases S with
 |true=>
  go_wp2
  go_ret
  exact ⟨by rw [q.out];rfl,by rw [f.out];exact o.out _ g.out (Below.refl _ _)⟩
 |false=>
  cases s with
  |false=>
   go_wp2
   go_ret
   exact ⟨by rw [q.out];rfl,by rw [f.out];exact o.out _ g.out (Below.refl _ _)⟩
  |true=>
   go_wp2_with fail
   refine (C.out _).mono ?_
   rintro e w' ⟨rfl,rfl⟩
   cases J with
   |true=>
    go_wp2
    go_ret
    exact ⟨by rw [q.out];rfl,by rw [f.out];exact o.out _ g.out (Below.refl _ _)⟩
   |false=>
    go_wp2_with fail
    refine (O.out _).mono ?_
    rintro e U ⟨rfl,m⟩
    obtain ⟨i,-⟩:=Q.out _ m
    have X:=zaT i 0
    have K:=zaA i 0
    simp at K
    go_wp2
    go_ret
    exact ⟨by rw [q.out];rfl,by rw [f.out];exact o.out _ i m⟩
theorem yeK (B:Nat) (w:World):Ends [B] w (CapB B) zpN 271 #[.pointer (some ⟨B,0,none⟩)]:=by
 intro W s r C g D
 have q:Hid (∀t,Only [B] W (W.setCell ⟨B,0,none⟩ (.bool t))∧CapB B t (W.setCell ⟨B,0,none⟩ (.bool t))):=fun t=>⟨(Only.refl _ W).setCell (p:=⟨B,0,none⟩) (.inl (yoL ..)) _,g.set t⟩
 have E:=zaA g 0
 have H:=zaT g 0
 simp at E
 have j:=yoI g
 have A: ∀t,(W.setCell ⟨B,0,none⟩ (.bool t)).cell? ⟨B,0,none⟩=some (.bool t):=fun t=>zaA (g.set t) 0
 show Calls _ _ #[.int .i32 (r:Int),.pointer (some ⟨B,0,none⟩)] _ _
 clear C g D
 by_cases f:r=91
 ·subst f
  have m:=A true
  go_enter Tryz.func271,Tryz.ntmps271
  go_wp2
  go_ret
  exact ⟨rfl,q.out true⟩
 ·by_cases e:r=93
  ·subst e
   have m:=A false
   go_enter Tryz.func271,Tryz.ntmps271
   go_wp2
   go_ret
   exact ⟨rfl,q.out false⟩
  ·have i:Hid (zpN s r=(decide (r=58)&& !s,s)):=by show _=_;unfold zpN inH;rw [if_neg f,if_neg e]
   have G:((r:Int)==91)=false:=beq_eq_false_iff_ne.2 (by omega)
   have J:((r:Int)==93)=false:=beq_eq_false_iff_ne.2 (by omega)
   by_cases d:r=58
   ·subst d
    go_enter Tryz.func271,Tryz.ntmps271
    go_wp2
    go_ret
    exact ⟨by rw [i.out];cases s<;>rfl,Only.refl _ _,by rw [i.out];exact j.out⟩
   ·have K:((r:Int)==58)=false:=beq_eq_false_iff_ne.2 (by omega)
    have o:decide (r=58)=false:=yoJ d
    rw [o] at i
    clear d f e o
    generalize (r:Int)=I at*
    go_enter Tryz.func271,Tryz.ntmps271
    go_wp2
    go_ret
    exact ⟨by rw [i.out];rfl,Only.refl _ _,by rw [i.out];exact j.out⟩
end
end Go.Proofs.YtegmcmgndllmaaaGreatDoor
