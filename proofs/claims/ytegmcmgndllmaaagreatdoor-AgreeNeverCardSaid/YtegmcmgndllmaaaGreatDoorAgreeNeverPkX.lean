/-
  What the law AgreeNever leans on, and its walk (23 of 42).
-/
import Derived.Shelf.Abstract
import Derived.Test.YtegmcmgndllmaaaGreatDoorAgreeNeverPkU
import Derived.Test.YtegmcmgndllmaaaGreatDoorAgreeNeverPkG
import Derived.Test.YtegmcmgndllmaaaGreatDoorAgreeNeverPkV
namespace Go.Proofs.YtegmcmgndllmaaaGreatDoor
set_option maxRecDepth 100000
set_option maxHeartbeats 16000000
abbrev ylC := @Lib.hid
abbrev ylD := @decide_eq_false
abbrev ylE := @decide_eq_true
abbrev ylF := @List.mem_cons_self
section
open Go.RowKit
def MB (w:World) (M:Nat) (l:List UInt8):Prop:=w.heap[M]? =some (.cells #[.string ⟨l.toArray⟩] 145)
theorem MB.only {w w':World} {F:List Nat} {M:Nat} {l:List UInt8} (h:MB w M l) (d:Only F w w') (f:M∉F):MB w' M l:=(d.block M (zaD h) f).trans h
theorem MB.below {w w':World} {M:Nat} {l:List UInt8} (h:MB w M l) (d:Below w.heap.size w w'):MB w' M l:=(d.block M (zaD h)).trans h
theorem MB.cell {w:World} {M:Nat} {l:List UInt8} (h:MB w M l):w.cell? ⟨M,0,none⟩=some (.string ⟨l.toArray⟩):=zaB h 0
theorem MB.set {w:World} {M:Nat} {l:List UInt8} (h:MB w M l) (m:List UInt8):MB (w.setCell ⟨M,0,none⟩ (.string ⟨m.toArray⟩)) M m:=zaK h 0 _
theorem Only.iterAt {F:List Nat} {a b:World} {k:Nat} (h:Only F a b) (f:a.heap.size≤k) (s:ByteArray) (p:Nat):Only F a (b.iterAt k s p):=
 ⟨h.os,h.tape,h.output,by rw [Lib.iterAt_size];exact h.size,fun j d hF=>(Lib.iterAt_other _ _ _ _ _ (by omega)).trans (h.block j d hF)⟩
theorem zmL (l:List UInt8) (n:Nat) (h:n≤l.length): ∀W,(Instr.slice 9 (.string ⟨l.toArray⟩) none (some (.int .i64 (n:Int))) none).run Tryz.prog W= .ok (.string ⟨(l.take n).toArray⟩) W:=fun W=>by
 have d:(ByteArray.mk l.toArray).size=l.length:=by simp [ByteArray.size]
 rw [run_slice_string_to_if W 9 _ .i64 _ Tryz.underlying9,if_pos (by rw [d];omega)]
 have:(ByteArray.mk l.toArray).extract 0 n=⟨(l.take n).toArray⟩:=by
  apply ByteArray.ext;simp
 simp [this]
theorem zfA (l:List UInt8) (n:Nat) (h:n≤l.length): ∀W,(Instr.slice 9 (.string ⟨l.toArray⟩) (some (.int .i64 (n:Int))) none none).run Tryz.prog W= .ok (.string ⟨(l.drop n).toArray⟩) W:=fun W=>by
 have d:(ByteArray.mk l.toArray).size=l.length:=by simp [ByteArray.size]
 rw [zpH W 9 _ (n:Int) n rfl (by rw [d];exact h) Tryz.underlying9]
 have:(ByteArray.mk l.toArray).extract n (ByteArray.mk l.toArray).size=⟨(l.drop n).toArray⟩:=by
  apply ByteArray.ext;rw [d];simp [List.take_of_length_le]
 rw [this]
theorem zmJ (l:List UInt8) (k:Nat) (h:k<l.length): ∀W,(Instr.slice 9 (.string ⟨l.toArray⟩) (some (.int .i64 ((k:Int)+1))) none none).run Tryz.prog W= .ok (.string ⟨(l.drop (k+1)).toArray⟩) W:=zfA l (k+1) h
def Ends {i:Type} (F:List Nat) (w:World) (d:i→World→Prop) (sr:i→Nat→Bool×i) (f:FuncId) (m:Array Value):Prop:=
 ∀(W:World) (s:i) (r:Nat),Only F w W→d s W→isB (r:Int)=true→Calls Tryz.prog f (#[.int .i32 (r:Int)]++m) W fun e j=>e= .returned (.bool (sr s r).1)∧Only F W j∧d (sr s r).2 j
def RetU (w:World) (F:List Nat) (M:Nat) (d left:List UInt8) (e:Ending) (w':World):Prop:=e= .returned (.string ⟨d.toArray⟩)∧MB w' M left∧Only (M::F) w w'
theorem ztB {w x:World} {F:List Nat} {M n:Nat} {l:List UInt8} (f:MB x M l) (i:Only F w x):MB (x.setCell ⟨M,0,none⟩ (.string ⟨(l.drop n).toArray⟩)) M (l.drop n)∧Only (M::F) w (x.setCell ⟨M,0,none⟩ (.string ⟨(l.drop n).toArray⟩)):=
 ⟨f.set _,(i.mono (fun _ d=>List.mem_cons_of_mem _ d)).setCell (p:=⟨M,0,none⟩) (.inl (ylF ..)) _⟩
theorem zjV {V:Type} {sr:V→Nat→Bool×V} {st:V→UInt8→Option V} (H:zuY sr st) (F:List Nat) (C:V→World→Prop) (f:FuncId) (lb:Array Value) (ef: ∀args w,(callFunc f args).run Tryz.prog w= .ok (.enter f args) w)
  (M:Nat) (l:List UInt8) (O:V) (w:World) (hm:MB w M l) (qm:M∉F) (hF: ∀b∈F,b<w.heap.size) (U:C O w) (E: ∀s W j,C s W→(∀b∈F,j.heap[b]? =W.heap[b]?)→C s j) (hE:Ends F w C sr f lb):
  Calls Tryz.prog 86 #[.pointer (some ⟨M,0,none⟩),.func (.func f) #[] lb] w (RetU w F M (l.take (zcB st O l)) (l.drop (zcB st O l))):=by
 have qq:=zaD hm
 have hz:(ByteArray.mk l.toArray).size=l.length:=by simp [ByteArray.size]
 have HM:=ylC (fun W (S:Only F w W)=>hm.only S qm)
 have qb:=hm.cell
 have HK:=ylC E
 have HC:=ylC U
 have HE:=ylC hE
 have HF:=ylC hF
 clear hm E U hE hF
 go_enter Tryz.func86,Tryz.ntmps86
 go_wp2
 go_loopg [5] l.length (fun gf o wx=> ∃(d:Nat) (s:V),o= .int .i64 (l.length:Nat)∧wx.heap[w.heap.size]? =some (.stringIter ⟨l.toArray⟩ d)∧Only F w wx∧Hid (C s wx)∧d≤l.length∧Hid (zcB st O l=d+zcB st s (l.drop d))∧l.length≤d+gf)
 case atStart=>
  refine ⟨0,O,rfl,World.iter_heap w _ 0,(Only.refl F w).alloc _,?_,Nat.zero_le _,?_,by omega⟩
  ·exact HK.out _ _ _ HC.out (fun b N=>((Below.refl _ w).alloc (Nat.le_refl _) _).block b (HF.out b N))
  ·show _=_;simp
 case round=>
  obtain ⟨d,s,rfl,I,S,qc,qd,HS,qp⟩:=hrel
  by_cases qj:d<l.length
  ·obtain ⟨g',rfl⟩: ∃g',gk=g'+1:=⟨gk - 1,by omega⟩
   have i:d<(ByteArray.mk l.toArray).size:=by rw [hz];exact qj
   have qa: ∀ty,(Instr.next (.pointer (some ⟨w.heap.size,0,none⟩)) true ty).run Tryz.prog wr=_:=fun ty=>Lib.run_next_any_at wr w.heap.size _ d ty I i
   have qk:=zeN _ d i
   have G:=yaK H ⟨l.toArray⟩ d i s
   have A:=yhG H ⟨l.toArray⟩ d i s
   have X:(sr s (Utf8.decode ⟨l.toArray⟩ d).1).1=false→d+(Utf8.decode ⟨l.toArray⟩ d).2≤l.length:=fun e=>by
    have h1:=A e
    have h2:=zvD st ((ByteArray.mk l.toArray).data.toList.drop d) s
    rw [h1,List.length_drop] at h2
    rw [zaQ] at h2
    omega
   have hB:=zgA ⟨l.toArray⟩ d
   rw [zaQ] at G A
   obtain ⟨R,hR⟩: ∃R,(Utf8.decode ⟨l.toArray⟩ d).1=R:=⟨_,rfl⟩
   obtain ⟨K,hK⟩: ∃K,(Utf8.decode ⟨l.toArray⟩ d).2=K:=⟨_,rfl⟩
   rw [hR] at G A hB X
   rw [hK] at A X qk
   rw [hR,hK] at qa
   have D:=Lib.iterAt_heap wr w.heap.size _ d (d+K) I
   have Q:=S.iterAt (Nat.le_refl _) ⟨l.toArray⟩ (d+K)
   have qg:Hid (C s (wr.iterAt w.heap.size ⟨l.toArray⟩ (d+K))):=HK.out _ _ _ qc.out (fun b N=>Lib.iterAt_other _ _ _ _ _ (by have:=HF.out b N;omega))
   generalize wr.iterAt w.heap.size ⟨l.toArray⟩ (d+K)=W at*
   have J:=ylC (HE.out W s R Q qg.out hB)
   have qo:=Q.size
   have qe:Hid (∀j,Only F W j→j.heap[w.heap.size]? =some (.stringIter ⟨l.toArray⟩ (d+K))∧Only F w j∧j.cell? ⟨M,0,none⟩=some (.string ⟨l.toArray⟩)∧j.frozen? ⟨M,0,none⟩=false):=fun j B=>by
    have h4:Only F w j:=Q.trans B (fun x hx=> .inl hx)
    have m:=(B.block w.heap.size (zaD D) (fun g=>by have:=HF.out _ g;omega)).trans D
    exact ⟨m,h4,(HM.out _ h4).cell,zaF (HM.out _ h4) 0⟩
   have HW:=ylC (fun j (h4:Only F w j)=>ztB (n:=zcB st O l) (HM.out _ h4) h4)
   have HG:=ylC A
   have HT:=ylC G
   clear I S D Q A G qc qg HC HE hB hR hK qb
   cases N:(sr s R).1 with
   |false=>
    have qn:=X N
    have ql:=ylC (HS.out.trans (by rw [HG.out N,Nat.add_assoc]:_=d+K+zcB st (sr s R).2 (l.drop (d+K))))
    rw [N] at J
    go_wp2_with (go_at_fn f;refine J.out.mono ?_;rintro e j ⟨rfl,B,qf⟩;obtain ⟨m,Y,-,-⟩:=qe.out _ B)
    go_roundg g'
    case measure=>omega
    case rel=>exact ⟨d+K,(sr s R).2,rfl,m,Y,qf,by omega,ql.out,by omega⟩
   |true=>
    have Z:zcB st O l=d:=by rw [HS.out,HT.out N];rfl
    rw [Z] at HW
    have HN:=ylC Z
    clear Z
    have qh:=zmL l d qd
    have qi:=zfA l d qd
    rw [N] at J
    go_wp2_with (go_at_fn f;refine J.out.mono ?_;rintro e j ⟨rfl,B,qf⟩;obtain ⟨m,Y,c1,f1⟩:=qe.out _ B)
    go_ret
    rw [HN.out]
    exact ⟨rfl,HW.out _ Y⟩
  ·have i: ¬d<(ByteArray.mk l.toArray).size:=by rw [hz];exact qj
   have qa: ∀ty,(Instr.next (.pointer (some ⟨w.heap.size,0,none⟩)) true ty).run Tryz.prog wr=_:=fun ty=>Lib.run_next_end_at wr w.heap.size _ d ty I i
   have Z:zcB st O l=l.length:=by
    rw [HS.out,List.drop_eq_nil_of_le (by omega)]
    show d+0=_
    omega
   have HW:=ylC (ztB (n:=zcB st O l) (HM.out _ S) S)
   have qh:=zmL l l.length (Nat.le_refl _)
   have qi:=zfA l l.length (Nat.le_refl _)
   rw [Z,List.drop_length] at HW
   rw [List.take_length] at qh
   rw [List.drop_length] at qi
   have HN:=ylC Z
   have c1:=(HM.out _ S).cell
   have f1:=zaF (HM.out _ S) 0
   clear qb Z
   go_wp2
   go_ret
   rw [HN.out,List.drop_length,List.take_length]
   exact ⟨rfl,HW.out⟩
def hd1 (of_:List UInt8):List UInt8→Bool
 |[]=>false
 |c::_=>hasB of_ c
def RetK (w:World) (M:Nat) (b:Bool) (left:List UInt8) (e:Ending) (w':World):Prop:=e= .returned (.bool b)∧MB w' M left∧Only [M] w w'
theorem zgQ (M:Nat) (l of_:List UInt8) (w:World) (d:MB w M l):
  Calls Tryz.prog 152 #[.pointer (some ⟨M,0,none⟩),.string ⟨of_.toArray⟩] w (RetK w M (hd1 of_ l) (if hd1 of_ l=true then l.drop 1 else l)):=by
 have E:=d.cell
 have G:=zaF d 0
 match l,d with
 |[],d=>
  have m:=ylC d
  clear d
  go_enter Tryz.func152,Tryz.ntmps152
  go_wp2
  go_ret
  exact ⟨rfl,m.out,Only.refl _ _⟩
 |c::r,d=>
  have N:Hid (MB (w.setCell ⟨M,0,none⟩ (.string ⟨r.toArray⟩)) M r∧Only [M] w (w.setCell ⟨M,0,none⟩ (.string ⟨r.toArray⟩))):=⟨d.set _,(Only.refl _ w).setCell (p:=⟨M,0,none⟩) (.inl (ylF ..)) _⟩
  have m:=ylC d
  have C:=zfA (c::r) 1 (by simp)
  have K:(ByteArray.mk (c::r).toArray).size=r.length+1:=by simp [ByteArray.size]
  have V:0<(ByteArray.mk (c::r).toArray).size:=by rw [K];omega
  have J:(ByteArray.mk (c::r).toArray)[0]=c:=rfl
  have O:(c::r).isEmpty=false:=rfl
  have I:Hid ((c::r).drop 1=r):=rfl
  have Q: ∀W,(Instr.slice 9 (.string ⟨(c::r).toArray⟩) (some (.int .i64 1)) none none).run Tryz.prog W= .ok (.string ⟨r.toArray⟩) W:=C
  have D:Hid (∀W,Calls Tryz.prog 184 #[.string ⟨of_.toArray⟩,.int .u8 (c.toNat:Int)] W fun e w'=>e= .returned (.int .i64 (Lib.indexByte of_ c))∧W=w'):=fun W=>(Tryz.strings_IndexByte ⟨of_.toArray⟩ (c.toNat:Int) W).mono (fun e w' h=>⟨by rw [h.1,zjD],h.2.symm⟩)
  have i:=(zcL of_ c).1
  have f:=(zcL of_ c).2
  have j:Hid (hd1 of_ (c::r)=hasB of_ c):=rfl
  clear d C
  generalize o:hasB of_ c=S at*
  clear o
  generalize c::r=q at*
  generalize Lib.indexByte of_ c=H at*
  cases S with
  |true=>
   have B:=i rfl
   have U:decide (H<0)=false:=ylD (by omega)
   have A:Hid (hd1 of_ q=true):=j.out
   clear i f B j
   rw [A.out,if_pos rfl]
   go_enter Tryz.func152,Tryz.ntmps152
   go_wp2_with fail
   refine (D.out _).mono ?_
   rintro e w' ⟨rfl,rfl⟩
   go_wp2
   go_ret
   rw [I.out]
   exact ⟨rfl,N.out⟩
  |false=>
   have B:=f rfl
   subst B
   have A:Hid (hd1 of_ q=false):=j.out
   clear i f j
   rw [A.out,if_neg (by decide)]
   go_enter Tryz.func152,Tryz.ntmps152
   go_wp2_with fail
   refine (D.out _).mono ?_
   rintro e w' ⟨rfl,rfl⟩
   go_wp2
   go_ret
   exact ⟨rfl,m.out,Only.refl _ _⟩
def zfP (of_:List UInt8) (r:Nat):Bool:=decide (r<128)&&hasB of_ (UInt8.ofNat r)
theorem zvR {of_:List UInt8} {r:Nat} (h:r<128):decide (0≤Lib.indexByte of_ (r:Int).toNat.toUInt8)=zfP of_ r:=by
 unfold zfP
 rw [ylE h,Bool.true_and]
 show decide (0≤Lib.indexByte of_ (UInt8.ofNat r))=_
 cases e:hasB of_ (UInt8.ofNat r) with
 |true=>rw [ylE ((zcL _ _).1 e)]
 |false=>rw [(zcL _ _).2 e];rfl
theorem zyC {of_:List UInt8} (h: ∀c∈of_,c.toNat<128):Asc ⟨of_.toArray⟩:=fun k d=>h _ (by
 have e:(ByteArray.mk of_.toArray)[k]=of_[k]'(by simpa [ByteArray.size] using d):=rfl
 rw [e];exact List.getElem_mem _)
theorem zcK (of_:List UInt8) (h: ∀c∈of_,c.toNat<128) (r:Nat) (i:isB (r:Int)=true) (w:World):
  Calls Tryz.prog 88 #[.string ⟨of_.toArray⟩,.int .i32 (r:Int)] w (zbN w (zfP of_ r)):=by
 by_cases d:r<128
 ·refine (Tryz.strings_ContainsRune_ascii _ _ w (by omega) (by omega)).mono ?_
  rintro e w' ⟨rfl,rfl⟩
  exact zaE (zvR (of_:=of_) d).symm (Below.refl _ _)
 ·have m:Hid (zfP of_ r=false):=by show _=_;unfold zfP;rw [ylD d];rfl
  have j:=ylC (zjI ⟨of_.toArray⟩ (zyC h) (r:Int) w (by omega) i)
  clear d i
  generalize (r:Int)=A at*
  go_enter Tryz.func88,Tryz.ntmps88
  go_wp2_with fail
  refine j.out.mono ?_
  rintro e o ⟨rfl,f⟩
  go_wp2
  go_ret
  exact zaE m.out f
theorem yaA: ∀c∈([47,92]:List UInt8),c.toNat<128:=by decide
theorem yaC (r:Nat):(zpD () r).1= !zfP [47,92] r:=by
 unfold zpD zfP
 by_cases h:r<128
 ·have key: ∀d:Fin 128,(decide (d.val=47)||decide (d.val=92))=hasB [47,92] (UInt8.ofNat d.val):=by decide+kernel
  rw [ylE h,Bool.true_and]
  exact congrArg (!·) (key ⟨r,h⟩)
 ·rw [ylD h,ylD (by omega),ylD (by omega)];rfl
theorem yeF (w:World):Ends [] w (fun (_:Unit) _=>True) zpD 87 #[]:=by
 intro W s r A _ i
 have f:=ylC (yaC r)
 have j:=ylC (zcK [47,92] yaA r i W)
 show Calls _ _ #[.int .i32 (r:Int)] _ _
 generalize zfP [47,92] r=b at*
 generalize (r:Int)=o at*
 go_enter Tryz.func87,Tryz.ntmps87
 go_wp2_with fail
 refine j.out.mono ?_
 rintro e m ⟨rfl,d⟩
 go_wp2
 go_ret
 exact ⟨by rw [f.out];rfl,Only.of_below d,trivial⟩
theorem yjN (of_:List UInt8) (h: ∀c∈of_,c.toNat<128) (B:Nat) (w:World) (j:B<w.heap.size) (i:w.cell? ⟨B,0,none⟩=some (.string ⟨of_.toArray⟩)):
  Ends [] w (fun (_:Unit) _=>True) (yaD of_) 223 #[.pointer (some ⟨B,0,none⟩)]:=by
 intro W s r f _ A
 have E:W.cell? ⟨B,0,none⟩=some (.string ⟨of_.toArray⟩):=by
  have D:Below w.heap.size w W:=f.below (Nat.le_refl _) (fun x C=>by cases C)
  exact (D.cell (p:=⟨B,0,none⟩) j).trans i
 have o:Hid ((yaD of_ () r).1=zfP of_ r):=rfl
 have m:=ylC (zcK of_ h r A W)
 clear f i h
 show Calls _ _ #[.int .i32 (r:Int),.pointer (some ⟨B,0,none⟩)] _ _
 generalize zfP of_ r=b at*
 generalize (r:Int)=H at*
 go_enter Tryz.func223,Tryz.ntmps223
 go_wp2_with fail
 refine m.out.mono ?_
 rintro e G ⟨rfl,d⟩
 go_wp2
 go_ret
 exact ⟨by rw [o.out];rfl,Only.of_below d,trivial⟩
def CapB (B:Nat) (s:Bool) (W:World):Prop:=W.heap[B]? =some (.cells #[.bool s] 4)
theorem CapB.set {B:Nat} {s:Bool} {W:World} (h:CapB B s W) (t:Bool):CapB B t (W.setCell ⟨B,0,none⟩ (.bool t)):=zaK h 0 _
theorem yhY (B:Nat) (w:World):Ends [B] w (CapB B) zsM 151 #[.pointer (some ⟨B,0,none⟩)]:=by
 intro W s r V m G
 have D:=zaD m
 have C:Hid ((zsM s r).1= !(zcF r||(s&&(zaX r||zfP [43,45,46] r)))):=by
  have e:(decide (r=43)||decide (r=45)||decide (r=46))=zfP [43,45,46] r:=by
   unfold zfP
   by_cases h:r<128
   ·have key: ∀d:Fin 128,(decide (d.val=43)||decide (d.val=45)||decide (d.val=46))=hasB [43,45,46] (UInt8.ofNat d.val):=by decide+kernel
    rw [ylE h,Bool.true_and]
    exact key ⟨r,h⟩
   ·rw [ylD h,ylD (by omega),ylD (by omega),ylD (by omega)];rfl
  show _=_
  unfold zsM
  rw [e]
 have J:=ylC (fun W=>zcK [43,45,46] (by decide) r G W)
 have U:=ylC (fun (x:World) (H:Below W.heap.size W x)=>(And.intro ((H.block B D).trans m) H:CapB B s x∧Below W.heap.size W x))
 have A:Hid (∀x,CapB B s x→Below W.heap.size W x→Only [B] W (x.setCell ⟨B,0,none⟩ (.bool true))∧CapB B true (x.setCell ⟨B,0,none⟩ (.bool true))):=fun x Q I=>⟨((Only.of_below (F:=[]) I).mono (fun _ h=>by cases h)).setCell (p:=⟨B,0,none⟩) (.inl (ylF ..)) _,Q.set true⟩
 have O:=zaB m 0
 have X:=zaF m 0
 simp at O
 have i:=ylC m
 show Calls _ _ #[.int .i32 (r:Int),.pointer (some ⟨B,0,none⟩)] _ _
 clear V m G
 generalize zfP [43,45,46] r=b at*
 have S:=ylC (fun W=>znF (r:Int) W)
 have E:=ylC (fun W=>zbT (r:Int) W)
 have f:Hid ((zsM s r).2=true):=rfl
 generalize zcF (r:Int)=N at*
 generalize zaX (r:Int)=K at*
 generalize zsM s r=res at*
 generalize (r:Int)=Z at*
 go_enter Tryz.func151,Tryz.ntmps151
 go_wp2_with fail
 refine (S.out _).mono ?_
 rintro e w' ⟨rfl,rfl⟩
 cases N with
 |true=>
  go_wp2
  go_ret
  exact ⟨by rw [C.out];rfl,by rw [f.out];exact A.out _ i.out (Below.refl _ _)⟩
 |false=>
  cases s with
  |false=>
   go_wp2
   go_ret
   exact ⟨by rw [C.out];rfl,by rw [f.out];exact A.out _ i.out (Below.refl _ _)⟩
  |true=>
   go_wp2_with fail
   refine (E.out _).mono ?_
   rintro e w' ⟨rfl,rfl⟩
   cases K with
   |true=>
    go_wp2
    go_ret
    exact ⟨by rw [C.out];rfl,by rw [f.out];exact A.out _ i.out (Below.refl _ _)⟩
   |false=>
    go_wp2_with fail
    refine (J.out _).mono ?_
    rintro e Y ⟨rfl,o⟩
    obtain ⟨j,-⟩:=U.out _ o
    have f1:=zaF j 0
    have M:=zaB j 0
    simp at M
    go_wp2
    go_ret
    exact ⟨by rw [C.out];rfl,by rw [f.out];exact A.out _ j o⟩
theorem yfE (B:Nat) (w:World):Ends [B] w (CapB B) zoN 271 #[.pointer (some ⟨B,0,none⟩)]:=by
 intro W s r I j H
 have C:Hid (∀t,Only [B] W (W.setCell ⟨B,0,none⟩ (.bool t))∧CapB B t (W.setCell ⟨B,0,none⟩ (.bool t))):=fun t=>⟨(Only.refl _ W).setCell (p:=⟨B,0,none⟩) (.inl (ylF ..)) _,j.set t⟩
 have G:=zaB j 0
 have M:=zaF j 0
 simp at G
 have o:=ylC j
 have D: ∀t,(W.setCell ⟨B,0,none⟩ (.bool t)).cell? ⟨B,0,none⟩=some (.bool t):=fun t=>zaB (j.set t) 0
 show Calls _ _ #[.int .i32 (r:Int),.pointer (some ⟨B,0,none⟩)] _ _
 clear I j H
 by_cases f:r=91
 ·subst f
  have A:=D true
  go_enter Tryz.func271,Tryz.ntmps271
  go_wp2
  go_ret
  exact ⟨rfl,C.out true⟩
 ·by_cases d:r=93
  ·subst d
   have A:=D false
   go_enter Tryz.func271,Tryz.ntmps271
   go_wp2
   go_ret
   exact ⟨rfl,C.out false⟩
  ·have m:Hid (zoN s r=(decide (r=58)&& !s,s)):=by show _=_;unfold zoN inH;rw [if_neg f,if_neg d]
   have J:((r:Int)==91)=false:=beq_eq_false_iff_ne.2 (by omega)
   have N:((r:Int)==93)=false:=beq_eq_false_iff_ne.2 (by omega)
   by_cases i:r=58
   ·subst i
    go_enter Tryz.func271,Tryz.ntmps271
    go_wp2
    go_ret
    exact ⟨by rw [m.out];cases s<;>rfl,Only.refl _ _,by rw [m.out];exact o.out⟩
   ·have K:((r:Int)==58)=false:=beq_eq_false_iff_ne.2 (by omega)
    have E:decide (r=58)=false:=ylD i
    rw [E] at m
    clear i f d E
    generalize (r:Int)=O at*
    go_enter Tryz.func271,Tryz.ntmps271
    go_wp2
    go_ret
    exact ⟨by rw [m.out];rfl,Only.refl _ _,by rw [m.out];exact o.out⟩
end
end Go.Proofs.YtegmcmgndllmaaaGreatDoor
