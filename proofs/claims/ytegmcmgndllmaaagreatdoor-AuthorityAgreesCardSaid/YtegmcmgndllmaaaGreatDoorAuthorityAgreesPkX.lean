/-
  What the law AuthorityAgrees leans on, and its walk (23 of 43).
-/
import Derived.IntWalk
import Derived.Test.YtegmcmgndllmaaaGreatDoorAuthorityAgreesPkA
namespace Go.Proofs.YtegmcmgndllmaaaGreatDoor
set_option maxRecDepth 100000
set_option maxHeartbeats 16000000
section
open Go.RowKit
def Asc (s:ByteArray):Prop:= ∀k (h:k<s.size),s[k].toNat<128
theorem yiU (s:ByteArray) (d:Asc s) (c:UInt8) (h:128≤c.toNat):hasB s.data.toList c=false:=
 ylB s c (fun k f e=>by have:=d k f;omega)
theorem zxA (s:ByteArray) (f:Asc s) (a b:Nat):Asc (s.extract a b):=by
 intro k g
 have d:(s.extract a b).data.toList[k]? =some (s.extract a b)[k]:=zeH _ k g
 rw [Lib.extract_data,List.getElem?_take] at d
 split at d
 ·rw [List.getElem?_drop] at d
  have e:a+k<s.size:=by
   have:=(List.getElem?_eq_some_iff.1 d).1
   simpa using this
  rw [zeH s (a+k) e] at d
  rw [←Option.some.inj d]
  exact f _ e
 ·cases d
theorem zoM (s:ByteArray) (B:Asc s) (w:World):
  Calls Tryz.prog 153 #[.string s,.int .i32 65533] w fun e w'=>e= .returned (.int .i64 (-1))∧Below w.heap.size w w':=by
 have E:=Lib.hid B
 clear B
 go_enter Tryz.func153,Tryz.ntmps153
 go_wp2_with fail
 go_loopw [] (fun wr=> ∃d:Nat,wr.heap[w.heap.size]? =some (.stringIter s d)∧Below w.heap.size w wr) (fun wr=>s.size - wr.iterPos w.heap.size)
 case atStart=>exact ⟨0,World.iter_heap w s 0,(Below.refl _ _).alloc (Nat.le_refl _) _⟩
 case round=>
  obtain ⟨d,f,m⟩:=hrel
  have A:Hid (wr.iterPos w.heap.size=d):=by
   show wr.iterPos w.heap.size=d
   simp only [World.iterPos,f]
  by_cases q:d<s.size
  ·have C:=E.out d q
   obtain ⟨c,D⟩: ∃c,(s[d]'q).toNat=c:=⟨_,rfl⟩
   have o: ∀i,(Instr.next (.pointer (some ⟨w.heap.size,0,none⟩)) true i).run Tryz.prog wr=_:=fun i=>Lib.run_next_ascii_at wr w.heap.size s d i f q C
   have g:=Lib.iterAt_heap wr w.heap.size s d (d+1) f
   have j:=Lib.below_iterAt m (k:=w.heap.size) (Nat.le_refl _) s (d+1)
   generalize wr.iterAt w.heap.size s (d+1)=H at*
   rw [D] at C o
   clear D
   have G:((c:Int)==65533)=false:=beq_eq_false_iff_ne.2 (by omega)
   go_wp2
   go_roundw
   case rel=>exact ⟨d+1,g,j⟩
   case measure=>
    rw [A.out]
    simp only [World.iterPos,g]
    omega
  ·have o: ∀i,(Instr.next (.pointer (some ⟨w.heap.size,0,none⟩)) true i).run Tryz.prog wr=_:=fun i=>Lib.run_next_end_at wr w.heap.size s d i f q
   go_wp2
   go_ret
   exact ⟨rfl,m⟩
theorem zrC (r:Int) (w:World):Calls Tryz.prog 219 #[.int .i32 r] w fun e w'=>e= .returned (.bool (Lib.validRune r))∧w=w':=
 (Tryz.utf8_ValidRune r w).mono fun _ _ h=>⟨h.1,h.2.symm⟩
theorem yjV (s:ByteArray) (c:UInt8) (w:World) (h:hasB s.data.toList c=false):
  Calls Tryz.prog 184 #[.string s,.int .u8 (c.toNat:Int)] w fun e w'=>e= .returned (.int .i64 (-1))∧w'=w:=
 (ib_no s c w h).mono fun _ _ h=>⟨h.1,h.2.symm⟩
theorem zpJ {P:Program} (w:World) (t:TypeId) (s:ByteArray) (i:Int) (a:Nat) (hi:i=a) (d:a≤s.size) (h:P.underlying t=some .string):
  (Instr.slice t (.string s) (some (.int .i64 i)) none none).run P w= .ok (.string (s.extract a s.size)) w:=by
 subst hi
 simp [go_sem,Instr.slice,run_underlying h,Instr.sliceBounds,run_sliceBound,d]
theorem zoS (s:ByteArray) (C:Asc s) (r:Int) (w:World) (N:128≤r) (m:isB r=true) (A:r≠65533):
  Calls Tryz.prog 153 #[.string s,.int .i32 r] w fun e w'=>e= .returned (.int .i64 (-1))∧Below w.heap.size w w':=by
 have B:=Lib.hid C
 clear C
 have K:(r==65533)=false:=beq_eq_false_iff_ne.2 A
 have o:=of_decide_eq_true m
 have L:Lib.validRune r=true:=decide_eq_true (by omega)
 have j:Utf8.valid r=true:=by
  have:=znR r.toNat
  rw [Int.toNat_of_nonneg (by omega)] at this
  rw [this];exact m
 obtain ⟨e2,e4,H⟩:=encode_facts r j N
 generalize I:Utf8.encode r=E at*
 have g: ∀W:World,(convert 21 9 (.int .i32 r)).run Tryz.prog W= .ok (.string E) W:=fun W=>by rw [run_convert_int_string W _ _ .i32 r (by rw [Tryz.underlying21];rfl) Tryz.underlying9,I]
 clear j o m I
 obtain ⟨n,J⟩: ∃n,E.size=n+1:=⟨E.size - 1,by omega⟩
 have d:n<E.size:=by omega
 have f:128≤(E[n]'d).toNat:=by
  have D:=H (by omega)
  have M:E.size - 1=n:=by omega
  simp only [M] at D
  exact D
 clear H
 go_enter Tryz.func153,Tryz.ntmps153
 go_wp2_with (go_at_call 219;refine (zrC _ _).mono ?_;rintro e w' ⟨rfl,rfl⟩)
 go_step3
 go_wp2_with fail
 clear g
 refine wp_loop_rounds 1 ?_
 rw [rounds_succ]
 by_cases i:n<s.size
 ·obtain ⟨c,S⟩: ∃c,(s[n]'i).toNat=c:=⟨_,rfl⟩
  have U:c<128:=by rw [←S];exact B.out n i
  have G:((c:Int) !=((E[n]'d).toNat:Int))=true:=by rw [bne_iff_ne];omega
  have O:=Lib.hid (yiU _ (zxA s B.out (n+1) s.size) (E[n]'d) f)
  have T:=fun W:World=>zpJ (P:=Tryz.prog) W 9 s ((n:Int)+1) (n+1) rfl (by omega) Tryz.underlying9
  have Y:(0:Int)≤(n:Int):=by omega
  have X:(n:Int)<(s.size:Int):=by omega
  have i3:(n:Int)<(E.size:Int):=by omega
  have Q:IntKind.i64.wrap ((n:Int)+1)=(n:Int)+1:=IntWalk.i64_in _ (by omega)
  have V:=Lib.hid J
  clear J
  go_wp2_with fail
  go_step3
  go_wp2_with fail
  go_quiet (fail)
  have q:Below w.heap.size w (w.drewN nq):=zcD (Below.refl _ _) nq
  generalize w.drewN nq=Z at*
  go_wp2_with fail
  go_quiet ((go_at_call 184;exact Calls.quiet_of_same (yjV _ _ _ O.out)))
  clear Q
  go_wp2
  go_simp
  go_ret
  exact ⟨rfl,zcD q _⟩
 ·go_wp2
  repeat rw [Exit.noGoto_ret]
  go_ret
  exact ⟨rfl,Below.refl _ _⟩
theorem zjM (s:ByteArray) (d:Asc s) (r:Int) (w:World) (g:128≤r) (f:isB r=true):
  Calls Tryz.prog 153 #[.string s,.int .i32 r] w fun e w'=>e= .returned (.int .i64 (-1))∧Below w.heap.size w w':=by
 by_cases e:r=65533
 ·subst e;exact zoM s d w
 ·exact zoS s d r w g f e
theorem zfY (s:ByteArray) (p:Nat):isB ((Utf8.decode s p).1:Int)=true:=by
 have e:=zyQ s p
 have d:=zyQ s (p+1)
 rw [zdC]
 split
 ·exact decide_eq_true (by simp only;omega)
 ·split
  ·split
   ·exact decide_eq_true (by simp only;omega)
   ·decide
  ·split
   ·split
    ·rename_i h;exact h.2
    ·decide
   ·split
    ·split
     ·rename_i h;exact h.2
     ·decide
    ·decide
/-! ### how many parts,and how long -/
def zeS (ps:List (List UInt8)):Nat:=(ps.map List.length).sum
theorem zmD (ps:List (List UInt8)) (l:List UInt8):zeS (ps++[l])=zeS ps+l.length:=by simp [zeS]
theorem ykK (p:UInt8→Bool) (l:List UInt8): ∀(st:List (List UInt8)×List UInt8),(∀q∈st.1,∀c∈q,p c=false)→(∀c∈st.2,p c=false)→
  (l.foldl (zaP p) st).1.length=st.1.length+l.countP p∧zeS (l.foldl (zaP p) st).1+(l.foldl (zaP p) st).2.length+l.countP p=zeS st.1+st.2.length+l.length∧
   (∀q∈(l.foldl (zaP p) st).1,∀c∈q,p c=false)∧ ∀c∈(l.foldl (zaP p) st).2,p c=false:=by
 induction l with
 |nil=>intro st i j;exact ⟨by simp,by simp,i,j⟩
 |cons c l C=>
  intro st i j
  rw [List.foldl_cons]
  by_cases d:p c=true
  ·have e:zaP p st c=(st.1++[st.2],[]):=if_pos d
   rw [e]
   obtain ⟨m,A,o,B⟩:=C (st.1++[st.2],[]) (by
    intro q f
    rcases List.mem_append.1 f with f|f
    ·exact i q f
    ·simp at f;subst f;exact j) (by intro c D;simp at D)
   refine ⟨?_,?_,o,B⟩
   ·rw [m,List.countP_cons_of_pos d];simp;omega
   ·rw [List.countP_cons_of_pos d];simp only [zmD,List.length_nil] at A;simp;omega
  ·have e:zaP p st c=(st.1,st.2++[c]):=if_neg d
   rw [e]
   obtain ⟨m,A,o,B⟩:=C (st.1,st.2++[c]) i (by
    intro x g
    rcases List.mem_append.1 g with g|g
    ·exact j x g
    ·simp at g;subst g;simpa using d)
   refine ⟨?_,?_,o,B⟩
   ·rw [m,List.countP_cons_of_neg d]
   ·rw [List.countP_cons_of_neg d];simp at A;simp;omega
theorem zmJ (p:UInt8→Bool) (l:List UInt8):(zbF p l).length=l.countP p+1∧zeS (zbF p l)+l.countP p=l.length∧ ∀q∈zbF p l,∀c∈q,p c=false:=by
 obtain ⟨e,j,g,i⟩:=ykK p l ([],[]) (by intro q d;simp at d) (by intro c f;simp at f)
 unfold zbF spl
 refine ⟨by rw [List.length_append,e];simp,by rw [zmD];simp [zeS] at j ⊢;omega,?_⟩
 intro q d
 rcases List.mem_append.1 d with d|d
 ·exact g q d
 ·simp at d;subst d;exact i
end
end Go.Proofs.YtegmcmgndllmaaaGreatDoor
