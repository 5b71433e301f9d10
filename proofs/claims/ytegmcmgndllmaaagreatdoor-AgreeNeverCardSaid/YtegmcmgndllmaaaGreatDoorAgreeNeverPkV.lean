/-
  What the law AgreeNever leans on, and its walk (21 of 42).
-/
import Derived.IntWalk
import Derived.Test.YtegmcmgndllmaaaGreatDoorAgreeNeverPkA
namespace Go.Proofs.YtegmcmgndllmaaaGreatDoor
set_option maxRecDepth 100000
set_option maxHeartbeats 16000000
section
open Go.RowKit
def Asc (s:ByteArray):Prop:= ∀k (h:k<s.size),s[k].toNat<128
theorem yfT (s:ByteArray) (f:Asc s) (c:UInt8) (h:128≤c.toNat):hasB s.data.toList c=false:=
 yhD s c (fun k d e=>by have:=f k d;omega)
theorem zvT (s:ByteArray) (j:Asc s) (a b:Nat):Asc (s.extract a b):=by
 intro k i
 have d:(s.extract a b).data.toList[k]? =some (s.extract a b)[k]:=zeK _ k i
 rw [Lib.extract_data,List.getElem?_take] at d
 split at d
 ·rw [List.getElem?_drop] at d
  have f:a+k<s.size:=by
   have:=(List.getElem?_eq_some_iff.1 d).1
   simpa using this
  rw [zeK s (a+k) f] at d
  rw [←Option.some.inj d]
  exact j _ f
 ·cases d
theorem zoB (s:ByteArray) (D:Asc s) (w:World):
  Calls Tryz.prog 153 #[.string s,.int .i32 65533] w fun e w'=>e= .returned (.int .i64 (-1))∧Below w.heap.size w w':=by
 have H:=Lib.hid D
 clear D
 go_enter Tryz.func153,Tryz.ntmps153
 go_wp2_with fail
 go_loopw [] (fun wr=> ∃d:Nat,wr.heap[w.heap.size]? =some (.stringIter s d)∧Below w.heap.size w wr) (fun wr=>s.size - wr.iterPos w.heap.size)
 case atStart=>exact ⟨0,World.iter_heap w s 0,(Below.refl _ _).alloc (Nat.le_refl _) _⟩
 case round=>
  obtain ⟨d,f,A⟩:=hrel
  have C:Hid (wr.iterPos w.heap.size=d):=by
   show wr.iterPos w.heap.size=d
   simp only [World.iterPos,f]
  by_cases B:d<s.size
  ·have E:=H.out d B
   obtain ⟨c,G⟩: ∃c,(s[d]'B).toNat=c:=⟨_,rfl⟩
   have m: ∀j,(Instr.next (.pointer (some ⟨w.heap.size,0,none⟩)) true j).run Tryz.prog wr=_:=fun j=>Lib.run_next_ascii_at wr w.heap.size s d j f B E
   have i:=Lib.iterAt_heap wr w.heap.size s d (d+1) f
   have o:=Lib.below_iterAt A (k:=w.heap.size) (Nat.le_refl _) s (d+1)
   generalize wr.iterAt w.heap.size s (d+1)=J at*
   rw [G] at E m
   clear G
   have I:((c:Int)==65533)=false:=beq_eq_false_iff_ne.2 (by omega)
   go_wp2
   go_roundw
   case rel=>exact ⟨d+1,i,o⟩
   case measure=>
    rw [C.out]
    simp only [World.iterPos,i]
    omega
  ·have m: ∀j,(Instr.next (.pointer (some ⟨w.heap.size,0,none⟩)) true j).run Tryz.prog wr=_:=fun j=>Lib.run_next_end_at wr w.heap.size s d j f B
   go_wp2
   go_ret
   exact ⟨rfl,A⟩
theorem zqI (r:Int) (w:World):Calls Tryz.prog 219 #[.int .i32 r] w fun e w'=>e= .returned (.bool (Lib.validRune r))∧w=w':=
 (Tryz.utf8_ValidRune r w).mono fun _ _ h=>⟨h.1,h.2.symm⟩
theorem ygX (s:ByteArray) (c:UInt8) (w:World) (h:hasB s.data.toList c=false):
  Calls Tryz.prog 184 #[.string s,.int .u8 (c.toNat:Int)] w fun e w'=>e= .returned (.int .i64 (-1))∧w'=w:=
 (ib_no s c w h).mono fun _ _ h=>⟨h.1,h.2.symm⟩
theorem zpH {P:Program} (w:World) (t:TypeId) (s:ByteArray) (i:Int) (a:Nat) (hi:i=a) (d:a≤s.size) (h:P.underlying t=some .string):
  (Instr.slice t (.string s) (some (.int .i64 i)) none none).run P w= .ok (.string (s.extract a s.size)) w:=by
 subst hi
 simp [go_sem,Instr.slice,run_underlying h,Instr.sliceBounds,run_sliceBound,d]
theorem zoC (s:ByteArray) (K:Asc s) (r:Int) (w:World) (Q:128≤r) (B:isB r=true) (A:r≠65533):
  Calls Tryz.prog 153 #[.string s,.int .i32 r] w fun e w'=>e= .returned (.int .i64 (-1))∧Below w.heap.size w w':=by
 have H:=Lib.hid K
 clear K
 have O:(r==65533)=false:=beq_eq_false_iff_ne.2 A
 have C:=of_decide_eq_true B
 have X:Lib.validRune r=true:=decide_eq_true (by omega)
 have j:Utf8.valid r=true:=by
  have:=znR r.toNat
  rw [Int.toNat_of_nonneg (by omega)] at this
  rw [this];exact B
 obtain ⟨e2,e4,I⟩:=encode_facts r j Q
 generalize J:Utf8.encode r=E at*
 have m: ∀W:World,(convert 21 9 (.int .i32 r)).run Tryz.prog W= .ok (.string E) W:=fun W=>by rw [run_convert_int_string W _ _ .i32 r (by rw [Tryz.underlying21];rfl) Tryz.underlying9,J]
 clear j C B J
 obtain ⟨n,G⟩: ∃n,E.size=n+1:=⟨E.size - 1,by omega⟩
 have f:n<E.size:=by omega
 have d:128≤(E[n]'f).toNat:=by
  have M:=I (by omega)
  have S:E.size - 1=n:=by omega
  simp only [S] at M
  exact M
 clear I
 go_enter Tryz.func153,Tryz.ntmps153
 go_wp2_with (go_at_call 219;refine (zqI _ _).mono ?_;rintro e w' ⟨rfl,rfl⟩)
 go_step3
 go_wp2_with fail
 clear m
 refine wp_loop_rounds 1 ?_
 rw [rounds_succ]
 by_cases i:n<s.size
 ·obtain ⟨c,Z⟩: ∃c,(s[n]'i).toNat=c:=⟨_,rfl⟩
  have N:c<128:=by rw [←Z];exact H.out n i
  have D:((c:Int) !=((E[n]'f).toNat:Int))=true:=by rw [bne_iff_ne];omega
  have Y:=Lib.hid (yfT _ (zvT s H.out (n+1) s.size) (E[n]'f) d)
  have V:=fun W:World=>zpH (P:=Tryz.prog) W 9 s ((n:Int)+1) (n+1) rfl (by omega) Tryz.underlying9
  have i1:(0:Int)≤(n:Int):=by omega
  have i2:(n:Int)<(s.size:Int):=by omega
  have i3:(n:Int)<(E.size:Int):=by omega
  have U:IntKind.i64.wrap ((n:Int)+1)=(n:Int)+1:=IntWalk.i64_in _ (by omega)
  have HN:=Lib.hid G
  clear G
  go_wp2_with fail
  go_step3
  go_wp2_with fail
  go_quiet (fail)
  have o:Below w.heap.size w (w.drewN nq):=zbV (Below.refl _ _) nq
  generalize w.drewN nq=w2 at*
  go_wp2_with fail
  go_quiet ((go_at_call 184;exact Calls.quiet_of_same (ygX _ _ _ Y.out)))
  clear U
  go_wp2
  go_simp
  go_ret
  exact ⟨rfl,zbV o _⟩
 ·go_wp2
  repeat rw [Exit.noGoto_ret]
  go_ret
  exact ⟨rfl,Below.refl _ _⟩
theorem zjI (s:ByteArray) (d:Asc s) (r:Int) (w:World) (i:128≤r) (f:isB r=true):
  Calls Tryz.prog 153 #[.string s,.int .i32 r] w fun e w'=>e= .returned (.int .i64 (-1))∧Below w.heap.size w w':=by
 by_cases e:r=65533
 ·subst e;exact zoB s d w
 ·exact zoC s d r w i f e
theorem zgA (s:ByteArray) (p:Nat):isB ((Utf8.decode s p).1:Int)=true:=by
 have f:=zxG s p
 have d:=zxG s (p+1)
 rw [zjS]
 split
 ·exact decide_eq_true (by simp only;omega)
 ·split
  ·split
   ·exact decide_eq_true (by simp only;omega)
   ·decide
  ·split
   ·split
    ·rename_i h;exact h.2
    ·decide
   ·split
    ·split
     ·rename_i h;exact h.2
     ·decide
    ·decide
/-! ### how many parts,and how long -/
def zhJ (ps:List (List UInt8)):Nat:=(ps.map List.length).sum
theorem zmW (ps:List (List UInt8)) (l:List UInt8):zhJ (ps++[l])=zhJ ps+l.length:=by simp [zhJ]
theorem ygZ (p:UInt8→Bool) (l:List UInt8): ∀(st:List (List UInt8)×List UInt8),(∀q∈st.1,∀c∈q,p c=false)→(∀c∈st.2,p c=false)→
  (l.foldl (zbD p) st).1.length=st.1.length+l.countP p∧zhJ (l.foldl (zbD p) st).1+(l.foldl (zbD p) st).2.length+l.countP p=zhJ st.1+st.2.length+l.length∧
   (∀q∈(l.foldl (zbD p) st).1,∀c∈q,p c=false)∧ ∀c∈(l.foldl (zbD p) st).2,p c=false:=by
 induction l with
 |nil=>intro st j m;exact ⟨by simp,by simp,j,m⟩
 |cons c l D=>
  intro st j m
  rw [List.foldl_cons]
  by_cases d:p c=true
  ·have e:zbD p st c=(st.1++[st.2],[]):=if_pos d
   rw [e]
   obtain ⟨C,B,A,o⟩:=D (st.1++[st.2],[]) (by
    intro q i
    rcases List.mem_append.1 i with i|i
    ·exact j q i
    ·simp at i;subst i;exact m) (by intro c E;simp at E)
   refine ⟨?_,?_,A,o⟩
   ·rw [C,List.countP_cons_of_pos d];simp;omega
   ·rw [List.countP_cons_of_pos d];simp only [zmW,List.length_nil] at B;simp;omega
  ·have e:zbD p st c=(st.1,st.2++[c]):=if_neg d
   rw [e]
   obtain ⟨C,B,A,o⟩:=D (st.1,st.2++[c]) j (by
    intro x f
    rcases List.mem_append.1 f with f|f
    ·exact m x f
    ·simp at f;subst f;simpa using d)
   refine ⟨?_,?_,A,o⟩
   ·rw [C,List.countP_cons_of_neg d]
   ·rw [List.countP_cons_of_neg d];simp at B;simp;omega
theorem zwD (p:UInt8→Bool) (l:List UInt8):(zbW p l).length=l.countP p+1∧zhJ (zbW p l)+l.countP p=l.length∧ ∀q∈zbW p l,∀c∈q,p c=false:=by
 obtain ⟨m,f,j,i⟩:=ygZ p l ([],[]) (by intro q d;simp at d) (by intro c o;simp at o)
 unfold zbW spl
 refine ⟨by rw [List.length_append,m];simp,by rw [zmW];simp [zhJ] at f ⊢;omega,?_⟩
 intro q d
 rcases List.mem_append.1 d with d|d
 ·exact j q d
 ·simp at d;subst d;exact i
end
end Go.Proofs.YtegmcmgndllmaaaGreatDoor
