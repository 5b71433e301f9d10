/-
  What the law ResolveMeets leans on, and its walk (22 of 46).
-/
import Derived.IntWalk
import Derived.Test.YtmjappnpedjlnaaGreatDoorResolveMeetsPkA
namespace Go.Proofs.YtmjappnpedjlnaaGreatDoor
set_option maxRecDepth 100000
set_option maxHeartbeats 16000000
section
open Go.RowKit
def Asc (s:ByteArray):Prop:= ∀k (h:k<s.size),s[k].toNat<128
theorem ykA (s:ByteArray) (hs:Asc s) (c:UInt8) (h:128≤c.toNat):hasB s.data.toList c=false:=
 ymG s c (fun k hk e=>by have:=hs k hk;omega)
theorem zxU (s:ByteArray) (hs:Asc s) (a b:Nat):Asc (s.extract a b):=by
 intro k hk
 have h1:(s.extract a b).data.toList[k]? =some (s.extract a b)[k]:=zeW _ k hk
 rw [Lib.extract_data,List.getElem?_take] at h1
 split at h1
 ·rw [List.getElem?_drop] at h1
  have hlt:a+k<s.size:=by
   have:=(List.getElem?_eq_some_iff.1 h1).1
   simpa using this
  rw [zeW s (a+k) hlt] at h1
  rw [←Option.some.inj h1]
  exact hs _ hlt
 ·cases h1
theorem zpC (s:ByteArray) (hs:Asc s) (w:World):
  Calls Tryz.prog 118 #[.string s,.int .i32 65533] w fun e w'=>e= .returned (.int .i64 (-1))∧Below w.heap.size w w':=by
 have HS:=Lib.hid hs
 clear hs
 go_enter Tryz.func118,Tryz.ntmps118
 go_wp2_with fail
 go_loopw [] (fun wr=> ∃pos:Nat,wr.heap[w.heap.size]? =some (.stringIter s pos)∧Below w.heap.size w wr) (fun wr=>s.size - wr.iterPos w.heap.size)
 case atStart=>exact ⟨0,World.iter_heap w s 0,(Below.refl _ _).alloc (Nat.le_refl _) _⟩
 case round=>
  obtain ⟨pos,hit,hbw⟩:=hrel
  have HWP:Hid (wr.iterPos w.heap.size=pos):=by
   show wr.iterPos w.heap.size=pos
   simp only [World.iterPos,hit]
  by_cases hp:pos<s.size
  ·have ha:=HS.out pos hp
   obtain ⟨c,hc⟩: ∃c,(s[pos]'hp).toNat=c:=⟨_,rfl⟩
   have hnx: ∀ty,(Instr.next (.pointer (some ⟨w.heap.size,0,none⟩)) true ty).run Tryz.prog wr=_:=fun ty=>Lib.run_next_ascii_at wr w.heap.size s pos ty hit hp ha
   have hit2:=Lib.iterAt_heap wr w.heap.size s pos (pos+1) hit
   have hbw2:=Lib.below_iterAt hbw (k:=w.heap.size) (Nat.le_refl _) s (pos+1)
   generalize wr.iterAt w.heap.size s (pos+1)=wi at*
   rw [hc] at ha hnx
   clear hc
   have hb:((c:Int)==65533)=false:=beq_eq_false_iff_ne.2 (by omega)
   go_wp2
   go_roundw
   case rel=>exact ⟨pos+1,hit2,hbw2⟩
   case measure=>
    rw [HWP.out]
    simp only [World.iterPos,hit2]
    omega
  ·have hnx: ∀ty,(Instr.next (.pointer (some ⟨w.heap.size,0,none⟩)) true ty).run Tryz.prog wr=_:=fun ty=>Lib.run_next_end_at wr w.heap.size s pos ty hit hp
   go_wp2
   go_ret
   exact ⟨rfl,hbw⟩
theorem zsY (r:Int) (w:World):Calls Tryz.prog 164 #[.int .i32 r] w fun e w'=>e= .returned (.bool (Lib.validRune r))∧w=w':=
 (Tryz.utf8_ValidRune r w).mono fun _ _ h=>⟨h.1,h.2.symm⟩
theorem yoA (s:ByteArray) (c:UInt8) (w:World) (h:hasB s.data.toList c=false):
  Calls Tryz.prog 107 #[.string s,.int .u8 (c.toNat:Int)] w fun e w'=>e= .returned (.int .i64 (-1))∧w'=w:=
 (ib_no s c w h).mono fun _ _ h=>⟨h.1,h.2.symm⟩
theorem zqH {P:Program} (w:World) (t:TypeId) (s:ByteArray) (i:Int) (a:Nat) (hi:i=a) (ha:a≤s.size) (h:P.underlying t=some .string):
  (Instr.slice t (.string s) (some (.int .i64 i)) none none).run P w= .ok (.string (s.extract a s.size)) w:=by
 subst hi
 simp [go_sem,Instr.slice,run_underlying h,Instr.sliceBounds,run_sliceBound,ha]
theorem zpD (s:ByteArray) (hs:Asc s) (r:Int) (w:World) (h0:128≤r) (hv:isB r=true) (hne:r≠65533):
  Calls Tryz.prog 118 #[.string s,.int .i32 r] w fun e w'=>e= .returned (.int .i64 (-1))∧Below w.heap.size w w':=by
 have HS:=Lib.hid hs
 clear hs
 have hb1:(r==65533)=false:=beq_eq_false_iff_ne.2 hne
 have hvi:=of_decide_eq_true hv
 have hvr:Lib.validRune r=true:=decide_eq_true (by omega)
 have hvu:Utf8.valid r=true:=by
  have:=znQ r.toNat
  rw [Int.toNat_of_nonneg (by omega)] at this
  rw [this];exact hv
 obtain ⟨e2,e4,eL⟩:=encode_facts r hvu h0
 generalize hE:Utf8.encode r=E at*
 have hrun: ∀W:World,(convert 21 9 (.int .i32 r)).run Tryz.prog W= .ok (.string E) W:=fun W=>by rw [run_convert_int_string W _ _ .i32 r (by rw [Tryz.underlying21];rfl) Tryz.underlying9,hE]
 clear hvu hvi hv hE
 obtain ⟨n,hn⟩: ∃n,E.size=n+1:=⟨E.size - 1,by omega⟩
 have hnE:n<E.size:=by omega
 have hlast:128≤(E[n]'hnE).toNat:=by
  have h3:=eL (by omega)
  have e5:E.size - 1=n:=by omega
  simp only [e5] at h3
  exact h3
 clear eL
 go_enter Tryz.func118,Tryz.ntmps118
 go_wp2_with (go_at_call 164;refine (zsY _ _).mono ?_;rintro e w' ⟨rfl,rfl⟩)
 go_step3
 go_wp2_with fail
 clear hrun
 refine wp_loop_rounds 1 ?_
 rw [rounds_succ]
 by_cases hlt:n<s.size
 ·obtain ⟨c,hc⟩: ∃c,(s[n]'hlt).toNat=c:=⟨_,rfl⟩
  have hca:c<128:=by rw [←hc];exact HS.out n hlt
  have hne2:((c:Int) !=((E[n]'hnE).toNat:Int))=true:=by rw [bne_iff_ne];omega
  have HB:=Lib.hid (ykA _ (zxU s HS.out (n+1) s.size) (E[n]'hnE) hlast)
  have hsl:=fun W:World=>zqH (P:=Tryz.prog) W 9 s ((n:Int)+1) (n+1) rfl (by omega) Tryz.underlying9
  have i1:(0:Int)≤(n:Int):=by omega
  have i2:(n:Int)<(s.size:Int):=by omega
  have i3:(n:Int)<(E.size:Int):=by omega
  have q1:IntKind.i64.wrap ((n:Int)+1)=(n:Int)+1:=IntWalk.i64_in _ (by omega)
  have HN:=Lib.hid hn
  clear hn
  go_wp2_with fail
  go_step3
  go_wp2_with fail
  go_quiet (fail)
  have hb2:Below w.heap.size w (w.drewN nq):=zcG (Below.refl _ _) nq
  generalize w.drewN nq=w2 at*
  go_wp2_with fail
  go_quiet ((go_at_call 107;exact Calls.quiet_of_same (yoA _ _ _ HB.out)))
  clear q1
  go_wp2
  go_simp
  go_ret
  exact ⟨rfl,zcG hb2 _⟩
 ·go_wp2
  repeat rw [Exit.noGoto_ret]
  go_ret
  exact ⟨rfl,Below.refl _ _⟩
theorem zkN (s:ByteArray) (hs:Asc s) (r:Int) (w:World) (h0:128≤r) (hv:isB r=true):
  Calls Tryz.prog 118 #[.string s,.int .i32 r] w fun e w'=>e= .returned (.int .i64 (-1))∧Below w.heap.size w w':=by
 by_cases e:r=65533
 ·subst e;exact zpC s hs w
 ·exact zpD s hs r w h0 hv e
theorem zgI (s:ByteArray) (p:Nat):isB ((Utf8.decode s p).1:Int)=true:=by
 have hb0:=z2U s p
 have hb1:=z2U s (p+1)
 rw [zcP]
 split
 ·exact decide_eq_true (by simp only;omega)
 ·split
  ·split
   ·exact decide_eq_true (by simp only;omega)
   ·decide
  ·split
   ·split
    ·rename_i h;exact h.2
    ·decide
   ·split
    ·split
     ·rename_i h;exact h.2
     ·decide
    ·decide
/-! ### how many parts,and how long -/
def zfA (ps:List (List UInt8)):Nat:=(ps.map List.length).sum
theorem znX (ps:List (List UInt8)) (l:List UInt8):zfA (ps++[l])=zfA ps+l.length:=by simp [zfA]
theorem ymN (p:UInt8→Bool) (l:List UInt8): ∀(st:List (List UInt8)×List UInt8),(∀q∈st.1,∀c∈q,p c=false)→(∀c∈st.2,p c=false)→
  (l.foldl (zaT p) st).1.length=st.1.length+l.countP p∧zfA (l.foldl (zaT p) st).1+(l.foldl (zaT p) st).2.length+l.countP p=zfA st.1+st.2.length+l.length∧
   (∀q∈(l.foldl (zaT p) st).1,∀c∈q,p c=false)∧ ∀c∈(l.foldl (zaT p) st).2,p c=false:=by
 induction l with
 |nil=>intro st h1 h2;exact ⟨by simp,by simp,h1,h2⟩
 |cons c l ih=>
  intro st h1 h2
  rw [List.foldl_cons]
  by_cases hp:p c=true
  ·have e:zaT p st c=(st.1++[st.2],[]):=if_pos hp
   rw [e]
   obtain ⟨a1,a2,a3,a4⟩:=ih (st.1++[st.2],[]) (by
    intro q hq
    rcases List.mem_append.1 hq with hq|hq
    ·exact h1 q hq
    ·simp at hq;subst hq;exact h2) (by intro c hc;simp at hc)
   refine ⟨?_,?_,a3,a4⟩
   ·rw [a1,List.countP_cons_of_pos hp];simp;omega
   ·rw [List.countP_cons_of_pos hp];simp only [znX,List.length_nil] at a2;simp;omega
  ·have e:zaT p st c=(st.1,st.2++[c]):=if_neg hp
   rw [e]
   obtain ⟨a1,a2,a3,a4⟩:=ih (st.1,st.2++[c]) h1 (by
    intro x hx
    rcases List.mem_append.1 hx with hx|hx
    ·exact h2 x hx
    ·simp at hx;subst hx;simpa using hp)
   refine ⟨?_,?_,a3,a4⟩
   ·rw [a1,List.countP_cons_of_neg hp]
   ·rw [List.countP_cons_of_neg hp];simp at a2;simp;omega
theorem zoE (p:UInt8→Bool) (l:List UInt8):(zbG p l).length=l.countP p+1∧zfA (zbG p l)+l.countP p=l.length∧ ∀q∈zbG p l,∀c∈q,p c=false:=by
 obtain ⟨a1,a2,a3,a4⟩:=ymN p l ([],[]) (by intro q hq;simp at hq) (by intro c hc;simp at hc)
 unfold zbG spl
 refine ⟨by rw [List.length_append,a1];simp,by rw [znX];simp [zfA] at a2 ⊢;omega,?_⟩
 intro q hq
 rcases List.mem_append.1 hq with hq|hq
 ·exact a3 q hq
 ·simp at hq;subst hq;exact a4
end
end Go.Proofs.YtmjappnpedjlnaaGreatDoor
