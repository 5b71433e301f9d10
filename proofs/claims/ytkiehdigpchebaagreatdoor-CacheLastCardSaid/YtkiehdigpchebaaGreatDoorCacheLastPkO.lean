/-
  What the law CacheLast leans on, and its walk (15 of 21).
-/
import Derived.BigQuiet
import Derived.Test.YtkiehdigpchebaaGreatDoorCacheLastPkM
import Derived.Test.YtkiehdigpchebaaGreatDoorCacheLastPkN
namespace Go.Proofs.YtkiehdigpchebaaGreatDoor
set_option maxRecDepth 100000
set_option maxHeartbeats 16000000
section
open Go.RowKit Go.Maps Go.Sort Go.Shelf Go.Lib
def clN (n:List UInt8):List Value:=[.string ⟨n.toArray⟩]
theorem flatN (l:List (List UInt8)):l.flatMap clN=l.map encStr:=by
 induction l with
 |nil=>rfl
 |cons x l a=>rw [List.flatMap_cons,a];rfl
theorem zdQ: ∀{a b:List UInt8},bytesBefore a b=true→a≤b
 |[],[],h=>by cases h
 |[],_::_,_=>List.nil_le _
 |_::_,[],h=>by cases h
 |a::l,b::m,h=>by
  unfold bytesBefore at h
  simp only [Bool.or_eq_true,decide_eq_true_eq,Bool.and_eq_true,beq_iff_eq] at h
  rw [List.cons_le_cons_iff]
  rcases h with h|⟨rfl,h⟩
  ·exact .inl h
  ·exact .inr ⟨rfl,zdQ h⟩
theorem zhZ (L:List CE):strKeys (DL L)=L.map CE.nm:=by
 unfold DL strKeys
 simp only
 rw [List.map_map]
 rfl
theorem zdN {L:List CE} {g:List (List UInt8)} (h:zaV L) (o:g.Perm (strKeys (DL L))):g.mergeSort (fun x y=>decide (x≤y))=L.map CE.nm:=by
 rw [zhZ] at o
 have p: ∀a b c:List UInt8,leB a b=true→leB b c=true→leB a c=true:=fun a b c i f=>by simp only [leB,decide_eq_true_eq] at*;exact List.le_trans i f
 have j: ∀a b:List UInt8,(leB a b||leB b a)=true:=fun a b=>by simp only [leB,Bool.or_eq_true,decide_eq_true_eq];exact List.le_total a b
 refine List.Perm.eq_of_pairwise (le:=fun a b=>leB a b=true) (fun a b _ _ i f=> ?_) (List.pairwise_mergeSort p j g) ?_ ((List.mergeSort_perm g leB).trans o)
 ·simp only [leB,decide_eq_true_eq] at i f
  exact List.le_antisymm i f
 ·rw [List.pairwise_map]
  exact List.Pairwise.imp (fun {a b} q=>by simp only [leB,decide_eq_true_eq];exact zdQ q) h
theorem zgU (M:Nat) (w:World):Calls Tryz.prog 39 #[.map (some M)] w fun e w'=>e= .returned (.func (.func 49) #[] #[.pointer (some ⟨w.heap.size,0,none⟩)])∧w'=w.alloc (.cells #[.map (some M)] 81):=
 callsIn_wide.1 (AnyZ.keys_in keysN Fence.wide 5 trivial rfl (some M) w)
theorem zdU (M:Nat) (L:List CE) (w:World) (h:MapS w M L) (R:L.length≤1000000):
  Calls Tryz.prog 38 #[.func (.func 49) #[] #[.pointer (some ⟨w.heap.size,0,none⟩)]] (w.alloc (.cells #[.map (some M)] 81)) fun e w'=> ∃v,e= .returned v∧OwnX 34 1 clN w' w.heap.size v (L.map CE.nm)∧Below w.heap.size w w':=by
 have H:=h.1.lt
 have D:=zdC L
 have f:AnyZ.SortsIn Tryz.prog zcP Fence.wide 4:=
  ⟨fun E off i z W O y G=>callsIn_wide.2 (AnyM.slices_Sort_string sortN E off i z W O y G),
   fun p i W=>callsIn_wide.2 (AnyM.slices_Sort_string_none sortN p i W)⟩
 have C:SeqGives Fence.wide 2 Tryz.prog 49 #[.pointer (some ⟨w.heap.size,0,none⟩)] encStr (fun z=>z.Perm (strKeys (DL L))) (Maps.size (DL L)) (w.alloc (.cells #[.map (some M)] 81)):=
  AnyZ.keys_gives (ρ:=zdS) {keysN with} Fence.wide _ trivial rfl (by omega) w.heap.size M L.length (DL L) _ (by simp) (by simp) (by
   obtain ⟨K,g,I,Q,D,P⟩:=h.1
   exact ⟨K,g,(Below.heap_alloc _ _ M H).trans I,Q,D,P⟩)
 refine (callsIn_wide.1 (AnyZ.sorted_in znB Fence.wide 5 trivial trivial trivial trivial rfl (by omega) f (enters_of Tryz.func48 (by kernel_rfl) rfl) 49 #[.pointer (some ⟨w.heap.size,0,none⟩)] trivial (enters_of Tryz.func49 (by kernel_rfl) rfl) _ _ (by rw [D];unfold maxLen;omega) (by rw [D];omega) _ C)).mono ?_
 rintro e w' ⟨v,z,rfl,J,a,_,I⟩
 have j:Below w.heap.size w (w.alloc (.cells #[.map (some M)] 81)):=(Below.refl _ _).alloc (Nat.le_refl _) _
 refine ⟨v,rfl,?_,j.trans (I.mono j.size)⟩
 rw [zdN h.2 J] at a
 have q:z.length=(L.map CE.nm).length:=by rw [J.length_eq,zhZ]
 rw [q] at a
 have N:OwnX 34 1 clN w' (w.alloc (.cells #[.map (some M)] 81)).heap.size v (L.map CE.nm):=by
  have o:w'.ownsRow _ 34 1 v _ _:=a
  unfold OwnX
  rw [flatN]
  simpa using o
 exact N.lower j.size
theorem zfD (c M:Nat) (L:List CE) (w:World) (h:CacS w c M L) (o:L.length≤1000000):
  Calls Tryz.prog 25 #[.pointer (some ⟨c,0,none⟩)] w fun e w'=> ∃v,e= .returned v∧OwnX 34 1 clN w' w.heap.size v (L.map CE.nm)∧Below w.heap.size w w':=by
 have j:=zaE h.box 0
 simp at j
 have a:=Lib.hid (zgU M w)
 have g:=Lib.hid (zdU M L w h.map o)
 clear h
 go_enter Tryz.func25,Tryz.ntmps25
 go_wp2_with fail
 refine a.out.mono ?_
 rintro e x ⟨rfl,rfl⟩
 go_wp2_with fail
 refine g.out.mono ?_
 rintro e x ⟨v,rfl,f,i⟩
 go_wp2
 go_ret
 exact ⟨v,rfl,f,i⟩
end
end Go.Proofs.YtkiehdigpchebaaGreatDoor
