/-
  What the law CacheSweeps leans on, and its walk (15 of 21).
-/
import Derived.BigQuiet
import Derived.Test.YteajemblhlbfpaaGreatDoorCacheSweepsPkM
import Derived.Test.YteajemblhlbfpaaGreatDoorCacheSweepsPkN
namespace Go.Proofs.YteajemblhlbfpaaGreatDoor
set_option maxRecDepth 100000
set_option maxHeartbeats 16000000
section
open Go.RowKit Go.Maps Go.Sort Go.Shelf Go.Lib
def clN (n:List UInt8):List Value:=[.string ⟨n.toArray⟩]
theorem zdA (a:List UInt8):(clN a).length=1:=rfl
theorem flatN (l:List (List UInt8)):l.flatMap clN=l.map encStr:=by
 induction l with
 |nil=>rfl
 |cons x l a=>rw [List.flatMap_cons,a];rfl
theorem zeR: ∀{a b:List UInt8},bytesBefore a b=true→a≤b
 |[],[],h=>by cases h
 |[],_::_,_=>List.nil_le _
 |_::_,[],h=>by cases h
 |a::l,b::m,h=>by
  unfold bytesBefore at h
  simp only [Bool.or_eq_true,decide_eq_true_eq,Bool.and_eq_true,beq_iff_eq] at h
  rw [List.cons_le_cons_iff]
  rcases h with h|⟨rfl,h⟩
  ·exact .inl h
  ·exact .inr ⟨rfl,zeR h⟩
theorem zhY (L:List CE):strKeys (DL L)=L.map CE.nm:=by
 unfold DL strKeys
 simp only
 rw [List.map_map]
 rfl
theorem zdY {L:List CE} {i:List (List UInt8)} (h:zaJ L) (o:i.Perm (strKeys (DL L))):i.mergeSort (fun x y=>decide (x≤y))=L.map CE.nm:=by
 rw [zhY] at o
 have p: ∀a b c:List UInt8,leB a b=true→leB b c=true→leB a c=true:=fun a b c f g=>by simp only [leB,decide_eq_true_eq] at*;exact List.le_trans f g
 have j: ∀a b:List UInt8,(leB a b||leB b a)=true:=fun a b=>by simp only [leB,Bool.or_eq_true,decide_eq_true_eq];exact List.le_total a b
 refine List.Perm.eq_of_pairwise (le:=fun a b=>leB a b=true) (fun a b _ _ f g=> ?_) (List.pairwise_mergeSort p j i) ?_ ((List.mergeSort_perm i leB).trans o)
 ·simp only [leB,decide_eq_true_eq] at f g
  exact List.le_antisymm f g
 ·rw [List.pairwise_map]
  exact List.Pairwise.imp (fun {a b} q=>by simp only [leB,decide_eq_true_eq];exact zeR q) h
theorem zgU (M:Nat) (w:World):Calls Tryz.prog 33 #[.map (some M)] w fun e w'=>e= .returned (.func (.func 41) #[] #[.pointer (some ⟨w.heap.size,0,none⟩)])∧w'=w.alloc (.cells #[.map (some M)] 55):=
 callsIn_wide.1 (AnyZ.keys_in keysN Fence.wide 5 trivial rfl (some M) w)
theorem zdX (M:Nat) (L:List CE) (w:World) (h:MapS w M L) (Q:L.length≤1000000):
  Calls Tryz.prog 32 #[.func (.func 41) #[] #[.pointer (some ⟨w.heap.size,0,none⟩)]] (w.alloc (.cells #[.map (some M)] 55)) fun e w'=> ∃v,e= .returned v∧OwnX 34 1 clN w' w.heap.size v (L.map CE.nm)∧Below w.heap.size w w':=by
 have D:=h.1.lt
 have B:=zbV L
 have f:AnyZ.SortsIn Tryz.prog zcM Fence.wide 4:=
  ⟨fun G E i y W J z H=>callsIn_wide.2 (AnyM.slices_Sort_string sortN G E i y W J z H),
   fun p i W=>callsIn_wide.2 (AnyM.slices_Sort_string_none sortN p i W)⟩
 have A:SeqGives Fence.wide 2 Tryz.prog 41 #[.pointer (some ⟨w.heap.size,0,none⟩)] encStr (fun y=>y.Perm (strKeys (DL L))) (Maps.size (DL L)) (w.alloc (.cells #[.map (some M)] 55)):=
  AnyZ.keys_gives (ρ:=zeP) {keysN with} Fence.wide _ trivial rfl (by omega) w.heap.size M L.length (DL L) _ (by simp) (by simp) (by
   obtain ⟨N,g,C,P,B,O⟩:=h.1
   exact ⟨N,g,(Below.heap_alloc _ _ M D).trans C,P,B,O⟩)
 refine (callsIn_wide.1 (AnyZ.sorted_in zmZ Fence.wide 5 trivial trivial trivial trivial rfl (by omega) f (enters_of Tryz.func40 (by kernel_rfl) rfl) 41 #[.pointer (some ⟨w.heap.size,0,none⟩)] trivial (enters_of Tryz.func41 (by kernel_rfl) rfl) _ _ (by rw [B];unfold maxLen;omega) (by rw [B];omega) _ A)).mono ?_
 rintro e w' ⟨v,y,rfl,I,a,_,C⟩
 have j:Below w.heap.size w (w.alloc (.cells #[.map (some M)] 55)):=(Below.refl _ _).alloc (Nat.le_refl _) _
 refine ⟨v,rfl,?_,j.trans (C.mono j.size)⟩
 rw [zdY h.2 I] at a
 have q:y.length=(L.map CE.nm).length:=by rw [I.length_eq,zhY]
 rw [q] at a
 have K:OwnX 34 1 clN w' (w.alloc (.cells #[.map (some M)] 55)).heap.size v (L.map CE.nm):=by
  have o:w'.ownsRow _ 34 1 v _ _:=a
  unfold OwnX
  rw [flatN]
  simpa using o
 exact K.lower j.size
theorem zbN (c M:Nat) (L:List CE) (w:World) (h:CacS w c M L) (f:L.length≤1000000):
  Calls Tryz.prog 20 #[.pointer (some ⟨c,0,none⟩)] w fun e w'=> ∃v,e= .returned v∧OwnX 34 1 clN w' w.heap.size v (L.map CE.nm)∧Below w.heap.size w w':=by
 have j:=zaD h.box 0
 simp at j
 have g:=Lib.hid (zgU M w)
 have i:=Lib.hid (zdX M L w h.map f)
 clear h
 go_enter Tryz.func20,Tryz.ntmps20
 go_wp2_with fail
 refine g.out.mono ?_
 rintro e x ⟨rfl,rfl⟩
 go_wp2_with fail
 refine i.out.mono ?_
 rintro e x ⟨v,rfl,o,a⟩
 go_wp2
 go_ret
 exact ⟨v,rfl,o,a⟩
end
end Go.Proofs.YteajemblhlbfpaaGreatDoor
