/-
  What the law CachePlays leans on, and its walk (15 of 21).
-/
import Derived.BigQuiet
import Derived.Test.YteajemblhlbfpaaGreatDoorCachePlaysPkM
import Derived.Test.YteajemblhlbfpaaGreatDoorCachePlaysPkN
namespace Go.Proofs.YteajemblhlbfpaaGreatDoor
set_option maxRecDepth 100000
set_option maxHeartbeats 16000000
section
open Go.RowKit Go.Maps Go.Sort Go.Shelf Go.Lib
def clN (n:List UInt8):List Value:=[.string ⟨n.toArray⟩]
theorem ziU (a:List UInt8):(clN a).length=1:=rfl
theorem flatN (l:List (List UInt8)):l.flatMap clN=l.map encStr:=by
 induction l with
 |nil=>rfl
 |cons x l f=>rw [List.flatMap_cons,f];rfl
theorem zeU: ∀{a b:List UInt8},bytesBefore a b=true→a≤b
 |[],[],h=>by cases h
 |[],_::_,_=>List.nil_le _
 |_::_,[],h=>by cases h
 |a::l,b::m,h=>by
  unfold bytesBefore at h
  simp only [Bool.or_eq_true,decide_eq_true_eq,Bool.and_eq_true,beq_iff_eq] at h
  rw [List.cons_le_cons_iff]
  rcases h with h|⟨rfl,h⟩
  ·exact .inl h
  ·exact .inr ⟨rfl,zeU h⟩
theorem zlD (L:List CE):strKeys (DL L)=L.map CE.nm:=by
 unfold DL strKeys
 simp only
 rw [List.map_map]
 rfl
theorem zeO {L:List CE} {g:List (List UInt8)} (h:zaM L) (o:g.Perm (strKeys (DL L))):g.mergeSort (fun x y=>decide (x≤y))=L.map CE.nm:=by
 rw [zlD] at o
 have p: ∀a b c:List UInt8,leB a b=true→leB b c=true→leB a c=true:=fun a b c i f=>by simp only [leB,decide_eq_true_eq] at*;exact List.le_trans i f
 have j: ∀a b:List UInt8,(leB a b||leB b a)=true:=fun a b=>by simp only [leB,Bool.or_eq_true,decide_eq_true_eq];exact List.le_total a b
 refine List.Perm.eq_of_pairwise (le:=fun a b=>leB a b=true) (fun a b _ _ i f=> ?_) (List.pairwise_mergeSort p j g) ?_ ((List.mergeSort_perm g leB).trans o)
 ·simp only [leB,decide_eq_true_eq] at i f
  exact List.le_antisymm i f
 ·rw [List.pairwise_map]
  exact List.Pairwise.imp (fun {a b} q=>by simp only [leB,decide_eq_true_eq];exact zeU q) h
theorem zhZ (M:Nat) (w:World):Calls Tryz.prog 33 #[.map (some M)] w fun e w'=>e= .returned (.func (.func 41) #[] #[.pointer (some ⟨w.heap.size,0,none⟩)])∧w'=w.alloc (.cells #[.map (some M)] 55):=
 callsIn_wide.1 (AnyZ.keys_in keysN Fence.wide 5 trivial rfl (some M) w)
theorem zeW (M:Nat) (L:List CE) (w:World) (h:MapS w M L) (U:L.length≤1000000):
  Calls Tryz.prog 32 #[.func (.func 41) #[] #[.pointer (some ⟨w.heap.size,0,none⟩)]] (w.alloc (.cells #[.map (some M)] 55)) fun e w'=> ∃v,e= .returned v∧OwnX 34 1 clN w' w.heap.size v (L.map CE.nm)∧Below w.heap.size w w':=by
 have H:=h.1.lt
 have E:=zcM L
 have g:AnyZ.SortsIn Tryz.prog zcV Fence.wide 4:=
  ⟨fun I J j B W O A K=>callsIn_wide.2 (AnyM.slices_Sort_string sortN I J j B W O A K),
   fun p j W=>callsIn_wide.2 (AnyM.slices_Sort_string_none sortN p j W)⟩
 have C:SeqGives Fence.wide 2 Tryz.prog 41 #[.pointer (some ⟨w.heap.size,0,none⟩)] encStr (fun B=>B.Perm (strKeys (DL L))) (Maps.size (DL L)) (w.alloc (.cells #[.map (some M)] 55)):=
  AnyZ.keys_gives (ρ:=zfB) {keysN with} Fence.wide _ trivial rfl (by omega) w.heap.size M L.length (DL L) _ (by simp) (by simp) (by
   obtain ⟨R,y,G,P,E,T⟩:=h.1
   exact ⟨R,y,(Below.heap_alloc _ _ M H).trans G,P,E,T⟩)
 refine (callsIn_wide.1 (AnyZ.sorted_in znX Fence.wide 5 trivial trivial trivial trivial rfl (by omega) g (enters_of Tryz.func40 (by kernel_rfl) rfl) 41 #[.pointer (some ⟨w.heap.size,0,none⟩)] trivial (enters_of Tryz.func41 (by kernel_rfl) rfl) _ _ (by rw [E];unfold maxLen;omega) (by rw [E];omega) _ C)).mono ?_
 rintro e w' ⟨v,B,rfl,N,f,_,G⟩
 have i:Below w.heap.size w (w.alloc (.cells #[.map (some M)] 55)):=(Below.refl _ _).alloc (Nat.le_refl _) _
 refine ⟨v,rfl,?_,i.trans (G.mono i.size)⟩
 rw [zeO h.2 N] at f
 have D:B.length=(L.map CE.nm).length:=by rw [N.length_eq,zlD]
 rw [D] at f
 have S:OwnX 34 1 clN w' (w.alloc (.cells #[.map (some M)] 55)).heap.size v (L.map CE.nm):=by
  have o:w'.ownsRow _ 34 1 v _ _:=f
  unfold OwnX
  rw [flatN]
  simpa using o
 exact S.lower i.size
theorem zdC (c M:Nat) (L:List CE) (w:World) (h:CacS w c M L) (o:L.length≤1000000):
  Calls Tryz.prog 20 #[.pointer (some ⟨c,0,none⟩)] w fun e w'=> ∃v,e= .returned v∧OwnX 34 1 clN w' w.heap.size v (L.map CE.nm)∧Below w.heap.size w w':=by
 have f:=zaD h.box 0
 simp at f
 have p:=Lib.hid (zhZ M w)
 have j:=Lib.hid (zeW M L w h.map o)
 clear h
 go_enter Tryz.func20,Tryz.ntmps20
 go_wp2_with fail
 refine p.out.mono ?_
 rintro e x ⟨rfl,rfl⟩
 go_wp2_with fail
 refine j.out.mono ?_
 rintro e x ⟨v,rfl,i,g⟩
 go_wp2
 go_ret
 exact ⟨v,rfl,i,g⟩
end
end Go.Proofs.YteajemblhlbfpaaGreatDoor
