/-
  What the law AnswersPlay leans on, and its walk (15 of 22).
-/
import Derived.BigQuiet
import Derived.Test.YtkiehdigpchebaaGreatDoorAnswersPlayPkM
import Derived.Test.YtkiehdigpchebaaGreatDoorAnswersPlayPkN
namespace Go.Proofs.YtkiehdigpchebaaGreatDoor
set_option maxRecDepth 100000
set_option maxHeartbeats 16000000
section
open Go.RowKit Go.Maps Go.Sort Go.Shelf Go.Lib
def clN (n:List UInt8):List Value:=[.string ⟨n.toArray⟩]
theorem zpT (a:List UInt8):(clN a).length=1:=rfl
theorem flatN (l:List (List UInt8)):l.flatMap clN=l.map encStr:=by
 induction l with
 |nil=>rfl
 |cons x l d=>rw [List.flatMap_cons,d];rfl
theorem zgB: ∀{a b:List UInt8},bytesBefore a b=true→a≤b
 |[],[],h=>by cases h
 |[],_::_,_=>List.nil_le _
 |_::_,[],h=>by cases h
 |a::l,b::m,h=>by
  unfold bytesBefore at h
  simp only [Bool.or_eq_true,decide_eq_true_eq,Bool.and_eq_true,beq_iff_eq] at h
  rw [List.cons_le_cons_iff]
  rcases h with h|⟨rfl,h⟩
  ·exact .inl h
  ·exact .inr ⟨rfl,zgB h⟩
theorem zmI (L:List CE):strKeys (DL L)=L.map CE.nm:=by
 unfold DL strKeys
 simp only
 rw [List.map_map]
 rfl
theorem zfC {L:List CE} {d:List (List UInt8)} (h:zaO L) (C:d.Perm (strKeys (DL L))):d.mergeSort (fun x y=>decide (x≤y))=L.map CE.nm:=by
 rw [zmI] at C
 have E: ∀a b c:List UInt8,leB a b=true→leB b c=true→leB a c=true:=fun a b c o f=>by simp only [leB,decide_eq_true_eq] at*;exact List.le_trans o f
 have p: ∀a b:List UInt8,(leB a b||leB b a)=true:=fun a b=>by simp only [leB,Bool.or_eq_true,decide_eq_true_eq];exact List.le_total a b
 refine List.Perm.eq_of_pairwise (le:=fun a b=>leB a b=true) (fun a b _ _ o f=> ?_) (List.pairwise_mergeSort E p d) ?_ ((List.mergeSort_perm d leB).trans C)
 ·simp only [leB,decide_eq_true_eq] at o f
  exact List.le_antisymm o f
 ·rw [List.pairwise_map]
  exact List.Pairwise.imp (fun {a b} q=>by simp only [leB,decide_eq_true_eq];exact zgB q) h
theorem zjA (M:Nat) (w:World):Calls Tryz.prog 39 #[.map (some M)] w fun e w'=>e= .returned (.func (.func 49) #[] #[.pointer (some ⟨w.heap.size,0,none⟩)])∧w'=w.alloc (.cells #[.map (some M)] 81):=
 callsIn_wide.1 (AnyZ.keys_in keysN Fence.wide 5 trivial rfl (some M) w)
theorem zfZ (M:Nat) (L:List CE) (w:World) (h:MapS w M L) (hL:L.length≤1000000):
  Calls Tryz.prog 38 #[.func (.func 49) #[] #[.pointer (some ⟨w.heap.size,0,none⟩)]] (w.alloc (.cells #[.map (some M)] 81)) fun e w'=> ∃v,e= .returned v∧OwnX 34 1 clN w' w.heap.size v (L.map CE.nm)∧Below w.heap.size w w':=by
 have R:=h.1.lt
 have K:=zeB L
 have f:AnyZ.SortsIn Tryz.prog zcY Fence.wide 4:=
  ⟨fun blk off E H W V J O=>callsIn_wide.2 (AnyM.slices_Sort_string sortN blk off E H W V J O),
   fun p E W=>callsIn_wide.2 (AnyM.slices_Sort_string_none sortN p E W)⟩
 have I:SeqGives Fence.wide 2 Tryz.prog 49 #[.pointer (some ⟨w.heap.size,0,none⟩)] encStr (fun H=>H.Perm (strKeys (DL L))) (Maps.size (DL L)) (w.alloc (.cells #[.map (some M)] 81)):=
  AnyZ.keys_gives (ρ:=zfY) {keysN with} Fence.wide _ trivial rfl (by omega) w.heap.size M L.length (DL L) _ (by simp) (by simp) (by
   obtain ⟨es,o,N,Z,K,U⟩:=h.1
   exact ⟨es,o,(Below.heap_alloc _ _ M R).trans N,Z,K,U⟩)
 refine (callsIn_wide.1 (AnyZ.sorted_in zpP Fence.wide 5 trivial trivial trivial trivial rfl (by omega) f (enters_of Tryz.func48 (by kernel_rfl) rfl) 49 #[.pointer (some ⟨w.heap.size,0,none⟩)] trivial (enters_of Tryz.func49 (by kernel_rfl) rfl) _ _ (by rw [K];unfold maxLen;omega) (by rw [K];omega) _ I)).mono ?_
 rintro e w' ⟨v,H,rfl,S,d,_,N⟩
 have y:Below w.heap.size w (w.alloc (.cells #[.map (some M)] 81)):=(Below.refl _ _).alloc (Nat.le_refl _) _
 refine ⟨v,rfl,?_,y.trans (N.mono y.size)⟩
 rw [zfC h.2 S] at d
 have G:H.length=(L.map CE.nm).length:=by rw [S.length_eq,zmI]
 rw [G] at d
 have Y:OwnX 34 1 clN w' (w.alloc (.cells #[.map (some M)] 81)).heap.size v (L.map CE.nm):=by
  have C:w'.ownsRow _ 34 1 v _ _:=d
  unfold OwnX
  rw [flatN]
  simpa using C
 exact Y.lower y.size
theorem zdN (c M:Nat) (L:List CE) (w:World) (h:CacS w c M L) (f:L.length≤1000000):
  Calls Tryz.prog 25 #[.pointer (some ⟨c,0,none⟩)] w fun e w'=> ∃v,e= .returned v∧OwnX 34 1 clN w' w.heap.size v (L.map CE.nm)∧Below w.heap.size w w':=by
 have y:=zaA h.box 0
 simp at y
 have d:=Lib.hid (zjA M w)
 have C:=Lib.hid (zfZ M L w h.map f)
 clear h
 go_enter Tryz.func25,Tryz.ntmps25
 go_wp2_with fail
 refine d.out.mono ?_
 rintro e x ⟨rfl,rfl⟩
 go_wp2_with fail
 refine C.out.mono ?_
 rintro e x ⟨v,rfl,p,o⟩
 go_wp2
 go_ret
 exact ⟨v,rfl,p,o⟩
end
end Go.Proofs.YtkiehdigpchebaaGreatDoor
