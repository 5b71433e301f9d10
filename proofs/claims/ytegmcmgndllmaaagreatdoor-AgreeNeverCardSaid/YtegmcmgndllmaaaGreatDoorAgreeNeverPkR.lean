/-
  What the law AgreeNever leans on, and its walk (18 of 42).
-/
import Derived.Test.YtegmcmgndllmaaaGreatDoorAgreeNeverPkO
import Derived.Test.YtegmcmgndllmaaaGreatDoorAgreeNeverPkQ
namespace Go.Proofs.YtegmcmgndllmaaaGreatDoor
set_option maxRecDepth 100000
set_option maxHeartbeats 16000000
section
open Go.RowKit
theorem zaJ {w d f:World} (i:Below w.heap.size w d) (j:Below d.heap.size d f):Below w.heap.size w f:=i.trans (j.mono i.size)
theorem anyF (f:Nat) (p:List UInt8→Bool) (i: ∀(q:List UInt8) (w:World),Calls Tryz.prog f #[.string ⟨q.toArray⟩] w fun e w'=>e= .returned (.bool (p q))∧w=w') (o: ∀args w,(callFunc f args).run Tryz.prog w= .ok (.enter f args) w) (g c:Nat) (ps:List (List UInt8)) (w:World) (A:Seen w g ps) (m:ps.length≤9223372036854775807):
  Calls Tryz.prog 175 #[.slice (some ⟨g,0,none⟩) ps.length c,.func (.func f) #[] #[]] w fun e w'=>e= .returned (.bool (ps.any p))∧Below w.heap.size w w':=by
 refine (Tryz.shf_ContainsFunc strC p f #[] o g 0 ps.length c ps w (fun W x _=>(i x W).mono fun e w' h=>⟨h.1,0,by rw [←h.2];rfl⟩) (Nat.le_refl _) m (fun j d=> ?_)).mono ?_
 ·rw [Nat.zero_add,A.2 j d]
  simp [strC,List.getD,List.getElem?_eq_getElem d]
 ·rintro e w' ⟨rfl,q,rfl⟩
  rw [List.take_length]
  exact ⟨rfl,zbV (Below.refl _ _) q⟩
theorem codedF (g c:Nat) (ps:List (List UInt8)) (w:World) (f:Seen w g ps) (d:ps.length≤9223372036854775807):
  Calls Tryz.prog 175 #[.slice (some ⟨g,0,none⟩) ps.length c,.func (.func 177) #[] #[]] w fun e w'=>e= .returned (.bool (ps.any zpE))∧Below w.heap.size w w':=
 anyF _ _ z7Z (enters_of Tryz.func177 (by kernel_rfl) rfl) g c ps w f d
theorem ycI {l:List UInt8} (h:zfH l=false):zcR l=([],7):=by
 unfold zcR znL
 rw [if_pos h,if_neg (by decide)]
theorem ziO {l:List UInt8} (f:zfH l=true) {e:Int} (h:zwV (zaM l)=e):zcR l=if e=0 then (zaM l,0) else ([],e):=by
 have d:znL l=e:=by unfold znL;rw [if_neg (by simp [f]),h]
 unfold zcR
 rw [d]
theorem zyB {l:List UInt8} (d:zfH l=true) (h:(zhN (zaM l)&&ziM (zaM l))=false):zcR l=([],6):=(ziO (e:=6) d (by unfold zwV;rw [if_pos h])).trans (if_neg (by decide))
theorem zzA {l:List UInt8} (d:zfH l=true) (f:zhN (zaM l)=true) (i:ziM (zaM l)=true) {b:Bool} (j:(zdB (zaM l)).any zpE=b):zcR l=if b=true then ([],7) else (zaM l,0):=by
 cases b
 ·exact ziO (e:=0) d (by unfold zwV;rw [if_neg (by simp [f,i]),if_neg (by simp [j])])
 ·exact ziO (e:=7) d (by unfold zwV;rw [if_neg (by simp [f,i]),if_pos j])
def z5B (w:World) (x:List UInt8×Int) (e:Ending) (w':World):Prop:=e= .returned (.tuple #[.string ⟨x.1.toArray⟩,.int .i64 x.2])∧Below w.heap.size w w'
theorem zfY {w w':World} {x:List UInt8×Int} {l:List UInt8} {n:Int} (h:x=(l,n)) (d:Below w.heap.size w w'):z5B w x (.returned (.tuple #[.string ⟨l.toArray⟩,.int .i64 n])) w':=by
 subst h;exact ⟨rfl,d⟩
theorem z4S (s:ByteArray) (w:World) (N:s.size≤9223372036854775807):
  Calls Tryz.prog 104 #[.string s] w (z5B w (zcR s.data.toList)):=by
 cases E:zfH s.data.toList with
 |false=>
  have d:=Lib.hid (ycI E)
  go_enter Tryz.func104,Tryz.ntmps104
  go_wp2_with fail
  refine (zuO s _ N).mono ?_
  rw [show znU s=false from E]
  rintro e w' ⟨rfl,rfl⟩
  go_wp2
  go_ret2
  exact zfY d.out (Below.refl _ _)
 |true=>
  have G:=Lib.hid E
  obtain ⟨t,j⟩: ∃t,zaM s.data.toList=t:=⟨_,rfl⟩
  have V:t.length=s.size:=by rw [←j,zhH,zaR]
  have M:zfH t=true:=by rw [←j];exact zvB E
  have HT:=Lib.hid j
  clear E
  go_enter Tryz.func104,Tryz.ntmps104
  go_wp2_with fail
  refine (zuO s _ N).mono ?_
  rw [show znU s=true from G.out]
  rintro e w' ⟨rfl,rfl⟩
  go_wp2_with fail
  refine (z4X s _ N).mono ?_
  rw [j]
  rintro e Z ⟨rfl,B⟩
  go_wp2_with fail
  refine (z4B ⟨t.toArray⟩ _ (by rw [zaI];omega)).mono ?_
  rw [zaQ]
  rintro e w2 ⟨rfl,A⟩
  have i:=zaJ B A
  clear B A j
  cases J:zhN t with
  |false=>
   have d:=Lib.hid (zyB G.out (by rw [HT.out,J];rfl))
   go_wp2
   go_ret2
   exact zfY d.out i
  |true=>
   have Q:=Lib.hid J
   have O:=ybP J
   clear J
   go_wp2_with fail
   refine (z9Q ⟨t.toArray⟩ _ (by rw [zaQ];exact M)).mono ?_
   rw [zaQ]
   rintro e X ⟨rfl,C⟩
   have f:=zaJ i C
   clear i C
   cases K:ziM t with
   |false=>
    have d:=Lib.hid (zyB G.out (by rw [HT.out,K,Bool.and_false]))
    go_wp2
    go_ret2
    exact zfY d.out f
   |true=>
    have S:=Lib.hid K
    clear K
    go_wp2_with fail
    refine (zoQ ⟨t.toArray⟩ _ (by rw [zaI];omega)).mono ?_
    rw [zaQ]
    rintro e Y ⟨g,c,rfl,-,H,I⟩
    have m:=zaJ f I
    clear f I
    go_wp2_with fail
    refine (codedF g c _ _ H (by have:=zpL t;omega)).mono ?_
    rintro e w5 ⟨rfl,D⟩
    have o:=zaJ m D
    clear m D H
    cases U:(zdB t).any zpE with
    |false=>
     have d:=Lib.hid (zzA (b:=false) G.out (by rw [HT.out];exact Q.out) (by rw [HT.out];exact S.out) (by rw [HT.out];exact U))
     rw [if_neg (by decide),HT.out] at d
     go_wp2
     go_ret2
     exact zfY d.out o
    |true=>
     have d:=Lib.hid (zzA (b:=true) G.out (by rw [HT.out];exact Q.out) (by rw [HT.out];exact S.out) (by rw [HT.out];exact U))
     rw [if_pos rfl] at d
     go_wp2
     go_ret2
     exact zfY d.out o
end
end Go.Proofs.YtegmcmgndllmaaaGreatDoor
