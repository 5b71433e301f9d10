/-
  What the law ResolveMeets leans on, and its walk (19 of 46).
-/
import Derived.Test.YtmjappnpedjlnaaGreatDoorResolveMeetsPkP
import Derived.Test.YtmjappnpedjlnaaGreatDoorResolveMeetsPkR
namespace Go.Proofs.YtmjappnpedjlnaaGreatDoor
set_option maxRecDepth 100000
set_option maxHeartbeats 16000000
section
open Go.RowKit
theorem zaF {w x1 x2:World} (h1:Below w.heap.size w x1) (h2:Below x1.heap.size x1 x2):Below w.heap.size w x2:=h1.trans (h2.mono h1.size)
theorem anyF (f:Nat) (p:List UInt8→Bool) (hf: ∀(q:List UInt8) (w:World),Calls Tryz.prog f #[.string ⟨q.toArray⟩] w fun e w'=>e= .returned (.bool (p q))∧w=w') (ef: ∀args w,(callFunc f args).run Tryz.prog w= .ok (.enter f args) w) (g c:Nat) (ps:List (List UInt8)) (w:World) (hs:Seen w g ps) (hl:ps.length≤9223372036854775807):
  Calls Tryz.prog 175 #[.slice (some ⟨g,0,none⟩) ps.length c,.func (.func f) #[] #[]] w fun e w'=>e= .returned (.bool (ps.any p))∧Below w.heap.size w w':=by
 refine (Tryz.shf_ContainsFunc strC p f #[] ef g 0 ps.length c ps w (fun W x _=>(hf x W).mono fun e w' h=>⟨h.1,0,by rw [←h.2];rfl⟩) (Nat.le_refl _) hl (fun j hj=> ?_)).mono ?_
 ·rw [Nat.zero_add,hs.2 j hj]
  simp [strC,List.getD,List.getElem?_eq_getElem hj]
 ·rintro e w' ⟨rfl,q,rfl⟩
  rw [List.take_length]
  exact ⟨rfl,zcG (Below.refl _ _) q⟩
theorem codedF (g c:Nat) (ps:List (List UInt8)) (w:World) (hs:Seen w g ps) (hl:ps.length≤9223372036854775807):
  Calls Tryz.prog 175 #[.slice (some ⟨g,0,none⟩) ps.length c,.func (.func 177) #[] #[]] w fun e w'=>e= .returned (.bool (ps.any zkF))∧Below w.heap.size w w':=
 anyF _ _ yaP (enters_of Tryz.func177 (by kernel_rfl) rfl) g c ps w hs hl
theorem ygH {l:List UInt8} (h:zgE l=false):zcT l=([],7):=by
 unfold zcT zoS
 rw [if_pos h,if_neg (by decide)]
theorem zjW {l:List UInt8} (hp:zgE l=true) {e:Int} (h:zzK (zaI l)=e):zcT l=if e=0 then (zaI l,0) else ([],e):=by
 have e1:zoS l=e:=by unfold zoS;rw [if_neg (by simp [hp]),h]
 unfold zcT
 rw [e1]
theorem z1C {l:List UInt8} (hp:zgE l=true) (h:(ziD (zaI l)&&zjJ (zaI l))=false):zcT l=([],6):=(zjW (e:=6) hp (by unfold zzK;rw [if_pos h])).trans (if_neg (by decide))
theorem z2P {l:List UInt8} (hp:zgE l=true) (h1:ziD (zaI l)=true) (h2:zjJ (zaI l)=true) {b:Bool} (h3:(zcN (zaI l)).any zkF=b):zcT l=if b=true then ([],7) else (zaI l,0):=by
 cases b
 ·exact zjW (e:=0) hp (by unfold zzK;rw [if_neg (by simp [h1,h2]),if_neg (by simp [h3])])
 ·exact zjW (e:=7) hp (by unfold zzK;rw [if_neg (by simp [h1,h2]),if_pos h3])
def z9K (w:World) (x:List UInt8×Int) (e:Ending) (w':World):Prop:=e= .returned (.tuple #[.string ⟨x.1.toArray⟩,.int .i64 x.2])∧Below w.heap.size w w'
theorem zgY {w w':World} {x:List UInt8×Int} {l:List UInt8} {n:Int} (h:x=(l,n)) (hb:Below w.heap.size w w'):z9K w x (.returned (.tuple #[.string ⟨l.toArray⟩,.int .i64 n])) w':=by
 subst h;exact ⟨rfl,hb⟩
theorem z7T (s:ByteArray) (w:World) (hs:s.size≤9223372036854775807):
  Calls Tryz.prog 126 #[.string s] w (z9K w (zcT s.data.toList)):=by
 cases hp:zgE s.data.toList with
 |false=>
  have HF:=Lib.hid (ygH hp)
  go_enter Tryz.func126,Tryz.ntmps126
  go_wp2_with fail
  refine (ztS s _ hs).mono ?_
  rw [show znH s=false from hp]
  rintro e w' ⟨rfl,rfl⟩
  go_wp2
  go_ret2
  exact zgY HF.out (Below.refl _ _)
 |true=>
  have HP:=Lib.hid hp
  obtain ⟨t,ht⟩: ∃t,zaI s.data.toList=t:=⟨_,rfl⟩
  have htl:t.length=s.size:=by rw [←ht,zhT,zaN]
  have htp:zgE t=true:=by rw [←ht];exact zyG hp
  have HT:=Lib.hid ht
  clear hp
  go_enter Tryz.func126,Tryz.ntmps126
  go_wp2_with fail
  refine (ztS s _ hs).mono ?_
  rw [show znH s=true from HP.out]
  rintro e w' ⟨rfl,rfl⟩
  go_wp2_with fail
  refine (z7S s _ hs).mono ?_
  rw [ht]
  rintro e w1 ⟨rfl,hb1⟩
  go_wp2_with fail
  refine (ycD ⟨t.toArray⟩ _ (by rw [zaB];omega)).mono ?_
  rw [zaL]
  rintro e w2 ⟨rfl,hb2⟩
  have hc2:=zaF hb1 hb2
  clear hb1 hb2 ht
  cases h1:ziD t with
  |false=>
   have HF:=Lib.hid (z1C HP.out (by rw [HT.out,h1];rfl))
   go_wp2
   go_ret2
   exact zgY HF.out hc2
  |true=>
   have H1:=Lib.hid h1
   have htl4:=z7O h1
   clear h1
   go_wp2_with fail
   refine (z9C ⟨t.toArray⟩ _ (by rw [zaL];exact htp)).mono ?_
   rw [zaL]
   rintro e w3 ⟨rfl,hb3⟩
   have hc3:=zaF hc2 hb3
   clear hc2 hb3
   cases h2:zjJ t with
   |false=>
    have HF:=Lib.hid (z1C HP.out (by rw [HT.out,h2,Bool.and_false]))
    go_wp2
    go_ret2
    exact zgY HF.out hc3
   |true=>
    have H2:=Lib.hid h2
    clear h2
    go_wp2_with fail
    refine (zqK ⟨t.toArray⟩ _ (by rw [zaB];omega)).mono ?_
    rw [zaL]
    rintro e w4 ⟨g,c,rfl,-,hse,hb4⟩
    have hc4:=zaF hc3 hb4
    clear hc3 hb4
    go_wp2_with fail
    refine (codedF g c _ _ hse (by have:=zqV t;omega)).mono ?_
    rintro e w5 ⟨rfl,hb5⟩
    have hc5:=zaF hc4 hb5
    clear hc4 hb5 hse
    cases h3:(zcN t).any zkF with
    |false=>
     have HF:=Lib.hid (z2P (b:=false) HP.out (by rw [HT.out];exact H1.out) (by rw [HT.out];exact H2.out) (by rw [HT.out];exact h3))
     rw [if_neg (by decide),HT.out] at HF
     go_wp2
     go_ret2
     exact zgY HF.out hc5
    |true=>
     have HF:=Lib.hid (z2P (b:=true) HP.out (by rw [HT.out];exact H1.out) (by rw [HT.out];exact H2.out) (by rw [HT.out];exact h3))
     rw [if_pos rfl] at HF
     go_wp2
     go_ret2
     exact zgY HF.out hc5
end
end Go.Proofs.YtmjappnpedjlnaaGreatDoor
