/-
  What the law AbnfMeets leans on, and its walk (18 of 35).
-/
import Derived.Test.YtppgdppmheiocaaGreatDoorAbnfMeetsPkO
import Derived.Test.YtppgdppmheiocaaGreatDoorAbnfMeetsPkQ
namespace Go.Proofs.YtppgdppmheiocaaGreatDoor
set_option maxRecDepth 100000
set_option maxHeartbeats 16000000
section
open Go.RowKit
theorem zaO {w x1 x2:World} (h1:Below w.heap.size w x1) (h2:Below x1.heap.size x1 x2):Below w.heap.size w x2:=h1.trans (h2.mono h1.size)
theorem anyF (f:Nat) (p:List UInt8→Bool) (hf: ∀(q:List UInt8) (w:World),Calls Tryz.prog f #[.string ⟨q.toArray⟩] w fun e w'=>e= .returned (.bool (p q))∧w=w') (ef: ∀args w,(callFunc f args).run Tryz.prog w= .ok (.enter f args) w) (g c:Nat) (ps:List (List UInt8)) (w:World) (hs:Seen w g ps) (hl:ps.length≤9223372036854775807):
  Calls Tryz.prog 193 #[.slice (some ⟨g,0,none⟩) ps.length c,.func (.func f) #[] #[]] w fun e w'=>e= .returned (.bool (ps.any p))∧Below w.heap.size w w':=by
 refine (Tryz.shf_ContainsFunc strC p f #[] ef g 0 ps.length c ps w (fun W x _=>(hf x W).mono fun e w' h=>⟨h.1,0,by rw [←h.2];rfl⟩) (Nat.le_refl _) hl (fun j hj=> ?_)).mono ?_
 ·rw [Nat.zero_add,hs.2 j hj]
  simp [strC,List.getD,List.getElem?_eq_getElem hj]
 ·rintro e w' ⟨rfl,q,rfl⟩
  rw [List.take_length]
  exact ⟨rfl,zbU (Below.refl _ _) q⟩
theorem codedF (g c:Nat) (ps:List (List UInt8)) (w:World) (hs:Seen w g ps) (hl:ps.length≤9223372036854775807):
  Calls Tryz.prog 193 #[.slice (some ⟨g,0,none⟩) ps.length c,.func (.func 195) #[] #[]] w fun e w'=>e= .returned (.bool (ps.any zhW))∧Below w.heap.size w w':=
 anyF _ _ z7W (enters_of Tryz.func195 (by kernel_rfl) rfl) g c ps w hs hl
theorem ycR {l:List UInt8} (h:zeF l=false):zcA l=([],7):=by
 unfold zcA zlS
 rw [if_pos h,if_neg (by decide)]
theorem zhP {l:List UInt8} (hp:zeF l=true) {e:Int} (h:zsP (zaF l)=e):zcA l=if e=0 then (zaF l,0) else ([],e):=by
 have e1:zlS l=e:=by unfold zlS;rw [if_neg (by simp [hp]),h]
 unfold zcA
 rw [e1]
theorem zvY {l:List UInt8} (hp:zeF l=true) (h:(zgD (zaF l)&&zhG (zaF l))=false):zcA l=([],6):=(zhP (e:=6) hp (by unfold zsP;rw [if_pos h])).trans (if_neg (by decide))
theorem zvZ {l:List UInt8} (hp:zeF l=true) (h1:zgD (zaF l)=true) (h2:zhG (zaF l)=true) {b:Bool} (h3:(zbY (zaF l)).any zhW=b):zcA l=if b=true then ([],7) else (zaF l,0):=by
 cases b
 ·exact zhP (e:=0) hp (by unfold zsP;rw [if_neg (by simp [h1,h2]),if_neg (by simp [h3])])
 ·exact zhP (e:=7) hp (by unfold zsP;rw [if_neg (by simp [h1,h2]),if_pos h3])
def z4A (w:World) (x:List UInt8×Int) (e:Ending) (w':World):Prop:=e= .returned (.tuple #[.string ⟨x.1.toArray⟩,.int .i64 x.2])∧Below w.heap.size w w'
theorem zfC {w w':World} {x:List UInt8×Int} {l:List UInt8} {n:Int} (h:x=(l,n)) (hb:Below w.heap.size w w'):z4A w x (.returned (.tuple #[.string ⟨l.toArray⟩,.int .i64 n])) w':=by
 subst h;exact ⟨rfl,hb⟩
theorem z0Z (s:ByteArray) (w:World) (hs:s.size≤9223372036854775807):
  Calls Tryz.prog 166 #[.string s] w (z4A w (zcA s.data.toList)):=by
 cases hp:zeF s.data.toList with
 |false=>
  have HF:=Lib.hid (ycR hp)
  go_enter Tryz.func166,Tryz.ntmps166
  go_wp2_with fail
  refine (zrW s _ hs).mono ?_
  rw [show zkR s=false from hp]
  rintro e w' ⟨rfl,rfl⟩
  go_wp2
  go_ret2
  exact zfC HF.out (Below.refl _ _)
 |true=>
  have HP:=Lib.hid hp
  obtain ⟨t,ht⟩: ∃t,zaF s.data.toList=t:=⟨_,rfl⟩
  have htl:t.length=s.size:=by rw [←ht,zgI,zaI]
  have htp:zeF t=true:=by rw [←ht];exact ztC hp
  have HT:=Lib.hid ht
  clear hp
  go_enter Tryz.func166,Tryz.ntmps166
  go_wp2_with fail
  refine (zrW s _ hs).mono ?_
  rw [show zkR s=true from HP.out]
  rintro e w' ⟨rfl,rfl⟩
  go_wp2_with fail
  refine (z4Y s _ hs).mono ?_
  rw [ht]
  rintro e w1 ⟨rfl,hb1⟩
  go_wp2_with fail
  refine (z1Q ⟨t.toArray⟩ _ (by rw [zaE];omega)).mono ?_
  rw [zaH]
  rintro e w2 ⟨rfl,hb2⟩
  have hc2:=zaO hb1 hb2
  clear hb1 hb2 ht
  cases h1:zgD t with
  |false=>
   have HF:=Lib.hid (zvY HP.out (by rw [HT.out,h1];rfl))
   go_wp2
   go_ret2
   exact zfC HF.out hc2
  |true=>
   have H1:=Lib.hid h1
   have htl4:=z7T h1
   clear h1
   go_wp2_with fail
   refine (z6N ⟨t.toArray⟩ _ (by rw [zaH];exact htp)).mono ?_
   rw [zaH]
   rintro e w3 ⟨rfl,hb3⟩
   have hc3:=zaO hc2 hb3
   clear hc2 hb3
   cases h2:zhG t with
   |false=>
    have HF:=Lib.hid (zvY HP.out (by rw [HT.out,h2,Bool.and_false]))
    go_wp2
    go_ret2
    exact zfC HF.out hc3
   |true=>
    have H2:=Lib.hid h2
    clear h2
    go_wp2_with fail
    refine (znS ⟨t.toArray⟩ _ (by rw [zaE];omega)).mono ?_
    rw [zaH]
    rintro e w4 ⟨g,c,rfl,-,hse,hb4⟩
    have hc4:=zaO hc3 hb4
    clear hc3 hb4
    go_wp2_with fail
    refine (codedF g c _ _ hse (by have:=znK t;omega)).mono ?_
    rintro e w5 ⟨rfl,hb5⟩
    have hc5:=zaO hc4 hb5
    clear hc4 hb5 hse
    cases h3:(zbY t).any zhW with
    |false=>
     have HF:=Lib.hid (zvZ (b:=false) HP.out (by rw [HT.out];exact H1.out) (by rw [HT.out];exact H2.out) (by rw [HT.out];exact h3))
     rw [if_neg (by decide),HT.out] at HF
     go_wp2
     go_ret2
     exact zfC HF.out hc5
    |true=>
     have HF:=Lib.hid (zvZ (b:=true) HP.out (by rw [HT.out];exact H1.out) (by rw [HT.out];exact H2.out) (by rw [HT.out];exact h3))
     rw [if_pos rfl] at HF
     go_wp2
     go_ret2
     exact zfC HF.out hc5
end
end Go.Proofs.YtppgdppmheiocaaGreatDoor
