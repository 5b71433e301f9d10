/-
  What the law WhatwgClean leans on, and its walk (9 of 31).
-/
import Derived.Test.YthacmlahnpdeeaaGreatDoorWhatwgCleanPkD
import Derived.Test.YthacmlahnpdeeaaGreatDoorWhatwgCleanPkH
namespace Go.Proofs.YthacmlahnpdeeaaGreatDoor
set_option maxRecDepth 100000
set_option maxHeartbeats 16000000
section
open Go.RowKit
theorem zaF {w x1 x2:World} (h1:Below w.heap.size w x1) (h2:Below x1.heap.size x1 x2):Below w.heap.size w x2:=h1.trans (h2.mono h1.size)
theorem anyF (f:Nat) (p:List UInt8→Bool) (hf: ∀(q:List UInt8) (w:World),Calls Tryz.prog f #[.string ⟨q.toArray⟩] w fun e w'=>e= .returned (.bool (p q))∧w=w') (ef: ∀args w,(callFunc f args).run Tryz.prog w= .ok (.enter f args) w) (g c:Nat) (ps:List (List UInt8)) (w:World) (hs:Seen w g ps) (hl:ps.length≤9223372036854775807):
  Calls Tryz.prog 146 #[.slice (some ⟨g,0,none⟩) ps.length c,.func (.func f) #[] #[]] w fun e w'=>e= .returned (.bool (ps.any p))∧Below w.heap.size w w':=by
 refine (Tryz.shf_ContainsFunc strC p f #[] ef g 0 ps.length c ps w (fun W x _=>(hf x W).mono fun e w' h=>⟨h.1,0,by rw [←h.2];rfl⟩) (Nat.le_refl _) hl (fun j hj=> ?_)).mono ?_
 ·rw [Nat.zero_add,hs.2 j hj]
  simp [strC,List.getD,List.getElem?_eq_getElem hj]
 ·rintro e w' ⟨rfl,q,rfl⟩
  rw [List.take_length]
  exact ⟨rfl,zbY (Below.refl _ _) q⟩
theorem codedF (g c:Nat) (ps:List (List UInt8)) (w:World) (hs:Seen w g ps) (hl:ps.length≤9223372036854775807):
  Calls Tryz.prog 146 #[.slice (some ⟨g,0,none⟩) ps.length c,.func (.func 148) #[] #[]] w fun e w'=>e= .returned (.bool (ps.any zrK))∧Below w.heap.size w w':=
 anyF _ _ z9Q (enters_of Tryz.func148 (by kernel_rfl) rfl) g c ps w hs hl
theorem yiC {l:List UInt8} (h:zfK l=false):zbR l=([],7):=by
 unfold zbR zmJ
 rw [if_pos h,if_neg (by decide)]
theorem zjL {l:List UInt8} (hp:zfK l=true) {e:Int} (h:zwN (zbF l)=e):zbR l=if e=0 then (zbF l,0) else ([],e):=by
 have e1:zmJ l=e:=by unfold zmJ;rw [if_neg (by simp [hp]),h]
 unfold zbR
 rw [e1]
theorem z2W {l:List UInt8} (hp:zfK l=true) (h:(ziI (zbF l)&&zjI (zbF l))=false):zbR l=([],6):=(zjL (e:=6) hp (by unfold zwN;rw [if_pos h])).trans (if_neg (by decide))
theorem z2F {l:List UInt8} (hp:zfK l=true) (h1:ziI (zbF l)=true) (h2:zjI (zbF l)=true) {b:Bool} (h3:(zaZ (zbF l)).any zrK=b):zbR l=if b=true then ([],7) else (zbF l,0):=by
 cases b
 ·exact zjL (e:=0) hp (by unfold zwN;rw [if_neg (by simp [h1,h2]),if_neg (by simp [h3])])
 ·exact zjL (e:=7) hp (by unfold zwN;rw [if_neg (by simp [h1,h2]),if_pos h3])
def yaP (w:World) (x:List UInt8×Int) (e:Ending) (w':World):Prop:=e= .returned (.tuple #[.string ⟨x.1.toArray⟩,.int .i64 x.2])∧Below w.heap.size w w'
theorem zhA {w w':World} {x:List UInt8×Int} {l:List UInt8} {n:Int} (h:x=(l,n)) (hb:Below w.heap.size w w'):yaP w x (.returned (.tuple #[.string ⟨l.toArray⟩,.int .i64 n])) w':=by
 subst h;exact ⟨rfl,hb⟩
theorem ziN (s:ByteArray) (w:World) (hs:s.size≤9223372036854775807):
  Calls Tryz.prog 97 #[.string s] w (yaP w (zbR s.data.toList)):=by
 cases hp:zfK s.data.toList with
 |false=>
  have HF:=Lib.hid (yiC hp)
  go_enter Tryz.func97,Tryz.ntmps97
  go_wp2_with fail
  refine (zuW s _ hs).mono ?_
  rw [show zoN s=false from hp]
  rintro e w' ⟨rfl,rfl⟩
  go_wp2
  go_ret2
  exact zhA HF.out (Below.refl _ _)
 |true=>
  have HP:=Lib.hid hp
  obtain ⟨t,ht⟩: ∃t,zbF s.data.toList=t:=⟨_,rfl⟩
  have htl:t.length=s.size:=by rw [←ht,zkO,zaU]
  have htp:zfK t=true:=by rw [←ht];exact zzN hp
  have HT:=Lib.hid ht
  clear hp
  go_enter Tryz.func97,Tryz.ntmps97
  go_wp2_with fail
  refine (zuW s _ hs).mono ?_
  rw [show zoN s=true from HP.out]
  rintro e w' ⟨rfl,rfl⟩
  go_wp2_with fail
  refine (z9S s _ hs).mono ?_
  rw [ht]
  rintro e w1 ⟨rfl,hb1⟩
  go_wp2_with fail
  refine (z6P ⟨t.toArray⟩ _ (by rw [zaJ];omega)).mono ?_
  rw [zaW]
  rintro e w2 ⟨rfl,hb2⟩
  have hc2:=zaF hb1 hb2
  clear hb1 hb2 ht
  cases h1:ziI t with
  |false=>
   have HF:=Lib.hid (z2W HP.out (by rw [HT.out,h1];rfl))
   go_wp2
   go_ret2
   exact zhA HF.out hc2
  |true=>
   have H1:=Lib.hid h1
   have htl4:=z7M h1
   clear h1
   go_wp2_with fail
   refine (ydG ⟨t.toArray⟩ _ (by rw [zaW];exact htp)).mono ?_
   rw [zaW]
   rintro e w3 ⟨rfl,hb3⟩
   have hc3:=zaF hc2 hb3
   clear hc2 hb3
   cases h2:zjI t with
   |false=>
    have HF:=Lib.hid (z2W HP.out (by rw [HT.out,h2,Bool.and_false]))
    go_wp2
    go_ret2
    exact zhA HF.out hc3
   |true=>
    have H2:=Lib.hid h2
    clear h2
    go_wp2_with fail
    refine (zqQ ⟨t.toArray⟩ _ (by rw [zaJ];omega)).mono ?_
    rw [zaW]
    rintro e w4 ⟨g,c,rfl,-,hse,hb4⟩
    have hc4:=zaF hc3 hb4
    clear hc3 hb4
    go_wp2_with fail
    refine (codedF g c _ _ hse (by have:=zrF t;omega)).mono ?_
    rintro e w5 ⟨rfl,hb5⟩
    have hc5:=zaF hc4 hb5
    clear hc4 hb5 hse
    cases h3:(zaZ t).any zrK with
    |false=>
     have HF:=Lib.hid (z2F (b:=false) HP.out (by rw [HT.out];exact H1.out) (by rw [HT.out];exact H2.out) (by rw [HT.out];exact h3))
     rw [if_neg (by decide),HT.out] at HF
     go_wp2
     go_ret2
     exact zhA HF.out hc5
    |true=>
     have HF:=Lib.hid (z2F (b:=true) HP.out (by rw [HT.out];exact H1.out) (by rw [HT.out];exact H2.out) (by rw [HT.out];exact h3))
     rw [if_pos rfl] at HF
     go_wp2
     go_ret2
     exact zhA HF.out hc5
/-- is it a name,as it stands -/
def zrG (l:List UInt8):Bool:=decide ((zbR l).2=0)&&(zbR l).1==l
theorem zzZ (s:ByteArray) (w:World) (hs:s.size≤9223372036854775807):
  Calls Tryz.prog 156 #[.string s] w (zcN w (zrG s.data.toList)):=by
 obtain ⟨n,er,hc⟩: ∃n er,zbR s.data.toList=(n,er):=⟨_,_,rfl⟩
 have hce:=ygY s.data.toList
 have HR:=Lib.hid (show zrG s.data.toList=(decide (er=0)&&n==s.data.toList) by unfold zrG;rw [hc])
 rw [hc] at hce
 go_enter Tryz.func156,Tryz.ntmps156
 go_wp2_with fail
 refine (ziN s _ hs).mono ?_
 rw [hc]
 rintro e w1 ⟨rfl,hb1⟩
 clear hc
 by_cases h0:er=0
 ·subst h0
  clear hce
  cases hq:n==s.toList with
  |true=>
   have HF:=Lib.hid (HR.out.trans (show (decide ((0:Int)=0)&&n==s.data.toList)=true by rw [←Lib.toList_data,hq];rfl))
   go_wp2_with (go_at_call 100;refine (zcU _ _).mono ?_;rintro e w' ⟨rfl,rfl⟩)
   go_ret
   exact zaO HF.out hb1
  |false=>
   have HF:=Lib.hid (HR.out.trans (show (decide ((0:Int)=0)&&n==s.data.toList)=false by rw [←Lib.toList_data,hq];rfl))
   go_wp2_with (go_at_call 100;refine (zcU _ _).mono ?_;rintro e w' ⟨rfl,rfl⟩)
   go_ret
   exact zaO HF.out hb1
 ·have HF:=Lib.hid (HR.out.trans (show (decide (er=0)&&n==s.data.toList)=false by rw [decide_eq_false h0];rfl))
  have hd:(er==(0:Int))=false:=beq_eq_false_iff_ne.2 h0
  clear hce
  go_wp2
  go_ret
  exact zaO HF.out hb1
end

end Go.Proofs.YthacmlahnpdeeaaGreatDoor
