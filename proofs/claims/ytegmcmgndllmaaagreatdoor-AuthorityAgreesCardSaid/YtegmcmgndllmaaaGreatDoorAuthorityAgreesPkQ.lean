/-
  What the law AuthorityAgrees leans on, and its walk (17 of 43).
-/
import Derived.Test.YtegmcmgndllmaaaGreatDoorAuthorityAgreesPkN
import Derived.Test.YtegmcmgndllmaaaGreatDoorAuthorityAgreesPkP
namespace Go.Proofs.YtegmcmgndllmaaaGreatDoor
set_option maxRecDepth 100000
set_option maxHeartbeats 16000000
abbrev yoB := @Lib.hid
section
open Go.RowKit
theorem zaG {w d f:World} (e:Below w.heap.size w d) (g:Below d.heap.size d f):Below w.heap.size w f:=e.trans (g.mono e.size)
theorem anyF (f:Nat) (p:List UInt8→Bool) (m: ∀(q:List UInt8) (w:World),Calls Tryz.prog f #[.string ⟨q.toArray⟩] w fun e w'=>e= .returned (.bool (p q))∧w=w') (A: ∀args w,(callFunc f args).run Tryz.prog w= .ok (.enter f args) w) (g c:Nat) (ps:List (List UInt8)) (w:World) (i:Seen w g ps) (o:ps.length≤9223372036854775807):
  Calls Tryz.prog 175 #[.slice (some ⟨g,0,none⟩) ps.length c,.func (.func f) #[] #[]] w fun e w'=>e= .returned (.bool (ps.any p))∧Below w.heap.size w w':=by
 refine (Tryz.shf_ContainsFunc strC p f #[] A g 0 ps.length c ps w (fun W x _=>(m x W).mono fun e w' h=>⟨h.1,0,by rw [←h.2];rfl⟩) (Nat.le_refl _) o (fun j d=> ?_)).mono ?_
 ·rw [Nat.zero_add,i.2 j d]
  simp [strC,List.getD,List.getElem?_eq_getElem d]
 ·rintro e w' ⟨rfl,q,rfl⟩
  rw [List.take_length]
  exact ⟨rfl,zcD (Below.refl _ _) q⟩
theorem codedF (g c:Nat) (ps:List (List UInt8)) (w:World) (f:Seen w g ps) (d:ps.length≤9223372036854775807):
  Calls Tryz.prog 175 #[.slice (some ⟨g,0,none⟩) ps.length c,.func (.func 177) #[] #[]] w fun e w'=>e= .returned (.bool (ps.any zkF))∧Below w.heap.size w w':=
 anyF _ _ z7S (enters_of Tryz.func177 (by kernel_rfl) rfl) g c ps w f d
theorem yiT {l:List UInt8} (h:zdV l=false):zbK l=([],7):=by
 unfold zbK ziP
 rw [if_pos h,if_neg (by decide)]
theorem zjB {l:List UInt8} (f:zdV l=true) {e:Int} (h:ztJ (zaI l)=e):zbK l=if e=0 then (zaI l,0) else ([],e):=by
 have d:ziP l=e:=by unfold ziP;rw [if_neg (by simp [f]),h]
 unfold zbK
 rw [d]
theorem zzD {l:List UInt8} (d:zdV l=true) (h:(zgZ (zaI l)&&ziQ (zaI l))=false):zbK l=([],6):=(zjB (e:=6) d (by unfold ztJ;rw [if_pos h])).trans (if_neg (by decide))
theorem z0L {l:List UInt8} (f:zdV l=true) (d:zgZ (zaI l)=true) (i:ziQ (zaI l)=true) {b:Bool} (g:(zcH (zaI l)).any zkF=b):zbK l=if b=true then ([],7) else (zaI l,0):=by
 cases b
 ·exact zjB (e:=0) f (by unfold ztJ;rw [if_neg (by simp [d,i]),if_neg (by simp [g])])
 ·exact zjB (e:=7) f (by unfold ztJ;rw [if_neg (by simp [d,i]),if_pos g])
def ycF (w:World) (x:List UInt8×Int) (e:Ending) (w':World):Prop:=e= .returned (.tuple #[.string ⟨x.1.toArray⟩,.int .i64 x.2])∧Below w.heap.size w w'
theorem zfU {w w':World} {x:List UInt8×Int} {l:List UInt8} {n:Int} (h:x=(l,n)) (d:Below w.heap.size w w'):ycF w x (.returned (.tuple #[.string ⟨l.toArray⟩,.int .i64 n])) w':=by
 subst h;exact ⟨rfl,d⟩
theorem zsR (s:ByteArray) (w:World) (L:s.size≤9223372036854775807):
  Calls Tryz.prog 104 #[.string s] w (ycF w (zbK s.data.toList)):=by
 cases G:zdV s.data.toList with
 |false=>
  have d:=yoB (yiT G)
  go_enter Tryz.func104,Tryz.ntmps104
  go_wp2_with fail
  refine (zuT s _ L).mono ?_
  rw [show zmN s=false from G]
  rintro e w' ⟨rfl,rfl⟩
  go_wp2
  go_ret2
  exact zfU d.out (Below.refl _ _)
 |true=>
  have q:=yoB G
  obtain ⟨t,C⟩: ∃t,zaI s.data.toList=t:=⟨_,rfl⟩
  have S:t.length=s.size:=by rw [←C,zhL,zaN]
  have K:zdV t=true:=by rw [←C];exact zwT G
  have HT:=yoB C
  clear G
  go_enter Tryz.func104,Tryz.ntmps104
  go_wp2_with fail
  refine (zuT s _ L).mono ?_
  rw [show zmN s=true from q.out]
  rintro e w' ⟨rfl,rfl⟩
  go_wp2_with fail
  refine (z4T s _ L).mono ?_
  rw [C]
  rintro e V ⟨rfl,m⟩
  go_wp2_with fail
  refine (z6G ⟨t.toArray⟩ _ (by rw [zaF];omega)).mono ?_
  rw [zaM]
  rintro e U ⟨rfl,o⟩
  have i:=zaG m o
  clear m o C
  cases I:zgZ t with
  |false=>
   have d:=yoB (zzD q.out (by rw [HT.out,I];rfl))
   go_wp2
   go_ret2
   exact zfU d.out i
  |true=>
   have Q:=yoB I
   have M:=yaD I
   clear I
   go_wp2_with fail
   refine (yaX ⟨t.toArray⟩ _ (by rw [zaM];exact K)).mono ?_
   rw [zaM]
   rintro e T ⟨rfl,E⟩
   have f:=zaG i E
   clear i E
   cases J:ziQ t with
   |false=>
    have d:=yoB (zzD q.out (by rw [HT.out,J,Bool.and_false]))
    go_wp2
    go_ret2
    exact zfU d.out f
   |true=>
    have N:=yoB J
    clear J
    go_wp2_with fail
    refine (zpF ⟨t.toArray⟩ _ (by rw [zaF];omega)).mono ?_
    rw [zaM]
    rintro e Y ⟨g,c,rfl,-,H,B⟩
    have j:=zaG f B
    clear f B
    go_wp2_with fail
    refine (codedF g c _ _ H (by have:=zpE t;omega)).mono ?_
    rintro e X ⟨rfl,D⟩
    have A:=zaG j D
    clear j D H
    cases O:(zcH t).any zkF with
    |false=>
     have d:=yoB (z0L (b:=false) q.out (by rw [HT.out];exact Q.out) (by rw [HT.out];exact N.out) (by rw [HT.out];exact O))
     rw [if_neg (by decide),HT.out] at d
     go_wp2
     go_ret2
     exact zfU d.out A
    |true=>
     have d:=yoB (z0L (b:=true) q.out (by rw [HT.out];exact Q.out) (by rw [HT.out];exact N.out) (by rw [HT.out];exact O))
     rw [if_pos rfl] at d
     go_wp2
     go_ret2
     exact zfU d.out A
def zlG (l:List UInt8):Bool:=decide ((zbK l).2=0)&&(zbK l).1==l
theorem z3U (l:List UInt8):zlG l=true↔zeR l:=by
 unfold zlG
 constructor
 ·intro h
  simp at h
  have:=zkW h.1
  rwa [h.2] at this
 ·intro h
  rw [h.canon]
  simp
theorem zwF (s:ByteArray) (w:World) (q:s.size≤9223372036854775807):
  Calls Tryz.prog 53 #[.string s] w (zbE w (zlG s.data.toList)):=by
 obtain ⟨n,er,i⟩: ∃n er,zbK s.data.toList=(n,er):=⟨_,_,rfl⟩
 have f:=yhL s.data.toList
 have m:=yoB (show zlG s.data.toList=(decide (er=0)&&n==s.data.toList) by unfold zlG;rw [i])
 rw [i] at f
 go_enter Tryz.func53,Tryz.ntmps53
 go_wp2_with fail
 refine (zsR s _ q).mono ?_
 rw [i]
 rintro e A ⟨rfl,d⟩
 clear i
 by_cases j:er=0
 ·subst j
  clear f
  cases o:n==s.toList with
  |true=>
   have g:=yoB (m.out.trans (show (decide ((0:Int)=0)&&n==s.data.toList)=true by rw [←Lib.toList_data,o];rfl))
   go_wp2_with (go_at_call 54;refine (zcF _ _).mono ?_;rintro e w' ⟨rfl,rfl⟩)
   go_ret
   exact zaE g.out d
  |false=>
   have g:=yoB (m.out.trans (show (decide ((0:Int)=0)&&n==s.data.toList)=false by rw [←Lib.toList_data,o];rfl))
   go_wp2_with (go_at_call 54;refine (zcF _ _).mono ?_;rintro e w' ⟨rfl,rfl⟩)
   go_ret
   exact zaE g.out d
 ·have g:=yoB (m.out.trans (show (decide (er=0)&&n==s.data.toList)=false by rw [decide_eq_false j];rfl))
  have B:(er==(0:Int))=false:=beq_eq_false_iff_ne.2 j
  clear f
  go_wp2
  go_ret
  exact zaE g.out d
end
end Go.Proofs.YtegmcmgndllmaaaGreatDoor
